/- Contracts over this seat's translation, laid together; conditions stand as hypotheses of each. -/
import Derived.Test.YtkolflcjkofleaaDoorTxA
import Derived.Test.YtkolflcjkofleaaDoorTxC
import Derived.Test.YtkolflcjkofleaaDoorTxE

namespace Go.Proofs.YtkolflcjkofleaaDoor
open Go.ChangeShapes Go.WideShapes Go.ChangeAt Go.RowKit
set_option linter.unusedVariables false
set_option maxRecDepth 8000
set_option linter.unusedSimpArgs false

set_option maxHeartbeats 8000000 in
theorem foldS_sub0 {d : Nat} (k : Int) (hk : 5 ≤ k ∧ k ≤ 10) (a b : Ex) (iha : FoR a) (ihb : FoR b) (oa : okF (d + 1) false (foldX a) = true) (ob : okF (d + 1) false (foldX b) = true) (f0 : ((foldX a).k == 1) = false) (g6 : (k == 6) = true) : FoR ⟨k, 0, ⟨#[]⟩, [a, b]⟩ := by
  intro bb cap w hr
  rw [fold_two]
  obtain ⟨p, off, rfl, hpl, hc⟩ := hr.at (by simp)
  obtain ⟨c0, c1, c2, q0, qp0, c3, r0⟩ := hc 0 (by simp)
  obtain ⟨e0, e1, e2, q1, qp1, e3, r1⟩ := hc 1 (by simp)
  have xa : xAt (Ex.mk k 0 ⟨#[]⟩ [a, b]).l 0 = a := rfl
  have xb : xAt (Ex.mk k 0 ⟨#[]⟩ [a, b]).l 1 = b := rfl
  rw [xa] at c0 c1 c2 c3 r0
  rw [xb] at e0 e1 e2 e3 r1
  simp only [Nat.zero_mul, Nat.add_zero, Nat.one_mul] at c0 c1 c2 c3 e0 e1 e2 e3
  have X0 := hide (Bx.new w #[.int .i64 k, .int .i64 0, .string ⟨#[]⟩, .slice (some ⟨p, off, none⟩) 2 cap])
  have IA := hide (iha q0 qp0 _ (RdX.later r0 (unhide X0).bel))
  have IB := hide (fun wr (h : Below w.heap.size w wr) => ihb q1 qp1 wr (RdX.later r1 h))
  have d0 := ((unhide X0).bel.cell (p := ⟨p, off, none⟩) hpl).trans c0
  have d1 := ((unhide X0).bel.cell (p := ⟨p, off + 1, none⟩) hpl).trans c1
  have d2 := ((unhide X0).bel.cell (p := ⟨p, off + 2, none⟩) hpl).trans c2
  have d3 := ((unhide X0).bel.cell (p := ⟨p, off + 3, none⟩) hpl).trans c3
  have E0' := hide (fun wr (h : Below w.heap.size w wr) => (h.cell (p := ⟨p, off + 4, none⟩) hpl).trans e0)
  have E1' := hide (fun wr (h : Below w.heap.size w wr) => (h.cell (p := ⟨p, off + 4 + 1, none⟩) hpl).trans e1)
  have E2' := hide (fun wr (h : Below w.heap.size w wr) => (h.cell (p := ⟨p, off + 4 + 2, none⟩) hpl).trans e2)
  have E3' := hide (fun wr (h : Below w.heap.size w wr) => (h.cell (p := ⟨p, off + 4 + 3, none⟩) hpl).trans e3)
  have g4 : (k == 4) = false := beq_eq_false_iff_ne.2 (by omega)
  have OA := hide oa
  have OB := hide ob
  have ia : 0 ≤ (foldX a).n ∧ (foldX a).n ≤ 65535 ∨ (foldX a).k ≠ 1 := by
    by_cases h : (foldX a).k = 1
    · obtain ⟨m, hm, e⟩ := ok_k1 oa h; rw [e]; exact .inl hm
    · exact .inr h
  have ib : 0 ≤ (foldX b).n ∧ (foldX b).n ≤ 65535 ∨ (foldX b).k ≠ 1 := by
    by_cases h : (foldX b).k = 1
    · obtain ⟨m, hm, e⟩ := ok_k1 ob h; rw [e]; exact .inl hm
    · exact .inr h
  have EQ := hide (show foldN k (foldX a) (foldX b) = subX (foldX a) (foldX b) by unfold foldN mixX; rw [if_neg (fun h => by have := beq_eq_false_iff_ne.1 f0; exact this h.1), if_pos (beq_iff_eq.1 g6)])
  rw [unhide EQ]
  generalize hX : GiR _ (Up w) w = X
  have HX := hide hX
  unfold GiR Ex.cs at IA IB
  show Calls Tryd.prog 53 #[.agg #[.int .i64 k, .int .i64 0, .string ⟨#[]⟩, .slice (some ⟨p, off, none⟩) 2 cap]] w X
  generalize (foldX a) = x at *
  generalize (foldX b) = y at *
  clear hX hr hc c0 c1 c2 c3 e0 e1 e2 e3 r0 r1 iha ihb EQ xa xb oa ob
  go_enter Tryd.func53, Tryd.ntmps53
  go_wp2_with fail
  generalize (w.alloc (.cells #[.int .i64 k, .int .i64 0, .string ⟨#[]⟩, .slice (some ⟨p, off, none⟩) 2 cap] 26)).alloc (.cells #[.int .i64 0, .int .i64 0, .string ⟨#[]⟩, .slice none 0 0] 26) = W at *
  clear d0 d1 d2 d3
  refine (unhide IA).mono ?_
  rintro r w1 ⟨ca, cpa, rfl, hx, hb1⟩
  have hb2 := below_new w1 (.cells #[.int .i64 x.k, .int .i64 x.n, .string x.s, .slice ca x.l.length cpa] 26)
  have hb12 := hb1.trans (hb2.mono hb1.size)
  have X2 := hide ((unhide X0).later hb12)
  have hzW := (unhide X0).lt
  have A2 := hide (hx.low.later hb2)
  have G2 := hide (show (w1.alloc (.cells #[.int .i64 x.k, .int .i64 x.n, .string x.s, .slice ca x.l.length cpa] 26)).heap[w1.heap.size]? = some (.cells #[.int .i64 x.k, .int .i64 x.n, .string x.s, .slice ca x.l.length cpa] 26 (0, 0)) from Array.getElem?_push_size)
  have z0 := Lib.cell_of_heap (unhide X2).box 0
  have z3 := Lib.cell_of_heap (unhide X2).box 3
  have d0 := unhide E0' _ (unhide X2).bel
  have d1 := unhide E1' _ (unhide X2).bel
  have d2 := unhide E2' _ (unhide X2).bel
  have d3 := unhide E3' _ (unhide X2).bel
  have IB2 := hide (unhide IB _ (unhide X2).bel)
  have S1 := hide hb1.size
  have hz12 : w1.heap.size < (w1.alloc (.cells #[.int .i64 x.k, .int .i64 x.n, .string x.s, .slice ca x.l.length cpa] 26)).heap.size := by simp
  have HZ2 := hide hz12
  clear hx hb1 hb2 hb12 X0 IA IB E0' E1' E2' E3' hz12
  go_wp2_with fail
  generalize w1.alloc (.cells #[.int .i64 x.k, .int .i64 x.n, .string x.s, .slice ca x.l.length cpa] 26) = w2 at *
  clear d0 d1 d2 d3 z0 z3
  refine (unhide IB2).mono ?_
  rintro r w3 ⟨cb, cpb, rfl, hy, hb3⟩
  have hb4 := below_new w3 (.cells #[.int .i64 y.k, .int .i64 y.n, .string y.s, .slice cb y.l.length cpb] 26)
  have hb34 := hb3.trans (hb4.mono hb3.size)
  have X4 := hide ((unhide X2).later hb34)
  have A4 := hide ((unhide A2).later hb34)
  have B4 := hide (hy.later hb4)
  have G4 := hide (row_keep (unhide G2) hb34)
  have K4 := hide (show (w3.alloc (.cells #[.int .i64 y.k, .int .i64 y.n, .string y.s, .slice cb y.l.length cpb] 26)).heap[w3.heap.size]? = some (.cells #[.int .i64 y.k, .int .i64 y.n, .string y.s, .slice cb y.l.length cpb] 26 (0, 0)) from Array.getElem?_push_size)
  have z0 := Lib.cell_of_heap (unhide X4).box 0
  have y0 := Lib.cell_of_heap (unhide G4) 0
  have y1 := Lib.cell_of_heap (unhide G4) 1
  have u0 := Lib.cell_of_heap (unhide K4) 0
  have u1 := Lib.cell_of_heap (unhide K4) 1
  have DJ := hide (show ∀ b, (Up W b ∧ b < w1.heap.size) → ¬ Up w2 b from fun b h k => by have := unhide HZ2; have h2 : w2.heap.size ≤ b := k; omega)
  have PR := hide (show ∀ b, (Up W b ∧ b < w1.heap.size) → Ow w (Up w) b from fun b h => up_ow (Nat.le_trans hzW h.1))
  have QR := hide (show ∀ b, Up w2 b → Ow w (Up w) b from fun b h => up_ow (Nat.le_trans (unhide X2).lt h))
  have HR := hide (show ∀ b, (w3.alloc (.cells #[.int .i64 y.k, .int .i64 y.n, .string y.s, .slice cb y.l.length cpb] 26)).heap.size ≤ b → Ow w (Up w) b from fun b h => up_ow (Nat.le_trans (unhide X4).lt h))
  clear hy hb3 hb4 hb34 X2 A2 G2 IB2
  have CL := hide (subS_any x y (unhide OA) (unhide OB) ca cb cpa cpb _ _ (Ow w (Up w)) (w3.alloc (.cells #[.int .i64 y.k, .int .i64 y.n, .string y.s, .slice cb y.l.length cpb] 26)) (unhide A4) (unhide B4) (unhide DJ) (unhide PR) (unhide QR) (unhide HR))
  unfold GiR Ex.cs at CL
  go_wp2_with (first | (refine wpList_load_row rfl 26 _ rfl w1.heap.size rfl 26 #[.int .i64 x.k, .int .i64 x.n, .string x.s, .slice ca x.l.length cpa] (0, 0) _ (unhide G4) Tryd.underlying26 rfl (by kernel_rfl) ?_) | (refine wpList_load_row rfl 26 _ rfl w3.heap.size rfl 26 #[.int .i64 y.k, .int .i64 y.n, .string y.s, .slice cb y.l.length cpb] (0, 0) _ (unhide K4) Tryd.underlying26 rfl (by kernel_rfl) ?_))
  generalize w3.alloc (.cells #[.int .i64 y.k, .int .i64 y.n, .string y.s, .slice cb y.l.length cpb] 26) = w4 at *
  clear z0 y0 y1 u0 u1
  refine (unhide CL).mono ?_
  rintro r w5 ⟨c5, cp5, rfl, hx5, hb5⟩
  have X5 := hide ((unhide X4).later hb5)
  have A5 := hide hx5
  clear hx5 hb5 X4 A4 B4 G4 K4 CL
  generalize subX x y = z at *
  go_wp2_with (refine wpList_store_row rfl 26 _ _ rfl (w.heap.size + 1) #[.int .i64 z.k, .int .i64 z.n, .string z.s, .slice c5 z.l.length cp5] rfl rfl 26 _ ((unhide X5).res) szE rfl (ex_one _ _ _ _ _ _) ?_)
  refine bodyPost_ret (results_cell_row (P := Tryd.prog) rfl _ _ (w.heap.size + 1) 26 #[.int .i64 z.k, .int .i64 z.n, .string z.s, .slice c5 z.l.length cp5] (0, 0) _ rfl (setRow_heap _ _ _ _ _ _ ((unhide X5).res)) Tryd.underlying26 rfl szE) rfl ?_
  rw [← unhide HX]
  exact (unhide X5).end (unhide A5) _
set_option maxHeartbeats 8000000 in
theorem foldS_mix0 {d : Nat} (k : Int) (hk : 5 ≤ k ∧ k ≤ 10) (a b : Ex) (iha : FoR a) (ihb : FoR b) (oa : okF (d + 1) false (foldX a) = true) (ob : okF (d + 1) false (foldX b) = true) (f0 : ((foldX a).k == 1) = false) (g6 : (k == 6) = false) (g5 : (k == 5) = false) : FoR ⟨k, 0, ⟨#[]⟩, [a, b]⟩ := by
  intro bb cap w hr
  rw [fold_two]
  obtain ⟨p, off, rfl, hpl, hc⟩ := hr.at (by simp)
  obtain ⟨c0, c1, c2, q0, qp0, c3, r0⟩ := hc 0 (by simp)
  obtain ⟨e0, e1, e2, q1, qp1, e3, r1⟩ := hc 1 (by simp)
  have xa : xAt (Ex.mk k 0 ⟨#[]⟩ [a, b]).l 0 = a := rfl
  have xb : xAt (Ex.mk k 0 ⟨#[]⟩ [a, b]).l 1 = b := rfl
  rw [xa] at c0 c1 c2 c3 r0
  rw [xb] at e0 e1 e2 e3 r1
  simp only [Nat.zero_mul, Nat.add_zero, Nat.one_mul] at c0 c1 c2 c3 e0 e1 e2 e3
  have X0 := hide (Bx.new w #[.int .i64 k, .int .i64 0, .string ⟨#[]⟩, .slice (some ⟨p, off, none⟩) 2 cap])
  have IA := hide (iha q0 qp0 _ (RdX.later r0 (unhide X0).bel))
  have IB := hide (fun wr (h : Below w.heap.size w wr) => ihb q1 qp1 wr (RdX.later r1 h))
  have d0 := ((unhide X0).bel.cell (p := ⟨p, off, none⟩) hpl).trans c0
  have d1 := ((unhide X0).bel.cell (p := ⟨p, off + 1, none⟩) hpl).trans c1
  have d2 := ((unhide X0).bel.cell (p := ⟨p, off + 2, none⟩) hpl).trans c2
  have d3 := ((unhide X0).bel.cell (p := ⟨p, off + 3, none⟩) hpl).trans c3
  have E0' := hide (fun wr (h : Below w.heap.size w wr) => (h.cell (p := ⟨p, off + 4, none⟩) hpl).trans e0)
  have E1' := hide (fun wr (h : Below w.heap.size w wr) => (h.cell (p := ⟨p, off + 4 + 1, none⟩) hpl).trans e1)
  have E2' := hide (fun wr (h : Below w.heap.size w wr) => (h.cell (p := ⟨p, off + 4 + 2, none⟩) hpl).trans e2)
  have E3' := hide (fun wr (h : Below w.heap.size w wr) => (h.cell (p := ⟨p, off + 4 + 3, none⟩) hpl).trans e3)
  have g4 : (k == 4) = false := beq_eq_false_iff_ne.2 (by omega)
  have OA := hide oa
  have OB := hide ob
  have ia : 0 ≤ (foldX a).n ∧ (foldX a).n ≤ 65535 ∨ (foldX a).k ≠ 1 := by
    by_cases h : (foldX a).k = 1
    · obtain ⟨m, hm, e⟩ := ok_k1 oa h; rw [e]; exact .inl hm
    · exact .inr h
  have ib : 0 ≤ (foldX b).n ∧ (foldX b).n ≤ 65535 ∨ (foldX b).k ≠ 1 := by
    by_cases h : (foldX b).k = 1
    · obtain ⟨m, hm, e⟩ := ok_k1 ob h; rw [e]; exact .inl hm
    · exact .inr h
  have EQ := hide (show foldN k (foldX a) (foldX b) = ⟨k, 0, ⟨#[]⟩, [(foldX a), (foldX b)]⟩ by unfold foldN mixX; rw [if_neg (fun h => by have := beq_eq_false_iff_ne.1 f0; exact this h.1), if_neg (beq_eq_false_iff_ne.1 g6), if_neg (fun h => beq_eq_false_iff_ne.1 g5 h.1), if_neg (fun h => beq_eq_false_iff_ne.1 g5 h.1)]; rfl)
  rw [unhide EQ]
  generalize hX : GiR _ (Up w) w = X
  have HX := hide hX
  unfold GiR Ex.cs at IA IB
  show Calls Tryd.prog 53 #[.agg #[.int .i64 k, .int .i64 0, .string ⟨#[]⟩, .slice (some ⟨p, off, none⟩) 2 cap]] w X
  generalize (foldX a) = x at *
  generalize (foldX b) = y at *
  clear hX hr hc c0 c1 c2 c3 e0 e1 e2 e3 r0 r1 iha ihb EQ xa xb oa ob
  go_enter Tryd.func53, Tryd.ntmps53
  go_wp2_with fail
  generalize (w.alloc (.cells #[.int .i64 k, .int .i64 0, .string ⟨#[]⟩, .slice (some ⟨p, off, none⟩) 2 cap] 26)).alloc (.cells #[.int .i64 0, .int .i64 0, .string ⟨#[]⟩, .slice none 0 0] 26) = W at *
  clear d0 d1 d2 d3
  refine (unhide IA).mono ?_
  rintro r w1 ⟨ca, cpa, rfl, hx, hb1⟩
  have hb2 := below_new w1 (.cells #[.int .i64 x.k, .int .i64 x.n, .string x.s, .slice ca x.l.length cpa] 26)
  have hb12 := hb1.trans (hb2.mono hb1.size)
  have X2 := hide ((unhide X0).later hb12)
  have hzW := (unhide X0).lt
  have A2 := hide (hx.low.later hb2)
  have G2 := hide (show (w1.alloc (.cells #[.int .i64 x.k, .int .i64 x.n, .string x.s, .slice ca x.l.length cpa] 26)).heap[w1.heap.size]? = some (.cells #[.int .i64 x.k, .int .i64 x.n, .string x.s, .slice ca x.l.length cpa] 26 (0, 0)) from Array.getElem?_push_size)
  have z0 := Lib.cell_of_heap (unhide X2).box 0
  have z3 := Lib.cell_of_heap (unhide X2).box 3
  have d0 := unhide E0' _ (unhide X2).bel
  have d1 := unhide E1' _ (unhide X2).bel
  have d2 := unhide E2' _ (unhide X2).bel
  have d3 := unhide E3' _ (unhide X2).bel
  have IB2 := hide (unhide IB _ (unhide X2).bel)
  have S1 := hide hb1.size
  have hz12 : w1.heap.size < (w1.alloc (.cells #[.int .i64 x.k, .int .i64 x.n, .string x.s, .slice ca x.l.length cpa] 26)).heap.size := by simp
  have HZ2 := hide hz12
  clear hx hb1 hb2 hb12 X0 IA IB E0' E1' E2' E3' hz12
  go_wp2_with fail
  generalize w1.alloc (.cells #[.int .i64 x.k, .int .i64 x.n, .string x.s, .slice ca x.l.length cpa] 26) = w2 at *
  clear d0 d1 d2 d3 z0 z3
  refine (unhide IB2).mono ?_
  rintro r w3 ⟨cb, cpb, rfl, hy, hb3⟩
  have hb4 := below_new w3 (.cells #[.int .i64 y.k, .int .i64 y.n, .string y.s, .slice cb y.l.length cpb] 26)
  have hb34 := hb3.trans (hb4.mono hb3.size)
  have X4 := hide ((unhide X2).later hb34)
  have A4 := hide ((unhide A2).later hb34)
  have B4 := hide (hy.later hb4)
  have G4 := hide (row_keep (unhide G2) hb34)
  have K4 := hide (show (w3.alloc (.cells #[.int .i64 y.k, .int .i64 y.n, .string y.s, .slice cb y.l.length cpb] 26)).heap[w3.heap.size]? = some (.cells #[.int .i64 y.k, .int .i64 y.n, .string y.s, .slice cb y.l.length cpb] 26 (0, 0)) from Array.getElem?_push_size)
  have z0 := Lib.cell_of_heap (unhide X4).box 0
  have y0 := Lib.cell_of_heap (unhide G4) 0
  have y1 := Lib.cell_of_heap (unhide G4) 1
  have u0 := Lib.cell_of_heap (unhide K4) 0
  have u1 := Lib.cell_of_heap (unhide K4) 1
  have DJ := hide (show ∀ b, (Up W b ∧ b < w1.heap.size) → ¬ Up w2 b from fun b h k => by have := unhide HZ2; have h2 : w2.heap.size ≤ b := k; omega)
  have PR := hide (show ∀ b, (Up W b ∧ b < w1.heap.size) → Ow w (Up w) b from fun b h => up_ow (Nat.le_trans hzW h.1))
  have QR := hide (show ∀ b, Up w2 b → Ow w (Up w) b from fun b h => up_ow (Nat.le_trans (unhide X2).lt h))
  have HR := hide (show ∀ b, (w3.alloc (.cells #[.int .i64 y.k, .int .i64 y.n, .string y.s, .slice cb y.l.length cpb] 26)).heap.size ≤ b → Ow w (Up w) b from fun b h => up_ow (Nat.le_trans (unhide X4).lt h))
  clear hy hb3 hb4 hb34 X2 A2 G2 IB2
  have hb5 := below_new (w3.alloc (.cells #[.int .i64 y.k, .int .i64 y.n, .string y.s, .slice cb y.l.length cpb] 26)) (.cells #[.int .i64 x.k, .int .i64 x.n, .string x.s, .slice ca x.l.length cpa, .int .i64 y.k, .int .i64 y.n, .string y.s, .slice cb y.l.length cpb] 26)
  have X5 := hide ((unhide X4).later hb5)
  have hz5 : (w3.alloc (.cells #[.int .i64 y.k, .int .i64 y.n, .string y.s, .slice cb y.l.length cpb] 26)).heap.size = w3.heap.size + 1 := by simp
  have N5' := (show PX ((w3.alloc (.cells #[.int .i64 y.k, .int .i64 y.n, .string y.s, .slice cb y.l.length cpb] 26)).alloc (.cells #[.int .i64 x.k, .int .i64 x.n, .string x.s, .slice ca x.l.length cpa, .int .i64 y.k, .int .i64 y.n, .string y.s, .slice cb y.l.length cpb] 26)) (Ow w (Up w)) ⟨k, 0, ⟨#[]⟩, [x, y]⟩ (some ⟨(w3.alloc (.cells #[.int .i64 y.k, .int .i64 y.n, .string y.s, .slice cb y.l.length cpb] 26)).heap.size, 0, none⟩) from (unhide A4).two (unhide B4) (unhide DJ) (unhide PR) (unhide QR) (unhide HR _ (Nat.le_refl _)) k 0 ⟨#[]⟩ 26)
  rw [hz5] at N5'
  have N5 := hide N5'
  clear hb5 N5' hz5
  go_wp2_with (first | (refine wpList_load_row rfl 26 _ rfl w1.heap.size rfl 26 #[.int .i64 x.k, .int .i64 x.n, .string x.s, .slice ca x.l.length cpa] (0, 0) _ (unhide G4) Tryd.underlying26 rfl (by kernel_rfl) ?_) | (refine wpList_load_row rfl 26 _ rfl w3.heap.size rfl 26 #[.int .i64 y.k, .int .i64 y.n, .string y.s, .slice cb y.l.length cpb] (0, 0) _ (unhide K4) Tryd.underlying26 rfl (by kernel_rfl) ?_) | (refine wpList_store_row rfl 26 _ _ rfl (w.heap.size + 1) #[.int .i64 k, .int .i64 0, .string ⟨#[]⟩, .slice (some ⟨w3.heap.size + 1, 0, none⟩) 2 2] rfl rfl 26 _ ((unhide X5).res) szE rfl (ex_one _ _ _ _ _ _) ?_))
  refine bodyPost_ret (results_cell_row (P := Tryd.prog) rfl _ _ (w.heap.size + 1) 26 #[.int .i64 k, .int .i64 0, .string ⟨#[]⟩, .slice (some ⟨w3.heap.size + 1, 0, none⟩) 2 2] (0, 0) _ rfl (setRow_heap _ _ _ _ _ _ ((unhide X5).res)) Tryd.underlying26 rfl szE) rfl ?_
  rw [← unhide HX]
  exact Bx.end (x := ⟨k, 0, ⟨#[]⟩, [x, y]⟩) (unhide X5) (unhide N5) _
set_option maxHeartbeats 8000000 in
theorem foldS_sub1 {d : Nat} (k : Int) (hk : 5 ≤ k ∧ k ≤ 10) (a b : Ex) (iha : FoR a) (ihb : FoR b) (oa : okF (d + 1) false (foldX a) = true) (ob : okF (d + 1) false (foldX b) = true) (f0 : ((foldX a).k == 1) = true) (f1 : ((foldX b).k == 1) = false) (g6 : (k == 6) = true) : FoR ⟨k, 0, ⟨#[]⟩, [a, b]⟩ := by
  intro bb cap w hr
  rw [fold_two]
  obtain ⟨p, off, rfl, hpl, hc⟩ := hr.at (by simp)
  obtain ⟨c0, c1, c2, q0, qp0, c3, r0⟩ := hc 0 (by simp)
  obtain ⟨e0, e1, e2, q1, qp1, e3, r1⟩ := hc 1 (by simp)
  have xa : xAt (Ex.mk k 0 ⟨#[]⟩ [a, b]).l 0 = a := rfl
  have xb : xAt (Ex.mk k 0 ⟨#[]⟩ [a, b]).l 1 = b := rfl
  rw [xa] at c0 c1 c2 c3 r0
  rw [xb] at e0 e1 e2 e3 r1
  simp only [Nat.zero_mul, Nat.add_zero, Nat.one_mul] at c0 c1 c2 c3 e0 e1 e2 e3
  have X0 := hide (Bx.new w #[.int .i64 k, .int .i64 0, .string ⟨#[]⟩, .slice (some ⟨p, off, none⟩) 2 cap])
  have IA := hide (iha q0 qp0 _ (RdX.later r0 (unhide X0).bel))
  have IB := hide (fun wr (h : Below w.heap.size w wr) => ihb q1 qp1 wr (RdX.later r1 h))
  have d0 := ((unhide X0).bel.cell (p := ⟨p, off, none⟩) hpl).trans c0
  have d1 := ((unhide X0).bel.cell (p := ⟨p, off + 1, none⟩) hpl).trans c1
  have d2 := ((unhide X0).bel.cell (p := ⟨p, off + 2, none⟩) hpl).trans c2
  have d3 := ((unhide X0).bel.cell (p := ⟨p, off + 3, none⟩) hpl).trans c3
  have E0' := hide (fun wr (h : Below w.heap.size w wr) => (h.cell (p := ⟨p, off + 4, none⟩) hpl).trans e0)
  have E1' := hide (fun wr (h : Below w.heap.size w wr) => (h.cell (p := ⟨p, off + 4 + 1, none⟩) hpl).trans e1)
  have E2' := hide (fun wr (h : Below w.heap.size w wr) => (h.cell (p := ⟨p, off + 4 + 2, none⟩) hpl).trans e2)
  have E3' := hide (fun wr (h : Below w.heap.size w wr) => (h.cell (p := ⟨p, off + 4 + 3, none⟩) hpl).trans e3)
  have g4 : (k == 4) = false := beq_eq_false_iff_ne.2 (by omega)
  have OA := hide oa
  have OB := hide ob
  have ia : 0 ≤ (foldX a).n ∧ (foldX a).n ≤ 65535 ∨ (foldX a).k ≠ 1 := by
    by_cases h : (foldX a).k = 1
    · obtain ⟨m, hm, e⟩ := ok_k1 oa h; rw [e]; exact .inl hm
    · exact .inr h
  have ib : 0 ≤ (foldX b).n ∧ (foldX b).n ≤ 65535 ∨ (foldX b).k ≠ 1 := by
    by_cases h : (foldX b).k = 1
    · obtain ⟨m, hm, e⟩ := ok_k1 ob h; rw [e]; exact .inl hm
    · exact .inr h
  have EQ := hide (show foldN k (foldX a) (foldX b) = subX (foldX a) (foldX b) by unfold foldN mixX; rw [if_neg (fun h => by have := beq_eq_false_iff_ne.1 f1; exact this h.2), if_pos (beq_iff_eq.1 g6)])
  rw [unhide EQ]
  generalize hX : GiR _ (Up w) w = X
  have HX := hide hX
  unfold GiR Ex.cs at IA IB
  show Calls Tryd.prog 53 #[.agg #[.int .i64 k, .int .i64 0, .string ⟨#[]⟩, .slice (some ⟨p, off, none⟩) 2 cap]] w X
  generalize (foldX a) = x at *
  generalize (foldX b) = y at *
  clear hX hr hc c0 c1 c2 c3 e0 e1 e2 e3 r0 r1 iha ihb EQ xa xb oa ob
  go_enter Tryd.func53, Tryd.ntmps53
  go_wp2_with fail
  generalize (w.alloc (.cells #[.int .i64 k, .int .i64 0, .string ⟨#[]⟩, .slice (some ⟨p, off, none⟩) 2 cap] 26)).alloc (.cells #[.int .i64 0, .int .i64 0, .string ⟨#[]⟩, .slice none 0 0] 26) = W at *
  clear d0 d1 d2 d3
  refine (unhide IA).mono ?_
  rintro r w1 ⟨ca, cpa, rfl, hx, hb1⟩
  have hb2 := below_new w1 (.cells #[.int .i64 x.k, .int .i64 x.n, .string x.s, .slice ca x.l.length cpa] 26)
  have hb12 := hb1.trans (hb2.mono hb1.size)
  have X2 := hide ((unhide X0).later hb12)
  have hzW := (unhide X0).lt
  have A2 := hide (hx.low.later hb2)
  have G2 := hide (show (w1.alloc (.cells #[.int .i64 x.k, .int .i64 x.n, .string x.s, .slice ca x.l.length cpa] 26)).heap[w1.heap.size]? = some (.cells #[.int .i64 x.k, .int .i64 x.n, .string x.s, .slice ca x.l.length cpa] 26 (0, 0)) from Array.getElem?_push_size)
  have z0 := Lib.cell_of_heap (unhide X2).box 0
  have z3 := Lib.cell_of_heap (unhide X2).box 3
  have d0 := unhide E0' _ (unhide X2).bel
  have d1 := unhide E1' _ (unhide X2).bel
  have d2 := unhide E2' _ (unhide X2).bel
  have d3 := unhide E3' _ (unhide X2).bel
  have IB2 := hide (unhide IB _ (unhide X2).bel)
  have S1 := hide hb1.size
  have hz12 : w1.heap.size < (w1.alloc (.cells #[.int .i64 x.k, .int .i64 x.n, .string x.s, .slice ca x.l.length cpa] 26)).heap.size := by simp
  have HZ2 := hide hz12
  clear hx hb1 hb2 hb12 X0 IA IB E0' E1' E2' E3' hz12
  go_wp2_with fail
  generalize w1.alloc (.cells #[.int .i64 x.k, .int .i64 x.n, .string x.s, .slice ca x.l.length cpa] 26) = w2 at *
  clear d0 d1 d2 d3 z0 z3
  refine (unhide IB2).mono ?_
  rintro r w3 ⟨cb, cpb, rfl, hy, hb3⟩
  have hb4 := below_new w3 (.cells #[.int .i64 y.k, .int .i64 y.n, .string y.s, .slice cb y.l.length cpb] 26)
  have hb34 := hb3.trans (hb4.mono hb3.size)
  have X4 := hide ((unhide X2).later hb34)
  have A4 := hide ((unhide A2).later hb34)
  have B4 := hide (hy.later hb4)
  have G4 := hide (row_keep (unhide G2) hb34)
  have K4 := hide (show (w3.alloc (.cells #[.int .i64 y.k, .int .i64 y.n, .string y.s, .slice cb y.l.length cpb] 26)).heap[w3.heap.size]? = some (.cells #[.int .i64 y.k, .int .i64 y.n, .string y.s, .slice cb y.l.length cpb] 26 (0, 0)) from Array.getElem?_push_size)
  have z0 := Lib.cell_of_heap (unhide X4).box 0
  have y0 := Lib.cell_of_heap (unhide G4) 0
  have y1 := Lib.cell_of_heap (unhide G4) 1
  have u0 := Lib.cell_of_heap (unhide K4) 0
  have u1 := Lib.cell_of_heap (unhide K4) 1
  have DJ := hide (show ∀ b, (Up W b ∧ b < w1.heap.size) → ¬ Up w2 b from fun b h k => by have := unhide HZ2; have h2 : w2.heap.size ≤ b := k; omega)
  have PR := hide (show ∀ b, (Up W b ∧ b < w1.heap.size) → Ow w (Up w) b from fun b h => up_ow (Nat.le_trans hzW h.1))
  have QR := hide (show ∀ b, Up w2 b → Ow w (Up w) b from fun b h => up_ow (Nat.le_trans (unhide X2).lt h))
  have HR := hide (show ∀ b, (w3.alloc (.cells #[.int .i64 y.k, .int .i64 y.n, .string y.s, .slice cb y.l.length cpb] 26)).heap.size ≤ b → Ow w (Up w) b from fun b h => up_ow (Nat.le_trans (unhide X4).lt h))
  clear hy hb3 hb4 hb34 X2 A2 G2 IB2
  have CL := hide (subS_any x y (unhide OA) (unhide OB) ca cb cpa cpb _ _ (Ow w (Up w)) (w3.alloc (.cells #[.int .i64 y.k, .int .i64 y.n, .string y.s, .slice cb y.l.length cpb] 26)) (unhide A4) (unhide B4) (unhide DJ) (unhide PR) (unhide QR) (unhide HR))
  unfold GiR Ex.cs at CL
  go_wp2_with (first | (refine wpList_load_row rfl 26 _ rfl w1.heap.size rfl 26 #[.int .i64 x.k, .int .i64 x.n, .string x.s, .slice ca x.l.length cpa] (0, 0) _ (unhide G4) Tryd.underlying26 rfl (by kernel_rfl) ?_) | (refine wpList_load_row rfl 26 _ rfl w3.heap.size rfl 26 #[.int .i64 y.k, .int .i64 y.n, .string y.s, .slice cb y.l.length cpb] (0, 0) _ (unhide K4) Tryd.underlying26 rfl (by kernel_rfl) ?_))
  generalize w3.alloc (.cells #[.int .i64 y.k, .int .i64 y.n, .string y.s, .slice cb y.l.length cpb] 26) = w4 at *
  clear z0 y0 y1 u0 u1
  refine (unhide CL).mono ?_
  rintro r w5 ⟨c5, cp5, rfl, hx5, hb5⟩
  have X5 := hide ((unhide X4).later hb5)
  have A5 := hide hx5
  clear hx5 hb5 X4 A4 B4 G4 K4 CL
  generalize subX x y = z at *
  go_wp2_with (refine wpList_store_row rfl 26 _ _ rfl (w.heap.size + 1) #[.int .i64 z.k, .int .i64 z.n, .string z.s, .slice c5 z.l.length cp5] rfl rfl 26 _ ((unhide X5).res) szE rfl (ex_one _ _ _ _ _ _) ?_)
  refine bodyPost_ret (results_cell_row (P := Tryd.prog) rfl _ _ (w.heap.size + 1) 26 #[.int .i64 z.k, .int .i64 z.n, .string z.s, .slice c5 z.l.length cp5] (0, 0) _ rfl (setRow_heap _ _ _ _ _ _ ((unhide X5).res)) Tryd.underlying26 rfl szE) rfl ?_
  rw [← unhide HX]
  exact (unhide X5).end (unhide A5) _
set_option maxHeartbeats 8000000 in
theorem foldS_mix1 {d : Nat} (k : Int) (hk : 5 ≤ k ∧ k ≤ 10) (a b : Ex) (iha : FoR a) (ihb : FoR b) (oa : okF (d + 1) false (foldX a) = true) (ob : okF (d + 1) false (foldX b) = true) (f0 : ((foldX a).k == 1) = true) (f1 : ((foldX b).k == 1) = false) (g6 : (k == 6) = false) (g5 : (k == 5) = false) : FoR ⟨k, 0, ⟨#[]⟩, [a, b]⟩ := by
  intro bb cap w hr
  rw [fold_two]
  obtain ⟨p, off, rfl, hpl, hc⟩ := hr.at (by simp)
  obtain ⟨c0, c1, c2, q0, qp0, c3, r0⟩ := hc 0 (by simp)
  obtain ⟨e0, e1, e2, q1, qp1, e3, r1⟩ := hc 1 (by simp)
  have xa : xAt (Ex.mk k 0 ⟨#[]⟩ [a, b]).l 0 = a := rfl
  have xb : xAt (Ex.mk k 0 ⟨#[]⟩ [a, b]).l 1 = b := rfl
  rw [xa] at c0 c1 c2 c3 r0
  rw [xb] at e0 e1 e2 e3 r1
  simp only [Nat.zero_mul, Nat.add_zero, Nat.one_mul] at c0 c1 c2 c3 e0 e1 e2 e3
  have X0 := hide (Bx.new w #[.int .i64 k, .int .i64 0, .string ⟨#[]⟩, .slice (some ⟨p, off, none⟩) 2 cap])
  have IA := hide (iha q0 qp0 _ (RdX.later r0 (unhide X0).bel))
  have IB := hide (fun wr (h : Below w.heap.size w wr) => ihb q1 qp1 wr (RdX.later r1 h))
  have d0 := ((unhide X0).bel.cell (p := ⟨p, off, none⟩) hpl).trans c0
  have d1 := ((unhide X0).bel.cell (p := ⟨p, off + 1, none⟩) hpl).trans c1
  have d2 := ((unhide X0).bel.cell (p := ⟨p, off + 2, none⟩) hpl).trans c2
  have d3 := ((unhide X0).bel.cell (p := ⟨p, off + 3, none⟩) hpl).trans c3
  have E0' := hide (fun wr (h : Below w.heap.size w wr) => (h.cell (p := ⟨p, off + 4, none⟩) hpl).trans e0)
  have E1' := hide (fun wr (h : Below w.heap.size w wr) => (h.cell (p := ⟨p, off + 4 + 1, none⟩) hpl).trans e1)
  have E2' := hide (fun wr (h : Below w.heap.size w wr) => (h.cell (p := ⟨p, off + 4 + 2, none⟩) hpl).trans e2)
  have E3' := hide (fun wr (h : Below w.heap.size w wr) => (h.cell (p := ⟨p, off + 4 + 3, none⟩) hpl).trans e3)
  have g4 : (k == 4) = false := beq_eq_false_iff_ne.2 (by omega)
  have OA := hide oa
  have OB := hide ob
  have ia : 0 ≤ (foldX a).n ∧ (foldX a).n ≤ 65535 ∨ (foldX a).k ≠ 1 := by
    by_cases h : (foldX a).k = 1
    · obtain ⟨m, hm, e⟩ := ok_k1 oa h; rw [e]; exact .inl hm
    · exact .inr h
  have ib : 0 ≤ (foldX b).n ∧ (foldX b).n ≤ 65535 ∨ (foldX b).k ≠ 1 := by
    by_cases h : (foldX b).k = 1
    · obtain ⟨m, hm, e⟩ := ok_k1 ob h; rw [e]; exact .inl hm
    · exact .inr h
  have EQ := hide (show foldN k (foldX a) (foldX b) = ⟨k, 0, ⟨#[]⟩, [(foldX a), (foldX b)]⟩ by unfold foldN mixX; rw [if_neg (fun h => by have := beq_eq_false_iff_ne.1 f1; exact this h.2), if_neg (beq_eq_false_iff_ne.1 g6), if_neg (fun h => beq_eq_false_iff_ne.1 g5 h.1), if_neg (fun h => beq_eq_false_iff_ne.1 g5 h.1)]; rfl)
  rw [unhide EQ]
  generalize hX : GiR _ (Up w) w = X
  have HX := hide hX
  unfold GiR Ex.cs at IA IB
  show Calls Tryd.prog 53 #[.agg #[.int .i64 k, .int .i64 0, .string ⟨#[]⟩, .slice (some ⟨p, off, none⟩) 2 cap]] w X
  generalize (foldX a) = x at *
  generalize (foldX b) = y at *
  clear hX hr hc c0 c1 c2 c3 e0 e1 e2 e3 r0 r1 iha ihb EQ xa xb oa ob
  go_enter Tryd.func53, Tryd.ntmps53
  go_wp2_with fail
  generalize (w.alloc (.cells #[.int .i64 k, .int .i64 0, .string ⟨#[]⟩, .slice (some ⟨p, off, none⟩) 2 cap] 26)).alloc (.cells #[.int .i64 0, .int .i64 0, .string ⟨#[]⟩, .slice none 0 0] 26) = W at *
  clear d0 d1 d2 d3
  refine (unhide IA).mono ?_
  rintro r w1 ⟨ca, cpa, rfl, hx, hb1⟩
  have hb2 := below_new w1 (.cells #[.int .i64 x.k, .int .i64 x.n, .string x.s, .slice ca x.l.length cpa] 26)
  have hb12 := hb1.trans (hb2.mono hb1.size)
  have X2 := hide ((unhide X0).later hb12)
  have hzW := (unhide X0).lt
  have A2 := hide (hx.low.later hb2)
  have G2 := hide (show (w1.alloc (.cells #[.int .i64 x.k, .int .i64 x.n, .string x.s, .slice ca x.l.length cpa] 26)).heap[w1.heap.size]? = some (.cells #[.int .i64 x.k, .int .i64 x.n, .string x.s, .slice ca x.l.length cpa] 26 (0, 0)) from Array.getElem?_push_size)
  have z0 := Lib.cell_of_heap (unhide X2).box 0
  have z3 := Lib.cell_of_heap (unhide X2).box 3
  have d0 := unhide E0' _ (unhide X2).bel
  have d1 := unhide E1' _ (unhide X2).bel
  have d2 := unhide E2' _ (unhide X2).bel
  have d3 := unhide E3' _ (unhide X2).bel
  have IB2 := hide (unhide IB _ (unhide X2).bel)
  have S1 := hide hb1.size
  have hz12 : w1.heap.size < (w1.alloc (.cells #[.int .i64 x.k, .int .i64 x.n, .string x.s, .slice ca x.l.length cpa] 26)).heap.size := by simp
  have HZ2 := hide hz12
  clear hx hb1 hb2 hb12 X0 IA IB E0' E1' E2' E3' hz12
  go_wp2_with fail
  generalize w1.alloc (.cells #[.int .i64 x.k, .int .i64 x.n, .string x.s, .slice ca x.l.length cpa] 26) = w2 at *
  clear d0 d1 d2 d3 z0 z3
  refine (unhide IB2).mono ?_
  rintro r w3 ⟨cb, cpb, rfl, hy, hb3⟩
  have hb4 := below_new w3 (.cells #[.int .i64 y.k, .int .i64 y.n, .string y.s, .slice cb y.l.length cpb] 26)
  have hb34 := hb3.trans (hb4.mono hb3.size)
  have X4 := hide ((unhide X2).later hb34)
  have A4 := hide ((unhide A2).later hb34)
  have B4 := hide (hy.later hb4)
  have G4 := hide (row_keep (unhide G2) hb34)
  have K4 := hide (show (w3.alloc (.cells #[.int .i64 y.k, .int .i64 y.n, .string y.s, .slice cb y.l.length cpb] 26)).heap[w3.heap.size]? = some (.cells #[.int .i64 y.k, .int .i64 y.n, .string y.s, .slice cb y.l.length cpb] 26 (0, 0)) from Array.getElem?_push_size)
  have z0 := Lib.cell_of_heap (unhide X4).box 0
  have y0 := Lib.cell_of_heap (unhide G4) 0
  have y1 := Lib.cell_of_heap (unhide G4) 1
  have u0 := Lib.cell_of_heap (unhide K4) 0
  have u1 := Lib.cell_of_heap (unhide K4) 1
  have DJ := hide (show ∀ b, (Up W b ∧ b < w1.heap.size) → ¬ Up w2 b from fun b h k => by have := unhide HZ2; have h2 : w2.heap.size ≤ b := k; omega)
  have PR := hide (show ∀ b, (Up W b ∧ b < w1.heap.size) → Ow w (Up w) b from fun b h => up_ow (Nat.le_trans hzW h.1))
  have QR := hide (show ∀ b, Up w2 b → Ow w (Up w) b from fun b h => up_ow (Nat.le_trans (unhide X2).lt h))
  have HR := hide (show ∀ b, (w3.alloc (.cells #[.int .i64 y.k, .int .i64 y.n, .string y.s, .slice cb y.l.length cpb] 26)).heap.size ≤ b → Ow w (Up w) b from fun b h => up_ow (Nat.le_trans (unhide X4).lt h))
  clear hy hb3 hb4 hb34 X2 A2 G2 IB2
  have hb5 := below_new (w3.alloc (.cells #[.int .i64 y.k, .int .i64 y.n, .string y.s, .slice cb y.l.length cpb] 26)) (.cells #[.int .i64 x.k, .int .i64 x.n, .string x.s, .slice ca x.l.length cpa, .int .i64 y.k, .int .i64 y.n, .string y.s, .slice cb y.l.length cpb] 26)
  have X5 := hide ((unhide X4).later hb5)
  have hz5 : (w3.alloc (.cells #[.int .i64 y.k, .int .i64 y.n, .string y.s, .slice cb y.l.length cpb] 26)).heap.size = w3.heap.size + 1 := by simp
  have N5' := (show PX ((w3.alloc (.cells #[.int .i64 y.k, .int .i64 y.n, .string y.s, .slice cb y.l.length cpb] 26)).alloc (.cells #[.int .i64 x.k, .int .i64 x.n, .string x.s, .slice ca x.l.length cpa, .int .i64 y.k, .int .i64 y.n, .string y.s, .slice cb y.l.length cpb] 26)) (Ow w (Up w)) ⟨k, 0, ⟨#[]⟩, [x, y]⟩ (some ⟨(w3.alloc (.cells #[.int .i64 y.k, .int .i64 y.n, .string y.s, .slice cb y.l.length cpb] 26)).heap.size, 0, none⟩) from (unhide A4).two (unhide B4) (unhide DJ) (unhide PR) (unhide QR) (unhide HR _ (Nat.le_refl _)) k 0 ⟨#[]⟩ 26)
  rw [hz5] at N5'
  have N5 := hide N5'
  clear hb5 N5' hz5
  go_wp2_with (first | (refine wpList_load_row rfl 26 _ rfl w1.heap.size rfl 26 #[.int .i64 x.k, .int .i64 x.n, .string x.s, .slice ca x.l.length cpa] (0, 0) _ (unhide G4) Tryd.underlying26 rfl (by kernel_rfl) ?_) | (refine wpList_load_row rfl 26 _ rfl w3.heap.size rfl 26 #[.int .i64 y.k, .int .i64 y.n, .string y.s, .slice cb y.l.length cpb] (0, 0) _ (unhide K4) Tryd.underlying26 rfl (by kernel_rfl) ?_) | (refine wpList_store_row rfl 26 _ _ rfl (w.heap.size + 1) #[.int .i64 k, .int .i64 0, .string ⟨#[]⟩, .slice (some ⟨w3.heap.size + 1, 0, none⟩) 2 2] rfl rfl 26 _ ((unhide X5).res) szE rfl (ex_one _ _ _ _ _ _) ?_))
  refine bodyPost_ret (results_cell_row (P := Tryd.prog) rfl _ _ (w.heap.size + 1) 26 #[.int .i64 k, .int .i64 0, .string ⟨#[]⟩, .slice (some ⟨w3.heap.size + 1, 0, none⟩) 2 2] (0, 0) _ rfl (setRow_heap _ _ _ _ _ _ ((unhide X5).res)) Tryd.underlying26 rfl szE) rfl ?_
  rw [← unhide HX]
  exact Bx.end (x := ⟨k, 0, ⟨#[]⟩, [x, y]⟩) (unhide X5) (unhide N5) _
set_option maxHeartbeats 8000000 in
theorem foldS_add1 {d : Nat} (k : Int) (hk : 5 ≤ k ∧ k ≤ 10) (a b : Ex) (iha : FoR a) (ihb : FoR b) (oa : okF (d + 1) false (foldX a) = true) (ob : okF (d + 1) false (foldX b) = true) (f0 : ((foldX a).k == 1) = true) (f1 : ((foldX b).k == 1) = false) (g6 : (k == 6) = false) (g5 : (k == 5) = true) : FoR ⟨k, 0, ⟨#[]⟩, [a, b]⟩ := by
  intro bb cap w hr
  rw [fold_two]
  obtain ⟨p, off, rfl, hpl, hc⟩ := hr.at (by simp)
  obtain ⟨c0, c1, c2, q0, qp0, c3, r0⟩ := hc 0 (by simp)
  obtain ⟨e0, e1, e2, q1, qp1, e3, r1⟩ := hc 1 (by simp)
  have xa : xAt (Ex.mk k 0 ⟨#[]⟩ [a, b]).l 0 = a := rfl
  have xb : xAt (Ex.mk k 0 ⟨#[]⟩ [a, b]).l 1 = b := rfl
  rw [xa] at c0 c1 c2 c3 r0
  rw [xb] at e0 e1 e2 e3 r1
  simp only [Nat.zero_mul, Nat.add_zero, Nat.one_mul] at c0 c1 c2 c3 e0 e1 e2 e3
  have X0 := hide (Bx.new w #[.int .i64 k, .int .i64 0, .string ⟨#[]⟩, .slice (some ⟨p, off, none⟩) 2 cap])
  have IA := hide (iha q0 qp0 _ (RdX.later r0 (unhide X0).bel))
  have IB := hide (fun wr (h : Below w.heap.size w wr) => ihb q1 qp1 wr (RdX.later r1 h))
  have d0 := ((unhide X0).bel.cell (p := ⟨p, off, none⟩) hpl).trans c0
  have d1 := ((unhide X0).bel.cell (p := ⟨p, off + 1, none⟩) hpl).trans c1
  have d2 := ((unhide X0).bel.cell (p := ⟨p, off + 2, none⟩) hpl).trans c2
  have d3 := ((unhide X0).bel.cell (p := ⟨p, off + 3, none⟩) hpl).trans c3
  have E0' := hide (fun wr (h : Below w.heap.size w wr) => (h.cell (p := ⟨p, off + 4, none⟩) hpl).trans e0)
  have E1' := hide (fun wr (h : Below w.heap.size w wr) => (h.cell (p := ⟨p, off + 4 + 1, none⟩) hpl).trans e1)
  have E2' := hide (fun wr (h : Below w.heap.size w wr) => (h.cell (p := ⟨p, off + 4 + 2, none⟩) hpl).trans e2)
  have E3' := hide (fun wr (h : Below w.heap.size w wr) => (h.cell (p := ⟨p, off + 4 + 3, none⟩) hpl).trans e3)
  have g4 : (k == 4) = false := beq_eq_false_iff_ne.2 (by omega)
  have OA := hide oa
  have OB := hide ob
  have ia : 0 ≤ (foldX a).n ∧ (foldX a).n ≤ 65535 ∨ (foldX a).k ≠ 1 := by
    by_cases h : (foldX a).k = 1
    · obtain ⟨m, hm, e⟩ := ok_k1 oa h; rw [e]; exact .inl hm
    · exact .inr h
  have ib : 0 ≤ (foldX b).n ∧ (foldX b).n ≤ 65535 ∨ (foldX b).k ≠ 1 := by
    by_cases h : (foldX b).k = 1
    · obtain ⟨m, hm, e⟩ := ok_k1 ob h; rw [e]; exact .inl hm
    · exact .inr h
  have EQ := hide (show foldN k (foldX a) (foldX b) = sumX (foldX b) (foldX a).n by unfold foldN mixX; rw [if_neg (fun h => by have := beq_eq_false_iff_ne.1 f1; exact this h.2), if_neg (beq_eq_false_iff_ne.1 g6), if_pos ⟨beq_iff_eq.1 g5, beq_iff_eq.1 f0⟩])
  rw [unhide EQ]
  generalize hX : GiR _ (Up w) w = X
  have HX := hide hX
  unfold GiR Ex.cs at IA IB
  show Calls Tryd.prog 53 #[.agg #[.int .i64 k, .int .i64 0, .string ⟨#[]⟩, .slice (some ⟨p, off, none⟩) 2 cap]] w X
  generalize (foldX a) = x at *
  generalize (foldX b) = y at *
  clear hX hr hc c0 c1 c2 c3 e0 e1 e2 e3 r0 r1 iha ihb EQ xa xb oa ob
  go_enter Tryd.func53, Tryd.ntmps53
  go_wp2_with fail
  generalize (w.alloc (.cells #[.int .i64 k, .int .i64 0, .string ⟨#[]⟩, .slice (some ⟨p, off, none⟩) 2 cap] 26)).alloc (.cells #[.int .i64 0, .int .i64 0, .string ⟨#[]⟩, .slice none 0 0] 26) = W at *
  clear d0 d1 d2 d3
  refine (unhide IA).mono ?_
  rintro r w1 ⟨ca, cpa, rfl, hx, hb1⟩
  have hb2 := below_new w1 (.cells #[.int .i64 x.k, .int .i64 x.n, .string x.s, .slice ca x.l.length cpa] 26)
  have hb12 := hb1.trans (hb2.mono hb1.size)
  have X2 := hide ((unhide X0).later hb12)
  have hzW := (unhide X0).lt
  have A2 := hide (hx.low.later hb2)
  have G2 := hide (show (w1.alloc (.cells #[.int .i64 x.k, .int .i64 x.n, .string x.s, .slice ca x.l.length cpa] 26)).heap[w1.heap.size]? = some (.cells #[.int .i64 x.k, .int .i64 x.n, .string x.s, .slice ca x.l.length cpa] 26 (0, 0)) from Array.getElem?_push_size)
  have z0 := Lib.cell_of_heap (unhide X2).box 0
  have z3 := Lib.cell_of_heap (unhide X2).box 3
  have d0 := unhide E0' _ (unhide X2).bel
  have d1 := unhide E1' _ (unhide X2).bel
  have d2 := unhide E2' _ (unhide X2).bel
  have d3 := unhide E3' _ (unhide X2).bel
  have IB2 := hide (unhide IB _ (unhide X2).bel)
  have S1 := hide hb1.size
  have hz12 : w1.heap.size < (w1.alloc (.cells #[.int .i64 x.k, .int .i64 x.n, .string x.s, .slice ca x.l.length cpa] 26)).heap.size := by simp
  have HZ2 := hide hz12
  clear hx hb1 hb2 hb12 X0 IA IB E0' E1' E2' E3' hz12
  go_wp2_with fail
  generalize w1.alloc (.cells #[.int .i64 x.k, .int .i64 x.n, .string x.s, .slice ca x.l.length cpa] 26) = w2 at *
  clear d0 d1 d2 d3 z0 z3
  refine (unhide IB2).mono ?_
  rintro r w3 ⟨cb, cpb, rfl, hy, hb3⟩
  have hb4 := below_new w3 (.cells #[.int .i64 y.k, .int .i64 y.n, .string y.s, .slice cb y.l.length cpb] 26)
  have hb34 := hb3.trans (hb4.mono hb3.size)
  have X4 := hide ((unhide X2).later hb34)
  have A4 := hide ((unhide A2).later hb34)
  have B4 := hide (hy.later hb4)
  have G4 := hide (row_keep (unhide G2) hb34)
  have K4 := hide (show (w3.alloc (.cells #[.int .i64 y.k, .int .i64 y.n, .string y.s, .slice cb y.l.length cpb] 26)).heap[w3.heap.size]? = some (.cells #[.int .i64 y.k, .int .i64 y.n, .string y.s, .slice cb y.l.length cpb] 26 (0, 0)) from Array.getElem?_push_size)
  have z0 := Lib.cell_of_heap (unhide X4).box 0
  have y0 := Lib.cell_of_heap (unhide G4) 0
  have y1 := Lib.cell_of_heap (unhide G4) 1
  have u0 := Lib.cell_of_heap (unhide K4) 0
  have u1 := Lib.cell_of_heap (unhide K4) 1
  have DJ := hide (show ∀ b, (Up W b ∧ b < w1.heap.size) → ¬ Up w2 b from fun b h k => by have := unhide HZ2; have h2 : w2.heap.size ≤ b := k; omega)
  have PR := hide (show ∀ b, (Up W b ∧ b < w1.heap.size) → Ow w (Up w) b from fun b h => up_ow (Nat.le_trans hzW h.1))
  have QR := hide (show ∀ b, Up w2 b → Ow w (Up w) b from fun b h => up_ow (Nat.le_trans (unhide X2).lt h))
  have HR := hide (show ∀ b, (w3.alloc (.cells #[.int .i64 y.k, .int .i64 y.n, .string y.s, .slice cb y.l.length cpb] 26)).heap.size ≤ b → Ow w (Up w) b from fun b h => up_ow (Nat.le_trans (unhide X4).lt h))
  clear hy hb3 hb4 hb34 X2 A2 G2 IB2
  have CL := hide (sumS_any y (unhide OB) cb cpb x.n (by have := ia.resolve_right (fun h => h (beq_iff_eq.1 f0)); omega) (Ow w (Up w)) (w3.alloc (.cells #[.int .i64 y.k, .int .i64 y.n, .string y.s, .slice cb y.l.length cpb] 26)) ((unhide B4).mono (unhide QR)) (unhide HR))
  unfold GiR Ex.cs at CL
  go_wp2_with (first | (refine wpList_load_row rfl 26 _ rfl w3.heap.size rfl 26 #[.int .i64 y.k, .int .i64 y.n, .string y.s, .slice cb y.l.length cpb] (0, 0) _ (unhide K4) Tryd.underlying26 rfl (by kernel_rfl) ?_))
  generalize w3.alloc (.cells #[.int .i64 y.k, .int .i64 y.n, .string y.s, .slice cb y.l.length cpb] 26) = w4 at *
  clear z0 y0 y1 u0 u1
  refine (unhide CL).mono ?_
  rintro r w5 ⟨c5, cp5, rfl, hx5, hb5⟩
  have X5 := hide ((unhide X4).later hb5)
  have A5 := hide hx5
  clear hx5 hb5 X4 A4 B4 G4 K4 CL
  generalize sumX y x.n = z at *
  go_wp2_with (refine wpList_store_row rfl 26 _ _ rfl (w.heap.size + 1) #[.int .i64 z.k, .int .i64 z.n, .string z.s, .slice c5 z.l.length cp5] rfl rfl 26 _ ((unhide X5).res) szE rfl (ex_one _ _ _ _ _ _) ?_)
  refine bodyPost_ret (results_cell_row (P := Tryd.prog) rfl _ _ (w.heap.size + 1) 26 #[.int .i64 z.k, .int .i64 z.n, .string z.s, .slice c5 z.l.length cp5] (0, 0) _ rfl (setRow_heap _ _ _ _ _ _ ((unhide X5).res)) Tryd.underlying26 rfl szE) rfl ?_
  rw [← unhide HX]
  exact (unhide X5).end (unhide A5) _
set_option maxHeartbeats 8000000 in
theorem foldS_add2 {d : Nat} (k : Int) (hk : 5 ≤ k ∧ k ≤ 10) (a b : Ex) (iha : FoR a) (ihb : FoR b) (oa : okF (d + 1) false (foldX a) = true) (ob : okF (d + 1) false (foldX b) = true) (f0 : ((foldX a).k == 1) = false) (f1 : ((foldX b).k == 1) = true) (g6 : (k == 6) = false) (g5 : (k == 5) = true) : FoR ⟨k, 0, ⟨#[]⟩, [a, b]⟩ := by
  intro bb cap w hr
  rw [fold_two]
  obtain ⟨p, off, rfl, hpl, hc⟩ := hr.at (by simp)
  obtain ⟨c0, c1, c2, q0, qp0, c3, r0⟩ := hc 0 (by simp)
  obtain ⟨e0, e1, e2, q1, qp1, e3, r1⟩ := hc 1 (by simp)
  have xa : xAt (Ex.mk k 0 ⟨#[]⟩ [a, b]).l 0 = a := rfl
  have xb : xAt (Ex.mk k 0 ⟨#[]⟩ [a, b]).l 1 = b := rfl
  rw [xa] at c0 c1 c2 c3 r0
  rw [xb] at e0 e1 e2 e3 r1
  simp only [Nat.zero_mul, Nat.add_zero, Nat.one_mul] at c0 c1 c2 c3 e0 e1 e2 e3
  have X0 := hide (Bx.new w #[.int .i64 k, .int .i64 0, .string ⟨#[]⟩, .slice (some ⟨p, off, none⟩) 2 cap])
  have IA := hide (iha q0 qp0 _ (RdX.later r0 (unhide X0).bel))
  have IB := hide (fun wr (h : Below w.heap.size w wr) => ihb q1 qp1 wr (RdX.later r1 h))
  have d0 := ((unhide X0).bel.cell (p := ⟨p, off, none⟩) hpl).trans c0
  have d1 := ((unhide X0).bel.cell (p := ⟨p, off + 1, none⟩) hpl).trans c1
  have d2 := ((unhide X0).bel.cell (p := ⟨p, off + 2, none⟩) hpl).trans c2
  have d3 := ((unhide X0).bel.cell (p := ⟨p, off + 3, none⟩) hpl).trans c3
  have E0' := hide (fun wr (h : Below w.heap.size w wr) => (h.cell (p := ⟨p, off + 4, none⟩) hpl).trans e0)
  have E1' := hide (fun wr (h : Below w.heap.size w wr) => (h.cell (p := ⟨p, off + 4 + 1, none⟩) hpl).trans e1)
  have E2' := hide (fun wr (h : Below w.heap.size w wr) => (h.cell (p := ⟨p, off + 4 + 2, none⟩) hpl).trans e2)
  have E3' := hide (fun wr (h : Below w.heap.size w wr) => (h.cell (p := ⟨p, off + 4 + 3, none⟩) hpl).trans e3)
  have g4 : (k == 4) = false := beq_eq_false_iff_ne.2 (by omega)
  have OA := hide oa
  have OB := hide ob
  have ia : 0 ≤ (foldX a).n ∧ (foldX a).n ≤ 65535 ∨ (foldX a).k ≠ 1 := by
    by_cases h : (foldX a).k = 1
    · obtain ⟨m, hm, e⟩ := ok_k1 oa h; rw [e]; exact .inl hm
    · exact .inr h
  have ib : 0 ≤ (foldX b).n ∧ (foldX b).n ≤ 65535 ∨ (foldX b).k ≠ 1 := by
    by_cases h : (foldX b).k = 1
    · obtain ⟨m, hm, e⟩ := ok_k1 ob h; rw [e]; exact .inl hm
    · exact .inr h
  have EQ := hide (show foldN k (foldX a) (foldX b) = sumX (foldX a) (foldX b).n by unfold foldN mixX; rw [if_neg (fun h => by have := beq_eq_false_iff_ne.1 f0; exact this h.1), if_neg (beq_eq_false_iff_ne.1 g6), if_neg (fun h => beq_eq_false_iff_ne.1 f0 h.2), if_pos ⟨beq_iff_eq.1 g5, beq_iff_eq.1 f1⟩])
  rw [unhide EQ]
  generalize hX : GiR _ (Up w) w = X
  have HX := hide hX
  unfold GiR Ex.cs at IA IB
  show Calls Tryd.prog 53 #[.agg #[.int .i64 k, .int .i64 0, .string ⟨#[]⟩, .slice (some ⟨p, off, none⟩) 2 cap]] w X
  generalize (foldX a) = x at *
  generalize (foldX b) = y at *
  clear hX hr hc c0 c1 c2 c3 e0 e1 e2 e3 r0 r1 iha ihb EQ xa xb oa ob
  go_enter Tryd.func53, Tryd.ntmps53
  go_wp2_with fail
  generalize (w.alloc (.cells #[.int .i64 k, .int .i64 0, .string ⟨#[]⟩, .slice (some ⟨p, off, none⟩) 2 cap] 26)).alloc (.cells #[.int .i64 0, .int .i64 0, .string ⟨#[]⟩, .slice none 0 0] 26) = W at *
  clear d0 d1 d2 d3
  refine (unhide IA).mono ?_
  rintro r w1 ⟨ca, cpa, rfl, hx, hb1⟩
  have hb2 := below_new w1 (.cells #[.int .i64 x.k, .int .i64 x.n, .string x.s, .slice ca x.l.length cpa] 26)
  have hb12 := hb1.trans (hb2.mono hb1.size)
  have X2 := hide ((unhide X0).later hb12)
  have hzW := (unhide X0).lt
  have A2 := hide (hx.low.later hb2)
  have G2 := hide (show (w1.alloc (.cells #[.int .i64 x.k, .int .i64 x.n, .string x.s, .slice ca x.l.length cpa] 26)).heap[w1.heap.size]? = some (.cells #[.int .i64 x.k, .int .i64 x.n, .string x.s, .slice ca x.l.length cpa] 26 (0, 0)) from Array.getElem?_push_size)
  have z0 := Lib.cell_of_heap (unhide X2).box 0
  have z3 := Lib.cell_of_heap (unhide X2).box 3
  have d0 := unhide E0' _ (unhide X2).bel
  have d1 := unhide E1' _ (unhide X2).bel
  have d2 := unhide E2' _ (unhide X2).bel
  have d3 := unhide E3' _ (unhide X2).bel
  have IB2 := hide (unhide IB _ (unhide X2).bel)
  have S1 := hide hb1.size
  have hz12 : w1.heap.size < (w1.alloc (.cells #[.int .i64 x.k, .int .i64 x.n, .string x.s, .slice ca x.l.length cpa] 26)).heap.size := by simp
  have HZ2 := hide hz12
  clear hx hb1 hb2 hb12 X0 IA IB E0' E1' E2' E3' hz12
  go_wp2_with fail
  generalize w1.alloc (.cells #[.int .i64 x.k, .int .i64 x.n, .string x.s, .slice ca x.l.length cpa] 26) = w2 at *
  clear d0 d1 d2 d3 z0 z3
  refine (unhide IB2).mono ?_
  rintro r w3 ⟨cb, cpb, rfl, hy, hb3⟩
  have hb4 := below_new w3 (.cells #[.int .i64 y.k, .int .i64 y.n, .string y.s, .slice cb y.l.length cpb] 26)
  have hb34 := hb3.trans (hb4.mono hb3.size)
  have X4 := hide ((unhide X2).later hb34)
  have A4 := hide ((unhide A2).later hb34)
  have B4 := hide (hy.later hb4)
  have G4 := hide (row_keep (unhide G2) hb34)
  have K4 := hide (show (w3.alloc (.cells #[.int .i64 y.k, .int .i64 y.n, .string y.s, .slice cb y.l.length cpb] 26)).heap[w3.heap.size]? = some (.cells #[.int .i64 y.k, .int .i64 y.n, .string y.s, .slice cb y.l.length cpb] 26 (0, 0)) from Array.getElem?_push_size)
  have z0 := Lib.cell_of_heap (unhide X4).box 0
  have y0 := Lib.cell_of_heap (unhide G4) 0
  have y1 := Lib.cell_of_heap (unhide G4) 1
  have u0 := Lib.cell_of_heap (unhide K4) 0
  have u1 := Lib.cell_of_heap (unhide K4) 1
  have DJ := hide (show ∀ b, (Up W b ∧ b < w1.heap.size) → ¬ Up w2 b from fun b h k => by have := unhide HZ2; have h2 : w2.heap.size ≤ b := k; omega)
  have PR := hide (show ∀ b, (Up W b ∧ b < w1.heap.size) → Ow w (Up w) b from fun b h => up_ow (Nat.le_trans hzW h.1))
  have QR := hide (show ∀ b, Up w2 b → Ow w (Up w) b from fun b h => up_ow (Nat.le_trans (unhide X2).lt h))
  have HR := hide (show ∀ b, (w3.alloc (.cells #[.int .i64 y.k, .int .i64 y.n, .string y.s, .slice cb y.l.length cpb] 26)).heap.size ≤ b → Ow w (Up w) b from fun b h => up_ow (Nat.le_trans (unhide X4).lt h))
  clear hy hb3 hb4 hb34 X2 A2 G2 IB2
  have CL := hide (sumS_any x (unhide OA) ca cpa y.n (by have := ib.resolve_right (fun h => h (beq_iff_eq.1 f1)); omega) (Ow w (Up w)) (w3.alloc (.cells #[.int .i64 y.k, .int .i64 y.n, .string y.s, .slice cb y.l.length cpb] 26)) ((unhide A4).mono (unhide PR)) (unhide HR))
  unfold GiR Ex.cs at CL
  go_wp2_with (first | (refine wpList_load_row rfl 26 _ rfl w1.heap.size rfl 26 #[.int .i64 x.k, .int .i64 x.n, .string x.s, .slice ca x.l.length cpa] (0, 0) _ (unhide G4) Tryd.underlying26 rfl (by kernel_rfl) ?_))
  generalize w3.alloc (.cells #[.int .i64 y.k, .int .i64 y.n, .string y.s, .slice cb y.l.length cpb] 26) = w4 at *
  clear z0 y0 y1 u0 u1
  refine (unhide CL).mono ?_
  rintro r w5 ⟨c5, cp5, rfl, hx5, hb5⟩
  have X5 := hide ((unhide X4).later hb5)
  have A5 := hide hx5
  clear hx5 hb5 X4 A4 B4 G4 K4 CL
  generalize sumX x y.n = z at *
  go_wp2_with (refine wpList_store_row rfl 26 _ _ rfl (w.heap.size + 1) #[.int .i64 z.k, .int .i64 z.n, .string z.s, .slice c5 z.l.length cp5] rfl rfl 26 _ ((unhide X5).res) szE rfl (ex_one _ _ _ _ _ _) ?_)
  refine bodyPost_ret (results_cell_row (P := Tryd.prog) rfl _ _ (w.heap.size + 1) 26 #[.int .i64 z.k, .int .i64 z.n, .string z.s, .slice c5 z.l.length cp5] (0, 0) _ rfl (setRow_heap _ _ _ _ _ _ ((unhide X5).res)) Tryd.underlying26 rfl szE) rfl ?_
  rw [← unhide HX]
  exact (unhide X5).end (unhide A5) _
set_option maxHeartbeats 8000000 in
theorem foldS_add0 {d : Nat} (k : Int) (hk : 5 ≤ k ∧ k ≤ 10) (a b : Ex) (iha : FoR a) (ihb : FoR b) (oa : okF (d + 1) false (foldX a) = true) (ob : okF (d + 1) false (foldX b) = true) (f0 : ((foldX a).k == 1) = false) (f1 : ((foldX b).k == 1) = false) (g6 : (k == 6) = false) (g5 : (k == 5) = true) : FoR ⟨k, 0, ⟨#[]⟩, [a, b]⟩ := by
  intro bb cap w hr
  rw [fold_two]
  obtain ⟨p, off, rfl, hpl, hc⟩ := hr.at (by simp)
  obtain ⟨c0, c1, c2, q0, qp0, c3, r0⟩ := hc 0 (by simp)
  obtain ⟨e0, e1, e2, q1, qp1, e3, r1⟩ := hc 1 (by simp)
  have xa : xAt (Ex.mk k 0 ⟨#[]⟩ [a, b]).l 0 = a := rfl
  have xb : xAt (Ex.mk k 0 ⟨#[]⟩ [a, b]).l 1 = b := rfl
  rw [xa] at c0 c1 c2 c3 r0
  rw [xb] at e0 e1 e2 e3 r1
  simp only [Nat.zero_mul, Nat.add_zero, Nat.one_mul] at c0 c1 c2 c3 e0 e1 e2 e3
  have X0 := hide (Bx.new w #[.int .i64 k, .int .i64 0, .string ⟨#[]⟩, .slice (some ⟨p, off, none⟩) 2 cap])
  have IA := hide (iha q0 qp0 _ (RdX.later r0 (unhide X0).bel))
  have IB := hide (fun wr (h : Below w.heap.size w wr) => ihb q1 qp1 wr (RdX.later r1 h))
  have d0 := ((unhide X0).bel.cell (p := ⟨p, off, none⟩) hpl).trans c0
  have d1 := ((unhide X0).bel.cell (p := ⟨p, off + 1, none⟩) hpl).trans c1
  have d2 := ((unhide X0).bel.cell (p := ⟨p, off + 2, none⟩) hpl).trans c2
  have d3 := ((unhide X0).bel.cell (p := ⟨p, off + 3, none⟩) hpl).trans c3
  have E0' := hide (fun wr (h : Below w.heap.size w wr) => (h.cell (p := ⟨p, off + 4, none⟩) hpl).trans e0)
  have E1' := hide (fun wr (h : Below w.heap.size w wr) => (h.cell (p := ⟨p, off + 4 + 1, none⟩) hpl).trans e1)
  have E2' := hide (fun wr (h : Below w.heap.size w wr) => (h.cell (p := ⟨p, off + 4 + 2, none⟩) hpl).trans e2)
  have E3' := hide (fun wr (h : Below w.heap.size w wr) => (h.cell (p := ⟨p, off + 4 + 3, none⟩) hpl).trans e3)
  have g4 : (k == 4) = false := beq_eq_false_iff_ne.2 (by omega)
  have OA := hide oa
  have OB := hide ob
  have ia : 0 ≤ (foldX a).n ∧ (foldX a).n ≤ 65535 ∨ (foldX a).k ≠ 1 := by
    by_cases h : (foldX a).k = 1
    · obtain ⟨m, hm, e⟩ := ok_k1 oa h; rw [e]; exact .inl hm
    · exact .inr h
  have ib : 0 ≤ (foldX b).n ∧ (foldX b).n ≤ 65535 ∨ (foldX b).k ≠ 1 := by
    by_cases h : (foldX b).k = 1
    · obtain ⟨m, hm, e⟩ := ok_k1 ob h; rw [e]; exact .inl hm
    · exact .inr h
  have EQ := hide (show foldN k (foldX a) (foldX b) = ⟨k, 0, ⟨#[]⟩, [(foldX a), (foldX b)]⟩ by unfold foldN mixX; rw [if_neg (fun h => by have := beq_eq_false_iff_ne.1 f0; exact this h.1), if_neg (beq_eq_false_iff_ne.1 g6), if_neg (fun h => beq_eq_false_iff_ne.1 f0 h.2), if_neg (fun h => beq_eq_false_iff_ne.1 f1 h.2)]; rfl)
  rw [unhide EQ]
  generalize hX : GiR _ (Up w) w = X
  have HX := hide hX
  unfold GiR Ex.cs at IA IB
  show Calls Tryd.prog 53 #[.agg #[.int .i64 k, .int .i64 0, .string ⟨#[]⟩, .slice (some ⟨p, off, none⟩) 2 cap]] w X
  generalize (foldX a) = x at *
  generalize (foldX b) = y at *
  clear hX hr hc c0 c1 c2 c3 e0 e1 e2 e3 r0 r1 iha ihb EQ xa xb oa ob
  go_enter Tryd.func53, Tryd.ntmps53
  go_wp2_with fail
  generalize (w.alloc (.cells #[.int .i64 k, .int .i64 0, .string ⟨#[]⟩, .slice (some ⟨p, off, none⟩) 2 cap] 26)).alloc (.cells #[.int .i64 0, .int .i64 0, .string ⟨#[]⟩, .slice none 0 0] 26) = W at *
  clear d0 d1 d2 d3
  refine (unhide IA).mono ?_
  rintro r w1 ⟨ca, cpa, rfl, hx, hb1⟩
  have hb2 := below_new w1 (.cells #[.int .i64 x.k, .int .i64 x.n, .string x.s, .slice ca x.l.length cpa] 26)
  have hb12 := hb1.trans (hb2.mono hb1.size)
  have X2 := hide ((unhide X0).later hb12)
  have hzW := (unhide X0).lt
  have A2 := hide (hx.low.later hb2)
  have G2 := hide (show (w1.alloc (.cells #[.int .i64 x.k, .int .i64 x.n, .string x.s, .slice ca x.l.length cpa] 26)).heap[w1.heap.size]? = some (.cells #[.int .i64 x.k, .int .i64 x.n, .string x.s, .slice ca x.l.length cpa] 26 (0, 0)) from Array.getElem?_push_size)
  have z0 := Lib.cell_of_heap (unhide X2).box 0
  have z3 := Lib.cell_of_heap (unhide X2).box 3
  have d0 := unhide E0' _ (unhide X2).bel
  have d1 := unhide E1' _ (unhide X2).bel
  have d2 := unhide E2' _ (unhide X2).bel
  have d3 := unhide E3' _ (unhide X2).bel
  have IB2 := hide (unhide IB _ (unhide X2).bel)
  have S1 := hide hb1.size
  have hz12 : w1.heap.size < (w1.alloc (.cells #[.int .i64 x.k, .int .i64 x.n, .string x.s, .slice ca x.l.length cpa] 26)).heap.size := by simp
  have HZ2 := hide hz12
  clear hx hb1 hb2 hb12 X0 IA IB E0' E1' E2' E3' hz12
  go_wp2_with fail
  generalize w1.alloc (.cells #[.int .i64 x.k, .int .i64 x.n, .string x.s, .slice ca x.l.length cpa] 26) = w2 at *
  clear d0 d1 d2 d3 z0 z3
  refine (unhide IB2).mono ?_
  rintro r w3 ⟨cb, cpb, rfl, hy, hb3⟩
  have hb4 := below_new w3 (.cells #[.int .i64 y.k, .int .i64 y.n, .string y.s, .slice cb y.l.length cpb] 26)
  have hb34 := hb3.trans (hb4.mono hb3.size)
  have X4 := hide ((unhide X2).later hb34)
  have A4 := hide ((unhide A2).later hb34)
  have B4 := hide (hy.later hb4)
  have G4 := hide (row_keep (unhide G2) hb34)
  have K4 := hide (show (w3.alloc (.cells #[.int .i64 y.k, .int .i64 y.n, .string y.s, .slice cb y.l.length cpb] 26)).heap[w3.heap.size]? = some (.cells #[.int .i64 y.k, .int .i64 y.n, .string y.s, .slice cb y.l.length cpb] 26 (0, 0)) from Array.getElem?_push_size)
  have z0 := Lib.cell_of_heap (unhide X4).box 0
  have y0 := Lib.cell_of_heap (unhide G4) 0
  have y1 := Lib.cell_of_heap (unhide G4) 1
  have u0 := Lib.cell_of_heap (unhide K4) 0
  have u1 := Lib.cell_of_heap (unhide K4) 1
  have DJ := hide (show ∀ b, (Up W b ∧ b < w1.heap.size) → ¬ Up w2 b from fun b h k => by have := unhide HZ2; have h2 : w2.heap.size ≤ b := k; omega)
  have PR := hide (show ∀ b, (Up W b ∧ b < w1.heap.size) → Ow w (Up w) b from fun b h => up_ow (Nat.le_trans hzW h.1))
  have QR := hide (show ∀ b, Up w2 b → Ow w (Up w) b from fun b h => up_ow (Nat.le_trans (unhide X2).lt h))
  have HR := hide (show ∀ b, (w3.alloc (.cells #[.int .i64 y.k, .int .i64 y.n, .string y.s, .slice cb y.l.length cpb] 26)).heap.size ≤ b → Ow w (Up w) b from fun b h => up_ow (Nat.le_trans (unhide X4).lt h))
  clear hy hb3 hb4 hb34 X2 A2 G2 IB2
  have hb5 := below_new (w3.alloc (.cells #[.int .i64 y.k, .int .i64 y.n, .string y.s, .slice cb y.l.length cpb] 26)) (.cells #[.int .i64 x.k, .int .i64 x.n, .string x.s, .slice ca x.l.length cpa, .int .i64 y.k, .int .i64 y.n, .string y.s, .slice cb y.l.length cpb] 26)
  have X5 := hide ((unhide X4).later hb5)
  have hz5 : (w3.alloc (.cells #[.int .i64 y.k, .int .i64 y.n, .string y.s, .slice cb y.l.length cpb] 26)).heap.size = w3.heap.size + 1 := by simp
  have N5' := (show PX ((w3.alloc (.cells #[.int .i64 y.k, .int .i64 y.n, .string y.s, .slice cb y.l.length cpb] 26)).alloc (.cells #[.int .i64 x.k, .int .i64 x.n, .string x.s, .slice ca x.l.length cpa, .int .i64 y.k, .int .i64 y.n, .string y.s, .slice cb y.l.length cpb] 26)) (Ow w (Up w)) ⟨k, 0, ⟨#[]⟩, [x, y]⟩ (some ⟨(w3.alloc (.cells #[.int .i64 y.k, .int .i64 y.n, .string y.s, .slice cb y.l.length cpb] 26)).heap.size, 0, none⟩) from (unhide A4).two (unhide B4) (unhide DJ) (unhide PR) (unhide QR) (unhide HR _ (Nat.le_refl _)) k 0 ⟨#[]⟩ 26)
  rw [hz5] at N5'
  have N5 := hide N5'
  clear hb5 N5' hz5
  go_wp2_with (first | (refine wpList_load_row rfl 26 _ rfl w1.heap.size rfl 26 #[.int .i64 x.k, .int .i64 x.n, .string x.s, .slice ca x.l.length cpa] (0, 0) _ (unhide G4) Tryd.underlying26 rfl (by kernel_rfl) ?_) | (refine wpList_load_row rfl 26 _ rfl w3.heap.size rfl 26 #[.int .i64 y.k, .int .i64 y.n, .string y.s, .slice cb y.l.length cpb] (0, 0) _ (unhide K4) Tryd.underlying26 rfl (by kernel_rfl) ?_) | (refine wpList_store_row rfl 26 _ _ rfl (w.heap.size + 1) #[.int .i64 k, .int .i64 0, .string ⟨#[]⟩, .slice (some ⟨w3.heap.size + 1, 0, none⟩) 2 2] rfl rfl 26 _ ((unhide X5).res) szE rfl (ex_one _ _ _ _ _ _) ?_))
  refine bodyPost_ret (results_cell_row (P := Tryd.prog) rfl _ _ (w.heap.size + 1) 26 #[.int .i64 k, .int .i64 0, .string ⟨#[]⟩, .slice (some ⟨w3.heap.size + 1, 0, none⟩) 2 2] (0, 0) _ rfl (setRow_heap _ _ _ _ _ _ ((unhide X5).res)) Tryd.underlying26 rfl szE) rfl ?_
  rw [← unhide HX]
  exact Bx.end (x := ⟨k, 0, ⟨#[]⟩, [x, y]⟩) (unhide X5) (unhide N5) _
set_option maxHeartbeats 8000000 in
theorem foldS_num {d : Nat} (k : Int) (hk : 5 ≤ k ∧ k ≤ 10) (a b : Ex) (iha : FoR a) (ihb : FoR b) (oa : okF (d + 1) false (foldX a) = true) (ob : okF (d + 1) false (foldX b) = true) (f0 : ((foldX a).k == 1) = true) (f1 : ((foldX b).k == 1) = true) (m : Int) (ht : two11 k (foldX a).n (foldX b).n = some m) : FoR ⟨k, 0, ⟨#[]⟩, [a, b]⟩ := by
  intro bb cap w hr
  rw [fold_two]
  obtain ⟨p, off, rfl, hpl, hc⟩ := hr.at (by simp)
  obtain ⟨c0, c1, c2, q0, qp0, c3, r0⟩ := hc 0 (by simp)
  obtain ⟨e0, e1, e2, q1, qp1, e3, r1⟩ := hc 1 (by simp)
  have xa : xAt (Ex.mk k 0 ⟨#[]⟩ [a, b]).l 0 = a := rfl
  have xb : xAt (Ex.mk k 0 ⟨#[]⟩ [a, b]).l 1 = b := rfl
  rw [xa] at c0 c1 c2 c3 r0
  rw [xb] at e0 e1 e2 e3 r1
  simp only [Nat.zero_mul, Nat.add_zero, Nat.one_mul] at c0 c1 c2 c3 e0 e1 e2 e3
  have X0 := hide (Bx.new w #[.int .i64 k, .int .i64 0, .string ⟨#[]⟩, .slice (some ⟨p, off, none⟩) 2 cap])
  have IA := hide (iha q0 qp0 _ (RdX.later r0 (unhide X0).bel))
  have IB := hide (fun wr (h : Below w.heap.size w wr) => ihb q1 qp1 wr (RdX.later r1 h))
  have d0 := ((unhide X0).bel.cell (p := ⟨p, off, none⟩) hpl).trans c0
  have d1 := ((unhide X0).bel.cell (p := ⟨p, off + 1, none⟩) hpl).trans c1
  have d2 := ((unhide X0).bel.cell (p := ⟨p, off + 2, none⟩) hpl).trans c2
  have d3 := ((unhide X0).bel.cell (p := ⟨p, off + 3, none⟩) hpl).trans c3
  have E0' := hide (fun wr (h : Below w.heap.size w wr) => (h.cell (p := ⟨p, off + 4, none⟩) hpl).trans e0)
  have E1' := hide (fun wr (h : Below w.heap.size w wr) => (h.cell (p := ⟨p, off + 4 + 1, none⟩) hpl).trans e1)
  have E2' := hide (fun wr (h : Below w.heap.size w wr) => (h.cell (p := ⟨p, off + 4 + 2, none⟩) hpl).trans e2)
  have E3' := hide (fun wr (h : Below w.heap.size w wr) => (h.cell (p := ⟨p, off + 4 + 3, none⟩) hpl).trans e3)
  have g4 : (k == 4) = false := beq_eq_false_iff_ne.2 (by omega)
  have OA := hide oa
  have OB := hide ob
  have ia : 0 ≤ (foldX a).n ∧ (foldX a).n ≤ 65535 ∨ (foldX a).k ≠ 1 := by
    by_cases h : (foldX a).k = 1
    · obtain ⟨m, hm, e⟩ := ok_k1 oa h; rw [e]; exact .inl hm
    · exact .inr h
  have ib : 0 ≤ (foldX b).n ∧ (foldX b).n ≤ 65535 ∨ (foldX b).k ≠ 1 := by
    by_cases h : (foldX b).k = 1
    · obtain ⟨m, hm, e⟩ := ok_k1 ob h; rw [e]; exact .inl hm
    · exact .inr h
  have EQ := hide (show foldN k (foldX a) (foldX b) = numX m by unfold foldN; rw [if_pos ⟨beq_iff_eq.1 f0, beq_iff_eq.1 f1⟩, ht])
  rw [unhide EQ]
  generalize hX : GiR _ (Up w) w = X
  have HX := hide hX
  unfold GiR Ex.cs at IA IB
  show Calls Tryd.prog 53 #[.agg #[.int .i64 k, .int .i64 0, .string ⟨#[]⟩, .slice (some ⟨p, off, none⟩) 2 cap]] w X
  generalize (foldX a) = x at *
  generalize (foldX b) = y at *
  clear hX hr hc c0 c1 c2 c3 e0 e1 e2 e3 r0 r1 iha ihb EQ xa xb oa ob
  go_enter Tryd.func53, Tryd.ntmps53
  go_wp2_with fail
  generalize (w.alloc (.cells #[.int .i64 k, .int .i64 0, .string ⟨#[]⟩, .slice (some ⟨p, off, none⟩) 2 cap] 26)).alloc (.cells #[.int .i64 0, .int .i64 0, .string ⟨#[]⟩, .slice none 0 0] 26) = W at *
  clear d0 d1 d2 d3
  refine (unhide IA).mono ?_
  rintro r w1 ⟨ca, cpa, rfl, hx, hb1⟩
  have hb2 := below_new w1 (.cells #[.int .i64 x.k, .int .i64 x.n, .string x.s, .slice ca x.l.length cpa] 26)
  have hb12 := hb1.trans (hb2.mono hb1.size)
  have X2 := hide ((unhide X0).later hb12)
  have hzW := (unhide X0).lt
  have A2 := hide (hx.low.later hb2)
  have G2 := hide (show (w1.alloc (.cells #[.int .i64 x.k, .int .i64 x.n, .string x.s, .slice ca x.l.length cpa] 26)).heap[w1.heap.size]? = some (.cells #[.int .i64 x.k, .int .i64 x.n, .string x.s, .slice ca x.l.length cpa] 26 (0, 0)) from Array.getElem?_push_size)
  have z0 := Lib.cell_of_heap (unhide X2).box 0
  have z3 := Lib.cell_of_heap (unhide X2).box 3
  have d0 := unhide E0' _ (unhide X2).bel
  have d1 := unhide E1' _ (unhide X2).bel
  have d2 := unhide E2' _ (unhide X2).bel
  have d3 := unhide E3' _ (unhide X2).bel
  have IB2 := hide (unhide IB _ (unhide X2).bel)
  have S1 := hide hb1.size
  have hz12 : w1.heap.size < (w1.alloc (.cells #[.int .i64 x.k, .int .i64 x.n, .string x.s, .slice ca x.l.length cpa] 26)).heap.size := by simp
  have HZ2 := hide hz12
  clear hx hb1 hb2 hb12 X0 IA IB E0' E1' E2' E3' hz12
  go_wp2_with fail
  generalize w1.alloc (.cells #[.int .i64 x.k, .int .i64 x.n, .string x.s, .slice ca x.l.length cpa] 26) = w2 at *
  clear d0 d1 d2 d3 z0 z3
  refine (unhide IB2).mono ?_
  rintro r w3 ⟨cb, cpb, rfl, hy, hb3⟩
  have hb4 := below_new w3 (.cells #[.int .i64 y.k, .int .i64 y.n, .string y.s, .slice cb y.l.length cpb] 26)
  have hb34 := hb3.trans (hb4.mono hb3.size)
  have X4 := hide ((unhide X2).later hb34)
  have A4 := hide ((unhide A2).later hb34)
  have B4 := hide (hy.later hb4)
  have G4 := hide (row_keep (unhide G2) hb34)
  have K4 := hide (show (w3.alloc (.cells #[.int .i64 y.k, .int .i64 y.n, .string y.s, .slice cb y.l.length cpb] 26)).heap[w3.heap.size]? = some (.cells #[.int .i64 y.k, .int .i64 y.n, .string y.s, .slice cb y.l.length cpb] 26 (0, 0)) from Array.getElem?_push_size)
  have z0 := Lib.cell_of_heap (unhide X4).box 0
  have y0 := Lib.cell_of_heap (unhide G4) 0
  have y1 := Lib.cell_of_heap (unhide G4) 1
  have u0 := Lib.cell_of_heap (unhide K4) 0
  have u1 := Lib.cell_of_heap (unhide K4) 1
  have DJ := hide (show ∀ b, (Up W b ∧ b < w1.heap.size) → ¬ Up w2 b from fun b h k => by have := unhide HZ2; have h2 : w2.heap.size ≤ b := k; omega)
  have PR := hide (show ∀ b, (Up W b ∧ b < w1.heap.size) → Ow w (Up w) b from fun b h => up_ow (Nat.le_trans hzW h.1))
  have QR := hide (show ∀ b, Up w2 b → Ow w (Up w) b from fun b h => up_ow (Nat.le_trans (unhide X2).lt h))
  have HR := hide (show ∀ b, (w3.alloc (.cells #[.int .i64 y.k, .int .i64 y.n, .string y.s, .slice cb y.l.length cpb] 26)).heap.size ≤ b → Ow w (Up w) b from fun b h => up_ow (Nat.le_trans (unhide X4).lt h))
  clear hy hb3 hb4 hb34 X2 A2 G2 IB2
  have TW := hide (twoS_any k x.n y.n hk (ia.resolve_right (fun h => h (beq_iff_eq.1 f0))) (ib.resolve_right (fun h => h (beq_iff_eq.1 f1))) (w3.alloc (.cells #[.int .i64 y.k, .int .i64 y.n, .string y.s, .slice cb y.l.length cpb] 26)))
  unfold TwoR at TW
  rw [ht] at TW
  simp only [Option.getD_some, Option.isSome_some] at TW
  go_wp2_with (first | (go_at_call 78; refine (unhide TW).mono ?_; rintro r w' ⟨hw', rfl⟩; rw [hw']; clear hw' w'))
  generalize w3.alloc (.cells #[.int .i64 y.k, .int .i64 y.n, .string y.s, .slice cb y.l.length cpb] 26) = w4 at *
  clear z0 y0 y1 u0 u1
  refine (numD m w4).mono ?_
  rintro r w5 ⟨rfl, hb5⟩
  have X5 := hide ((unhide X4).later hb5)
  have A5 := hide (PX.leaf w5 (Ow w (Up w)) 1 (m % 65536) (⟨#[]⟩ : ByteArray) none)
  clear hb5 X4 A4 B4 G4 K4 TW
  go_wp2_with (refine wpList_store_row rfl 26 _ _ rfl (w.heap.size + 1) #[.int .i64 1, .int .i64 (m % 65536), .string ⟨#[]⟩, .slice none 0 0] rfl rfl 26 _ ((unhide X5).res) szE rfl (ex_one _ _ _ _ _ _) ?_)
  refine bodyPost_ret (results_cell_row (P := Tryd.prog) rfl _ _ (w.heap.size + 1) 26 #[.int .i64 1, .int .i64 (m % 65536), .string ⟨#[]⟩, .slice none 0 0] (0, 0) _ rfl (setRow_heap _ _ _ _ _ _ ((unhide X5).res)) Tryd.underlying26 rfl szE) rfl ?_
  rw [← unhide HX]
  exact Bx.end (x := numX m) (unhide X5) (unhide A5) _
set_option maxHeartbeats 8000000 in
theorem foldS_none {d : Nat} (k : Int) (hk : 5 ≤ k ∧ k ≤ 10) (a b : Ex) (iha : FoR a) (ihb : FoR b) (oa : okF (d + 1) false (foldX a) = true) (ob : okF (d + 1) false (foldX b) = true) (f0 : ((foldX a).k == 1) = true) (f1 : ((foldX b).k == 1) = true) (g6 : (k == 6) = false) (g5 : (k == 5) = false) (ht : two11 k (foldX a).n (foldX b).n = none) : FoR ⟨k, 0, ⟨#[]⟩, [a, b]⟩ := by
  intro bb cap w hr
  rw [fold_two]
  obtain ⟨p, off, rfl, hpl, hc⟩ := hr.at (by simp)
  obtain ⟨c0, c1, c2, q0, qp0, c3, r0⟩ := hc 0 (by simp)
  obtain ⟨e0, e1, e2, q1, qp1, e3, r1⟩ := hc 1 (by simp)
  have xa : xAt (Ex.mk k 0 ⟨#[]⟩ [a, b]).l 0 = a := rfl
  have xb : xAt (Ex.mk k 0 ⟨#[]⟩ [a, b]).l 1 = b := rfl
  rw [xa] at c0 c1 c2 c3 r0
  rw [xb] at e0 e1 e2 e3 r1
  simp only [Nat.zero_mul, Nat.add_zero, Nat.one_mul] at c0 c1 c2 c3 e0 e1 e2 e3
  have X0 := hide (Bx.new w #[.int .i64 k, .int .i64 0, .string ⟨#[]⟩, .slice (some ⟨p, off, none⟩) 2 cap])
  have IA := hide (iha q0 qp0 _ (RdX.later r0 (unhide X0).bel))
  have IB := hide (fun wr (h : Below w.heap.size w wr) => ihb q1 qp1 wr (RdX.later r1 h))
  have d0 := ((unhide X0).bel.cell (p := ⟨p, off, none⟩) hpl).trans c0
  have d1 := ((unhide X0).bel.cell (p := ⟨p, off + 1, none⟩) hpl).trans c1
  have d2 := ((unhide X0).bel.cell (p := ⟨p, off + 2, none⟩) hpl).trans c2
  have d3 := ((unhide X0).bel.cell (p := ⟨p, off + 3, none⟩) hpl).trans c3
  have E0' := hide (fun wr (h : Below w.heap.size w wr) => (h.cell (p := ⟨p, off + 4, none⟩) hpl).trans e0)
  have E1' := hide (fun wr (h : Below w.heap.size w wr) => (h.cell (p := ⟨p, off + 4 + 1, none⟩) hpl).trans e1)
  have E2' := hide (fun wr (h : Below w.heap.size w wr) => (h.cell (p := ⟨p, off + 4 + 2, none⟩) hpl).trans e2)
  have E3' := hide (fun wr (h : Below w.heap.size w wr) => (h.cell (p := ⟨p, off + 4 + 3, none⟩) hpl).trans e3)
  have g4 : (k == 4) = false := beq_eq_false_iff_ne.2 (by omega)
  have OA := hide oa
  have OB := hide ob
  have ia : 0 ≤ (foldX a).n ∧ (foldX a).n ≤ 65535 ∨ (foldX a).k ≠ 1 := by
    by_cases h : (foldX a).k = 1
    · obtain ⟨m, hm, e⟩ := ok_k1 oa h; rw [e]; exact .inl hm
    · exact .inr h
  have ib : 0 ≤ (foldX b).n ∧ (foldX b).n ≤ 65535 ∨ (foldX b).k ≠ 1 := by
    by_cases h : (foldX b).k = 1
    · obtain ⟨m, hm, e⟩ := ok_k1 ob h; rw [e]; exact .inl hm
    · exact .inr h
  have EQ := hide (show foldN k (foldX a) (foldX b) = ⟨k, 0, ⟨#[]⟩, [(foldX a), (foldX b)]⟩ by unfold foldN mixX; rw [if_pos ⟨beq_iff_eq.1 f0, beq_iff_eq.1 f1⟩, ht]; simp only []; rw [if_neg (beq_eq_false_iff_ne.1 g6), if_neg (fun h => beq_eq_false_iff_ne.1 g5 h.1), if_neg (fun h => beq_eq_false_iff_ne.1 g5 h.1)]; rfl)
  rw [unhide EQ]
  generalize hX : GiR _ (Up w) w = X
  have HX := hide hX
  unfold GiR Ex.cs at IA IB
  show Calls Tryd.prog 53 #[.agg #[.int .i64 k, .int .i64 0, .string ⟨#[]⟩, .slice (some ⟨p, off, none⟩) 2 cap]] w X
  generalize (foldX a) = x at *
  generalize (foldX b) = y at *
  clear hX hr hc c0 c1 c2 c3 e0 e1 e2 e3 r0 r1 iha ihb EQ xa xb oa ob
  go_enter Tryd.func53, Tryd.ntmps53
  go_wp2_with fail
  generalize (w.alloc (.cells #[.int .i64 k, .int .i64 0, .string ⟨#[]⟩, .slice (some ⟨p, off, none⟩) 2 cap] 26)).alloc (.cells #[.int .i64 0, .int .i64 0, .string ⟨#[]⟩, .slice none 0 0] 26) = W at *
  clear d0 d1 d2 d3
  refine (unhide IA).mono ?_
  rintro r w1 ⟨ca, cpa, rfl, hx, hb1⟩
  have hb2 := below_new w1 (.cells #[.int .i64 x.k, .int .i64 x.n, .string x.s, .slice ca x.l.length cpa] 26)
  have hb12 := hb1.trans (hb2.mono hb1.size)
  have X2 := hide ((unhide X0).later hb12)
  have hzW := (unhide X0).lt
  have A2 := hide (hx.low.later hb2)
  have G2 := hide (show (w1.alloc (.cells #[.int .i64 x.k, .int .i64 x.n, .string x.s, .slice ca x.l.length cpa] 26)).heap[w1.heap.size]? = some (.cells #[.int .i64 x.k, .int .i64 x.n, .string x.s, .slice ca x.l.length cpa] 26 (0, 0)) from Array.getElem?_push_size)
  have z0 := Lib.cell_of_heap (unhide X2).box 0
  have z3 := Lib.cell_of_heap (unhide X2).box 3
  have d0 := unhide E0' _ (unhide X2).bel
  have d1 := unhide E1' _ (unhide X2).bel
  have d2 := unhide E2' _ (unhide X2).bel
  have d3 := unhide E3' _ (unhide X2).bel
  have IB2 := hide (unhide IB _ (unhide X2).bel)
  have S1 := hide hb1.size
  have hz12 : w1.heap.size < (w1.alloc (.cells #[.int .i64 x.k, .int .i64 x.n, .string x.s, .slice ca x.l.length cpa] 26)).heap.size := by simp
  have HZ2 := hide hz12
  clear hx hb1 hb2 hb12 X0 IA IB E0' E1' E2' E3' hz12
  go_wp2_with fail
  generalize w1.alloc (.cells #[.int .i64 x.k, .int .i64 x.n, .string x.s, .slice ca x.l.length cpa] 26) = w2 at *
  clear d0 d1 d2 d3 z0 z3
  refine (unhide IB2).mono ?_
  rintro r w3 ⟨cb, cpb, rfl, hy, hb3⟩
  have hb4 := below_new w3 (.cells #[.int .i64 y.k, .int .i64 y.n, .string y.s, .slice cb y.l.length cpb] 26)
  have hb34 := hb3.trans (hb4.mono hb3.size)
  have X4 := hide ((unhide X2).later hb34)
  have A4 := hide ((unhide A2).later hb34)
  have B4 := hide (hy.later hb4)
  have G4 := hide (row_keep (unhide G2) hb34)
  have K4 := hide (show (w3.alloc (.cells #[.int .i64 y.k, .int .i64 y.n, .string y.s, .slice cb y.l.length cpb] 26)).heap[w3.heap.size]? = some (.cells #[.int .i64 y.k, .int .i64 y.n, .string y.s, .slice cb y.l.length cpb] 26 (0, 0)) from Array.getElem?_push_size)
  have z0 := Lib.cell_of_heap (unhide X4).box 0
  have y0 := Lib.cell_of_heap (unhide G4) 0
  have y1 := Lib.cell_of_heap (unhide G4) 1
  have u0 := Lib.cell_of_heap (unhide K4) 0
  have u1 := Lib.cell_of_heap (unhide K4) 1
  have DJ := hide (show ∀ b, (Up W b ∧ b < w1.heap.size) → ¬ Up w2 b from fun b h k => by have := unhide HZ2; have h2 : w2.heap.size ≤ b := k; omega)
  have PR := hide (show ∀ b, (Up W b ∧ b < w1.heap.size) → Ow w (Up w) b from fun b h => up_ow (Nat.le_trans hzW h.1))
  have QR := hide (show ∀ b, Up w2 b → Ow w (Up w) b from fun b h => up_ow (Nat.le_trans (unhide X2).lt h))
  have HR := hide (show ∀ b, (w3.alloc (.cells #[.int .i64 y.k, .int .i64 y.n, .string y.s, .slice cb y.l.length cpb] 26)).heap.size ≤ b → Ow w (Up w) b from fun b h => up_ow (Nat.le_trans (unhide X4).lt h))
  clear hy hb3 hb4 hb34 X2 A2 G2 IB2
  have TW := hide (twoS_any k x.n y.n hk (ia.resolve_right (fun h => h (beq_iff_eq.1 f0))) (ib.resolve_right (fun h => h (beq_iff_eq.1 f1))) (w3.alloc (.cells #[.int .i64 y.k, .int .i64 y.n, .string y.s, .slice cb y.l.length cpb] 26)))
  unfold TwoR at TW
  rw [ht] at TW
  simp only [Option.getD_none, Option.isSome_none] at TW
  have hb5 := below_new (w3.alloc (.cells #[.int .i64 y.k, .int .i64 y.n, .string y.s, .slice cb y.l.length cpb] 26)) (.cells #[.int .i64 x.k, .int .i64 x.n, .string x.s, .slice ca x.l.length cpa, .int .i64 y.k, .int .i64 y.n, .string y.s, .slice cb y.l.length cpb] 26)
  have X5 := hide ((unhide X4).later hb5)
  have hz5 : (w3.alloc (.cells #[.int .i64 y.k, .int .i64 y.n, .string y.s, .slice cb y.l.length cpb] 26)).heap.size = w3.heap.size + 1 := by simp
  have N5' := (show PX ((w3.alloc (.cells #[.int .i64 y.k, .int .i64 y.n, .string y.s, .slice cb y.l.length cpb] 26)).alloc (.cells #[.int .i64 x.k, .int .i64 x.n, .string x.s, .slice ca x.l.length cpa, .int .i64 y.k, .int .i64 y.n, .string y.s, .slice cb y.l.length cpb] 26)) (Ow w (Up w)) ⟨k, 0, ⟨#[]⟩, [x, y]⟩ (some ⟨(w3.alloc (.cells #[.int .i64 y.k, .int .i64 y.n, .string y.s, .slice cb y.l.length cpb] 26)).heap.size, 0, none⟩) from (unhide A4).two (unhide B4) (unhide DJ) (unhide PR) (unhide QR) (unhide HR _ (Nat.le_refl _)) k 0 ⟨#[]⟩ 26)
  rw [hz5] at N5'
  have N5 := hide N5'
  clear hb5 N5' hz5
  go_wp2_with (first | (go_at_call 78; refine (unhide TW).mono ?_; rintro r w' ⟨hw', rfl⟩; rw [hw']; clear hw' w') | (refine wpList_load_row rfl 26 _ rfl w1.heap.size rfl 26 #[.int .i64 x.k, .int .i64 x.n, .string x.s, .slice ca x.l.length cpa] (0, 0) _ (unhide G4) Tryd.underlying26 rfl (by kernel_rfl) ?_) | (refine wpList_load_row rfl 26 _ rfl w3.heap.size rfl 26 #[.int .i64 y.k, .int .i64 y.n, .string y.s, .slice cb y.l.length cpb] (0, 0) _ (unhide K4) Tryd.underlying26 rfl (by kernel_rfl) ?_) | (refine wpList_store_row rfl 26 _ _ rfl (w.heap.size + 1) #[.int .i64 k, .int .i64 0, .string ⟨#[]⟩, .slice (some ⟨w3.heap.size + 1, 0, none⟩) 2 2] rfl rfl 26 _ ((unhide X5).res) szE rfl (ex_one _ _ _ _ _ _) ?_))
  refine bodyPost_ret (results_cell_row (P := Tryd.prog) rfl _ _ (w.heap.size + 1) 26 #[.int .i64 k, .int .i64 0, .string ⟨#[]⟩, .slice (some ⟨w3.heap.size + 1, 0, none⟩) 2 2] (0, 0) _ rfl (setRow_heap _ _ _ _ _ _ ((unhide X5).res)) Tryd.underlying26 rfl szE) rfl ?_
  rw [← unhide HX]
  exact Bx.end (x := ⟨k, 0, ⟨#[]⟩, [x, y]⟩) (unhide X5) (unhide N5) _
end Go.Proofs.YtkolflcjkofleaaDoor

namespace Go.Proofs.YtkolflcjkofleaaDoor
open Go.ChangeShapes Go.WideShapes Go.ChangeAt Go.RowKit
set_option linter.unusedVariables false
set_option maxRecDepth 8000
set_option linter.unusedSimpArgs false

theorem name_szF {s : ByteArray} (h : nameB s = true) : s.size ≤ 6 := by
  unfold nameB at h
  rw [Bool.and_eq_true] at h
  obtain ⟨c, r, _, _, _, hl⟩ := form_open h.1
  rw [← size_len]
  exact hl
theorem foldS_two {d : Nat} (k : Int) (hk : 5 ≤ k ∧ k ≤ 10) (a b : Ex) (iha : FoR a) (ihb : FoR b) (oa : okF (d + 1) false (foldX a) = true) (ob : okF (d + 1) false (foldX b) = true) : FoR ⟨k, 0, ⟨#[]⟩, [a, b]⟩ := by
  cases g6 : (k == 6) with
  | true =>
    cases f0 : ((foldX a).k == 1) with
    | false => exact foldS_sub0 k hk a b iha ihb oa ob f0 g6
    | true =>
      cases f1 : ((foldX b).k == 1) with
      | false => exact foldS_sub1 k hk a b iha ihb oa ob f0 f1 g6
      | true =>
        obtain ⟨m, hm⟩ := two11_some (a := (foldX a).n) (b := (foldX b).n) (k := k) (.inr (beq_iff_eq.1 g6))
        exact foldS_num k hk a b iha ihb oa ob f0 f1 m hm
  | false =>
    cases g5 : (k == 5) with
    | true =>
      cases f0 : ((foldX a).k == 1) with
      | false =>
        cases f1 : ((foldX b).k == 1) with
        | false => exact foldS_add0 k hk a b iha ihb oa ob f0 f1 g6 g5
        | true => exact foldS_add2 k hk a b iha ihb oa ob f0 f1 g6 g5
      | true =>
        cases f1 : ((foldX b).k == 1) with
        | false => exact foldS_add1 k hk a b iha ihb oa ob f0 f1 g6 g5
        | true =>
          obtain ⟨m, hm⟩ := two11_some (a := (foldX a).n) (b := (foldX b).n) (k := k) (.inl (beq_iff_eq.1 g5))
          exact foldS_num k hk a b iha ihb oa ob f0 f1 m hm
    | false =>
      cases f0 : ((foldX a).k == 1) with
      | false => exact foldS_mix0 k hk a b iha ihb oa ob f0 g6 g5
      | true =>
        cases f1 : ((foldX b).k == 1) with
        | false => exact foldS_mix1 k hk a b iha ihb oa ob f0 f1 g6 g5
        | true =>
          cases ht : two11 k (foldX a).n (foldX b).n with
          | some m => exact foldS_num k hk a b iha ihb oa ob f0 f1 m ht
          | none => exact foldS_none k hk a b iha ihb oa ob f0 f1 g6 g5 ht
theorem foldS_all : ∀ (d : Nat) (e : Ex), okF d false e = true → FoR e := by
  intro d
  induction d with
  | zero => intro e h; rw [okF] at h; cases h
  | succ d ih =>
    intro e h
    rcases ok_sev h with ⟨n, hn, rfl⟩ | ⟨s, hs, rfl⟩ | rfl | ⟨n, hn, rfl⟩ | ⟨s, hs, rfl⟩ | ⟨a, ha, rfl⟩ | ⟨k, a, b, hk, ha, hb, rfl⟩
    · exact foldS_leaf _ _ _ (by show 0 ≤ 1048576; omega)
    · exact foldS_leaf _ _ _ (by have := name_szF hs; omega)
    · exact foldS_leaf _ _ _ (by show 0 ≤ 1048576; omega)
    · exact foldS_leaf _ _ _ (by show 0 ≤ 1048576; omega)
    · exact foldS_leaf _ _ _ (by have := name_szF hs; omega)
    · have oa := fold_ok d a ha
      obtain ⟨c, rfl⟩ := ok_pos ha
      have hn : 0 ≤ (foldX a).n ∧ (foldX a).n ≤ 65535 ∨ (foldX a).k ≠ 1 := by
        by_cases h1 : (foldX a).k = 1
        · obtain ⟨m, hm, e⟩ := ok_k1 oa h1; rw [e]; exact .inl hm
        · exact .inr h1
      cases f0 : ((foldX a).k == 1) with
      | false => exact foldS_neg0 a (ih a ha) f0 hn
      | true => exact foldS_neg1 a (ih a ha) f0 hn
    · have oa := fold_ok d a ha
      have ob := fold_ok d b hb
      obtain ⟨c, rfl⟩ := ok_pos ha
      exact foldS_two k hk a b (ih a ha) (ih b hb) oa ob
/-- What Fold answers. -/
def foldA (e : Ex) : Ex := if okF 6 false e = true then foldX e else e
set_option maxHeartbeats 4000000 in
theorem foldA_yes (e : Ex) (b : Option Addr) (cap : Nat) (w : World) (hr : RdX w 0 e b) (hz : e.sz ≤ 1048576) (ho : okF 6 false e = true) : Calls Tryd.prog 16 #[.agg (e.cs b cap)] w (GiR (foldA e) (Up w) w) := by
  have EQ := hide (show foldA e = foldX e by unfold foldA; rw [if_pos ho])
  rw [unhide EQ]
  have X0 := hide (Bx.new w #[.int .i64 e.k, .int .i64 e.n, .string e.s, .slice b e.l.length cap])
  have OK := hide (okS_any e b cap _ (hr.later (unhide X0).bel) hz)
  rw [ho] at OK
  have CA := hide (fun wr (h : Below w.heap.size w wr) => foldS_all 6 e ho b cap wr (hr.later h))
  generalize hX : GiR _ (Up w) w = X
  have HX := hide hX
  unfold GiR at CA
  unfold Ex.cs at CA OK ⊢
  clear hX hr hz ho EQ
  go_enter Tryd.func16, Tryd.ntmps16
  go_wp2_with fail
  generalize (w.alloc (.cells #[.int .i64 e.k, .int .i64 e.n, .string e.s, .slice b e.l.length cap] 26)).alloc (.cells #[.int .i64 0, .int .i64 0, .string ⟨#[]⟩, .slice none 0 0] 26) = W at *
  refine (unhide OK).mono ?_
  rintro r w1 ⟨rfl, hb1⟩
  have X1 := hide ((unhide X0).later hb1)
  have C1 := hide (unhide CA w1 (unhide X1).bel)
  clear hb1 X0 OK CA
  go_wp2_with (refine wpList_load_row rfl 26 _ rfl w.heap.size rfl 26 #[.int .i64 e.k, .int .i64 e.n, .string e.s, .slice b e.l.length cap] (0, 0) _ ((unhide X1).box) Tryd.underlying26 rfl (by kernel_rfl) ?_)
  refine (unhide C1).mono ?_
  rintro r w2 ⟨c2, cp2, rfl, hx, hb2⟩
  have hz1 := (unhide X1).lt
  have X2 := hide ((unhide X1).later hb2)
  have A2 := hide (hx.mono (fun b h => up_ow (w := w) (b := b) (Nat.le_trans hz1 h)))
  clear hx hb2 X1 C1
  generalize foldX e = y at *
  go_wp2_with (refine wpList_store_row rfl 26 _ _ rfl (w.heap.size + 1) #[.int .i64 y.k, .int .i64 y.n, .string y.s, .slice c2 y.l.length cp2] rfl rfl 26 _ ((unhide X2).res) szE rfl (ex_one _ _ _ _ _ _) ?_)
  refine bodyPost_ret (results_cell_row (P := Tryd.prog) rfl _ _ (w.heap.size + 1) 26 #[.int .i64 y.k, .int .i64 y.n, .string y.s, .slice c2 y.l.length cp2] (0, 0) _ rfl (setRow_heap _ _ _ _ _ _ ((unhide X2).res)) Tryd.underlying26 rfl szE) rfl ?_
  rw [← unhide HX]
  exact (unhide X2).end (unhide A2) _
set_option maxHeartbeats 4000000 in
theorem foldA_no (e : Ex) (b : Option Addr) (cap : Nat) (w : World) (hr : RdX w 0 e b) (hz : e.sz ≤ 1048576) (ho : okF 6 false e = false) : Calls Tryd.prog 16 #[.agg (e.cs b cap)] w (GiR (foldA e) (Up w) w) := by
  have EQ := hide (show foldA e = e by unfold foldA; rw [if_neg (by rw [ho]; decide)])
  rw [unhide EQ]
  have X0 := hide (Bx.new w #[.int .i64 e.k, .int .i64 e.n, .string e.s, .slice b e.l.length cap])
  have OK := hide (okS_any e b cap _ (hr.later (unhide X0).bel) hz)
  rw [ho] at OK
  have CA := hide (fun wr (h : Below w.heap.size w wr) => copyS_any e b cap wr (hr.later h) hz)
  generalize hX : GiR _ (Up w) w = X
  have HX := hide hX
  unfold GiR at CA
  unfold Ex.cs at CA OK ⊢
  clear hX hr hz ho EQ
  go_enter Tryd.func16, Tryd.ntmps16
  go_wp2_with fail
  generalize (w.alloc (.cells #[.int .i64 e.k, .int .i64 e.n, .string e.s, .slice b e.l.length cap] 26)).alloc (.cells #[.int .i64 0, .int .i64 0, .string ⟨#[]⟩, .slice none 0 0] 26) = W at *
  refine (unhide OK).mono ?_
  rintro r w1 ⟨rfl, hb1⟩
  have X1 := hide ((unhide X0).later hb1)
  have C1 := hide (unhide CA w1 (unhide X1).bel)
  clear hb1 X0 OK CA
  go_wp2_with (refine wpList_load_row rfl 26 _ rfl w.heap.size rfl 26 #[.int .i64 e.k, .int .i64 e.n, .string e.s, .slice b e.l.length cap] (0, 0) _ ((unhide X1).box) Tryd.underlying26 rfl (by kernel_rfl) ?_)
  refine (unhide C1).mono ?_
  rintro r w2 ⟨c2, cp2, rfl, hx, hb2⟩
  have hz1 := (unhide X1).lt
  have X2 := hide ((unhide X1).later hb2)
  have A2 := hide (hx.mono (fun b h => up_ow (w := w) (b := b) (Nat.le_trans hz1 h)))
  clear hx hb2 X1 C1
  generalize e = y at *
  go_wp2_with (refine wpList_store_row rfl 26 _ _ rfl (w.heap.size + 1) #[.int .i64 y.k, .int .i64 y.n, .string y.s, .slice c2 y.l.length cp2] rfl rfl 26 _ ((unhide X2).res) szE rfl (ex_one _ _ _ _ _ _) ?_)
  refine bodyPost_ret (results_cell_row (P := Tryd.prog) rfl _ _ (w.heap.size + 1) 26 #[.int .i64 y.k, .int .i64 y.n, .string y.s, .slice c2 y.l.length cp2] (0, 0) _ rfl (setRow_heap _ _ _ _ _ _ ((unhide X2).res)) Tryd.underlying26 rfl szE) rfl ?_
  rw [← unhide HX]
  exact (unhide X2).end (unhide A2) _
theorem foldA_any (e : Ex) (b : Option Addr) (cap : Nat) (w : World) (hr : RdX w 0 e b) (hz : e.sz ≤ 1048576) : Calls Tryd.prog 16 #[.agg (e.cs b cap)] w (GiR (foldA e) (Up w) w) := by
  cases ho : okF 6 false e with
  | true => exact foldA_yes e b cap w hr hz ho
  | false => exact foldA_no e b cap w hr hz ho
/-- What is known of a term. -/
def knownA (e : Ex) : Option Int := if okF 6 false e = true ∧ (foldX e).k = 1 then some (foldX e).n else none
end Go.Proofs.YtkolflcjkofleaaDoor

namespace Go.Proofs.YtkolflcjkofleaaDoor
open Go.ChangeShapes Go.WideShapes Go.ChangeAt Go.RowKit
set_option linter.unusedVariables false
set_option maxRecDepth 8000
set_option linter.unusedSimpArgs false

/-- A number answered, or none. -/
def InR (o : Option Int) (w : World) (r : Ending) (w' : World) : Prop := r = .returned (.tuple #[.int .i64 (o.getD 0), .bool o.isSome]) ∧ Below w.heap.size w w'
set_option maxHeartbeats 4000000 in
theorem known_no (e : Ex) (b : Option Addr) (cap : Nat) (w : World) (hr : RdX w 0 e b) (hz : e.sz ≤ 1048576) (ho : okF 6 false e = false) : Calls Tryd.prog 20 #[.agg (e.cs b cap)] w (InR (knownA e) w) := by
  have EQ := hide (show knownA e = none by unfold knownA; rw [if_neg (fun h => by rw [ho] at h; exact absurd h.1 (by decide))])
  rw [unhide EQ]
  have hb0 := below_new w (.cells #[.int .i64 e.k, .int .i64 e.n, .string e.s, .slice b e.l.length cap] 26)
  have G0 := (show (w.alloc (.cells #[.int .i64 e.k, .int .i64 e.n, .string e.s, .slice b e.l.length cap] 26)).heap[w.heap.size]? = some (.cells #[.int .i64 e.k, .int .i64 e.n, .string e.s, .slice b e.l.length cap] 26 (0, 0)) from Array.getElem?_push_size)
  have FO := hide (foldA_any e b cap _ (hr.later hb0) hz)
  have OK := hide (fun wr (h : Below w.heap.size w wr) => okS_any e b cap wr (hr.later h) hz)
  rw [ho] at OK
  have B0 := hide hb0
  have R0 := hide G0
  generalize hX : InR _ w = X
  have HX := hide hX
  unfold GiR at FO
  unfold Ex.cs at FO OK ⊢
  generalize foldA e = x at *
  clear hX hr hz ho EQ hb0 G0
  go_enter Tryd.func20, Tryd.ntmps20
  go_wp2_with fail
  generalize w.alloc (.cells #[.int .i64 e.k, .int .i64 e.n, .string e.s, .slice b e.l.length cap] 26) = W at *
  refine (unhide FO).mono ?_
  rintro r w1 ⟨c1, cp1, rfl, hx, hb1⟩
  clear hx
  have B1 := (unhide B0).trans (hb1.mono (unhide B0).size)
  have R1 := row_keep (unhide R0) hb1
  have hb2 := below_new w1 (.cells #[.int .i64 x.k, .int .i64 x.n, .string x.s, .slice c1 x.l.length cp1] 26)
  have B2 := hide (B1.trans (hb2.mono B1.size))
  have R2 := hide (row_keep R1 hb2)
  have G2 := hide (show (w1.alloc (.cells #[.int .i64 x.k, .int .i64 x.n, .string x.s, .slice c1 x.l.length cp1] 26)).heap[w1.heap.size]? = some (.cells #[.int .i64 x.k, .int .i64 x.n, .string x.s, .slice c1 x.l.length cp1] 26 (0, 0)) from Array.getElem?_push_size)
  have O2 := hide (unhide OK _ (unhide B2))
  clear hb1 hb2 B1 R1 B0 R0 FO OK
  go_wp2_with (refine wpList_load_row rfl 26 _ rfl w.heap.size rfl 26 #[.int .i64 e.k, .int .i64 e.n, .string e.s, .slice b e.l.length cap] (0, 0) _ (unhide R2) Tryd.underlying26 rfl (by kernel_rfl) ?_)
  generalize w1.alloc (.cells #[.int .i64 x.k, .int .i64 x.n, .string x.s, .slice c1 x.l.length cp1] 26) = w2 at *
  generalize w1.heap.size = g1 at *
  refine (unhide O2).mono ?_
  rintro r w3 ⟨rfl, hb3⟩
  have B3 := hide ((unhide B2).trans (hb3.mono (unhide B2).size))
  have G3 := row_keep (unhide G2) hb3
  have y0 := Lib.cell_of_heap G3 0
  have y1 := Lib.cell_of_heap G3 1
  clear hb3 B2 G2 O2 R2 G3
  go_wp2
  rw [← unhide HX]
  exact ⟨rfl, unhide B3⟩
set_option maxHeartbeats 4000000 in
theorem known_y (e : Ex) (b : Option Addr) (cap : Nat) (w : World) (hr : RdX w 0 e b) (hz : e.sz ≤ 1048576) (ho : okF 6 false e = true) (f1 : ((foldA e).k == 1) = true) : Calls Tryd.prog 20 #[.agg (e.cs b cap)] w (InR (knownA e) w) := by
  have EQ := hide (show knownA e = some (foldA e).n by have e1 : foldA e = foldX e := (by unfold foldA; rw [if_pos ho]); rw [e1] at f1 ⊢; unfold knownA; rw [if_pos ⟨ho, beq_iff_eq.1 f1⟩])
  rw [unhide EQ]
  have hb0 := below_new w (.cells #[.int .i64 e.k, .int .i64 e.n, .string e.s, .slice b e.l.length cap] 26)
  have G0 := (show (w.alloc (.cells #[.int .i64 e.k, .int .i64 e.n, .string e.s, .slice b e.l.length cap] 26)).heap[w.heap.size]? = some (.cells #[.int .i64 e.k, .int .i64 e.n, .string e.s, .slice b e.l.length cap] 26 (0, 0)) from Array.getElem?_push_size)
  have FO := hide (foldA_any e b cap _ (hr.later hb0) hz)
  have OK := hide (fun wr (h : Below w.heap.size w wr) => okS_any e b cap wr (hr.later h) hz)
  rw [ho] at OK
  have B0 := hide hb0
  have R0 := hide G0
  generalize hX : InR _ w = X
  have HX := hide hX
  unfold GiR at FO
  unfold Ex.cs at FO OK ⊢
  generalize foldA e = x at *
  clear hX hr hz ho EQ hb0 G0
  go_enter Tryd.func20, Tryd.ntmps20
  go_wp2_with fail
  generalize w.alloc (.cells #[.int .i64 e.k, .int .i64 e.n, .string e.s, .slice b e.l.length cap] 26) = W at *
  refine (unhide FO).mono ?_
  rintro r w1 ⟨c1, cp1, rfl, hx, hb1⟩
  clear hx
  have B1 := (unhide B0).trans (hb1.mono (unhide B0).size)
  have R1 := row_keep (unhide R0) hb1
  have hb2 := below_new w1 (.cells #[.int .i64 x.k, .int .i64 x.n, .string x.s, .slice c1 x.l.length cp1] 26)
  have B2 := hide (B1.trans (hb2.mono B1.size))
  have R2 := hide (row_keep R1 hb2)
  have G2 := hide (show (w1.alloc (.cells #[.int .i64 x.k, .int .i64 x.n, .string x.s, .slice c1 x.l.length cp1] 26)).heap[w1.heap.size]? = some (.cells #[.int .i64 x.k, .int .i64 x.n, .string x.s, .slice c1 x.l.length cp1] 26 (0, 0)) from Array.getElem?_push_size)
  have O2 := hide (unhide OK _ (unhide B2))
  clear hb1 hb2 B1 R1 B0 R0 FO OK
  go_wp2_with (refine wpList_load_row rfl 26 _ rfl w.heap.size rfl 26 #[.int .i64 e.k, .int .i64 e.n, .string e.s, .slice b e.l.length cap] (0, 0) _ (unhide R2) Tryd.underlying26 rfl (by kernel_rfl) ?_)
  generalize w1.alloc (.cells #[.int .i64 x.k, .int .i64 x.n, .string x.s, .slice c1 x.l.length cp1] 26) = w2 at *
  generalize w1.heap.size = g1 at *
  refine (unhide O2).mono ?_
  rintro r w3 ⟨rfl, hb3⟩
  have B3 := hide ((unhide B2).trans (hb3.mono (unhide B2).size))
  have G3 := row_keep (unhide G2) hb3
  have y0 := Lib.cell_of_heap G3 0
  have y1 := Lib.cell_of_heap G3 1
  clear hb3 B2 G2 O2 R2 G3
  go_wp2
  rw [← unhide HX]
  exact ⟨rfl, unhide B3⟩
set_option maxHeartbeats 4000000 in
theorem known_n (e : Ex) (b : Option Addr) (cap : Nat) (w : World) (hr : RdX w 0 e b) (hz : e.sz ≤ 1048576) (ho : okF 6 false e = true) (f1 : ((foldA e).k == 1) = false) : Calls Tryd.prog 20 #[.agg (e.cs b cap)] w (InR (knownA e) w) := by
  have EQ := hide (show knownA e = none by have e1 : foldA e = foldX e := (by unfold foldA; rw [if_pos ho]); rw [e1] at f1; unfold knownA; rw [if_neg (fun h => beq_eq_false_iff_ne.1 f1 h.2)])
  rw [unhide EQ]
  have hb0 := below_new w (.cells #[.int .i64 e.k, .int .i64 e.n, .string e.s, .slice b e.l.length cap] 26)
  have G0 := (show (w.alloc (.cells #[.int .i64 e.k, .int .i64 e.n, .string e.s, .slice b e.l.length cap] 26)).heap[w.heap.size]? = some (.cells #[.int .i64 e.k, .int .i64 e.n, .string e.s, .slice b e.l.length cap] 26 (0, 0)) from Array.getElem?_push_size)
  have FO := hide (foldA_any e b cap _ (hr.later hb0) hz)
  have OK := hide (fun wr (h : Below w.heap.size w wr) => okS_any e b cap wr (hr.later h) hz)
  rw [ho] at OK
  have B0 := hide hb0
  have R0 := hide G0
  generalize hX : InR _ w = X
  have HX := hide hX
  unfold GiR at FO
  unfold Ex.cs at FO OK ⊢
  generalize foldA e = x at *
  clear hX hr hz ho EQ hb0 G0
  go_enter Tryd.func20, Tryd.ntmps20
  go_wp2_with fail
  generalize w.alloc (.cells #[.int .i64 e.k, .int .i64 e.n, .string e.s, .slice b e.l.length cap] 26) = W at *
  refine (unhide FO).mono ?_
  rintro r w1 ⟨c1, cp1, rfl, hx, hb1⟩
  clear hx
  have B1 := (unhide B0).trans (hb1.mono (unhide B0).size)
  have R1 := row_keep (unhide R0) hb1
  have hb2 := below_new w1 (.cells #[.int .i64 x.k, .int .i64 x.n, .string x.s, .slice c1 x.l.length cp1] 26)
  have B2 := hide (B1.trans (hb2.mono B1.size))
  have R2 := hide (row_keep R1 hb2)
  have G2 := hide (show (w1.alloc (.cells #[.int .i64 x.k, .int .i64 x.n, .string x.s, .slice c1 x.l.length cp1] 26)).heap[w1.heap.size]? = some (.cells #[.int .i64 x.k, .int .i64 x.n, .string x.s, .slice c1 x.l.length cp1] 26 (0, 0)) from Array.getElem?_push_size)
  have O2 := hide (unhide OK _ (unhide B2))
  clear hb1 hb2 B1 R1 B0 R0 FO OK
  go_wp2_with (refine wpList_load_row rfl 26 _ rfl w.heap.size rfl 26 #[.int .i64 e.k, .int .i64 e.n, .string e.s, .slice b e.l.length cap] (0, 0) _ (unhide R2) Tryd.underlying26 rfl (by kernel_rfl) ?_)
  generalize w1.alloc (.cells #[.int .i64 x.k, .int .i64 x.n, .string x.s, .slice c1 x.l.length cp1] 26) = w2 at *
  generalize w1.heap.size = g1 at *
  refine (unhide O2).mono ?_
  rintro r w3 ⟨rfl, hb3⟩
  have B3 := hide ((unhide B2).trans (hb3.mono (unhide B2).size))
  have G3 := row_keep (unhide G2) hb3
  have y0 := Lib.cell_of_heap G3 0
  have y1 := Lib.cell_of_heap G3 1
  clear hb3 B2 G2 O2 R2 G3
  go_wp2
  rw [← unhide HX]
  exact ⟨rfl, unhide B3⟩
theorem knownS_any (e : Ex) (b : Option Addr) (cap : Nat) (w : World) (hr : RdX w 0 e b) (hz : e.sz ≤ 1048576) : Calls Tryd.prog 20 #[.agg (e.cs b cap)] w (InR (knownA e) w) := by
  cases ho : okF 6 false e with
  | false => exact known_no e b cap w hr hz ho
  | true =>
    cases f1 : ((foldA e).k == 1) with
    | false => exact known_n e b cap w hr hz ho f1
    | true => exact known_y e b cap w hr hz ho f1
end Go.Proofs.YtkolflcjkofleaaDoor

namespace Go.Proofs.YtkolflcjkofleaaDoor
open Go.ChangeShapes Go.WideShapes Go.ChangeAt Go.RowKit
set_option linter.unusedVariables false
set_option maxRecDepth 8000

set_option maxHeartbeats 400000 in
theorem at_anyF (L : List ByteArray) (s : ByteArray) (g n cap : Nat) (w : World) (hn : L.length = n) (hm : n ≤ 1100000) (hr : RdS w g L) : Calls Tryd.prog 81 #[.slice (some ⟨g, 0, none⟩) n cap, .string s] w fun e w' => e = .returned (.int .i64 (atV L s)) ∧ w' = w := by
  obtain ⟨v, hv⟩ : ∃ v, atV L s = v := ⟨_, rfl⟩
  have HIT := hide (fun k (hk : k < n) hm he => (atV_hit (L := L) (s := s) (k := k) (by omega) hm he).symm.trans hv)
  have MISS := hide (fun (h : ∀ k, k < n → eqS (L.getD k E0) s = false) => (atV_no (L := L) (s := s) (hasS_miss (fun k hk => h k (by omega)))).symm.trans hv)
  have RD := hide (fun j (hj : j < n) => hr j (by omega))
  rw [hv]
  clear hv hr
  go_enter Tryd.func81, Tryd.ntmps81
  go_wp2
  go_loop [5] (fun i => ∃ k : Nat, i = .int .i64 k ∧ k ≤ n ∧ Hid (∀ j, j < k → eqS (L.getD j E0) s = false)) (fun i => n - (intOf i).toNat)
  case atStart => exact ⟨0, rfl, by omega, fun j hj => by omega⟩
  case round =>
    obtain ⟨k, rfl, hk, hd⟩ := hrel
    by_cases hlt : k < n
    · have hc := unhide RD k hlt
      have H1 := hide (unhide HIT k hlt hd.out)
      have H2 := hide (show eqS (L.getD k E0) s = false → ∀ j, j < k + 1 → eqS (L.getD j E0) s = false from fun h j hj => by
        by_cases e : j = k
        · subst e; exact h
        · exact hd.out j (by omega))
      generalize L.getD k E0 = T at hc H1 H2
      clear hd
      cases hq : (T.toList == s.toList)
      · have E := hide (unhide H2 hq)
        clear H1 H2
        go_wp2
        go_round
        case rel => exact ⟨k + 1, by go_num, by omega, unhide E⟩
        case measure => simp [intOf]; omega
      · have E := hide (unhide H1 hq)
        clear H1 H2
        go_wp2
        go_ret
        exact ⟨by rw [← unhide E]; rfl, rfl⟩
    · have E := hide (unhide MISS (fun j hj => hd.out j (by omega)))
      clear hd
      go_wp2
      go_ret
      exact ⟨by rw [← unhide E]; rfl, rfl⟩
end Go.Proofs.YtkolflcjkofleaaDoor
