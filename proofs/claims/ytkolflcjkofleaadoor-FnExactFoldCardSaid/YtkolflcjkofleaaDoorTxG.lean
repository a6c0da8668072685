/- Contracts over this seat's translation, laid together; conditions stand as hypotheses of each. -/
import Derived.Test.YtkolflcjkofleaaDoorTxC
import Derived.Test.YtkolflcjkofleaaDoorTxE
import Derived.Test.YtkolflcjkofleaaDoorTxF

namespace Go.Proofs.YtkolflcjkofleaaDoor
open Go.ChangeShapes Go.WideShapes Go.ChangeAt Go.RowKit
set_option linter.unusedVariables false
set_option maxRecDepth 8000
set_option linter.unusedSimpArgs false

def Up (w : World) (b : Nat) : Prop := w.heap.size ≤ b
def FoR (e : Ex) : Prop := ∀ (b : Option Addr) (cap : Nat) (w : World), RdX w 0 e b → Calls Tryd.prog 53 #[.agg (e.cs b cap)] w (GiR (foldX e) (Up w) w)
theorem up_ow {w : World} {b : Nat} (h : w.heap.size + 2 ≤ b) : Ow w (Up w) b := ⟨Nat.le_trans (Nat.le_add_right _ _) h, .inr h⟩
set_option maxHeartbeats 4000000 in
theorem foldS_leaf (k n : Int) (s : ByteArray) (hs : s.size ≤ 1048576) : FoR ⟨k, n, s, []⟩ := by
  intro b cap w hr
  rw [fold_leaf]
  have X0 := hide (Bx.new w #[.int .i64 k, .int .i64 n, .string s, .slice b 0 cap])
  have CP := hide (copyS_any ⟨k, n, s, []⟩ b cap _ (hr.later (unhide X0).bel) (by rw [sz_leaf]; exact hs))
  generalize hX : GiR ⟨k, n, s, []⟩ (Up w) w = X
  have HX := hide hX
  unfold GiR Ex.cs at CP
  show Calls Tryd.prog 53 #[.agg #[.int .i64 k, .int .i64 n, .string s, .slice b 0 cap]] w X
  clear hX hr
  go_enter Tryd.func53, Tryd.ntmps53
  go_wp2_with fail
  generalize (w.alloc (.cells #[.int .i64 k, .int .i64 n, .string s, .slice b 0 cap] 26)).alloc (.cells #[.int .i64 0, .int .i64 0, .string ⟨#[]⟩, .slice none 0 0] 26) = W at *
  refine (unhide CP).mono ?_
  rintro r w1 ⟨c, cp, rfl, hx, hb1⟩
  have X1 := hide ((unhide X0).later hb1)
  have A1 := hide (PX.leaf w1 (Ow w (Up w)) k n s c)
  clear hx hb1 X0 CP
  go_wp2_with (refine wpList_store_row rfl 26 _ _ rfl (w.heap.size + 1) #[.int .i64 k, .int .i64 n, .string s, .slice c 0 cp] rfl rfl 26 _ ((unhide X1).res) szE rfl (ex_one _ _ _ _ _ _) ?_)
  refine bodyPost_ret (results_cell_row (P := Tryd.prog) rfl _ _ (w.heap.size + 1) 26 #[.int .i64 k, .int .i64 n, .string s, .slice c 0 cp] (0, 0) _ rfl (setRow_heap _ _ _ _ _ _ ((unhide X1).res)) Tryd.underlying26 rfl szE) rfl ?_
  rw [← unhide HX]
  exact Bx.end (x := ⟨k, n, s, []⟩) (unhide X1) (unhide A1) _
theorem RdX.at {w : World} {e : Ex} {a : Option Addr} (h : RdX w 0 e a) (hl : e.l ≠ []) : ∃ p off, a = some ⟨p, off, none⟩ ∧ p < w.heap.size ∧ ∀ i, i < e.l.length → OneX w 0 p (off + i * 4) (xAt e.l i) := by
  rcases (RdX_eq _ _ _ _).1 h with h0 | ⟨p, off, ha, _, hp, hc⟩
  · exact absurd h0 hl
  · exact ⟨p, off, ha, hp, hc⟩
set_option maxHeartbeats 4000000 in
theorem foldS_neg1 (a : Ex) (ih : FoR a) (hk : ((foldX a).k == 1) = true) (hn : 0 ≤ (foldX a).n ∧ (foldX a).n ≤ 65535 ∨ (foldX a).k ≠ 1) : FoR ⟨4, 0, ⟨#[]⟩, [a]⟩ := by
  intro b cap w hr
  rw [fold_neg]
  obtain ⟨p, off, rfl, hpl, hc⟩ := hr.at (by simp)
  obtain ⟨c0, c1, c2, q0, qp0, c3, r0⟩ := hc 0 (by simp)
  have X0 := hide (Bx.new w #[.int .i64 4, .int .i64 0, .string ⟨#[]⟩, .slice (some ⟨p, off, none⟩) 1 cap])
  have IH := hide (ih q0 qp0 _ (RdX.later r0 (unhide X0).bel))
  have d0 := ((unhide X0).bel.cell (p := ⟨p, off + 0 * 4, none⟩) hpl).trans c0
  have d1 := ((unhide X0).bel.cell (p := ⟨p, off + 0 * 4 + 1, none⟩) hpl).trans c1
  have d2 := ((unhide X0).bel.cell (p := ⟨p, off + 0 * 4 + 2, none⟩) hpl).trans c2
  have d3 := ((unhide X0).bel.cell (p := ⟨p, off + 0 * 4 + 3, none⟩) hpl).trans c3
  simp only [Nat.zero_mul, Nat.add_zero] at d0 d1 d2 d3
  have EQ := hide (show negX (foldX a) = numX (-(foldX a).n) by unfold negX; rw [if_pos (beq_iff_eq.1 hk)])
  rw [unhide EQ]
  have xa : xAt (Ex.mk 4 0 ⟨#[]⟩ [a]).l 0 = a := rfl
  rw [xa] at d0 d1 d2 d3
  have hn2 : 0 ≤ (foldX a).n ∧ (foldX a).n ≤ 65535 := hn.resolve_right (fun h => h (beq_iff_eq.1 hk))
  generalize hX : GiR _ (Up w) w = X
  have HX := hide hX
  unfold GiR Ex.cs at IH
  show Calls Tryd.prog 53 #[.agg #[.int .i64 4, .int .i64 0, .string ⟨#[]⟩, .slice (some ⟨p, off, none⟩) 1 cap]] w X
  generalize foldX a = x at *
  clear hX hr hc c0 c1 c2 c3 r0 ih EQ hn xa
  go_enter Tryd.func53, Tryd.ntmps53
  go_wp2_with fail
  generalize (w.alloc (.cells #[.int .i64 4, .int .i64 0, .string ⟨#[]⟩, .slice (some ⟨p, off, none⟩) 1 cap] 26)).alloc (.cells #[.int .i64 0, .int .i64 0, .string ⟨#[]⟩, .slice none 0 0] 26) = W at *
  clear d0 d1 d2 d3
  refine (unhide IH).mono ?_
  rintro r w1 ⟨ca, cpa, rfl, hx, hb1⟩
  have hb2 := below_new w1 (.cells #[.int .i64 x.k, .int .i64 x.n, .string x.s, .slice ca x.l.length cpa] 26)
  have hb12 := hb1.trans (hb2.mono hb1.size)
  have X2 := hide ((unhide X0).later hb12)
  have hzW := (unhide X0).lt
  have A1 := (show PX w1 (Ow w (Up w)) x ca from hx.mono (fun b (h : W.heap.size ≤ b) => up_ow (Nat.le_trans hzW h)))
  have A2 := hide (A1.later hb2)
  have G2 := hide (show (w1.alloc (.cells #[.int .i64 x.k, .int .i64 x.n, .string x.s, .slice ca x.l.length cpa] 26)).heap[w1.heap.size]? = some (.cells #[.int .i64 x.k, .int .i64 x.n, .string x.s, .slice ca x.l.length cpa] 26 (0, 0)) from Array.getElem?_push_size)
  have y0 := Lib.cell_of_heap (unhide G2) 0
  have y1 := Lib.cell_of_heap (unhide G2) 1
  have z0 := Lib.cell_of_heap (unhide X2).box 0
  clear hx hb1 hb2 hb12 A1 X0 IH
  go_wp2_with fail
  generalize w1.alloc (.cells #[.int .i64 x.k, .int .i64 x.n, .string x.s, .slice ca x.l.length cpa] 26) = w2 at *
  clear y0 y1 z0
  refine (numD (-x.n) w2).mono ?_
  rintro r w3 ⟨rfl, hb3⟩
  have X3 := hide ((unhide X2).later hb3)
  have A3 := hide (PX.leaf w3 (Ow w (Up w)) 1 (-x.n % 65536) (⟨#[]⟩ : ByteArray) none)
  clear hb3 X2 A2 G2
  go_wp2_with (refine wpList_store_row rfl 26 _ _ rfl (w.heap.size + 1) #[.int .i64 1, .int .i64 (-x.n % 65536), .string ⟨#[]⟩, .slice none 0 0] rfl rfl 26 _ ((unhide X3).res) szE rfl (ex_one _ _ _ _ _ _) ?_)
  refine bodyPost_ret (results_cell_row (P := Tryd.prog) rfl _ _ (w.heap.size + 1) 26 #[.int .i64 1, .int .i64 (-x.n % 65536), .string ⟨#[]⟩, .slice none 0 0] (0, 0) _ rfl (setRow_heap _ _ _ _ _ _ ((unhide X3).res)) Tryd.underlying26 rfl szE) rfl ?_
  rw [← unhide HX]
  exact Bx.end (x := numX (-x.n)) (unhide X3) (unhide A3) _
set_option maxHeartbeats 4000000 in
theorem foldS_neg0 (a : Ex) (ih : FoR a) (hk : ((foldX a).k == 1) = false) (hn : 0 ≤ (foldX a).n ∧ (foldX a).n ≤ 65535 ∨ (foldX a).k ≠ 1) : FoR ⟨4, 0, ⟨#[]⟩, [a]⟩ := by
  intro b cap w hr
  rw [fold_neg]
  obtain ⟨p, off, rfl, hpl, hc⟩ := hr.at (by simp)
  obtain ⟨c0, c1, c2, q0, qp0, c3, r0⟩ := hc 0 (by simp)
  have X0 := hide (Bx.new w #[.int .i64 4, .int .i64 0, .string ⟨#[]⟩, .slice (some ⟨p, off, none⟩) 1 cap])
  have IH := hide (ih q0 qp0 _ (RdX.later r0 (unhide X0).bel))
  have d0 := ((unhide X0).bel.cell (p := ⟨p, off + 0 * 4, none⟩) hpl).trans c0
  have d1 := ((unhide X0).bel.cell (p := ⟨p, off + 0 * 4 + 1, none⟩) hpl).trans c1
  have d2 := ((unhide X0).bel.cell (p := ⟨p, off + 0 * 4 + 2, none⟩) hpl).trans c2
  have d3 := ((unhide X0).bel.cell (p := ⟨p, off + 0 * 4 + 3, none⟩) hpl).trans c3
  simp only [Nat.zero_mul, Nat.add_zero] at d0 d1 d2 d3
  have EQ := hide (show negX (foldX a) = ⟨4, 0, ⟨#[]⟩, [foldX a]⟩ by unfold negX; rw [if_neg (beq_eq_false_iff_ne.1 hk)]; rfl)
  rw [unhide EQ]
  have xa : xAt (Ex.mk 4 0 ⟨#[]⟩ [a]).l 0 = a := rfl
  rw [xa] at d0 d1 d2 d3
  have hn2 : True := trivial
  generalize hX : GiR _ (Up w) w = X
  have HX := hide hX
  unfold GiR Ex.cs at IH
  show Calls Tryd.prog 53 #[.agg #[.int .i64 4, .int .i64 0, .string ⟨#[]⟩, .slice (some ⟨p, off, none⟩) 1 cap]] w X
  generalize foldX a = x at *
  clear hX hr hc c0 c1 c2 c3 r0 ih EQ hn xa
  go_enter Tryd.func53, Tryd.ntmps53
  go_wp2_with fail
  generalize (w.alloc (.cells #[.int .i64 4, .int .i64 0, .string ⟨#[]⟩, .slice (some ⟨p, off, none⟩) 1 cap] 26)).alloc (.cells #[.int .i64 0, .int .i64 0, .string ⟨#[]⟩, .slice none 0 0] 26) = W at *
  clear d0 d1 d2 d3
  refine (unhide IH).mono ?_
  rintro r w1 ⟨ca, cpa, rfl, hx, hb1⟩
  have hb2 := below_new w1 (.cells #[.int .i64 x.k, .int .i64 x.n, .string x.s, .slice ca x.l.length cpa] 26)
  have hb12 := hb1.trans (hb2.mono hb1.size)
  have X2 := hide ((unhide X0).later hb12)
  have hzW := (unhide X0).lt
  have A1 := (show PX w1 (Ow w (Up w)) x ca from hx.mono (fun b (h : W.heap.size ≤ b) => up_ow (Nat.le_trans hzW h)))
  have A2 := hide (A1.later hb2)
  have G2 := hide (show (w1.alloc (.cells #[.int .i64 x.k, .int .i64 x.n, .string x.s, .slice ca x.l.length cpa] 26)).heap[w1.heap.size]? = some (.cells #[.int .i64 x.k, .int .i64 x.n, .string x.s, .slice ca x.l.length cpa] 26 (0, 0)) from Array.getElem?_push_size)
  have y0 := Lib.cell_of_heap (unhide G2) 0
  have y1 := Lib.cell_of_heap (unhide G2) 1
  have z0 := Lib.cell_of_heap (unhide X2).box 0
  clear hx hb1 hb2 hb12 A1 X0 IH
  have hb3 := below_new (w1.alloc (.cells #[.int .i64 x.k, .int .i64 x.n, .string x.s, .slice ca x.l.length cpa] 26)) (.cells #[.int .i64 x.k, .int .i64 x.n, .string x.s, .slice ca x.l.length cpa] 26)
  have X3 := hide ((unhide X2).later hb3)
  have hz3 : (w1.alloc (.cells #[.int .i64 x.k, .int .i64 x.n, .string x.s, .slice ca x.l.length cpa] 26)).heap.size = w1.heap.size + 1 := by simp
  have A3' := (show PX ((w1.alloc (.cells #[.int .i64 x.k, .int .i64 x.n, .string x.s, .slice ca x.l.length cpa] 26)).alloc (.cells #[.int .i64 x.k, .int .i64 x.n, .string x.s, .slice ca x.l.length cpa] 26)) (Ow w (Up w)) ⟨4, 0, ⟨#[]⟩, [x]⟩ (some ⟨(w1.alloc (.cells #[.int .i64 x.k, .int .i64 x.n, .string x.s, .slice ca x.l.length cpa] 26)).heap.size, 0, none⟩) from (unhide A2).one (up_ow (unhide X2).lt) 4 0 ⟨#[]⟩ 26)
  rw [hz3] at A3'
  have A3 := hide A3'
  clear hb3 hz3 A3'
  go_wp2_with (first | (refine wpList_load_row rfl 26 _ rfl w1.heap.size rfl 26 #[.int .i64 x.k, .int .i64 x.n, .string x.s, .slice ca x.l.length cpa] (0, 0) _ (unhide G2) Tryd.underlying26 rfl (by kernel_rfl) ?_) | (refine wpList_store_row rfl 26 _ _ rfl (w.heap.size + 1) #[.int .i64 4, .int .i64 0, .string ⟨#[]⟩, .slice (some ⟨w1.heap.size + 1, 0, none⟩) 1 1] rfl rfl 26 _ ((unhide X3).res) szE rfl (ex_one _ _ _ _ _ _) ?_))
  refine bodyPost_ret (results_cell_row (P := Tryd.prog) rfl _ _ (w.heap.size + 1) 26 #[.int .i64 4, .int .i64 0, .string ⟨#[]⟩, .slice (some ⟨w1.heap.size + 1, 0, none⟩) 1 1] (0, 0) _ rfl (setRow_heap _ _ _ _ _ _ ((unhide X3).res)) Tryd.underlying26 rfl szE) rfl ?_
  rw [← unhide HX]
  exact Bx.end (x := ⟨4, 0, ⟨#[]⟩, [x]⟩) (unhide X3) (unhide A3) _
end Go.Proofs.YtkolflcjkofleaaDoor

namespace Go.Proofs.YtkolflcjkofleaaDoor
open Go.ChangeShapes Go.WideShapes Go.ChangeAt Go.RowKit
set_option linter.unusedVariables false
set_option maxRecDepth 8000
set_option linter.unusedSimpArgs false

set_option maxHeartbeats 8000000 in
theorem foldS_sub0 {d : Nat} (k : Int) (hk : 5 ≤ k ∧ k ≤ 10) (a b : Ex) (iha : FoR a) (ihb : FoR b) (oa : okF (d + 1) false (foldX a) = true) (ob : okF (d + 1) false (foldX b) = true) (f0 : ((foldX a).k == 1) = false) (g6 : (k == 6) = true) : FoR ⟨k, 0, ⟨#[]⟩, [a, b]⟩ := by
  intro bb cap w hr
  rw [fold_two]
  obtain ⟨p, off, rfl, hpl, hc⟩ := hr.at (by simp)
  obtain ⟨c0, c1, c2, q0, qp0, c3, r0⟩ := hc 0 (by simp)
  obtain ⟨e0, e1, e2, q1, qp1, e3, r1⟩ := hc 1 (by simp)
  have xa : xAt (Ex.mk k 0 ⟨#[]⟩ [a, b]).l 0 = a := rfl
  have xb : xAt (Ex.mk k 0 ⟨#[]⟩ [a, b]).l 1 = b := rfl
  rw [xa] at c0 c1 c2 c3 r0
  rw [xb] at e0 e1 e2 e3 r1
  simp only [Nat.zero_mul, Nat.add_zero, Nat.one_mul] at c0 c1 c2 c3 e0 e1 e2 e3
  have X0 := hide (Bx.new w #[.int .i64 k, .int .i64 0, .string ⟨#[]⟩, .slice (some ⟨p, off, none⟩) 2 cap])
  have IA := hide (iha q0 qp0 _ (RdX.later r0 (unhide X0).bel))
  have IB := hide (fun wr (h : Below w.heap.size w wr) => ihb q1 qp1 wr (RdX.later r1 h))
  have d0 := ((unhide X0).bel.cell (p := ⟨p, off, none⟩) hpl).trans c0
  have d1 := ((unhide X0).bel.cell (p := ⟨p, off + 1, none⟩) hpl).trans c1
  have d2 := ((unhide X0).bel.cell (p := ⟨p, off + 2, none⟩) hpl).trans c2
  have d3 := ((unhide X0).bel.cell (p := ⟨p, off + 3, none⟩) hpl).trans c3
  have E0' := hide (fun wr (h : Below w.heap.size w wr) => (h.cell (p := ⟨p, off + 4, none⟩) hpl).trans e0)
  have E1' := hide (fun wr (h : Below w.heap.size w wr) => (h.cell (p := ⟨p, off + 4 + 1, none⟩) hpl).trans e1)
  have E2' := hide (fun wr (h : Below w.heap.size w wr) => (h.cell (p := ⟨p, off + 4 + 2, none⟩) hpl).trans e2)
  have E3' := hide (fun wr (h : Below w.heap.size w wr) => (h.cell (p := ⟨p, off + 4 + 3, none⟩) hpl).trans e3)
  have g4 : (k == 4) = false := beq_eq_false_iff_ne.2 (by omega)
  have OA := hide oa
  have OB := hide ob
  have ia : 0 ≤ (foldX a).n ∧ (foldX a).n ≤ 65535 ∨ (foldX a).k ≠ 1 := by
    by_cases h : (foldX a).k = 1
    · obtain ⟨m, hm, e⟩ := ok_k1 oa h; rw [e]; exact .inl hm
    · exact .inr h
  have ib : 0 ≤ (foldX b).n ∧ (foldX b).n ≤ 65535 ∨ (foldX b).k ≠ 1 := by
    by_cases h : (foldX b).k = 1
    · obtain ⟨m, hm, e⟩ := ok_k1 ob h; rw [e]; exact .inl hm
    · exact .inr h
  have EQ := hide (show foldN k (foldX a) (foldX b) = subX (foldX a) (foldX b) by unfold foldN mixX; rw [if_neg (fun h => by have := beq_eq_false_iff_ne.1 f0; exact this h.1), if_pos (beq_iff_eq.1 g6)])
  rw [unhide EQ]
  generalize hX : GiR _ (Up w) w = X
  have HX := hide hX
  unfold GiR Ex.cs at IA IB
  show Calls Tryd.prog 53 #[.agg #[.int .i64 k, .int .i64 0, .string ⟨#[]⟩, .slice (some ⟨p, off, none⟩) 2 cap]] w X
  generalize (foldX a) = x at *
  generalize (foldX b) = y at *
  clear hX hr hc c0 c1 c2 c3 e0 e1 e2 e3 r0 r1 iha ihb EQ xa xb oa ob
  go_enter Tryd.func53, Tryd.ntmps53
  go_wp2_with fail
  generalize (w.alloc (.cells #[.int .i64 k, .int .i64 0, .string ⟨#[]⟩, .slice (some ⟨p, off, none⟩) 2 cap] 26)).alloc (.cells #[.int .i64 0, .int .i64 0, .string ⟨#[]⟩, .slice none 0 0] 26) = W at *
  clear d0 d1 d2 d3
  refine (unhide IA).mono ?_
  rintro r w1 ⟨ca, cpa, rfl, hx, hb1⟩
  have hb2 := below_new w1 (.cells #[.int .i64 x.k, .int .i64 x.n, .string x.s, .slice ca x.l.length cpa] 26)
  have hb12 := hb1.trans (hb2.mono hb1.size)
  have X2 := hide ((unhide X0).later hb12)
  have hzW := (unhide X0).lt
  have A2 := hide (hx.low.later hb2)
  have G2 := hide (show (w1.alloc (.cells #[.int .i64 x.k, .int .i64 x.n, .string x.s, .slice ca x.l.length cpa] 26)).heap[w1.heap.size]? = some (.cells #[.int .i64 x.k, .int .i64 x.n, .string x.s, .slice ca x.l.length cpa] 26 (0, 0)) from Array.getElem?_push_size)
  have z0 := Lib.cell_of_heap (unhide X2).box 0
  have z3 := Lib.cell_of_heap (unhide X2).box 3
  have d0 := unhide E0' _ (unhide X2).bel
  have d1 := unhide E1' _ (unhide X2).bel
  have d2 := unhide E2' _ (unhide X2).bel
  have d3 := unhide E3' _ (unhide X2).bel
  have IB2 := hide (unhide IB _ (unhide X2).bel)
  have S1 := hide hb1.size
  have hz12 : w1.heap.size < (w1.alloc (.cells #[.int .i64 x.k, .int .i64 x.n, .string x.s, .slice ca x.l.length cpa] 26)).heap.size := by simp
  have HZ2 := hide hz12
  clear hx hb1 hb2 hb12 X0 IA IB E0' E1' E2' E3' hz12
  go_wp2_with fail
  generalize w1.alloc (.cells #[.int .i64 x.k, .int .i64 x.n, .string x.s, .slice ca x.l.length cpa] 26) = w2 at *
  clear d0 d1 d2 d3 z0 z3
  refine (unhide IB2).mono ?_
  rintro r w3 ⟨cb, cpb, rfl, hy, hb3⟩
  have hb4 := below_new w3 (.cells #[.int .i64 y.k, .int .i64 y.n, .string y.s, .slice cb y.l.length cpb] 26)
  have hb34 := hb3.trans (hb4.mono hb3.size)
  have X4 := hide ((unhide X2).later hb34)
  have A4 := hide ((unhide A2).later hb34)
  have B4 := hide (hy.later hb4)
  have G4 := hide (row_keep (unhide G2) hb34)
  have K4 := hide (show (w3.alloc (.cells #[.int .i64 y.k, .int .i64 y.n, .string y.s, .slice cb y.l.length cpb] 26)).heap[w3.heap.size]? = some (.cells #[.int .i64 y.k, .int .i64 y.n, .string y.s, .slice cb y.l.length cpb] 26 (0, 0)) from Array.getElem?_push_size)
  have z0 := Lib.cell_of_heap (unhide X4).box 0
  have y0 := Lib.cell_of_heap (unhide G4) 0
  have y1 := Lib.cell_of_heap (unhide G4) 1
  have u0 := Lib.cell_of_heap (unhide K4) 0
  have u1 := Lib.cell_of_heap (unhide K4) 1
  have DJ := hide (show ∀ b, (Up W b ∧ b < w1.heap.size) → ¬ Up w2 b from fun b h k => by have := unhide HZ2; have h2 : w2.heap.size ≤ b := k; omega)
  have PR := hide (show ∀ b, (Up W b ∧ b < w1.heap.size) → Ow w (Up w) b from fun b h => up_ow (Nat.le_trans hzW h.1))
  have QR := hide (show ∀ b, Up w2 b → Ow w (Up w) b from fun b h => up_ow (Nat.le_trans (unhide X2).lt h))
  have HR := hide (show ∀ b, (w3.alloc (.cells #[.int .i64 y.k, .int .i64 y.n, .string y.s, .slice cb y.l.length cpb] 26)).heap.size ≤ b → Ow w (Up w) b from fun b h => up_ow (Nat.le_trans (unhide X4).lt h))
  clear hy hb3 hb4 hb34 X2 A2 G2 IB2
  have CL := hide (subS_any x y (unhide OA) (unhide OB) ca cb cpa cpb _ _ (Ow w (Up w)) (w3.alloc (.cells #[.int .i64 y.k, .int .i64 y.n, .string y.s, .slice cb y.l.length cpb] 26)) (unhide A4) (unhide B4) (unhide DJ) (unhide PR) (unhide QR) (unhide HR))
  unfold GiR Ex.cs at CL
  go_wp2_with (first | (refine wpList_load_row rfl 26 _ rfl w1.heap.size rfl 26 #[.int .i64 x.k, .int .i64 x.n, .string x.s, .slice ca x.l.length cpa] (0, 0) _ (unhide G4) Tryd.underlying26 rfl (by kernel_rfl) ?_) | (refine wpList_load_row rfl 26 _ rfl w3.heap.size rfl 26 #[.int .i64 y.k, .int .i64 y.n, .string y.s, .slice cb y.l.length cpb] (0, 0) _ (unhide K4) Tryd.underlying26 rfl (by kernel_rfl) ?_))
  generalize w3.alloc (.cells #[.int .i64 y.k, .int .i64 y.n, .string y.s, .slice cb y.l.length cpb] 26) = w4 at *
  clear z0 y0 y1 u0 u1
  refine (unhide CL).mono ?_
  rintro r w5 ⟨c5, cp5, rfl, hx5, hb5⟩
  have X5 := hide ((unhide X4).later hb5)
  have A5 := hide hx5
  clear hx5 hb5 X4 A4 B4 G4 K4 CL
  generalize subX x y = z at *
  go_wp2_with (refine wpList_store_row rfl 26 _ _ rfl (w.heap.size + 1) #[.int .i64 z.k, .int .i64 z.n, .string z.s, .slice c5 z.l.length cp5] rfl rfl 26 _ ((unhide X5).res) szE rfl (ex_one _ _ _ _ _ _) ?_)
  refine bodyPost_ret (results_cell_row (P := Tryd.prog) rfl _ _ (w.heap.size + 1) 26 #[.int .i64 z.k, .int .i64 z.n, .string z.s, .slice c5 z.l.length cp5] (0, 0) _ rfl (setRow_heap _ _ _ _ _ _ ((unhide X5).res)) Tryd.underlying26 rfl szE) rfl ?_
  rw [← unhide HX]
  exact (unhide X5).end (unhide A5) _
set_option maxHeartbeats 8000000 in
theorem foldS_mix0 {d : Nat} (k : Int) (hk : 5 ≤ k ∧ k ≤ 10) (a b : Ex) (iha : FoR a) (ihb : FoR b) (oa : okF (d + 1) false (foldX a) = true) (ob : okF (d + 1) false (foldX b) = true) (f0 : ((foldX a).k == 1) = false) (g6 : (k == 6) = false) (g5 : (k == 5) = false) : FoR ⟨k, 0, ⟨#[]⟩, [a, b]⟩ := by
  intro bb cap w hr
  rw [fold_two]
  obtain ⟨p, off, rfl, hpl, hc⟩ := hr.at (by simp)
  obtain ⟨c0, c1, c2, q0, qp0, c3, r0⟩ := hc 0 (by simp)
  obtain ⟨e0, e1, e2, q1, qp1, e3, r1⟩ := hc 1 (by simp)
  have xa : xAt (Ex.mk k 0 ⟨#[]⟩ [a, b]).l 0 = a := rfl
  have xb : xAt (Ex.mk k 0 ⟨#[]⟩ [a, b]).l 1 = b := rfl
  rw [xa] at c0 c1 c2 c3 r0
  rw [xb] at e0 e1 e2 e3 r1
  simp only [Nat.zero_mul, Nat.add_zero, Nat.one_mul] at c0 c1 c2 c3 e0 e1 e2 e3
  have X0 := hide (Bx.new w #[.int .i64 k, .int .i64 0, .string ⟨#[]⟩, .slice (some ⟨p, off, none⟩) 2 cap])
  have IA := hide (iha q0 qp0 _ (RdX.later r0 (unhide X0).bel))
  have IB := hide (fun wr (h : Below w.heap.size w wr) => ihb q1 qp1 wr (RdX.later r1 h))
  have d0 := ((unhide X0).bel.cell (p := ⟨p, off, none⟩) hpl).trans c0
  have d1 := ((unhide X0).bel.cell (p := ⟨p, off + 1, none⟩) hpl).trans c1
  have d2 := ((unhide X0).bel.cell (p := ⟨p, off + 2, none⟩) hpl).trans c2
  have d3 := ((unhide X0).bel.cell (p := ⟨p, off + 3, none⟩) hpl).trans c3
  have E0' := hide (fun wr (h : Below w.heap.size w wr) => (h.cell (p := ⟨p, off + 4, none⟩) hpl).trans e0)
  have E1' := hide (fun wr (h : Below w.heap.size w wr) => (h.cell (p := ⟨p, off + 4 + 1, none⟩) hpl).trans e1)
  have E2' := hide (fun wr (h : Below w.heap.size w wr) => (h.cell (p := ⟨p, off + 4 + 2, none⟩) hpl).trans e2)
  have E3' := hide (fun wr (h : Below w.heap.size w wr) => (h.cell (p := ⟨p, off + 4 + 3, none⟩) hpl).trans e3)
  have g4 : (k == 4) = false := beq_eq_false_iff_ne.2 (by omega)
  have OA := hide oa
  have OB := hide ob
  have ia : 0 ≤ (foldX a).n ∧ (foldX a).n ≤ 65535 ∨ (foldX a).k ≠ 1 := by
    by_cases h : (foldX a).k = 1
    · obtain ⟨m, hm, e⟩ := ok_k1 oa h; rw [e]; exact .inl hm
    · exact .inr h
  have ib : 0 ≤ (foldX b).n ∧ (foldX b).n ≤ 65535 ∨ (foldX b).k ≠ 1 := by
    by_cases h : (foldX b).k = 1
    · obtain ⟨m, hm, e⟩ := ok_k1 ob h; rw [e]; exact .inl hm
    · exact .inr h
  have EQ := hide (show foldN k (foldX a) (foldX b) = ⟨k, 0, ⟨#[]⟩, [(foldX a), (foldX b)]⟩ by unfold foldN mixX; rw [if_neg (fun h => by have := beq_eq_false_iff_ne.1 f0; exact this h.1), if_neg (beq_eq_false_iff_ne.1 g6), if_neg (fun h => beq_eq_false_iff_ne.1 g5 h.1), if_neg (fun h => beq_eq_false_iff_ne.1 g5 h.1)]; rfl)
  rw [unhide EQ]
  generalize hX : GiR _ (Up w) w = X
  have HX := hide hX
  unfold GiR Ex.cs at IA IB
  show Calls Tryd.prog 53 #[.agg #[.int .i64 k, .int .i64 0, .string ⟨#[]⟩, .slice (some ⟨p, off, none⟩) 2 cap]] w X
  generalize (foldX a) = x at *
  generalize (foldX b) = y at *
  clear hX hr hc c0 c1 c2 c3 e0 e1 e2 e3 r0 r1 iha ihb EQ xa xb oa ob
  go_enter Tryd.func53, Tryd.ntmps53
  go_wp2_with fail
  generalize (w.alloc (.cells #[.int .i64 k, .int .i64 0, .string ⟨#[]⟩, .slice (some ⟨p, off, none⟩) 2 cap] 26)).alloc (.cells #[.int .i64 0, .int .i64 0, .string ⟨#[]⟩, .slice none 0 0] 26) = W at *
  clear d0 d1 d2 d3
  refine (unhide IA).mono ?_
  rintro r w1 ⟨ca, cpa, rfl, hx, hb1⟩
  have hb2 := below_new w1 (.cells #[.int .i64 x.k, .int .i64 x.n, .string x.s, .slice ca x.l.length cpa] 26)
  have hb12 := hb1.trans (hb2.mono hb1.size)
  have X2 := hide ((unhide X0).later hb12)
  have hzW := (unhide X0).lt
  have A2 := hide (hx.low.later hb2)
  have G2 := hide (show (w1.alloc (.cells #[.int .i64 x.k, .int .i64 x.n, .string x.s, .slice ca x.l.length cpa] 26)).heap[w1.heap.size]? = some (.cells #[.int .i64 x.k, .int .i64 x.n, .string x.s, .slice ca x.l.length cpa] 26 (0, 0)) from Array.getElem?_push_size)
  have z0 := Lib.cell_of_heap (unhide X2).box 0
  have z3 := Lib.cell_of_heap (unhide X2).box 3
  have d0 := unhide E0' _ (unhide X2).bel
  have d1 := unhide E1' _ (unhide X2).bel
  have d2 := unhide E2' _ (unhide X2).bel
  have d3 := unhide E3' _ (unhide X2).bel
  have IB2 := hide (unhide IB _ (unhide X2).bel)
  have S1 := hide hb1.size
  have hz12 : w1.heap.size < (w1.alloc (.cells #[.int .i64 x.k, .int .i64 x.n, .string x.s, .slice ca x.l.length cpa] 26)).heap.size := by simp
  have HZ2 := hide hz12
  clear hx hb1 hb2 hb12 X0 IA IB E0' E1' E2' E3' hz12
  go_wp2_with fail
  generalize w1.alloc (.cells #[.int .i64 x.k, .int .i64 x.n, .string x.s, .slice ca x.l.length cpa] 26) = w2 at *
  clear d0 d1 d2 d3 z0 z3
  refine (unhide IB2).mono ?_
  rintro r w3 ⟨cb, cpb, rfl, hy, hb3⟩
  have hb4 := below_new w3 (.cells #[.int .i64 y.k, .int .i64 y.n, .string y.s, .slice cb y.l.length cpb] 26)
  have hb34 := hb3.trans (hb4.mono hb3.size)
  have X4 := hide ((unhide X2).later hb34)
  have A4 := hide ((unhide A2).later hb34)
  have B4 := hide (hy.later hb4)
  have G4 := hide (row_keep (unhide G2) hb34)
  have K4 := hide (show (w3.alloc (.cells #[.int .i64 y.k, .int .i64 y.n, .string y.s, .slice cb y.l.length cpb] 26)).heap[w3.heap.size]? = some (.cells #[.int .i64 y.k, .int .i64 y.n, .string y.s, .slice cb y.l.length cpb] 26 (0, 0)) from Array.getElem?_push_size)
  have z0 := Lib.cell_of_heap (unhide X4).box 0
  have y0 := Lib.cell_of_heap (unhide G4) 0
  have y1 := Lib.cell_of_heap (unhide G4) 1
  have u0 := Lib.cell_of_heap (unhide K4) 0
  have u1 := Lib.cell_of_heap (unhide K4) 1
  have DJ := hide (show ∀ b, (Up W b ∧ b < w1.heap.size) → ¬ Up w2 b from fun b h k => by have := unhide HZ2; have h2 : w2.heap.size ≤ b := k; omega)
  have PR := hide (show ∀ b, (Up W b ∧ b < w1.heap.size) → Ow w (Up w) b from fun b h => up_ow (Nat.le_trans hzW h.1))
  have QR := hide (show ∀ b, Up w2 b → Ow w (Up w) b from fun b h => up_ow (Nat.le_trans (unhide X2).lt h))
  have HR := hide (show ∀ b, (w3.alloc (.cells #[.int .i64 y.k, .int .i64 y.n, .string y.s, .slice cb y.l.length cpb] 26)).heap.size ≤ b → Ow w (Up w) b from fun b h => up_ow (Nat.le_trans (unhide X4).lt h))
  clear hy hb3 hb4 hb34 X2 A2 G2 IB2
  have hb5 := below_new (w3.alloc (.cells #[.int .i64 y.k, .int .i64 y.n, .string y.s, .slice cb y.l.length cpb] 26)) (.cells #[.int .i64 x.k, .int .i64 x.n, .string x.s, .slice ca x.l.length cpa, .int .i64 y.k, .int .i64 y.n, .string y.s, .slice cb y.l.length cpb] 26)
  have X5 := hide ((unhide X4).later hb5)
  have hz5 : (w3.alloc (.cells #[.int .i64 y.k, .int .i64 y.n, .string y.s, .slice cb y.l.length cpb] 26)).heap.size = w3.heap.size + 1 := by simp
  have N5' := (show PX ((w3.alloc (.cells #[.int .i64 y.k, .int .i64 y.n, .string y.s, .slice cb y.l.length cpb] 26)).alloc (.cells #[.int .i64 x.k, .int .i64 x.n, .string x.s, .slice ca x.l.length cpa, .int .i64 y.k, .int .i64 y.n, .string y.s, .slice cb y.l.length cpb] 26)) (Ow w (Up w)) ⟨k, 0, ⟨#[]⟩, [x, y]⟩ (some ⟨(w3.alloc (.cells #[.int .i64 y.k, .int .i64 y.n, .string y.s, .slice cb y.l.length cpb] 26)).heap.size, 0, none⟩) from (unhide A4).two (unhide B4) (unhide DJ) (unhide PR) (unhide QR) (unhide HR _ (Nat.le_refl _)) k 0 ⟨#[]⟩ 26)
  rw [hz5] at N5'
  have N5 := hide N5'
  clear hb5 N5' hz5
  go_wp2_with (first | (refine wpList_load_row rfl 26 _ rfl w1.heap.size rfl 26 #[.int .i64 x.k, .int .i64 x.n, .string x.s, .slice ca x.l.length cpa] (0, 0) _ (unhide G4) Tryd.underlying26 rfl (by kernel_rfl) ?_) | (refine wpList_load_row rfl 26 _ rfl w3.heap.size rfl 26 #[.int .i64 y.k, .int .i64 y.n, .string y.s, .slice cb y.l.length cpb] (0, 0) _ (unhide K4) Tryd.underlying26 rfl (by kernel_rfl) ?_) | (refine wpList_store_row rfl 26 _ _ rfl (w.heap.size + 1) #[.int .i64 k, .int .i64 0, .string ⟨#[]⟩, .slice (some ⟨w3.heap.size + 1, 0, none⟩) 2 2] rfl rfl 26 _ ((unhide X5).res) szE rfl (ex_one _ _ _ _ _ _) ?_))
  refine bodyPost_ret (results_cell_row (P := Tryd.prog) rfl _ _ (w.heap.size + 1) 26 #[.int .i64 k, .int .i64 0, .string ⟨#[]⟩, .slice (some ⟨w3.heap.size + 1, 0, none⟩) 2 2] (0, 0) _ rfl (setRow_heap _ _ _ _ _ _ ((unhide X5).res)) Tryd.underlying26 rfl szE) rfl ?_
  rw [← unhide HX]
  exact Bx.end (x := ⟨k, 0, ⟨#[]⟩, [x, y]⟩) (unhide X5) (unhide N5) _
set_option maxHeartbeats 8000000 in
theorem foldS_sub1 {d : Nat} (k : Int) (hk : 5 ≤ k ∧ k ≤ 10) (a b : Ex) (iha : FoR a) (ihb : FoR b) (oa : okF (d + 1) false (foldX a) = true) (ob : okF (d + 1) false (foldX b) = true) (f0 : ((foldX a).k == 1) = true) (f1 : ((foldX b).k == 1) = false) (g6 : (k == 6) = true) : FoR ⟨k, 0, ⟨#[]⟩, [a, b]⟩ := by
  intro bb cap w hr
  rw [fold_two]
  obtain ⟨p, off, rfl, hpl, hc⟩ := hr.at (by simp)
  obtain ⟨c0, c1, c2, q0, qp0, c3, r0⟩ := hc 0 (by simp)
  obtain ⟨e0, e1, e2, q1, qp1, e3, r1⟩ := hc 1 (by simp)
  have xa : xAt (Ex.mk k 0 ⟨#[]⟩ [a, b]).l 0 = a := rfl
  have xb : xAt (Ex.mk k 0 ⟨#[]⟩ [a, b]).l 1 = b := rfl
  rw [xa] at c0 c1 c2 c3 r0
  rw [xb] at e0 e1 e2 e3 r1
  simp only [Nat.zero_mul, Nat.add_zero, Nat.one_mul] at c0 c1 c2 c3 e0 e1 e2 e3
  have X0 := hide (Bx.new w #[.int .i64 k, .int .i64 0, .string ⟨#[]⟩, .slice (some ⟨p, off, none⟩) 2 cap])
  have IA := hide (iha q0 qp0 _ (RdX.later r0 (unhide X0).bel))
  have IB := hide (fun wr (h : Below w.heap.size w wr) => ihb q1 qp1 wr (RdX.later r1 h))
  have d0 := ((unhide X0).bel.cell (p := ⟨p, off, none⟩) hpl).trans c0
  have d1 := ((unhide X0).bel.cell (p := ⟨p, off + 1, none⟩) hpl).trans c1
  have d2 := ((unhide X0).bel.cell (p := ⟨p, off + 2, none⟩) hpl).trans c2
  have d3 := ((unhide X0).bel.cell (p := ⟨p, off + 3, none⟩) hpl).trans c3
  have E0' := hide (fun wr (h : Below w.heap.size w wr) => (h.cell (p := ⟨p, off + 4, none⟩) hpl).trans e0)
  have E1' := hide (fun wr (h : Below w.heap.size w wr) => (h.cell (p := ⟨p, off + 4 + 1, none⟩) hpl).trans e1)
  have E2' := hide (fun wr (h : Below w.heap.size w wr) => (h.cell (p := ⟨p, off + 4 + 2, none⟩) hpl).trans e2)
  have E3' := hide (fun wr (h : Below w.heap.size w wr) => (h.cell (p := ⟨p, off + 4 + 3, none⟩) hpl).trans e3)
  have g4 : (k == 4) = false := beq_eq_false_iff_ne.2 (by omega)
  have OA := hide oa
  have OB := hide ob
  have ia : 0 ≤ (foldX a).n ∧ (foldX a).n ≤ 65535 ∨ (foldX a).k ≠ 1 := by
    by_cases h : (foldX a).k = 1
    · obtain ⟨m, hm, e⟩ := ok_k1 oa h; rw [e]; exact .inl hm
    · exact .inr h
  have ib : 0 ≤ (foldX b).n ∧ (foldX b).n ≤ 65535 ∨ (foldX b).k ≠ 1 := by
    by_cases h : (foldX b).k = 1
    · obtain ⟨m, hm, e⟩ := ok_k1 ob h; rw [e]; exact .inl hm
    · exact .inr h
  have EQ := hide (show foldN k (foldX a) (foldX b) = subX (foldX a) (foldX b) by unfold foldN mixX; rw [if_neg (fun h => by have := beq_eq_false_iff_ne.1 f1; exact this h.2), if_pos (beq_iff_eq.1 g6)])
  rw [unhide EQ]
  generalize hX : GiR _ (Up w) w = X
  have HX := hide hX
  unfold GiR Ex.cs at IA IB
  show Calls Tryd.prog 53 #[.agg #[.int .i64 k, .int .i64 0, .string ⟨#[]⟩, .slice (some ⟨p, off, none⟩) 2 cap]] w X
  generalize (foldX a) = x at *
  generalize (foldX b) = y at *
  clear hX hr hc c0 c1 c2 c3 e0 e1 e2 e3 r0 r1 iha ihb EQ xa xb oa ob
  go_enter Tryd.func53, Tryd.ntmps53
  go_wp2_with fail
  generalize (w.alloc (.cells #[.int .i64 k, .int .i64 0, .string ⟨#[]⟩, .slice (some ⟨p, off, none⟩) 2 cap] 26)).alloc (.cells #[.int .i64 0, .int .i64 0, .string ⟨#[]⟩, .slice none 0 0] 26) = W at *
  clear d0 d1 d2 d3
  refine (unhide IA).mono ?_
  rintro r w1 ⟨ca, cpa, rfl, hx, hb1⟩
  have hb2 := below_new w1 (.cells #[.int .i64 x.k, .int .i64 x.n, .string x.s, .slice ca x.l.length cpa] 26)
  have hb12 := hb1.trans (hb2.mono hb1.size)
  have X2 := hide ((unhide X0).later hb12)
  have hzW := (unhide X0).lt
  have A2 := hide (hx.low.later hb2)
  have G2 := hide (show (w1.alloc (.cells #[.int .i64 x.k, .int .i64 x.n, .string x.s, .slice ca x.l.length cpa] 26)).heap[w1.heap.size]? = some (.cells #[.int .i64 x.k, .int .i64 x.n, .string x.s, .slice ca x.l.length cpa] 26 (0, 0)) from Array.getElem?_push_size)
  have z0 := Lib.cell_of_heap (unhide X2).box 0
  have z3 := Lib.cell_of_heap (unhide X2).box 3
  have d0 := unhide E0' _ (unhide X2).bel
  have d1 := unhide E1' _ (unhide X2).bel
  have d2 := unhide E2' _ (unhide X2).bel
  have d3 := unhide E3' _ (unhide X2).bel
  have IB2 := hide (unhide IB _ (unhide X2).bel)
  have S1 := hide hb1.size
  have hz12 : w1.heap.size < (w1.alloc (.cells #[.int .i64 x.k, .int .i64 x.n, .string x.s, .slice ca x.l.length cpa] 26)).heap.size := by simp
  have HZ2 := hide hz12
  clear hx hb1 hb2 hb12 X0 IA IB E0' E1' E2' E3' hz12
  go_wp2_with fail
  generalize w1.alloc (.cells #[.int .i64 x.k, .int .i64 x.n, .string x.s, .slice ca x.l.length cpa] 26) = w2 at *
  clear d0 d1 d2 d3 z0 z3
  refine (unhide IB2).mono ?_
  rintro r w3 ⟨cb, cpb, rfl, hy, hb3⟩
  have hb4 := below_new w3 (.cells #[.int .i64 y.k, .int .i64 y.n, .string y.s, .slice cb y.l.length cpb] 26)
  have hb34 := hb3.trans (hb4.mono hb3.size)
  have X4 := hide ((unhide X2).later hb34)
  have A4 := hide ((unhide A2).later hb34)
  have B4 := hide (hy.later hb4)
  have G4 := hide (row_keep (unhide G2) hb34)
  have K4 := hide (show (w3.alloc (.cells #[.int .i64 y.k, .int .i64 y.n, .string y.s, .slice cb y.l.length cpb] 26)).heap[w3.heap.size]? = some (.cells #[.int .i64 y.k, .int .i64 y.n, .string y.s, .slice cb y.l.length cpb] 26 (0, 0)) from Array.getElem?_push_size)
  have z0 := Lib.cell_of_heap (unhide X4).box 0
  have y0 := Lib.cell_of_heap (unhide G4) 0
  have y1 := Lib.cell_of_heap (unhide G4) 1
  have u0 := Lib.cell_of_heap (unhide K4) 0
  have u1 := Lib.cell_of_heap (unhide K4) 1
  have DJ := hide (show ∀ b, (Up W b ∧ b < w1.heap.size) → ¬ Up w2 b from fun b h k => by have := unhide HZ2; have h2 : w2.heap.size ≤ b := k; omega)
  have PR := hide (show ∀ b, (Up W b ∧ b < w1.heap.size) → Ow w (Up w) b from fun b h => up_ow (Nat.le_trans hzW h.1))
  have QR := hide (show ∀ b, Up w2 b → Ow w (Up w) b from fun b h => up_ow (Nat.le_trans (unhide X2).lt h))
  have HR := hide (show ∀ b, (w3.alloc (.cells #[.int .i64 y.k, .int .i64 y.n, .string y.s, .slice cb y.l.length cpb] 26)).heap.size ≤ b → Ow w (Up w) b from fun b h => up_ow (Nat.le_trans (unhide X4).lt h))
  clear hy hb3 hb4 hb34 X2 A2 G2 IB2
  have CL := hide (subS_any x y (unhide OA) (unhide OB) ca cb cpa cpb _ _ (Ow w (Up w)) (w3.alloc (.cells #[.int .i64 y.k, .int .i64 y.n, .string y.s, .slice cb y.l.length cpb] 26)) (unhide A4) (unhide B4) (unhide DJ) (unhide PR) (unhide QR) (unhide HR))
  unfold GiR Ex.cs at CL
  go_wp2_with (first | (refine wpList_load_row rfl 26 _ rfl w1.heap.size rfl 26 #[.int .i64 x.k, .int .i64 x.n, .string x.s, .slice ca x.l.length cpa] (0, 0) _ (unhide G4) Tryd.underlying26 rfl (by kernel_rfl) ?_) | (refine wpList_load_row rfl 26 _ rfl w3.heap.size rfl 26 #[.int .i64 y.k, .int .i64 y.n, .string y.s, .slice cb y.l.length cpb] (0, 0) _ (unhide K4) Tryd.underlying26 rfl (by kernel_rfl) ?_))
  generalize w3.alloc (.cells #[.int .i64 y.k, .int .i64 y.n, .string y.s, .slice cb y.l.length cpb] 26) = w4 at *
  clear z0 y0 y1 u0 u1
  refine (unhide CL).mono ?_
  rintro r w5 ⟨c5, cp5, rfl, hx5, hb5⟩
  have X5 := hide ((unhide X4).later hb5)
  have A5 := hide hx5
  clear hx5 hb5 X4 A4 B4 G4 K4 CL
  generalize subX x y = z at *
  go_wp2_with (refine wpList_store_row rfl 26 _ _ rfl (w.heap.size + 1) #[.int .i64 z.k, .int .i64 z.n, .string z.s, .slice c5 z.l.length cp5] rfl rfl 26 _ ((unhide X5).res) szE rfl (ex_one _ _ _ _ _ _) ?_)
  refine bodyPost_ret (results_cell_row (P := Tryd.prog) rfl _ _ (w.heap.size + 1) 26 #[.int .i64 z.k, .int .i64 z.n, .string z.s, .slice c5 z.l.length cp5] (0, 0) _ rfl (setRow_heap _ _ _ _ _ _ ((unhide X5).res)) Tryd.underlying26 rfl szE) rfl ?_
  rw [← unhide HX]
  exact (unhide X5).end (unhide A5) _
set_option maxHeartbeats 8000000 in
theorem foldS_mix1 {d : Nat} (k : Int) (hk : 5 ≤ k ∧ k ≤ 10) (a b : Ex) (iha : FoR a) (ihb : FoR b) (oa : okF (d + 1) false (foldX a) = true) (ob : okF (d + 1) false (foldX b) = true) (f0 : ((foldX a).k == 1) = true) (f1 : ((foldX b).k == 1) = false) (g6 : (k == 6) = false) (g5 : (k == 5) = false) : FoR ⟨k, 0, ⟨#[]⟩, [a, b]⟩ := by
  intro bb cap w hr
  rw [fold_two]
  obtain ⟨p, off, rfl, hpl, hc⟩ := hr.at (by simp)
  obtain ⟨c0, c1, c2, q0, qp0, c3, r0⟩ := hc 0 (by simp)
  obtain ⟨e0, e1, e2, q1, qp1, e3, r1⟩ := hc 1 (by simp)
  have xa : xAt (Ex.mk k 0 ⟨#[]⟩ [a, b]).l 0 = a := rfl
  have xb : xAt (Ex.mk k 0 ⟨#[]⟩ [a, b]).l 1 = b := rfl
  rw [xa] at c0 c1 c2 c3 r0
  rw [xb] at e0 e1 e2 e3 r1
  simp only [Nat.zero_mul, Nat.add_zero, Nat.one_mul] at c0 c1 c2 c3 e0 e1 e2 e3
  have X0 := hide (Bx.new w #[.int .i64 k, .int .i64 0, .string ⟨#[]⟩, .slice (some ⟨p, off, none⟩) 2 cap])
  have IA := hide (iha q0 qp0 _ (RdX.later r0 (unhide X0).bel))
  have IB := hide (fun wr (h : Below w.heap.size w wr) => ihb q1 qp1 wr (RdX.later r1 h))
  have d0 := ((unhide X0).bel.cell (p := ⟨p, off, none⟩) hpl).trans c0
  have d1 := ((unhide X0).bel.cell (p := ⟨p, off + 1, none⟩) hpl).trans c1
  have d2 := ((unhide X0).bel.cell (p := ⟨p, off + 2, none⟩) hpl).trans c2
  have d3 := ((unhide X0).bel.cell (p := ⟨p, off + 3, none⟩) hpl).trans c3
  have E0' := hide (fun wr (h : Below w.heap.size w wr) => (h.cell (p := ⟨p, off + 4, none⟩) hpl).trans e0)
  have E1' := hide (fun wr (h : Below w.heap.size w wr) => (h.cell (p := ⟨p, off + 4 + 1, none⟩) hpl).trans e1)
  have E2' := hide (fun wr (h : Below w.heap.size w wr) => (h.cell (p := ⟨p, off + 4 + 2, none⟩) hpl).trans e2)
  have E3' := hide (fun wr (h : Below w.heap.size w wr) => (h.cell (p := ⟨p, off + 4 + 3, none⟩) hpl).trans e3)
  have g4 : (k == 4) = false := beq_eq_false_iff_ne.2 (by omega)
  have OA := hide oa
  have OB := hide ob
  have ia : 0 ≤ (foldX a).n ∧ (foldX a).n ≤ 65535 ∨ (foldX a).k ≠ 1 := by
    by_cases h : (foldX a).k = 1
    · obtain ⟨m, hm, e⟩ := ok_k1 oa h; rw [e]; exact .inl hm
    · exact .inr h
  have ib : 0 ≤ (foldX b).n ∧ (foldX b).n ≤ 65535 ∨ (foldX b).k ≠ 1 := by
    by_cases h : (foldX b).k = 1
    · obtain ⟨m, hm, e⟩ := ok_k1 ob h; rw [e]; exact .inl hm
    · exact .inr h
  have EQ := hide (show foldN k (foldX a) (foldX b) = ⟨k, 0, ⟨#[]⟩, [(foldX a), (foldX b)]⟩ by unfold foldN mixX; rw [if_neg (fun h => by have := beq_eq_false_iff_ne.1 f1; exact this h.2), if_neg (beq_eq_false_iff_ne.1 g6), if_neg (fun h => beq_eq_false_iff_ne.1 g5 h.1), if_neg (fun h => beq_eq_false_iff_ne.1 g5 h.1)]; rfl)
  rw [unhide EQ]
  generalize hX : GiR _ (Up w) w = X
  have HX := hide hX
  unfold GiR Ex.cs at IA IB
  show Calls Tryd.prog 53 #[.agg #[.int .i64 k, .int .i64 0, .string ⟨#[]⟩, .slice (some ⟨p, off, none⟩) 2 cap]] w X
  generalize (foldX a) = x at *
  generalize (foldX b) = y at *
  clear hX hr hc c0 c1 c2 c3 e0 e1 e2 e3 r0 r1 iha ihb EQ xa xb oa ob
  go_enter Tryd.func53, Tryd.ntmps53
  go_wp2_with fail
  generalize (w.alloc (.cells #[.int .i64 k, .int .i64 0, .string ⟨#[]⟩, .slice (some ⟨p, off, none⟩) 2 cap] 26)).alloc (.cells #[.int .i64 0, .int .i64 0, .string ⟨#[]⟩, .slice none 0 0] 26) = W at *
  clear d0 d1 d2 d3
  refine (unhide IA).mono ?_
  rintro r w1 ⟨ca, cpa, rfl, hx, hb1⟩
  have hb2 := below_new w1 (.cells #[.int .i64 x.k, .int .i64 x.n, .string x.s, .slice ca x.l.length cpa] 26)
  have hb12 := hb1.trans (hb2.mono hb1.size)
  have X2 := hide ((unhide X0).later hb12)
  have hzW := (unhide X0).lt
  have A2 := hide (hx.low.later hb2)
  have G2 := hide (show (w1.alloc (.cells #[.int .i64 x.k, .int .i64 x.n, .string x.s, .slice ca x.l.length cpa] 26)).heap[w1.heap.size]? = some (.cells #[.int .i64 x.k, .int .i64 x.n, .string x.s, .slice ca x.l.length cpa] 26 (0, 0)) from Array.getElem?_push_size)
  have z0 := Lib.cell_of_heap (unhide X2).box 0
  have z3 := Lib.cell_of_heap (unhide X2).box 3
  have d0 := unhide E0' _ (unhide X2).bel
  have d1 := unhide E1' _ (unhide X2).bel
  have d2 := unhide E2' _ (unhide X2).bel
  have d3 := unhide E3' _ (unhide X2).bel
  have IB2 := hide (unhide IB _ (unhide X2).bel)
  have S1 := hide hb1.size
  have hz12 : w1.heap.size < (w1.alloc (.cells #[.int .i64 x.k, .int .i64 x.n, .string x.s, .slice ca x.l.length cpa] 26)).heap.size := by simp
  have HZ2 := hide hz12
  clear hx hb1 hb2 hb12 X0 IA IB E0' E1' E2' E3' hz12
  go_wp2_with fail
  generalize w1.alloc (.cells #[.int .i64 x.k, .int .i64 x.n, .string x.s, .slice ca x.l.length cpa] 26) = w2 at *
  clear d0 d1 d2 d3 z0 z3
  refine (unhide IB2).mono ?_
  rintro r w3 ⟨cb, cpb, rfl, hy, hb3⟩
  have hb4 := below_new w3 (.cells #[.int .i64 y.k, .int .i64 y.n, .string y.s, .slice cb y.l.length cpb] 26)
  have hb34 := hb3.trans (hb4.mono hb3.size)
  have X4 := hide ((unhide X2).later hb34)
  have A4 := hide ((unhide A2).later hb34)
  have B4 := hide (hy.later hb4)
  have G4 := hide (row_keep (unhide G2) hb34)
  have K4 := hide (show (w3.alloc (.cells #[.int .i64 y.k, .int .i64 y.n, .string y.s, .slice cb y.l.length cpb] 26)).heap[w3.heap.size]? = some (.cells #[.int .i64 y.k, .int .i64 y.n, .string y.s, .slice cb y.l.length cpb] 26 (0, 0)) from Array.getElem?_push_size)
  have z0 := Lib.cell_of_heap (unhide X4).box 0
  have y0 := Lib.cell_of_heap (unhide G4) 0
  have y1 := Lib.cell_of_heap (unhide G4) 1
  have u0 := Lib.cell_of_heap (unhide K4) 0
  have u1 := Lib.cell_of_heap (unhide K4) 1
  have DJ := hide (show ∀ b, (Up W b ∧ b < w1.heap.size) → ¬ Up w2 b from fun b h k => by have := unhide HZ2; have h2 : w2.heap.size ≤ b := k; omega)
  have PR := hide (show ∀ b, (Up W b ∧ b < w1.heap.size) → Ow w (Up w) b from fun b h => up_ow (Nat.le_trans hzW h.1))
  have QR := hide (show ∀ b, Up w2 b → Ow w (Up w) b from fun b h => up_ow (Nat.le_trans (unhide X2).lt h))
  have HR := hide (show ∀ b, (w3.alloc (.cells #[.int .i64 y.k, .int .i64 y.n, .string y.s, .slice cb y.l.length cpb] 26)).heap.size ≤ b → Ow w (Up w) b from fun b h => up_ow (Nat.le_trans (unhide X4).lt h))
  clear hy hb3 hb4 hb34 X2 A2 G2 IB2
  have hb5 := below_new (w3.alloc (.cells #[.int .i64 y.k, .int .i64 y.n, .string y.s, .slice cb y.l.length cpb] 26)) (.cells #[.int .i64 x.k, .int .i64 x.n, .string x.s, .slice ca x.l.length cpa, .int .i64 y.k, .int .i64 y.n, .string y.s, .slice cb y.l.length cpb] 26)
  have X5 := hide ((unhide X4).later hb5)
  have hz5 : (w3.alloc (.cells #[.int .i64 y.k, .int .i64 y.n, .string y.s, .slice cb y.l.length cpb] 26)).heap.size = w3.heap.size + 1 := by simp
  have N5' := (show PX ((w3.alloc (.cells #[.int .i64 y.k, .int .i64 y.n, .string y.s, .slice cb y.l.length cpb] 26)).alloc (.cells #[.int .i64 x.k, .int .i64 x.n, .string x.s, .slice ca x.l.length cpa, .int .i64 y.k, .int .i64 y.n, .string y.s, .slice cb y.l.length cpb] 26)) (Ow w (Up w)) ⟨k, 0, ⟨#[]⟩, [x, y]⟩ (some ⟨(w3.alloc (.cells #[.int .i64 y.k, .int .i64 y.n, .string y.s, .slice cb y.l.length cpb] 26)).heap.size, 0, none⟩) from (unhide A4).two (unhide B4) (unhide DJ) (unhide PR) (unhide QR) (unhide HR _ (Nat.le_refl _)) k 0 ⟨#[]⟩ 26)
  rw [hz5] at N5'
  have N5 := hide N5'
  clear hb5 N5' hz5
  go_wp2_with (first | (refine wpList_load_row rfl 26 _ rfl w1.heap.size rfl 26 #[.int .i64 x.k, .int .i64 x.n, .string x.s, .slice ca x.l.length cpa] (0, 0) _ (unhide G4) Tryd.underlying26 rfl (by kernel_rfl) ?_) | (refine wpList_load_row rfl 26 _ rfl w3.heap.size rfl 26 #[.int .i64 y.k, .int .i64 y.n, .string y.s, .slice cb y.l.length cpb] (0, 0) _ (unhide K4) Tryd.underlying26 rfl (by kernel_rfl) ?_) | (refine wpList_store_row rfl 26 _ _ rfl (w.heap.size + 1) #[.int .i64 k, .int .i64 0, .string ⟨#[]⟩, .slice (some ⟨w3.heap.size + 1, 0, none⟩) 2 2] rfl rfl 26 _ ((unhide X5).res) szE rfl (ex_one _ _ _ _ _ _) ?_))
  refine bodyPost_ret (results_cell_row (P := Tryd.prog) rfl _ _ (w.heap.size + 1) 26 #[.int .i64 k, .int .i64 0, .string ⟨#[]⟩, .slice (some ⟨w3.heap.size + 1, 0, none⟩) 2 2] (0, 0) _ rfl (setRow_heap _ _ _ _ _ _ ((unhide X5).res)) Tryd.underlying26 rfl szE) rfl ?_
  rw [← unhide HX]
  exact Bx.end (x := ⟨k, 0, ⟨#[]⟩, [x, y]⟩) (unhide X5) (unhide N5) _
set_option maxHeartbeats 8000000 in
theorem foldS_add1 {d : Nat} (k : Int) (hk : 5 ≤ k ∧ k ≤ 10) (a b : Ex) (iha : FoR a) (ihb : FoR b) (oa : okF (d + 1) false (foldX a) = true) (ob : okF (d + 1) false (foldX b) = true) (f0 : ((foldX a).k == 1) = true) (f1 : ((foldX b).k == 1) = false) (g6 : (k == 6) = false) (g5 : (k == 5) = true) : FoR ⟨k, 0, ⟨#[]⟩, [a, b]⟩ := by
  intro bb cap w hr
  rw [fold_two]
  obtain ⟨p, off, rfl, hpl, hc⟩ := hr.at (by simp)
  obtain ⟨c0, c1, c2, q0, qp0, c3, r0⟩ := hc 0 (by simp)
  obtain ⟨e0, e1, e2, q1, qp1, e3, r1⟩ := hc 1 (by simp)
  have xa : xAt (Ex.mk k 0 ⟨#[]⟩ [a, b]).l 0 = a := rfl
  have xb : xAt (Ex.mk k 0 ⟨#[]⟩ [a, b]).l 1 = b := rfl
  rw [xa] at c0 c1 c2 c3 r0
  rw [xb] at e0 e1 e2 e3 r1
  simp only [Nat.zero_mul, Nat.add_zero, Nat.one_mul] at c0 c1 c2 c3 e0 e1 e2 e3
  have X0 := hide (Bx.new w #[.int .i64 k, .int .i64 0, .string ⟨#[]⟩, .slice (some ⟨p, off, none⟩) 2 cap])
  have IA := hide (iha q0 qp0 _ (RdX.later r0 (unhide X0).bel))
  have IB := hide (fun wr (h : Below w.heap.size w wr) => ihb q1 qp1 wr (RdX.later r1 h))
  have d0 := ((unhide X0).bel.cell (p := ⟨p, off, none⟩) hpl).trans c0
  have d1 := ((unhide X0).bel.cell (p := ⟨p, off + 1, none⟩) hpl).trans c1
  have d2 := ((unhide X0).bel.cell (p := ⟨p, off + 2, none⟩) hpl).trans c2
  have d3 := ((unhide X0).bel.cell (p := ⟨p, off + 3, none⟩) hpl).trans c3
  have E0' := hide (fun wr (h : Below w.heap.size w wr) => (h.cell (p := ⟨p, off + 4, none⟩) hpl).trans e0)
  have E1' := hide (fun wr (h : Below w.heap.size w wr) => (h.cell (p := ⟨p, off + 4 + 1, none⟩) hpl).trans e1)
  have E2' := hide (fun wr (h : Below w.heap.size w wr) => (h.cell (p := ⟨p, off + 4 + 2, none⟩) hpl).trans e2)
  have E3' := hide (fun wr (h : Below w.heap.size w wr) => (h.cell (p := ⟨p, off + 4 + 3, none⟩) hpl).trans e3)
  have g4 : (k == 4) = false := beq_eq_false_iff_ne.2 (by omega)
  have OA := hide oa
  have OB := hide ob
  have ia : 0 ≤ (foldX a).n ∧ (foldX a).n ≤ 65535 ∨ (foldX a).k ≠ 1 := by
    by_cases h : (foldX a).k = 1
    · obtain ⟨m, hm, e⟩ := ok_k1 oa h; rw [e]; exact .inl hm
    · exact .inr h
  have ib : 0 ≤ (foldX b).n ∧ (foldX b).n ≤ 65535 ∨ (foldX b).k ≠ 1 := by
    by_cases h : (foldX b).k = 1
    · obtain ⟨m, hm, e⟩ := ok_k1 ob h; rw [e]; exact .inl hm
    · exact .inr h
  have EQ := hide (show foldN k (foldX a) (foldX b) = sumX (foldX b) (foldX a).n by unfold foldN mixX; rw [if_neg (fun h => by have := beq_eq_false_iff_ne.1 f1; exact this h.2), if_neg (beq_eq_false_iff_ne.1 g6), if_pos ⟨beq_iff_eq.1 g5, beq_iff_eq.1 f0⟩])
  rw [unhide EQ]
  generalize hX : GiR _ (Up w) w = X
  have HX := hide hX
  unfold GiR Ex.cs at IA IB
  show Calls Tryd.prog 53 #[.agg #[.int .i64 k, .int .i64 0, .string ⟨#[]⟩, .slice (some ⟨p, off, none⟩) 2 cap]] w X
  generalize (foldX a) = x at *
  generalize (foldX b) = y at *
  clear hX hr hc c0 c1 c2 c3 e0 e1 e2 e3 r0 r1 iha ihb EQ xa xb oa ob
  go_enter Tryd.func53, Tryd.ntmps53
  go_wp2_with fail
  generalize (w.alloc (.cells #[.int .i64 k, .int .i64 0, .string ⟨#[]⟩, .slice (some ⟨p, off, none⟩) 2 cap] 26)).alloc (.cells #[.int .i64 0, .int .i64 0, .string ⟨#[]⟩, .slice none 0 0] 26) = W at *
  clear d0 d1 d2 d3
  refine (unhide IA).mono ?_
  rintro r w1 ⟨ca, cpa, rfl, hx, hb1⟩
  have hb2 := below_new w1 (.cells #[.int .i64 x.k, .int .i64 x.n, .string x.s, .slice ca x.l.length cpa] 26)
  have hb12 := hb1.trans (hb2.mono hb1.size)
  have X2 := hide ((unhide X0).later hb12)
  have hzW := (unhide X0).lt
  have A2 := hide (hx.low.later hb2)
  have G2 := hide (show (w1.alloc (.cells #[.int .i64 x.k, .int .i64 x.n, .string x.s, .slice ca x.l.length cpa] 26)).heap[w1.heap.size]? = some (.cells #[.int .i64 x.k, .int .i64 x.n, .string x.s, .slice ca x.l.length cpa] 26 (0, 0)) from Array.getElem?_push_size)
  have z0 := Lib.cell_of_heap (unhide X2).box 0
  have z3 := Lib.cell_of_heap (unhide X2).box 3
  have d0 := unhide E0' _ (unhide X2).bel
  have d1 := unhide E1' _ (unhide X2).bel
  have d2 := unhide E2' _ (unhide X2).bel
  have d3 := unhide E3' _ (unhide X2).bel
  have IB2 := hide (unhide IB _ (unhide X2).bel)
  have S1 := hide hb1.size
  have hz12 : w1.heap.size < (w1.alloc (.cells #[.int .i64 x.k, .int .i64 x.n, .string x.s, .slice ca x.l.length cpa] 26)).heap.size := by simp
  have HZ2 := hide hz12
  clear hx hb1 hb2 hb12 X0 IA IB E0' E1' E2' E3' hz12
  go_wp2_with fail
  generalize w1.alloc (.cells #[.int .i64 x.k, .int .i64 x.n, .string x.s, .slice ca x.l.length cpa] 26) = w2 at *
  clear d0 d1 d2 d3 z0 z3
  refine (unhide IB2).mono ?_
  rintro r w3 ⟨cb, cpb, rfl, hy, hb3⟩
  have hb4 := below_new w3 (.cells #[.int .i64 y.k, .int .i64 y.n, .string y.s, .slice cb y.l.length cpb] 26)
  have hb34 := hb3.trans (hb4.mono hb3.size)
  have X4 := hide ((unhide X2).later hb34)
  have A4 := hide ((unhide A2).later hb34)
  have B4 := hide (hy.later hb4)
  have G4 := hide (row_keep (unhide G2) hb34)
  have K4 := hide (show (w3.alloc (.cells #[.int .i64 y.k, .int .i64 y.n, .string y.s, .slice cb y.l.length cpb] 26)).heap[w3.heap.size]? = some (.cells #[.int .i64 y.k, .int .i64 y.n, .string y.s, .slice cb y.l.length cpb] 26 (0, 0)) from Array.getElem?_push_size)
  have z0 := Lib.cell_of_heap (unhide X4).box 0
  have y0 := Lib.cell_of_heap (unhide G4) 0
  have y1 := Lib.cell_of_heap (unhide G4) 1
  have u0 := Lib.cell_of_heap (unhide K4) 0
  have u1 := Lib.cell_of_heap (unhide K4) 1
  have DJ := hide (show ∀ b, (Up W b ∧ b < w1.heap.size) → ¬ Up w2 b from fun b h k => by have := unhide HZ2; have h2 : w2.heap.size ≤ b := k; omega)
  have PR := hide (show ∀ b, (Up W b ∧ b < w1.heap.size) → Ow w (Up w) b from fun b h => up_ow (Nat.le_trans hzW h.1))
  have QR := hide (show ∀ b, Up w2 b → Ow w (Up w) b from fun b h => up_ow (Nat.le_trans (unhide X2).lt h))
  have HR := hide (show ∀ b, (w3.alloc (.cells #[.int .i64 y.k, .int .i64 y.n, .string y.s, .slice cb y.l.length cpb] 26)).heap.size ≤ b → Ow w (Up w) b from fun b h => up_ow (Nat.le_trans (unhide X4).lt h))
  clear hy hb3 hb4 hb34 X2 A2 G2 IB2
  have CL := hide (sumS_any y (unhide OB) cb cpb x.n (by have := ia.resolve_right (fun h => h (beq_iff_eq.1 f0)); omega) (Ow w (Up w)) (w3.alloc (.cells #[.int .i64 y.k, .int .i64 y.n, .string y.s, .slice cb y.l.length cpb] 26)) ((unhide B4).mono (unhide QR)) (unhide HR))
  unfold GiR Ex.cs at CL
  go_wp2_with (first | (refine wpList_load_row rfl 26 _ rfl w3.heap.size rfl 26 #[.int .i64 y.k, .int .i64 y.n, .string y.s, .slice cb y.l.length cpb] (0, 0) _ (unhide K4) Tryd.underlying26 rfl (by kernel_rfl) ?_))
  generalize w3.alloc (.cells #[.int .i64 y.k, .int .i64 y.n, .string y.s, .slice cb y.l.length cpb] 26) = w4 at *
  clear z0 y0 y1 u0 u1
  refine (unhide CL).mono ?_
  rintro r w5 ⟨c5, cp5, rfl, hx5, hb5⟩
  have X5 := hide ((unhide X4).later hb5)
  have A5 := hide hx5
  clear hx5 hb5 X4 A4 B4 G4 K4 CL
  generalize sumX y x.n = z at *
  go_wp2_with (refine wpList_store_row rfl 26 _ _ rfl (w.heap.size + 1) #[.int .i64 z.k, .int .i64 z.n, .string z.s, .slice c5 z.l.length cp5] rfl rfl 26 _ ((unhide X5).res) szE rfl (ex_one _ _ _ _ _ _) ?_)
  refine bodyPost_ret (results_cell_row (P := Tryd.prog) rfl _ _ (w.heap.size + 1) 26 #[.int .i64 z.k, .int .i64 z.n, .string z.s, .slice c5 z.l.length cp5] (0, 0) _ rfl (setRow_heap _ _ _ _ _ _ ((unhide X5).res)) Tryd.underlying26 rfl szE) rfl ?_
  rw [← unhide HX]
  exact (unhide X5).end (unhide A5) _
set_option maxHeartbeats 8000000 in
theorem foldS_add2 {d : Nat} (k : Int) (hk : 5 ≤ k ∧ k ≤ 10) (a b : Ex) (iha : FoR a) (ihb : FoR b) (oa : okF (d + 1) false (foldX a) = true) (ob : okF (d + 1) false (foldX b) = true) (f0 : ((foldX a).k == 1) = false) (f1 : ((foldX b).k == 1) = true) (g6 : (k == 6) = false) (g5 : (k == 5) = true) : FoR ⟨k, 0, ⟨#[]⟩, [a, b]⟩ := by
  intro bb cap w hr
  rw [fold_two]
  obtain ⟨p, off, rfl, hpl, hc⟩ := hr.at (by simp)
  obtain ⟨c0, c1, c2, q0, qp0, c3, r0⟩ := hc 0 (by simp)
  obtain ⟨e0, e1, e2, q1, qp1, e3, r1⟩ := hc 1 (by simp)
  have xa : xAt (Ex.mk k 0 ⟨#[]⟩ [a, b]).l 0 = a := rfl
  have xb : xAt (Ex.mk k 0 ⟨#[]⟩ [a, b]).l 1 = b := rfl
  rw [xa] at c0 c1 c2 c3 r0
  rw [xb] at e0 e1 e2 e3 r1
  simp only [Nat.zero_mul, Nat.add_zero, Nat.one_mul] at c0 c1 c2 c3 e0 e1 e2 e3
  have X0 := hide (Bx.new w #[.int .i64 k, .int .i64 0, .string ⟨#[]⟩, .slice (some ⟨p, off, none⟩) 2 cap])
  have IA := hide (iha q0 qp0 _ (RdX.later r0 (unhide X0).bel))
  have IB := hide (fun wr (h : Below w.heap.size w wr) => ihb q1 qp1 wr (RdX.later r1 h))
  have d0 := ((unhide X0).bel.cell (p := ⟨p, off, none⟩) hpl).trans c0
  have d1 := ((unhide X0).bel.cell (p := ⟨p, off + 1, none⟩) hpl).trans c1
  have d2 := ((unhide X0).bel.cell (p := ⟨p, off + 2, none⟩) hpl).trans c2
  have d3 := ((unhide X0).bel.cell (p := ⟨p, off + 3, none⟩) hpl).trans c3
  have E0' := hide (fun wr (h : Below w.heap.size w wr) => (h.cell (p := ⟨p, off + 4, none⟩) hpl).trans e0)
  have E1' := hide (fun wr (h : Below w.heap.size w wr) => (h.cell (p := ⟨p, off + 4 + 1, none⟩) hpl).trans e1)
  have E2' := hide (fun wr (h : Below w.heap.size w wr) => (h.cell (p := ⟨p, off + 4 + 2, none⟩) hpl).trans e2)
  have E3' := hide (fun wr (h : Below w.heap.size w wr) => (h.cell (p := ⟨p, off + 4 + 3, none⟩) hpl).trans e3)
  have g4 : (k == 4) = false := beq_eq_false_iff_ne.2 (by omega)
  have OA := hide oa
  have OB := hide ob
  have ia : 0 ≤ (foldX a).n ∧ (foldX a).n ≤ 65535 ∨ (foldX a).k ≠ 1 := by
    by_cases h : (foldX a).k = 1
    · obtain ⟨m, hm, e⟩ := ok_k1 oa h; rw [e]; exact .inl hm
    · exact .inr h
  have ib : 0 ≤ (foldX b).n ∧ (foldX b).n ≤ 65535 ∨ (foldX b).k ≠ 1 := by
    by_cases h : (foldX b).k = 1
    · obtain ⟨m, hm, e⟩ := ok_k1 ob h; rw [e]; exact .inl hm
    · exact .inr h
  have EQ := hide (show foldN k (foldX a) (foldX b) = sumX (foldX a) (foldX b).n by unfold foldN mixX; rw [if_neg (fun h => by have := beq_eq_false_iff_ne.1 f0; exact this h.1), if_neg (beq_eq_false_iff_ne.1 g6), if_neg (fun h => beq_eq_false_iff_ne.1 f0 h.2), if_pos ⟨beq_iff_eq.1 g5, beq_iff_eq.1 f1⟩])
  rw [unhide EQ]
  generalize hX : GiR _ (Up w) w = X
  have HX := hide hX
  unfold GiR Ex.cs at IA IB
  show Calls Tryd.prog 53 #[.agg #[.int .i64 k, .int .i64 0, .string ⟨#[]⟩, .slice (some ⟨p, off, none⟩) 2 cap]] w X
  generalize (foldX a) = x at *
  generalize (foldX b) = y at *
  clear hX hr hc c0 c1 c2 c3 e0 e1 e2 e3 r0 r1 iha ihb EQ xa xb oa ob
  go_enter Tryd.func53, Tryd.ntmps53
  go_wp2_with fail
  generalize (w.alloc (.cells #[.int .i64 k, .int .i64 0, .string ⟨#[]⟩, .slice (some ⟨p, off, none⟩) 2 cap] 26)).alloc (.cells #[.int .i64 0, .int .i64 0, .string ⟨#[]⟩, .slice none 0 0] 26) = W at *
  clear d0 d1 d2 d3
  refine (unhide IA).mono ?_
  rintro r w1 ⟨ca, cpa, rfl, hx, hb1⟩
  have hb2 := below_new w1 (.cells #[.int .i64 x.k, .int .i64 x.n, .string x.s, .slice ca x.l.length cpa] 26)
  have hb12 := hb1.trans (hb2.mono hb1.size)
  have X2 := hide ((unhide X0).later hb12)
  have hzW := (unhide X0).lt
  have A2 := hide (hx.low.later hb2)
  have G2 := hide (show (w1.alloc (.cells #[.int .i64 x.k, .int .i64 x.n, .string x.s, .slice ca x.l.length cpa] 26)).heap[w1.heap.size]? = some (.cells #[.int .i64 x.k, .int .i64 x.n, .string x.s, .slice ca x.l.length cpa] 26 (0, 0)) from Array.getElem?_push_size)
  have z0 := Lib.cell_of_heap (unhide X2).box 0
  have z3 := Lib.cell_of_heap (unhide X2).box 3
  have d0 := unhide E0' _ (unhide X2).bel
  have d1 := unhide E1' _ (unhide X2).bel
  have d2 := unhide E2' _ (unhide X2).bel
  have d3 := unhide E3' _ (unhide X2).bel
  have IB2 := hide (unhide IB _ (unhide X2).bel)
  have S1 := hide hb1.size
  have hz12 : w1.heap.size < (w1.alloc (.cells #[.int .i64 x.k, .int .i64 x.n, .string x.s, .slice ca x.l.length cpa] 26)).heap.size := by simp
  have HZ2 := hide hz12
  clear hx hb1 hb2 hb12 X0 IA IB E0' E1' E2' E3' hz12
  go_wp2_with fail
  generalize w1.alloc (.cells #[.int .i64 x.k, .int .i64 x.n, .string x.s, .slice ca x.l.length cpa] 26) = w2 at *
  clear d0 d1 d2 d3 z0 z3
  refine (unhide IB2).mono ?_
  rintro r w3 ⟨cb, cpb, rfl, hy, hb3⟩
  have hb4 := below_new w3 (.cells #[.int .i64 y.k, .int .i64 y.n, .string y.s, .slice cb y.l.length cpb] 26)
  have hb34 := hb3.trans (hb4.mono hb3.size)
  have X4 := hide ((unhide X2).later hb34)
  have A4 := hide ((unhide A2).later hb34)
  have B4 := hide (hy.later hb4)
  have G4 := hide (row_keep (unhide G2) hb34)
  have K4 := hide (show (w3.alloc (.cells #[.int .i64 y.k, .int .i64 y.n, .string y.s, .slice cb y.l.length cpb] 26)).heap[w3.heap.size]? = some (.cells #[.int .i64 y.k, .int .i64 y.n, .string y.s, .slice cb y.l.length cpb] 26 (0, 0)) from Array.getElem?_push_size)
  have z0 := Lib.cell_of_heap (unhide X4).box 0
  have y0 := Lib.cell_of_heap (unhide G4) 0
  have y1 := Lib.cell_of_heap (unhide G4) 1
  have u0 := Lib.cell_of_heap (unhide K4) 0
  have u1 := Lib.cell_of_heap (unhide K4) 1
  have DJ := hide (show ∀ b, (Up W b ∧ b < w1.heap.size) → ¬ Up w2 b from fun b h k => by have := unhide HZ2; have h2 : w2.heap.size ≤ b := k; omega)
  have PR := hide (show ∀ b, (Up W b ∧ b < w1.heap.size) → Ow w (Up w) b from fun b h => up_ow (Nat.le_trans hzW h.1))
  have QR := hide (show ∀ b, Up w2 b → Ow w (Up w) b from fun b h => up_ow (Nat.le_trans (unhide X2).lt h))
  have HR := hide (show ∀ b, (w3.alloc (.cells #[.int .i64 y.k, .int .i64 y.n, .string y.s, .slice cb y.l.length cpb] 26)).heap.size ≤ b → Ow w (Up w) b from fun b h => up_ow (Nat.le_trans (unhide X4).lt h))
  clear hy hb3 hb4 hb34 X2 A2 G2 IB2
  have CL := hide (sumS_any x (unhide OA) ca cpa y.n (by have := ib.resolve_right (fun h => h (beq_iff_eq.1 f1)); omega) (Ow w (Up w)) (w3.alloc (.cells #[.int .i64 y.k, .int .i64 y.n, .string y.s, .slice cb y.l.length cpb] 26)) ((unhide A4).mono (unhide PR)) (unhide HR))
  unfold GiR Ex.cs at CL
  go_wp2_with (first | (refine wpList_load_row rfl 26 _ rfl w1.heap.size rfl 26 #[.int .i64 x.k, .int .i64 x.n, .string x.s, .slice ca x.l.length cpa] (0, 0) _ (unhide G4) Tryd.underlying26 rfl (by kernel_rfl) ?_))
  generalize w3.alloc (.cells #[.int .i64 y.k, .int .i64 y.n, .string y.s, .slice cb y.l.length cpb] 26) = w4 at *
  clear z0 y0 y1 u0 u1
  refine (unhide CL).mono ?_
  rintro r w5 ⟨c5, cp5, rfl, hx5, hb5⟩
  have X5 := hide ((unhide X4).later hb5)
  have A5 := hide hx5
  clear hx5 hb5 X4 A4 B4 G4 K4 CL
  generalize sumX x y.n = z at *
  go_wp2_with (refine wpList_store_row rfl 26 _ _ rfl (w.heap.size + 1) #[.int .i64 z.k, .int .i64 z.n, .string z.s, .slice c5 z.l.length cp5] rfl rfl 26 _ ((unhide X5).res) szE rfl (ex_one _ _ _ _ _ _) ?_)
  refine bodyPost_ret (results_cell_row (P := Tryd.prog) rfl _ _ (w.heap.size + 1) 26 #[.int .i64 z.k, .int .i64 z.n, .string z.s, .slice c5 z.l.length cp5] (0, 0) _ rfl (setRow_heap _ _ _ _ _ _ ((unhide X5).res)) Tryd.underlying26 rfl szE) rfl ?_
  rw [← unhide HX]
  exact (unhide X5).end (unhide A5) _
set_option maxHeartbeats 8000000 in
theorem foldS_add0 {d : Nat} (k : Int) (hk : 5 ≤ k ∧ k ≤ 10) (a b : Ex) (iha : FoR a) (ihb : FoR b) (oa : okF (d + 1) false (foldX a) = true) (ob : okF (d + 1) false (foldX b) = true) (f0 : ((foldX a).k == 1) = false) (f1 : ((foldX b).k == 1) = false) (g6 : (k == 6) = false) (g5 : (k == 5) = true) : FoR ⟨k, 0, ⟨#[]⟩, [a, b]⟩ := by
  intro bb cap w hr
  rw [fold_two]
  obtain ⟨p, off, rfl, hpl, hc⟩ := hr.at (by simp)
  obtain ⟨c0, c1, c2, q0, qp0, c3, r0⟩ := hc 0 (by simp)
  obtain ⟨e0, e1, e2, q1, qp1, e3, r1⟩ := hc 1 (by simp)
  have xa : xAt (Ex.mk k 0 ⟨#[]⟩ [a, b]).l 0 = a := rfl
  have xb : xAt (Ex.mk k 0 ⟨#[]⟩ [a, b]).l 1 = b := rfl
  rw [xa] at c0 c1 c2 c3 r0
  rw [xb] at e0 e1 e2 e3 r1
  simp only [Nat.zero_mul, Nat.add_zero, Nat.one_mul] at c0 c1 c2 c3 e0 e1 e2 e3
  have X0 := hide (Bx.new w #[.int .i64 k, .int .i64 0, .string ⟨#[]⟩, .slice (some ⟨p, off, none⟩) 2 cap])
  have IA := hide (iha q0 qp0 _ (RdX.later r0 (unhide X0).bel))
  have IB := hide (fun wr (h : Below w.heap.size w wr) => ihb q1 qp1 wr (RdX.later r1 h))
  have d0 := ((unhide X0).bel.cell (p := ⟨p, off, none⟩) hpl).trans c0
  have d1 := ((unhide X0).bel.cell (p := ⟨p, off + 1, none⟩) hpl).trans c1
  have d2 := ((unhide X0).bel.cell (p := ⟨p, off + 2, none⟩) hpl).trans c2
  have d3 := ((unhide X0).bel.cell (p := ⟨p, off + 3, none⟩) hpl).trans c3
  have E0' := hide (fun wr (h : Below w.heap.size w wr) => (h.cell (p := ⟨p, off + 4, none⟩) hpl).trans e0)
  have E1' := hide (fun wr (h : Below w.heap.size w wr) => (h.cell (p := ⟨p, off + 4 + 1, none⟩) hpl).trans e1)
  have E2' := hide (fun wr (h : Below w.heap.size w wr) => (h.cell (p := ⟨p, off + 4 + 2, none⟩) hpl).trans e2)
  have E3' := hide (fun wr (h : Below w.heap.size w wr) => (h.cell (p := ⟨p, off + 4 + 3, none⟩) hpl).trans e3)
  have g4 : (k == 4) = false := beq_eq_false_iff_ne.2 (by omega)
  have OA := hide oa
  have OB := hide ob
  have ia : 0 ≤ (foldX a).n ∧ (foldX a).n ≤ 65535 ∨ (foldX a).k ≠ 1 := by
    by_cases h : (foldX a).k = 1
    · obtain ⟨m, hm, e⟩ := ok_k1 oa h; rw [e]; exact .inl hm
    · exact .inr h
  have ib : 0 ≤ (foldX b).n ∧ (foldX b).n ≤ 65535 ∨ (foldX b).k ≠ 1 := by
    by_cases h : (foldX b).k = 1
    · obtain ⟨m, hm, e⟩ := ok_k1 ob h; rw [e]; exact .inl hm
    · exact .inr h
  have EQ := hide (show foldN k (foldX a) (foldX b) = ⟨k, 0, ⟨#[]⟩, [(foldX a), (foldX b)]⟩ by unfold foldN mixX; rw [if_neg (fun h => by have := beq_eq_false_iff_ne.1 f0; exact this h.1), if_neg (beq_eq_false_iff_ne.1 g6), if_neg (fun h => beq_eq_false_iff_ne.1 f0 h.2), if_neg (fun h => beq_eq_false_iff_ne.1 f1 h.2)]; rfl)
  rw [unhide EQ]
  generalize hX : GiR _ (Up w) w = X
  have HX := hide hX
  unfold GiR Ex.cs at IA IB
  show Calls Tryd.prog 53 #[.agg #[.int .i64 k, .int .i64 0, .string ⟨#[]⟩, .slice (some ⟨p, off, none⟩) 2 cap]] w X
  generalize (foldX a) = x at *
  generalize (foldX b) = y at *
  clear hX hr hc c0 c1 c2 c3 e0 e1 e2 e3 r0 r1 iha ihb EQ xa xb oa ob
  go_enter Tryd.func53, Tryd.ntmps53
  go_wp2_with fail
  generalize (w.alloc (.cells #[.int .i64 k, .int .i64 0, .string ⟨#[]⟩, .slice (some ⟨p, off, none⟩) 2 cap] 26)).alloc (.cells #[.int .i64 0, .int .i64 0, .string ⟨#[]⟩, .slice none 0 0] 26) = W at *
  clear d0 d1 d2 d3
  refine (unhide IA).mono ?_
  rintro r w1 ⟨ca, cpa, rfl, hx, hb1⟩
  have hb2 := below_new w1 (.cells #[.int .i64 x.k, .int .i64 x.n, .string x.s, .slice ca x.l.length cpa] 26)
  have hb12 := hb1.trans (hb2.mono hb1.size)
  have X2 := hide ((unhide X0).later hb12)
  have hzW := (unhide X0).lt
  have A2 := hide (hx.low.later hb2)
  have G2 := hide (show (w1.alloc (.cells #[.int .i64 x.k, .int .i64 x.n, .string x.s, .slice ca x.l.length cpa] 26)).heap[w1.heap.size]? = some (.cells #[.int .i64 x.k, .int .i64 x.n, .string x.s, .slice ca x.l.length cpa] 26 (0, 0)) from Array.getElem?_push_size)
  have z0 := Lib.cell_of_heap (unhide X2).box 0
  have z3 := Lib.cell_of_heap (unhide X2).box 3
  have d0 := unhide E0' _ (unhide X2).bel
  have d1 := unhide E1' _ (unhide X2).bel
  have d2 := unhide E2' _ (unhide X2).bel
  have d3 := unhide E3' _ (unhide X2).bel
  have IB2 := hide (unhide IB _ (unhide X2).bel)
  have S1 := hide hb1.size
  have hz12 : w1.heap.size < (w1.alloc (.cells #[.int .i64 x.k, .int .i64 x.n, .string x.s, .slice ca x.l.length cpa] 26)).heap.size := by simp
  have HZ2 := hide hz12
  clear hx hb1 hb2 hb12 X0 IA IB E0' E1' E2' E3' hz12
  go_wp2_with fail
  generalize w1.alloc (.cells #[.int .i64 x.k, .int .i64 x.n, .string x.s, .slice ca x.l.length cpa] 26) = w2 at *
  clear d0 d1 d2 d3 z0 z3
  refine (unhide IB2).mono ?_
  rintro r w3 ⟨cb, cpb, rfl, hy, hb3⟩
  have hb4 := below_new w3 (.cells #[.int .i64 y.k, .int .i64 y.n, .string y.s, .slice cb y.l.length cpb] 26)
  have hb34 := hb3.trans (hb4.mono hb3.size)
  have X4 := hide ((unhide X2).later hb34)
  have A4 := hide ((unhide A2).later hb34)
  have B4 := hide (hy.later hb4)
  have G4 := hide (row_keep (unhide G2) hb34)
  have K4 := hide (show (w3.alloc (.cells #[.int .i64 y.k, .int .i64 y.n, .string y.s, .slice cb y.l.length cpb] 26)).heap[w3.heap.size]? = some (.cells #[.int .i64 y.k, .int .i64 y.n, .string y.s, .slice cb y.l.length cpb] 26 (0, 0)) from Array.getElem?_push_size)
  have z0 := Lib.cell_of_heap (unhide X4).box 0
  have y0 := Lib.cell_of_heap (unhide G4) 0
  have y1 := Lib.cell_of_heap (unhide G4) 1
  have u0 := Lib.cell_of_heap (unhide K4) 0
  have u1 := Lib.cell_of_heap (unhide K4) 1
  have DJ := hide (show ∀ b, (Up W b ∧ b < w1.heap.size) → ¬ Up w2 b from fun b h k => by have := unhide HZ2; have h2 : w2.heap.size ≤ b := k; omega)
  have PR := hide (show ∀ b, (Up W b ∧ b < w1.heap.size) → Ow w (Up w) b from fun b h => up_ow (Nat.le_trans hzW h.1))
  have QR := hide (show ∀ b, Up w2 b → Ow w (Up w) b from fun b h => up_ow (Nat.le_trans (unhide X2).lt h))
  have HR := hide (show ∀ b, (w3.alloc (.cells #[.int .i64 y.k, .int .i64 y.n, .string y.s, .slice cb y.l.length cpb] 26)).heap.size ≤ b → Ow w (Up w) b from fun b h => up_ow (Nat.le_trans (unhide X4).lt h))
  clear hy hb3 hb4 hb34 X2 A2 G2 IB2
  have hb5 := below_new (w3.alloc (.cells #[.int .i64 y.k, .int .i64 y.n, .string y.s, .slice cb y.l.length cpb] 26)) (.cells #[.int .i64 x.k, .int .i64 x.n, .string x.s, .slice ca x.l.length cpa, .int .i64 y.k, .int .i64 y.n, .string y.s, .slice cb y.l.length cpb] 26)
  have X5 := hide ((unhide X4).later hb5)
  have hz5 : (w3.alloc (.cells #[.int .i64 y.k, .int .i64 y.n, .string y.s, .slice cb y.l.length cpb] 26)).heap.size = w3.heap.size + 1 := by simp
  have N5' := (show PX ((w3.alloc (.cells #[.int .i64 y.k, .int .i64 y.n, .string y.s, .slice cb y.l.length cpb] 26)).alloc (.cells #[.int .i64 x.k, .int .i64 x.n, .string x.s, .slice ca x.l.length cpa, .int .i64 y.k, .int .i64 y.n, .string y.s, .slice cb y.l.length cpb] 26)) (Ow w (Up w)) ⟨k, 0, ⟨#[]⟩, [x, y]⟩ (some ⟨(w3.alloc (.cells #[.int .i64 y.k, .int .i64 y.n, .string y.s, .slice cb y.l.length cpb] 26)).heap.size, 0, none⟩) from (unhide A4).two (unhide B4) (unhide DJ) (unhide PR) (unhide QR) (unhide HR _ (Nat.le_refl _)) k 0 ⟨#[]⟩ 26)
  rw [hz5] at N5'
  have N5 := hide N5'
  clear hb5 N5' hz5
  go_wp2_with (first | (refine wpList_load_row rfl 26 _ rfl w1.heap.size rfl 26 #[.int .i64 x.k, .int .i64 x.n, .string x.s, .slice ca x.l.length cpa] (0, 0) _ (unhide G4) Tryd.underlying26 rfl (by kernel_rfl) ?_) | (refine wpList_load_row rfl 26 _ rfl w3.heap.size rfl 26 #[.int .i64 y.k, .int .i64 y.n, .string y.s, .slice cb y.l.length cpb] (0, 0) _ (unhide K4) Tryd.underlying26 rfl (by kernel_rfl) ?_) | (refine wpList_store_row rfl 26 _ _ rfl (w.heap.size + 1) #[.int .i64 k, .int .i64 0, .string ⟨#[]⟩, .slice (some ⟨w3.heap.size + 1, 0, none⟩) 2 2] rfl rfl 26 _ ((unhide X5).res) szE rfl (ex_one _ _ _ _ _ _) ?_))
  refine bodyPost_ret (results_cell_row (P := Tryd.prog) rfl _ _ (w.heap.size + 1) 26 #[.int .i64 k, .int .i64 0, .string ⟨#[]⟩, .slice (some ⟨w3.heap.size + 1, 0, none⟩) 2 2] (0, 0) _ rfl (setRow_heap _ _ _ _ _ _ ((unhide X5).res)) Tryd.underlying26 rfl szE) rfl ?_
  rw [← unhide HX]
  exact Bx.end (x := ⟨k, 0, ⟨#[]⟩, [x, y]⟩) (unhide X5) (unhide N5) _
set_option maxHeartbeats 8000000 in
theorem foldS_num {d : Nat} (k : Int) (hk : 5 ≤ k ∧ k ≤ 10) (a b : Ex) (iha : FoR a) (ihb : FoR b) (oa : okF (d + 1) false (foldX a) = true) (ob : okF (d + 1) false (foldX b) = true) (f0 : ((foldX a).k == 1) = true) (f1 : ((foldX b).k == 1) = true) (m : Int) (ht : two11 k (foldX a).n (foldX b).n = some m) : FoR ⟨k, 0, ⟨#[]⟩, [a, b]⟩ := by
  intro bb cap w hr
  rw [fold_two]
  obtain ⟨p, off, rfl, hpl, hc⟩ := hr.at (by simp)
  obtain ⟨c0, c1, c2, q0, qp0, c3, r0⟩ := hc 0 (by simp)
  obtain ⟨e0, e1, e2, q1, qp1, e3, r1⟩ := hc 1 (by simp)
  have xa : xAt (Ex.mk k 0 ⟨#[]⟩ [a, b]).l 0 = a := rfl
  have xb : xAt (Ex.mk k 0 ⟨#[]⟩ [a, b]).l 1 = b := rfl
  rw [xa] at c0 c1 c2 c3 r0
  rw [xb] at e0 e1 e2 e3 r1
  simp only [Nat.zero_mul, Nat.add_zero, Nat.one_mul] at c0 c1 c2 c3 e0 e1 e2 e3
  have X0 := hide (Bx.new w #[.int .i64 k, .int .i64 0, .string ⟨#[]⟩, .slice (some ⟨p, off, none⟩) 2 cap])
  have IA := hide (iha q0 qp0 _ (RdX.later r0 (unhide X0).bel))
  have IB := hide (fun wr (h : Below w.heap.size w wr) => ihb q1 qp1 wr (RdX.later r1 h))
  have d0 := ((unhide X0).bel.cell (p := ⟨p, off, none⟩) hpl).trans c0
  have d1 := ((unhide X0).bel.cell (p := ⟨p, off + 1, none⟩) hpl).trans c1
  have d2 := ((unhide X0).bel.cell (p := ⟨p, off + 2, none⟩) hpl).trans c2
  have d3 := ((unhide X0).bel.cell (p := ⟨p, off + 3, none⟩) hpl).trans c3
  have E0' := hide (fun wr (h : Below w.heap.size w wr) => (h.cell (p := ⟨p, off + 4, none⟩) hpl).trans e0)
  have E1' := hide (fun wr (h : Below w.heap.size w wr) => (h.cell (p := ⟨p, off + 4 + 1, none⟩) hpl).trans e1)
  have E2' := hide (fun wr (h : Below w.heap.size w wr) => (h.cell (p := ⟨p, off + 4 + 2, none⟩) hpl).trans e2)
  have E3' := hide (fun wr (h : Below w.heap.size w wr) => (h.cell (p := ⟨p, off + 4 + 3, none⟩) hpl).trans e3)
  have g4 : (k == 4) = false := beq_eq_false_iff_ne.2 (by omega)
  have OA := hide oa
  have OB := hide ob
  have ia : 0 ≤ (foldX a).n ∧ (foldX a).n ≤ 65535 ∨ (foldX a).k ≠ 1 := by
    by_cases h : (foldX a).k = 1
    · obtain ⟨m, hm, e⟩ := ok_k1 oa h; rw [e]; exact .inl hm
    · exact .inr h
  have ib : 0 ≤ (foldX b).n ∧ (foldX b).n ≤ 65535 ∨ (foldX b).k ≠ 1 := by
    by_cases h : (foldX b).k = 1
    · obtain ⟨m, hm, e⟩ := ok_k1 ob h; rw [e]; exact .inl hm
    · exact .inr h
  have EQ := hide (show foldN k (foldX a) (foldX b) = numX m by unfold foldN; rw [if_pos ⟨beq_iff_eq.1 f0, beq_iff_eq.1 f1⟩, ht])
  rw [unhide EQ]
  generalize hX : GiR _ (Up w) w = X
  have HX := hide hX
  unfold GiR Ex.cs at IA IB
  show Calls Tryd.prog 53 #[.agg #[.int .i64 k, .int .i64 0, .string ⟨#[]⟩, .slice (some ⟨p, off, none⟩) 2 cap]] w X
  generalize (foldX a) = x at *
  generalize (foldX b) = y at *
  clear hX hr hc c0 c1 c2 c3 e0 e1 e2 e3 r0 r1 iha ihb EQ xa xb oa ob
  go_enter Tryd.func53, Tryd.ntmps53
  go_wp2_with fail
  generalize (w.alloc (.cells #[.int .i64 k, .int .i64 0, .string ⟨#[]⟩, .slice (some ⟨p, off, none⟩) 2 cap] 26)).alloc (.cells #[.int .i64 0, .int .i64 0, .string ⟨#[]⟩, .slice none 0 0] 26) = W at *
  clear d0 d1 d2 d3
  refine (unhide IA).mono ?_
  rintro r w1 ⟨ca, cpa, rfl, hx, hb1⟩
  have hb2 := below_new w1 (.cells #[.int .i64 x.k, .int .i64 x.n, .string x.s, .slice ca x.l.length cpa] 26)
  have hb12 := hb1.trans (hb2.mono hb1.size)
  have X2 := hide ((unhide X0).later hb12)
  have hzW := (unhide X0).lt
  have A2 := hide (hx.low.later hb2)
  have G2 := hide (show (w1.alloc (.cells #[.int .i64 x.k, .int .i64 x.n, .string x.s, .slice ca x.l.length cpa] 26)).heap[w1.heap.size]? = some (.cells #[.int .i64 x.k, .int .i64 x.n, .string x.s, .slice ca x.l.length cpa] 26 (0, 0)) from Array.getElem?_push_size)
  have z0 := Lib.cell_of_heap (unhide X2).box 0
  have z3 := Lib.cell_of_heap (unhide X2).box 3
  have d0 := unhide E0' _ (unhide X2).bel
  have d1 := unhide E1' _ (unhide X2).bel
  have d2 := unhide E2' _ (unhide X2).bel
  have d3 := unhide E3' _ (unhide X2).bel
  have IB2 := hide (unhide IB _ (unhide X2).bel)
  have S1 := hide hb1.size
  have hz12 : w1.heap.size < (w1.alloc (.cells #[.int .i64 x.k, .int .i64 x.n, .string x.s, .slice ca x.l.length cpa] 26)).heap.size := by simp
  have HZ2 := hide hz12
  clear hx hb1 hb2 hb12 X0 IA IB E0' E1' E2' E3' hz12
  go_wp2_with fail
  generalize w1.alloc (.cells #[.int .i64 x.k, .int .i64 x.n, .string x.s, .slice ca x.l.length cpa] 26) = w2 at *
  clear d0 d1 d2 d3 z0 z3
  refine (unhide IB2).mono ?_
  rintro r w3 ⟨cb, cpb, rfl, hy, hb3⟩
  have hb4 := below_new w3 (.cells #[.int .i64 y.k, .int .i64 y.n, .string y.s, .slice cb y.l.length cpb] 26)
  have hb34 := hb3.trans (hb4.mono hb3.size)
  have X4 := hide ((unhide X2).later hb34)
  have A4 := hide ((unhide A2).later hb34)
  have B4 := hide (hy.later hb4)
  have G4 := hide (row_keep (unhide G2) hb34)
  have K4 := hide (show (w3.alloc (.cells #[.int .i64 y.k, .int .i64 y.n, .string y.s, .slice cb y.l.length cpb] 26)).heap[w3.heap.size]? = some (.cells #[.int .i64 y.k, .int .i64 y.n, .string y.s, .slice cb y.l.length cpb] 26 (0, 0)) from Array.getElem?_push_size)
  have z0 := Lib.cell_of_heap (unhide X4).box 0
  have y0 := Lib.cell_of_heap (unhide G4) 0
  have y1 := Lib.cell_of_heap (unhide G4) 1
  have u0 := Lib.cell_of_heap (unhide K4) 0
  have u1 := Lib.cell_of_heap (unhide K4) 1
  have DJ := hide (show ∀ b, (Up W b ∧ b < w1.heap.size) → ¬ Up w2 b from fun b h k => by have := unhide HZ2; have h2 : w2.heap.size ≤ b := k; omega)
  have PR := hide (show ∀ b, (Up W b ∧ b < w1.heap.size) → Ow w (Up w) b from fun b h => up_ow (Nat.le_trans hzW h.1))
  have QR := hide (show ∀ b, Up w2 b → Ow w (Up w) b from fun b h => up_ow (Nat.le_trans (unhide X2).lt h))
  have HR := hide (show ∀ b, (w3.alloc (.cells #[.int .i64 y.k, .int .i64 y.n, .string y.s, .slice cb y.l.length cpb] 26)).heap.size ≤ b → Ow w (Up w) b from fun b h => up_ow (Nat.le_trans (unhide X4).lt h))
  clear hy hb3 hb4 hb34 X2 A2 G2 IB2
  have TW := hide (twoS_any k x.n y.n hk (ia.resolve_right (fun h => h (beq_iff_eq.1 f0))) (ib.resolve_right (fun h => h (beq_iff_eq.1 f1))) (w3.alloc (.cells #[.int .i64 y.k, .int .i64 y.n, .string y.s, .slice cb y.l.length cpb] 26)))
  unfold TwoR at TW
  rw [ht] at TW
  simp only [Option.getD_some, Option.isSome_some] at TW
  go_wp2_with (first | (go_at_call 78; refine (unhide TW).mono ?_; rintro r w' ⟨hw', rfl⟩; rw [hw']; clear hw' w'))
  generalize w3.alloc (.cells #[.int .i64 y.k, .int .i64 y.n, .string y.s, .slice cb y.l.length cpb] 26) = w4 at *
  clear z0 y0 y1 u0 u1
  refine (numD m w4).mono ?_
  rintro r w5 ⟨rfl, hb5⟩
  have X5 := hide ((unhide X4).later hb5)
  have A5 := hide (PX.leaf w5 (Ow w (Up w)) 1 (m % 65536) (⟨#[]⟩ : ByteArray) none)
  clear hb5 X4 A4 B4 G4 K4 TW
  go_wp2_with (refine wpList_store_row rfl 26 _ _ rfl (w.heap.size + 1) #[.int .i64 1, .int .i64 (m % 65536), .string ⟨#[]⟩, .slice none 0 0] rfl rfl 26 _ ((unhide X5).res) szE rfl (ex_one _ _ _ _ _ _) ?_)
  refine bodyPost_ret (results_cell_row (P := Tryd.prog) rfl _ _ (w.heap.size + 1) 26 #[.int .i64 1, .int .i64 (m % 65536), .string ⟨#[]⟩, .slice none 0 0] (0, 0) _ rfl (setRow_heap _ _ _ _ _ _ ((unhide X5).res)) Tryd.underlying26 rfl szE) rfl ?_
  rw [← unhide HX]
  exact Bx.end (x := numX m) (unhide X5) (unhide A5) _
set_option maxHeartbeats 8000000 in
theorem foldS_none {d : Nat} (k : Int) (hk : 5 ≤ k ∧ k ≤ 10) (a b : Ex) (iha : FoR a) (ihb : FoR b) (oa : okF (d + 1) false (foldX a) = true) (ob : okF (d + 1) false (foldX b) = true) (f0 : ((foldX a).k == 1) = true) (f1 : ((foldX b).k == 1) = true) (g6 : (k == 6) = false) (g5 : (k == 5) = false) (ht : two11 k (foldX a).n (foldX b).n = none) : FoR ⟨k, 0, ⟨#[]⟩, [a, b]⟩ := by
  intro bb cap w hr
  rw [fold_two]
  obtain ⟨p, off, rfl, hpl, hc⟩ := hr.at (by simp)
  obtain ⟨c0, c1, c2, q0, qp0, c3, r0⟩ := hc 0 (by simp)
  obtain ⟨e0, e1, e2, q1, qp1, e3, r1⟩ := hc 1 (by simp)
  have xa : xAt (Ex.mk k 0 ⟨#[]⟩ [a, b]).l 0 = a := rfl
  have xb : xAt (Ex.mk k 0 ⟨#[]⟩ [a, b]).l 1 = b := rfl
  rw [xa] at c0 c1 c2 c3 r0
  rw [xb] at e0 e1 e2 e3 r1
  simp only [Nat.zero_mul, Nat.add_zero, Nat.one_mul] at c0 c1 c2 c3 e0 e1 e2 e3
  have X0 := hide (Bx.new w #[.int .i64 k, .int .i64 0, .string ⟨#[]⟩, .slice (some ⟨p, off, none⟩) 2 cap])
  have IA := hide (iha q0 qp0 _ (RdX.later r0 (unhide X0).bel))
  have IB := hide (fun wr (h : Below w.heap.size w wr) => ihb q1 qp1 wr (RdX.later r1 h))
  have d0 := ((unhide X0).bel.cell (p := ⟨p, off, none⟩) hpl).trans c0
  have d1 := ((unhide X0).bel.cell (p := ⟨p, off + 1, none⟩) hpl).trans c1
  have d2 := ((unhide X0).bel.cell (p := ⟨p, off + 2, none⟩) hpl).trans c2
  have d3 := ((unhide X0).bel.cell (p := ⟨p, off + 3, none⟩) hpl).trans c3
  have E0' := hide (fun wr (h : Below w.heap.size w wr) => (h.cell (p := ⟨p, off + 4, none⟩) hpl).trans e0)
  have E1' := hide (fun wr (h : Below w.heap.size w wr) => (h.cell (p := ⟨p, off + 4 + 1, none⟩) hpl).trans e1)
  have E2' := hide (fun wr (h : Below w.heap.size w wr) => (h.cell (p := ⟨p, off + 4 + 2, none⟩) hpl).trans e2)
  have E3' := hide (fun wr (h : Below w.heap.size w wr) => (h.cell (p := ⟨p, off + 4 + 3, none⟩) hpl).trans e3)
  have g4 : (k == 4) = false := beq_eq_false_iff_ne.2 (by omega)
  have OA := hide oa
  have OB := hide ob
  have ia : 0 ≤ (foldX a).n ∧ (foldX a).n ≤ 65535 ∨ (foldX a).k ≠ 1 := by
    by_cases h : (foldX a).k = 1
    · obtain ⟨m, hm, e⟩ := ok_k1 oa h; rw [e]; exact .inl hm
    · exact .inr h
  have ib : 0 ≤ (foldX b).n ∧ (foldX b).n ≤ 65535 ∨ (foldX b).k ≠ 1 := by
    by_cases h : (foldX b).k = 1
    · obtain ⟨m, hm, e⟩ := ok_k1 ob h; rw [e]; exact .inl hm
    · exact .inr h
  have EQ := hide (show foldN k (foldX a) (foldX b) = ⟨k, 0, ⟨#[]⟩, [(foldX a), (foldX b)]⟩ by unfold foldN mixX; rw [if_pos ⟨beq_iff_eq.1 f0, beq_iff_eq.1 f1⟩, ht]; simp only []; rw [if_neg (beq_eq_false_iff_ne.1 g6), if_neg (fun h => beq_eq_false_iff_ne.1 g5 h.1), if_neg (fun h => beq_eq_false_iff_ne.1 g5 h.1)]; rfl)
  rw [unhide EQ]
  generalize hX : GiR _ (Up w) w = X
  have HX := hide hX
  unfold GiR Ex.cs at IA IB
  show Calls Tryd.prog 53 #[.agg #[.int .i64 k, .int .i64 0, .string ⟨#[]⟩, .slice (some ⟨p, off, none⟩) 2 cap]] w X
  generalize (foldX a) = x at *
  generalize (foldX b) = y at *
  clear hX hr hc c0 c1 c2 c3 e0 e1 e2 e3 r0 r1 iha ihb EQ xa xb oa ob
  go_enter Tryd.func53, Tryd.ntmps53
  go_wp2_with fail
  generalize (w.alloc (.cells #[.int .i64 k, .int .i64 0, .string ⟨#[]⟩, .slice (some ⟨p, off, none⟩) 2 cap] 26)).alloc (.cells #[.int .i64 0, .int .i64 0, .string ⟨#[]⟩, .slice none 0 0] 26) = W at *
  clear d0 d1 d2 d3
  refine (unhide IA).mono ?_
  rintro r w1 ⟨ca, cpa, rfl, hx, hb1⟩
  have hb2 := below_new w1 (.cells #[.int .i64 x.k, .int .i64 x.n, .string x.s, .slice ca x.l.length cpa] 26)
  have hb12 := hb1.trans (hb2.mono hb1.size)
  have X2 := hide ((unhide X0).later hb12)
  have hzW := (unhide X0).lt
  have A2 := hide (hx.low.later hb2)
  have G2 := hide (show (w1.alloc (.cells #[.int .i64 x.k, .int .i64 x.n, .string x.s, .slice ca x.l.length cpa] 26)).heap[w1.heap.size]? = some (.cells #[.int .i64 x.k, .int .i64 x.n, .string x.s, .slice ca x.l.length cpa] 26 (0, 0)) from Array.getElem?_push_size)
  have z0 := Lib.cell_of_heap (unhide X2).box 0
  have z3 := Lib.cell_of_heap (unhide X2).box 3
  have d0 := unhide E0' _ (unhide X2).bel
  have d1 := unhide E1' _ (unhide X2).bel
  have d2 := unhide E2' _ (unhide X2).bel
  have d3 := unhide E3' _ (unhide X2).bel
  have IB2 := hide (unhide IB _ (unhide X2).bel)
  have S1 := hide hb1.size
  have hz12 : w1.heap.size < (w1.alloc (.cells #[.int .i64 x.k, .int .i64 x.n, .string x.s, .slice ca x.l.length cpa] 26)).heap.size := by simp
  have HZ2 := hide hz12
  clear hx hb1 hb2 hb12 X0 IA IB E0' E1' E2' E3' hz12
  go_wp2_with fail
  generalize w1.alloc (.cells #[.int .i64 x.k, .int .i64 x.n, .string x.s, .slice ca x.l.length cpa] 26) = w2 at *
  clear d0 d1 d2 d3 z0 z3
  refine (unhide IB2).mono ?_
  rintro r w3 ⟨cb, cpb, rfl, hy, hb3⟩
  have hb4 := below_new w3 (.cells #[.int .i64 y.k, .int .i64 y.n, .string y.s, .slice cb y.l.length cpb] 26)
  have hb34 := hb3.trans (hb4.mono hb3.size)
  have X4 := hide ((unhide X2).later hb34)
  have A4 := hide ((unhide A2).later hb34)
  have B4 := hide (hy.later hb4)
  have G4 := hide (row_keep (unhide G2) hb34)
  have K4 := hide (show (w3.alloc (.cells #[.int .i64 y.k, .int .i64 y.n, .string y.s, .slice cb y.l.length cpb] 26)).heap[w3.heap.size]? = some (.cells #[.int .i64 y.k, .int .i64 y.n, .string y.s, .slice cb y.l.length cpb] 26 (0, 0)) from Array.getElem?_push_size)
  have z0 := Lib.cell_of_heap (unhide X4).box 0
  have y0 := Lib.cell_of_heap (unhide G4) 0
  have y1 := Lib.cell_of_heap (unhide G4) 1
  have u0 := Lib.cell_of_heap (unhide K4) 0
  have u1 := Lib.cell_of_heap (unhide K4) 1
  have DJ := hide (show ∀ b, (Up W b ∧ b < w1.heap.size) → ¬ Up w2 b from fun b h k => by have := unhide HZ2; have h2 : w2.heap.size ≤ b := k; omega)
  have PR := hide (show ∀ b, (Up W b ∧ b < w1.heap.size) → Ow w (Up w) b from fun b h => up_ow (Nat.le_trans hzW h.1))
  have QR := hide (show ∀ b, Up w2 b → Ow w (Up w) b from fun b h => up_ow (Nat.le_trans (unhide X2).lt h))
  have HR := hide (show ∀ b, (w3.alloc (.cells #[.int .i64 y.k, .int .i64 y.n, .string y.s, .slice cb y.l.length cpb] 26)).heap.size ≤ b → Ow w (Up w) b from fun b h => up_ow (Nat.le_trans (unhide X4).lt h))
  clear hy hb3 hb4 hb34 X2 A2 G2 IB2
  have TW := hide (twoS_any k x.n y.n hk (ia.resolve_right (fun h => h (beq_iff_eq.1 f0))) (ib.resolve_right (fun h => h (beq_iff_eq.1 f1))) (w3.alloc (.cells #[.int .i64 y.k, .int .i64 y.n, .string y.s, .slice cb y.l.length cpb] 26)))
  unfold TwoR at TW
  rw [ht] at TW
  simp only [Option.getD_none, Option.isSome_none] at TW
  have hb5 := below_new (w3.alloc (.cells #[.int .i64 y.k, .int .i64 y.n, .string y.s, .slice cb y.l.length cpb] 26)) (.cells #[.int .i64 x.k, .int .i64 x.n, .string x.s, .slice ca x.l.length cpa, .int .i64 y.k, .int .i64 y.n, .string y.s, .slice cb y.l.length cpb] 26)
  have X5 := hide ((unhide X4).later hb5)
  have hz5 : (w3.alloc (.cells #[.int .i64 y.k, .int .i64 y.n, .string y.s, .slice cb y.l.length cpb] 26)).heap.size = w3.heap.size + 1 := by simp
  have N5' := (show PX ((w3.alloc (.cells #[.int .i64 y.k, .int .i64 y.n, .string y.s, .slice cb y.l.length cpb] 26)).alloc (.cells #[.int .i64 x.k, .int .i64 x.n, .string x.s, .slice ca x.l.length cpa, .int .i64 y.k, .int .i64 y.n, .string y.s, .slice cb y.l.length cpb] 26)) (Ow w (Up w)) ⟨k, 0, ⟨#[]⟩, [x, y]⟩ (some ⟨(w3.alloc (.cells #[.int .i64 y.k, .int .i64 y.n, .string y.s, .slice cb y.l.length cpb] 26)).heap.size, 0, none⟩) from (unhide A4).two (unhide B4) (unhide DJ) (unhide PR) (unhide QR) (unhide HR _ (Nat.le_refl _)) k 0 ⟨#[]⟩ 26)
  rw [hz5] at N5'
  have N5 := hide N5'
  clear hb5 N5' hz5
  go_wp2_with (first | (go_at_call 78; refine (unhide TW).mono ?_; rintro r w' ⟨hw', rfl⟩; rw [hw']; clear hw' w') | (refine wpList_load_row rfl 26 _ rfl w1.heap.size rfl 26 #[.int .i64 x.k, .int .i64 x.n, .string x.s, .slice ca x.l.length cpa] (0, 0) _ (unhide G4) Tryd.underlying26 rfl (by kernel_rfl) ?_) | (refine wpList_load_row rfl 26 _ rfl w3.heap.size rfl 26 #[.int .i64 y.k, .int .i64 y.n, .string y.s, .slice cb y.l.length cpb] (0, 0) _ (unhide K4) Tryd.underlying26 rfl (by kernel_rfl) ?_) | (refine wpList_store_row rfl 26 _ _ rfl (w.heap.size + 1) #[.int .i64 k, .int .i64 0, .string ⟨#[]⟩, .slice (some ⟨w3.heap.size + 1, 0, none⟩) 2 2] rfl rfl 26 _ ((unhide X5).res) szE rfl (ex_one _ _ _ _ _ _) ?_))
  refine bodyPost_ret (results_cell_row (P := Tryd.prog) rfl _ _ (w.heap.size + 1) 26 #[.int .i64 k, .int .i64 0, .string ⟨#[]⟩, .slice (some ⟨w3.heap.size + 1, 0, none⟩) 2 2] (0, 0) _ rfl (setRow_heap _ _ _ _ _ _ ((unhide X5).res)) Tryd.underlying26 rfl szE) rfl ?_
  rw [← unhide HX]
  exact Bx.end (x := ⟨k, 0, ⟨#[]⟩, [x, y]⟩) (unhide X5) (unhide N5) _
end Go.Proofs.YtkolflcjkofleaaDoor

namespace Go.Proofs.YtkolflcjkofleaaDoor
open Go.ChangeShapes Go.WideShapes Go.ChangeAt Go.RowKit
set_option linter.unusedVariables false
set_option maxRecDepth 8000
set_option linter.unusedSimpArgs false

theorem name_szF {s : ByteArray} (h : nameB s = true) : s.size ≤ 6 := by
  unfold nameB at h
  rw [Bool.and_eq_true] at h
  obtain ⟨c, r, _, _, _, hl⟩ := form_open h.1
  rw [← size_len]
  exact hl
theorem foldS_two {d : Nat} (k : Int) (hk : 5 ≤ k ∧ k ≤ 10) (a b : Ex) (iha : FoR a) (ihb : FoR b) (oa : okF (d + 1) false (foldX a) = true) (ob : okF (d + 1) false (foldX b) = true) : FoR ⟨k, 0, ⟨#[]⟩, [a, b]⟩ := by
  cases g6 : (k == 6) with
  | true =>
    cases f0 : ((foldX a).k == 1) with
    | false => exact foldS_sub0 k hk a b iha ihb oa ob f0 g6
    | true =>
      cases f1 : ((foldX b).k == 1) with
      | false => exact foldS_sub1 k hk a b iha ihb oa ob f0 f1 g6
      | true =>
        obtain ⟨m, hm⟩ := two11_some (a := (foldX a).n) (b := (foldX b).n) (k := k) (.inr (beq_iff_eq.1 g6))
        exact foldS_num k hk a b iha ihb oa ob f0 f1 m hm
  | false =>
    cases g5 : (k == 5) with
    | true =>
      cases f0 : ((foldX a).k == 1) with
      | false =>
        cases f1 : ((foldX b).k == 1) with
        | false => exact foldS_add0 k hk a b iha ihb oa ob f0 f1 g6 g5
        | true => exact foldS_add2 k hk a b iha ihb oa ob f0 f1 g6 g5
      | true =>
        cases f1 : ((foldX b).k == 1) with
        | false => exact foldS_add1 k hk a b iha ihb oa ob f0 f1 g6 g5
        | true =>
          obtain ⟨m, hm⟩ := two11_some (a := (foldX a).n) (b := (foldX b).n) (k := k) (.inl (beq_iff_eq.1 g5))
          exact foldS_num k hk a b iha ihb oa ob f0 f1 m hm
    | false =>
      cases f0 : ((foldX a).k == 1) with
      | false => exact foldS_mix0 k hk a b iha ihb oa ob f0 g6 g5
      | true =>
        cases f1 : ((foldX b).k == 1) with
        | false => exact foldS_mix1 k hk a b iha ihb oa ob f0 f1 g6 g5
        | true =>
          cases ht : two11 k (foldX a).n (foldX b).n with
          | some m => exact foldS_num k hk a b iha ihb oa ob f0 f1 m ht
          | none => exact foldS_none k hk a b iha ihb oa ob f0 f1 g6 g5 ht
theorem foldS_all : ∀ (d : Nat) (e : Ex), okF d false e = true → FoR e := by
  intro d
  induction d with
  | zero => intro e h; rw [okF] at h; cases h
  | succ d ih =>
    intro e h
    rcases ok_sev h with ⟨n, hn, rfl⟩ | ⟨s, hs, rfl⟩ | rfl | ⟨n, hn, rfl⟩ | ⟨s, hs, rfl⟩ | ⟨a, ha, rfl⟩ | ⟨k, a, b, hk, ha, hb, rfl⟩
    · exact foldS_leaf _ _ _ (by show 0 ≤ 1048576; omega)
    · exact foldS_leaf _ _ _ (by have := name_szF hs; omega)
    · exact foldS_leaf _ _ _ (by show 0 ≤ 1048576; omega)
    · exact foldS_leaf _ _ _ (by show 0 ≤ 1048576; omega)
    · exact foldS_leaf _ _ _ (by have := name_szF hs; omega)
    · have oa := fold_ok d a ha
      obtain ⟨c, rfl⟩ := ok_pos ha
      have hn : 0 ≤ (foldX a).n ∧ (foldX a).n ≤ 65535 ∨ (foldX a).k ≠ 1 := by
        by_cases h1 : (foldX a).k = 1
        · obtain ⟨m, hm, e⟩ := ok_k1 oa h1; rw [e]; exact .inl hm
        · exact .inr h1
      cases f0 : ((foldX a).k == 1) with
      | false => exact foldS_neg0 a (ih a ha) f0 hn
      | true => exact foldS_neg1 a (ih a ha) f0 hn
    · have oa := fold_ok d a ha
      have ob := fold_ok d b hb
      obtain ⟨c, rfl⟩ := ok_pos ha
      exact foldS_two k hk a b (ih a ha) (ih b hb) oa ob
/-- What Fold answers. -/
def foldA (e : Ex) : Ex := if okF 6 false e = true then foldX e else e
set_option maxHeartbeats 4000000 in
theorem foldA_yes (e : Ex) (b : Option Addr) (cap : Nat) (w : World) (hr : RdX w 0 e b) (hz : e.sz ≤ 1048576) (ho : okF 6 false e = true) : Calls Tryd.prog 16 #[.agg (e.cs b cap)] w (GiR (foldA e) (Up w) w) := by
  have EQ := hide (show foldA e = foldX e by unfold foldA; rw [if_pos ho])
  rw [unhide EQ]
  have X0 := hide (Bx.new w #[.int .i64 e.k, .int .i64 e.n, .string e.s, .slice b e.l.length cap])
  have OK := hide (okS_any e b cap _ (hr.later (unhide X0).bel) hz)
  rw [ho] at OK
  have CA := hide (fun wr (h : Below w.heap.size w wr) => foldS_all 6 e ho b cap wr (hr.later h))
  generalize hX : GiR _ (Up w) w = X
  have HX := hide hX
  unfold GiR at CA
  unfold Ex.cs at CA OK ⊢
  clear hX hr hz ho EQ
  go_enter Tryd.func16, Tryd.ntmps16
  go_wp2_with fail
  generalize (w.alloc (.cells #[.int .i64 e.k, .int .i64 e.n, .string e.s, .slice b e.l.length cap] 26)).alloc (.cells #[.int .i64 0, .int .i64 0, .string ⟨#[]⟩, .slice none 0 0] 26) = W at *
  refine (unhide OK).mono ?_
  rintro r w1 ⟨rfl, hb1⟩
  have X1 := hide ((unhide X0).later hb1)
  have C1 := hide (unhide CA w1 (unhide X1).bel)
  clear hb1 X0 OK CA
  go_wp2_with (refine wpList_load_row rfl 26 _ rfl w.heap.size rfl 26 #[.int .i64 e.k, .int .i64 e.n, .string e.s, .slice b e.l.length cap] (0, 0) _ ((unhide X1).box) Tryd.underlying26 rfl (by kernel_rfl) ?_)
  refine (unhide C1).mono ?_
  rintro r w2 ⟨c2, cp2, rfl, hx, hb2⟩
  have hz1 := (unhide X1).lt
  have X2 := hide ((unhide X1).later hb2)
  have A2 := hide (hx.mono (fun b h => up_ow (w := w) (b := b) (Nat.le_trans hz1 h)))
  clear hx hb2 X1 C1
  generalize foldX e = y at *
  go_wp2_with (refine wpList_store_row rfl 26 _ _ rfl (w.heap.size + 1) #[.int .i64 y.k, .int .i64 y.n, .string y.s, .slice c2 y.l.length cp2] rfl rfl 26 _ ((unhide X2).res) szE rfl (ex_one _ _ _ _ _ _) ?_)
  refine bodyPost_ret (results_cell_row (P := Tryd.prog) rfl _ _ (w.heap.size + 1) 26 #[.int .i64 y.k, .int .i64 y.n, .string y.s, .slice c2 y.l.length cp2] (0, 0) _ rfl (setRow_heap _ _ _ _ _ _ ((unhide X2).res)) Tryd.underlying26 rfl szE) rfl ?_
  rw [← unhide HX]
  exact (unhide X2).end (unhide A2) _
set_option maxHeartbeats 4000000 in
theorem foldA_no (e : Ex) (b : Option Addr) (cap : Nat) (w : World) (hr : RdX w 0 e b) (hz : e.sz ≤ 1048576) (ho : okF 6 false e = false) : Calls Tryd.prog 16 #[.agg (e.cs b cap)] w (GiR (foldA e) (Up w) w) := by
  have EQ := hide (show foldA e = e by unfold foldA; rw [if_neg (by rw [ho]; decide)])
  rw [unhide EQ]
  have X0 := hide (Bx.new w #[.int .i64 e.k, .int .i64 e.n, .string e.s, .slice b e.l.length cap])
  have OK := hide (okS_any e b cap _ (hr.later (unhide X0).bel) hz)
  rw [ho] at OK
  have CA := hide (fun wr (h : Below w.heap.size w wr) => copyS_any e b cap wr (hr.later h) hz)
  generalize hX : GiR _ (Up w) w = X
  have HX := hide hX
  unfold GiR at CA
  unfold Ex.cs at CA OK ⊢
  clear hX hr hz ho EQ
  go_enter Tryd.func16, Tryd.ntmps16
  go_wp2_with fail
  generalize (w.alloc (.cells #[.int .i64 e.k, .int .i64 e.n, .string e.s, .slice b e.l.length cap] 26)).alloc (.cells #[.int .i64 0, .int .i64 0, .string ⟨#[]⟩, .slice none 0 0] 26) = W at *
  refine (unhide OK).mono ?_
  rintro r w1 ⟨rfl, hb1⟩
  have X1 := hide ((unhide X0).later hb1)
  have C1 := hide (unhide CA w1 (unhide X1).bel)
  clear hb1 X0 OK CA
  go_wp2_with (refine wpList_load_row rfl 26 _ rfl w.heap.size rfl 26 #[.int .i64 e.k, .int .i64 e.n, .string e.s, .slice b e.l.length cap] (0, 0) _ ((unhide X1).box) Tryd.underlying26 rfl (by kernel_rfl) ?_)
  refine (unhide C1).mono ?_
  rintro r w2 ⟨c2, cp2, rfl, hx, hb2⟩
  have hz1 := (unhide X1).lt
  have X2 := hide ((unhide X1).later hb2)
  have A2 := hide (hx.mono (fun b h => up_ow (w := w) (b := b) (Nat.le_trans hz1 h)))
  clear hx hb2 X1 C1
  generalize e = y at *
  go_wp2_with (refine wpList_store_row rfl 26 _ _ rfl (w.heap.size + 1) #[.int .i64 y.k, .int .i64 y.n, .string y.s, .slice c2 y.l.length cp2] rfl rfl 26 _ ((unhide X2).res) szE rfl (ex_one _ _ _ _ _ _) ?_)
  refine bodyPost_ret (results_cell_row (P := Tryd.prog) rfl _ _ (w.heap.size + 1) 26 #[.int .i64 y.k, .int .i64 y.n, .string y.s, .slice c2 y.l.length cp2] (0, 0) _ rfl (setRow_heap _ _ _ _ _ _ ((unhide X2).res)) Tryd.underlying26 rfl szE) rfl ?_
  rw [← unhide HX]
  exact (unhide X2).end (unhide A2) _
theorem foldA_any (e : Ex) (b : Option Addr) (cap : Nat) (w : World) (hr : RdX w 0 e b) (hz : e.sz ≤ 1048576) : Calls Tryd.prog 16 #[.agg (e.cs b cap)] w (GiR (foldA e) (Up w) w) := by
  cases ho : okF 6 false e with
  | true => exact foldA_yes e b cap w hr hz ho
  | false => exact foldA_no e b cap w hr hz ho
/-- What is known of a term. -/
def knownA (e : Ex) : Option Int := if okF 6 false e = true ∧ (foldX e).k = 1 then some (foldX e).n else none
end Go.Proofs.YtkolflcjkofleaaDoor

namespace Go.Proofs.YtkolflcjkofleaaDoor
open Go.ChangeShapes Go.WideShapes Go.ChangeAt Go.RowKit
set_option linter.unusedVariables false
set_option maxRecDepth 8000
set_option linter.unusedSimpArgs false

theorem Bx.fin {w wr : World} {pr : Array Value} {x : Ex} {c : Option Addr} {cp : Nat} (h : Bx w wr pr) (hn : NewX wr (w.heap.size + 2) x c) (row : Array Value) : XoR x w (.returned (.agg #[.int .i64 x.k, .int .i64 x.n, .string x.s, .slice c x.l.length cp])) (wr.setRow (w.heap.size + 1) row) :=
  ⟨c, cp, rfl, (hn.row _ (by omega)).lower (by omega), h.bel.grown (grownBy_row _) h.bel.size (fun k e => by cases e; omega)⟩
set_option maxHeartbeats 4000000 in
theorem foldI_no (e : Ex) (b : Option Addr) (cap : Nat) (F0 : List Nat) (w : World) (hx : OwX w e b F0) (hn : F0.Nodup) (hz : e.sz ≤ 1048576) (ht : TabK w) (ho : okF 6 false e = false) : Calls Tryd.prog 12 #[.agg (e.cs b cap)] w (XoR e w) := by
  have X0 := hide (Bx.new w #[.int .i64 e.k, .int .i64 e.n, .string e.s, .slice b e.l.length cap])
  have TM := hide (term_all 6 (by omega) e b cap _ ((OwX.rd e b F0 (fun _ _ => Nat.zero_le _) hx).later (unhide X0).bel) hz (ht.next (unhide X0).bel))
  unfold TermR at TM
  rw [ho] at TM
  have CP := hide (fun wr (h : Below w.heap.size w wr) => copyI_any e b cap F0 wr (hx.later h) hn hz)
  unfold XoR at CP
  generalize hX : XoR e w = X
  have HX := hide hX
  unfold Ex.cs at CP TM ⊢
  clear hX hx ht ho hn hz
  go_enter Tryd.func12, Tryd.ntmps12
  go_wp2_with fail
  generalize (w.alloc (.cells #[.int .i64 e.k, .int .i64 e.n, .string e.s, .slice b e.l.length cap] 26)).alloc (.cells #[.int .i64 0, .int .i64 0, .string ⟨#[]⟩, .slice none 0 0] 26) = W at *
  refine (unhide TM).mono ?_
  rintro r w1 ⟨v, rfl, _, hb1⟩
  have X1 := hide ((unhide X0).later hb1)
  have C1 := hide (unhide CP w1 (unhide X1).bel)
  have hl1 := (unhide X1).lt
  clear hb1 X0 CP TM
  go_wp2_with (refine wpList_load_row rfl 26 _ rfl w.heap.size rfl 26 #[.int .i64 e.k, .int .i64 e.n, .string e.s, .slice b e.l.length cap] (0, 0) _ ((unhide X1).box) Tryd.underlying26 rfl (by kernel_rfl) ?_)
  refine (unhide C1).mono ?_
  rintro r w2 ⟨c, cp, rfl, hnx, hb2⟩
  have X2 := hide ((unhide X1).later hb2)
  have N := hide (hnx.lower hl1)
  clear hnx hb2 C1 X1
  go_wp2_with (refine wpList_store_row rfl 26 _ _ rfl (w.heap.size + 1) #[.int .i64 e.k, .int .i64 e.n, .string e.s, .slice c e.l.length cp] rfl rfl 26 _ ((unhide X2).res) szE rfl (ex_one _ _ _ _ _ _) ?_)
  refine bodyPost_ret (results_cell_row (P := Tryd.prog) rfl _ _ (w.heap.size + 1) 26 #[.int .i64 e.k, .int .i64 e.n, .string e.s, .slice c e.l.length cp] (0, 0) _ rfl (setRow_heap _ _ _ _ _ _ ((unhide X2).res)) Tryd.underlying26 rfl szE) rfl ?_
  rw [← unhide HX]
  exact (unhide X2).fin (unhide N) _
set_option maxHeartbeats 4000000 in
theorem foldI_yes (e : Ex) (b : Option Addr) (cap : Nat) (F0 : List Nat) (w : World) (hx : OwX w e b F0) (hn : F0.Nodup) (hz : e.sz ≤ 1048576) (ht : TabK w) (ho : okF 6 false e = true) : Calls Tryd.prog 12 #[.agg (e.cs b cap)] w (XoR (foldX e) w) := by
  have X0 := hide (Bx.new w #[.int .i64 e.k, .int .i64 e.n, .string e.s, .slice b e.l.length cap])
  have TM := hide (term_all 6 (by omega) e b cap _ ((OwX.rd e b F0 (fun _ _ => Nat.zero_le _) hx).later (unhide X0).bel) hz (ht.next (unhide X0).bel))
  unfold TermR at TM
  have FT := hide (fun w => ft_all 6 e w ho)
  have XO := hide (fun w => xo_all 6 (foldX e) w (fold_ok 6 e ho))
  obtain ⟨tf, xf, ef⟩ := tv_if (foldX e)
  obtain ⟨te, xe, ee⟩ := tv_if e
  rw [ho, ee] at TM
  simp only [forall_const] at TM
  rw [ee, ef] at FT
  rw [ef] at XO
  unfold VaR at FT
  unfold XoR at XO
  generalize hX : XoR (foldX e) w = X
  have HX := hide hX
  unfold Ex.cs at XO TM ⊢
  clear hX hx ht ho hn hz ee ef
  generalize foldX e = y at *
  go_enter Tryd.func12, Tryd.ntmps12
  go_wp2_with fail
  generalize (w.alloc (.cells #[.int .i64 e.k, .int .i64 e.n, .string e.s, .slice b e.l.length cap] 26)).alloc (.cells #[.int .i64 0, .int .i64 0, .string ⟨#[]⟩, .slice none 0 0] 26) = W at *
  refine (unhide TM).mono ?_
  rintro r w1 ⟨v, rfl, rfl, hb1⟩
  have X1 := hide ((unhide X0).later hb1)
  clear hb1 X0 TM
  go_wp2_with fail
  refine (unhide FT _).mono ?_
  rintro r w2 ⟨rfl, hb2⟩
  have X2 := hide ((unhide X1).later hb2)
  have hl2 := (unhide X2).lt
  clear hb2 X1 FT
  go_wp2_with fail
  refine (unhide XO _).mono ?_
  rintro r w3 ⟨c, cp, rfl, hnx, hb3⟩
  have X3 := hide ((unhide X2).later hb3)
  have N := hide (hnx.lower hl2)
  clear hnx hb3 XO X2
  go_wp2_with (refine wpList_store_row rfl 26 _ _ rfl (w.heap.size + 1) #[.int .i64 y.k, .int .i64 y.n, .string y.s, .slice c y.l.length cp] rfl rfl 26 _ ((unhide X3).res) szE rfl (ex_one _ _ _ _ _ _) ?_)
  refine bodyPost_ret (results_cell_row (P := Tryd.prog) rfl _ _ (w.heap.size + 1) 26 #[.int .i64 y.k, .int .i64 y.n, .string y.s, .slice c y.l.length cp] (0, 0) _ rfl (setRow_heap _ _ _ _ _ _ ((unhide X3).res)) Tryd.underlying26 rfl szE) rfl ?_
  rw [← unhide HX]
  exact (unhide X3).fin (unhide N) _
theorem foldI_any (e : Ex) (b : Option Addr) (cap : Nat) (F0 : List Nat) (w : World) (hx : OwX w e b F0) (hn : F0.Nodup) (hz : e.sz ≤ 1048576) (ht : TabK w) : Calls Tryd.prog 12 #[.agg (e.cs b cap)] w (XoR (foldA e) w) := by
  unfold foldA
  cases ho : okF 6 false e with
  | false => rw [if_neg (by decide)]; exact foldI_no e b cap F0 w hx hn hz ht ho
  | true => rw [if_pos rfl]; exact foldI_yes e b cap F0 w hx hn hz ht ho
end Go.Proofs.YtkolflcjkofleaaDoor

namespace Go.Proofs.YtkolflcjkofleaaDoor
open Go.ChangeShapes Go.WideShapes Go.ChangeAt Go.RowKit
set_option linter.unusedVariables false
set_option maxRecDepth 8000

def MarkP (e : Ex) : Prop := ∀ (a : Option Addr) (cap k : Nat) (F : List Nat) (B : Nat) (w : World), OwX w e a F → F.Nodup → (∀ b ∈ F, B ≤ b) → B ≤ w.heap.size → 0 < k → k + 3 * e.ct ≤ 8000000 → Calls Tryd.prog 38 #[.slice a e.l.length cap, .int .i64 k] w fun r w' => ∃ e' : Ex, r = .returned (.int .i64 ((k + 3 * e.ct : Nat) : Int)) ∧ MkX e k e' ∧ OwX w' e' a F ∧ Below B w w' ∧ ∀ g, g < w.heap.size → g ∉ F → w'.heap[g]? = w.heap[g]?
/-- So many parts are marked. -/
structure Mkg (w wr : World) (l : List Ex) (K b : Nat) (Fs : List (List Nat)) (B i : Nat) (ys : List Ex) (cs : Array Value) (t : TypeId) : Prop where
  hyl : ys.length = l.length
  row : wr.heap[b]? = some (.cells cs t (0, 0))
  hz : l.length * 4 ≤ cs.size
  one : ∀ j, j < l.length → OwOne wr cs j (xAt ys j) (Fs.getD j [])
  done : ∀ j, j < i → MkOne l K j (xAt ys j)
  rest : ∀ j, i ≤ j → xAt ys j = xAt l j
  bel : Below B w wr
  fr : ∀ g, g < w.heap.size → g ∉ b :: Fs.flatten → wr.heap[g]? = w.heap[g]?
theorem OwX.of {w : World} {x z : Ex} {c : Option Addr} {F : List Nat} (h : OwX w x c F) (hl : z.l = x.l) : OwX w z c F := by
  rw [OwX_eq] at h ⊢
  rw [hl]
  exact h
theorem Mkg.step {w wr w3 w5 : World} {l ys : List Ex} {K b : Nat} {Fs : List (List Nat)} {B i : Nat} {cs : Array Value} {t : TypeId} {c : Option Addr} {cp : Nat} {x' : Ex}
    (h : Mkg w wr l K b Fs B i ys cs t) (hi : i < l.length) (hF : Fs.length = l.length) (hn : (b :: Fs.flatten).Nodup) (hB : ∀ g ∈ b :: Fs.flatten, B ≤ g)
    (q3 : cs[i * 4 + 3]? = some (.slice c (xAt l i).l.length cp))
    (hb3 : Below ((wr.setCell ⟨b, i * 4, none⟩ (.int .i64 ((posX l K i : Nat) : Int))).setCell ⟨b, i * 4 + 1, none⟩ (.int .i64 ((posX l K i + 1 : Nat) : Int))).heap.size ((wr.setCell ⟨b, i * 4, none⟩ (.int .i64 ((posX l K i : Nat) : Int))).setCell ⟨b, i * 4 + 1, none⟩ (.int .i64 ((posX l K i + 1 : Nat) : Int))) w3)
    (hmk : MkX (xAt l i) (posX l K i + 3) x') (hox : OwX w5 x' c (Fs.getD i []))
    (hb5 : Below B (w3.setCell ⟨b, i * 4 + 2, none⟩ (.string (mkTx (posX l K i + 2)))) w5)
    (hf5 : ∀ g, g < (w3.setCell ⟨b, i * 4 + 2, none⟩ (.string (mkTx (posX l K i + 2)))).heap.size → g ∉ Fs.getD i [] → w5.heap[g]? = (w3.setCell ⟨b, i * 4 + 2, none⟩ (.string (mkTx (posX l K i + 2)))).heap[g]?) :
    ∃ ys' cs', Mkg w w5 l K b Fs B (i + 1) ys' cs' t := by
  have hn' := List.nodup_cons.1 hn
  have hbl : b < wr.heap.size := (Array.getElem?_eq_some_iff.1 h.row).1
  have r1 := heap_setCell_same wr b (i * 4) cs t (.int .i64 ((posX l K i : Nat) : Int)) h.row
  have r2 := heap_setCell_same _ b (i * 4 + 1) _ t (.int .i64 ((posX l K i + 1 : Nat) : Int)) r1
  have hsz2 : ((wr.setCell ⟨b, i * 4, none⟩ (.int .i64 ((posX l K i : Nat) : Int))).setCell ⟨b, i * 4 + 1, none⟩ (.int .i64 ((posX l K i + 1 : Nat) : Int))).heap.size = wr.heap.size := by simp
  have hoth2 : ∀ g, g ≠ b → ((wr.setCell ⟨b, i * 4, none⟩ (.int .i64 ((posX l K i : Nat) : Int))).setCell ⟨b, i * 4 + 1, none⟩ (.int .i64 ((posX l K i + 1 : Nat) : Int))).heap[g]? = wr.heap[g]? := fun g hg => by
    rw [heap_setCell_other _ _ _ _ hg, heap_setCell_other _ _ _ _ hg]
  have hbel2 : Below B wr ((wr.setCell ⟨b, i * 4, none⟩ (.int .i64 ((posX l K i : Nat) : Int))).setCell ⟨b, i * 4 + 1, none⟩ (.int .i64 ((posX l K i + 1 : Nat) : Int))) := ((Below.refl B wr).setCell (p := ⟨b, _, none⟩) (hB b List.mem_cons_self) _).setCell (p := ⟨b, _, none⟩) (hB b List.mem_cons_self) _
  generalize (wr.setCell ⟨b, i * 4, none⟩ (.int .i64 ((posX l K i : Nat) : Int))).setCell ⟨b, i * 4 + 1, none⟩ (.int .i64 ((posX l K i + 1 : Nat) : Int)) = W2 at *
  rw [hsz2] at hb3
  have r3 := (hb3.block b hbl).trans r2
  have r4 := heap_setCell_same w3 b (i * 4 + 2) _ t (.string (mkTx (posX l K i + 2))) r3
  have hsz3 : wr.heap.size ≤ w3.heap.size := hsz2 ▸ hb3.size
  have hsz4 : (w3.setCell ⟨b, i * 4 + 2, none⟩ (.string (mkTx (posX l K i + 2)))).heap.size = w3.heap.size := by simp
  have hoth4 : ∀ g, g < wr.heap.size → g ≠ b → (w3.setCell ⟨b, i * 4 + 2, none⟩ (.string (mkTx (posX l K i + 2)))).heap[g]? = wr.heap[g]? := fun g hgl hg => by
    rw [heap_setCell_other _ _ _ _ hg, hb3.block g hgl, hoth2 g hg]
  have hbB : B ≤ b := hB b List.mem_cons_self
  have hbel4 : Below B wr (w3.setCell ⟨b, i * 4 + 2, none⟩ (.string (mkTx (posX l K i + 2)))) := (hbel2.trans (hb3.mono (by omega))).setCell (p := ⟨b, _, none⟩) hbB _
  rw [hsz4] at hf5
  have hbi : b ∉ Fs.getD i [] := fun hb => hn'.1 (getD_flat hb)
  have r5 := (hf5 b (by omega) hbi).trans r4
  have hlt : ∀ g ∈ Fs.flatten, g < wr.heap.size := fun g hg => by
    obtain ⟨G, hG, hx⟩ := List.mem_flatten.1 hg
    obtain ⟨j, hj, rfl⟩ := List.getElem_of_mem hG
    obtain ⟨_, _, _, c', cp', _, ho⟩ := h.one j (hF ▸ hj)
    rw [List.getD_eq_getElem?_getD, List.getElem?_eq_getElem hj] at ho
    exact OwX.lt _ _ _ ho _ hx
  have hk5 : ∀ g, g < wr.heap.size → g ≠ b → g ∉ Fs.getD i [] → w5.heap[g]? = wr.heap[g]? := fun g hgl hg hgi => (hf5 g (by omega) hgi).trans (hoth4 g hgl hg)
  have hz := h.hz
  have T := OwOne.turn (wr := wr) (w5 := w5) (ys := ys) (b := b) (cs := cs) (cs5 := ((cs.setIfInBounds (i * 4) (.int .i64 ((posX l K i : Nat) : Int))).setIfInBounds (i * 4 + 1) (.int .i64 ((posX l K i + 1 : Nat) : Int))).setIfInBounds (i * 4 + 2) (.string (mkTx (posX l K i + 2)))) (Fs := Fs) (i := i) (y := ⟨((posX l K i : Nat) : Int), ((posX l K i + 1 : Nat) : Int), mkTx (posX l K i + 2), x'.l⟩) (c := c) (cp := cp)
    (fun j hj => h.one j (h.hyl ▸ hj)) hn (by rw [h.hyl]; exact hi)
    (fun j h0 h1 h2 => by rw [Array.getElem?_setIfInBounds_ne (by omega), Array.getElem?_setIfInBounds_ne (by omega), Array.getElem?_setIfInBounds_ne (by omega)])
    (by rw [Array.getElem?_setIfInBounds_ne (by omega), Array.getElem?_setIfInBounds_ne (by omega), Array.getElem?_setIfInBounds_self_of_lt (by omega)])
    (by rw [Array.getElem?_setIfInBounds_ne (by omega), Array.getElem?_setIfInBounds_self_of_lt (by simp; omega)])
    (by rw [Array.getElem?_setIfInBounds_self_of_lt (by simp; omega)])
    (by rw [Array.getElem?_setIfInBounds_ne (by omega), Array.getElem?_setIfInBounds_ne (by omega), Array.getElem?_setIfInBounds_ne (by omega), show (Ex.mk ((posX l K i : Nat) : Int) ((posX l K i + 1 : Nat) : Int) (mkTx (posX l K i + 2)) x'.l).l.length = x'.l.length from rfl, hmk.len]; exact q3)
    (hox.of rfl) (fun g hg hgi => hk5 g (hlt g hg) (fun e => hn'.1 (e ▸ hg)) hgi)
  rw [h.hyl] at T
  refine ⟨ys.set i ⟨((posX l K i : Nat) : Int), ((posX l K i + 1 : Nat) : Int), mkTx (posX l K i + 2), x'.l⟩, _, ?_, r5, ?_, T, fun j hj => ?_, fun j hj => ?_, h.bel.trans (hbel4.trans hb5), fun g hgl hg => ?_⟩
  · rw [List.length_set]; exact h.hyl
  · simpa using hz
  · by_cases hij : i = j
    · subst hij
      rw [xAt_set_eq (by rw [h.hyl]; exact hi)]
      exact ⟨rfl, rfl, rfl, hmk.of rfl⟩
    · rw [xAt_set_ne hij]
      exact h.done j (by omega)
  · rw [xAt_set_ne (by omega)]
    exact h.rest j (by omega)
  · have h1 : g ≠ b := fun e => hg (e ▸ List.mem_cons_self)
    have h2 : g ∉ Fs.getD i [] := fun e => hg (List.mem_cons_of_mem _ (getD_flat e))
    exact (hk5 g (Nat.lt_of_lt_of_le hgl h.bel.size) h1 h2).trans (h.fr g hgl hg)
set_option maxHeartbeats 2000000 in
theorem markXS_of (e : Ex) (ih : ∀ i, i < e.l.length → MarkP (xAt e.l i)) : MarkP e := by
  intro a cap K F B w ho hnd hF hBw hK hbd
  have hct := ct_is e
  rw [OwX_eq] at ho
  generalize hl : e.l = l at *
  rw [hct] at hbd ⊢
  have FIN := hide (fun (y : Ex) => MkX_eq e K y)
  rw [hl] at FIN
  rcases ho with ⟨rfl, rfl⟩ | ⟨b, cs, t, Fs, rfl, hh, hz, hFl, rfl, hone⟩
  · have HE := hide (show MkX e K e from (unhide FIN e).2 ⟨by rw [hl], fun i hi => by cases hi⟩)
    have HO := hide (show OwX w e a [] from (OwX_eq _ _ _ _).2 (.inl ⟨hl, rfl⟩))
    clear ih hct hl FIN
    go_enter Tryd.func38, Tryd.ntmps38
    go_wp2
    go_loopw [1, 5] (fun kv i wr => i = .int .i64 0 ∧ kv = .int .i64 K ∧ wr = w) (fun _ i _ => 0)
    case atStart => exact ⟨rfl, rfl, rfl⟩
    case round =>
      obtain ⟨rfl, rfl, rfl⟩ := hrel
      go_wp2
      go_ret
      exact ⟨e, by simp [ctX], unhide HE, unhide HO, Below.refl _ _, fun g _ _ => rfl⟩
  · have M0 := hide (show Mkg w w l K b Fs B 0 l cs t from ⟨rfl, hh, hz, hone, fun j hj => by omega, fun j _ => rfl, Below.refl _ _, fun g _ _ => rfl⟩)
    have FN := hide (fun (wr : World) (ys : List Ex) (cs' : Array Value) (t' : TypeId) (h : Mkg w wr l K b Fs B l.length ys cs' t') => (show MkX e K ⟨0, 0, ⟨#[]⟩, ys⟩ ∧ OwX wr ⟨0, 0, ⟨#[]⟩, ys⟩ (some ⟨b, 0, none⟩) (b :: Fs.flatten) from
      ⟨(unhide FIN _).2 ⟨h.hyl, fun i hi => h.done i hi⟩, (OwX_eq _ _ _ _).2 (.inr ⟨b, cs', t', Fs, rfl, h.row, by show ys.length * 4 ≤ _; rw [h.hyl]; exact h.hz, by show Fs.length = ys.length; rw [h.hyl]; exact hFl, rfl, fun i hi => h.one i (by have : i < ys.length := hi; rwa [h.hyl] at this)⟩)⟩))
    have hcl : l.length ≤ ctX l := by unfold ctX; omega
    obtain ⟨n, hn⟩ : ∃ n, l.length = n := ⟨_, rfl⟩
    have hnl : n ≤ 8000000 := by omega
    have PE := hide (posX_end l K)
    have P0 := hide (posX_0 l K)
    clear hone hh hz FIN hct hl hcl
    rw [hn] at ih PE FN ⊢
    rw [← unhide PE]
    go_enter Tryd.func38, Tryd.ntmps38
    go_wp2
    go_loopw [1, 5] (fun kv i wr => ∃ k : Nat, k ≤ n ∧ i = .int .i64 k ∧ kv = .int .i64 ((posX l K k : Nat) : Int) ∧ ∃ ys cs t, Mkg w wr l K b Fs B k ys cs t) (fun _ i _ => n - (intOf i).toNat)
    case atStart => exact ⟨0, Nat.zero_le _, rfl, by rw [unhide P0], _, _, _, unhide M0⟩
    case round =>
      clear M0
      obtain ⟨k, hk, rfl, rfl, ys, cs, t, hM⟩ := hrel
      by_cases hlt : k < n
      · obtain ⟨q0, q1, q2, c, cp, q3, q4⟩ := hM.one k (by omega)
        rw [hM.rest k (Nat.le_refl _)] at q0 q1 q2 q3 q4
        have hh := hM.row
        have hz := hM.hz
        have c0 := (Lib.cell_of_heap hh (k * 4)).trans q0
        have c1 := (Lib.cell_of_heap hh (k * 4 + 1)).trans q1
        have f0 := Lib.frozen_of_heap hh (k * 4)
        have f1 := Lib.frozen_of_heap hh (k * 4 + 1)
        have hbl : b < wr.heap.size := (Array.getElem?_eq_some_iff.1 hh).1
        have hPl := posX_le l K k (by omega)
        have hPs := posX_s l K k (by omega)
        have r1 := heap_setCell_same wr b (k * 4) cs t (.int .i64 ((posX l K k : Nat) : Int)) hh
        have r2 := heap_setCell_same _ b (k * 4 + 1) _ t (.int .i64 ((posX l K k + 1 : Nat) : Int)) r1
        have C2 := hide (show ((wr.setCell ⟨b, k * 4, none⟩ (.int .i64 ((posX l K k : Nat) : Int))).setCell ⟨b, k * 4 + 1, none⟩ (.int .i64 ((posX l K k + 1 : Nat) : Int))).cell? ⟨b, k * 4 + 2, none⟩ = some (.string (xAt l k).s) by
          rw [Lib.cell_of_heap r2, Array.getElem?_setIfInBounds_ne (by omega), Array.getElem?_setIfInBounds_ne (by omega)]; exact q2)
        have C3 := hide (show ((wr.setCell ⟨b, k * 4, none⟩ (.int .i64 ((posX l K k : Nat) : Int))).setCell ⟨b, k * 4 + 1, none⟩ (.int .i64 ((posX l K k + 1 : Nat) : Int))).cell? ⟨b, k * 4 + 3, none⟩ = some (.slice c (xAt l k).l.length cp) by
          rw [Lib.cell_of_heap r2, Array.getElem?_setIfInBounds_ne (by omega), Array.getElem?_setIfInBounds_ne (by omega)]; exact q3)
        have F2 := hide (Lib.frozen_of_heap r2 (k * 4 + 2))
        have GL := hide (show b < ((wr.setCell ⟨b, k * 4, none⟩ (.int .i64 ((posX l K k : Nat) : Int))).setCell ⟨b, k * 4 + 1, none⟩ (.int .i64 ((posX l K k + 1 : Nat) : Int))).heap.size by simpa using hbl)
        have ST := hide (fun w3 w5 x' hb3 hmk hox hb5 hf5 => Mkg.step (w3 := w3) (w5 := w5) (x' := x') hM (by omega) hFl hnd hF q3 hb3 hmk hox hb5 hf5)
        have MX := hide (fun W => markTx_any (posX l K k + 2) (by omega) (by omega) W)
        have hn' := List.nodup_cons.1 hnd
        have OC := hide (fun w3 (hb3 : Below ((wr.setCell ⟨b, k * 4, none⟩ (.int .i64 ((posX l K k : Nat) : Int))).setCell ⟨b, k * 4 + 1, none⟩ (.int .i64 ((posX l K k + 1 : Nat) : Int))).heap.size ((wr.setCell ⟨b, k * 4, none⟩ (.int .i64 ((posX l K k : Nat) : Int))).setCell ⟨b, k * 4 + 1, none⟩ (.int .i64 ((posX l K k + 1 : Nat) : Int))) w3) (v : Value) =>
          ih k hlt c cp (posX l K k + 3) (Fs.getD k []) B (w3.setCell ⟨b, k * 4 + 2, none⟩ v)
            (OwX.keep _ _ _ (fun g hg => by
              have hne : g ≠ b := fun e => hn'.1 (e ▸ getD_flat hg)
              have hgl := OwX.lt _ _ _ q4 g hg
              rw [heap_setCell_other _ _ _ _ hne, hb3.block g (by simpa using hgl), heap_setCell_other _ _ _ _ hne, heap_setCell_other _ _ _ _ hne]) q4)
            (flat_part _ _ hn'.2) (fun g hg => hF g (List.mem_cons_of_mem _ (getD_flat hg))) (by have h1 := hb3.size; have h2 := hM.bel.size; simp at h1 ⊢; omega) (by omega) (by omega))
        have EN : ((posX l K k : Nat) : Int) + 1 = ((posX l K k + 1 : Nat) : Int) := by omega
        have EM : ((posX l K k + 1 : Nat) : Int) + 1 = ((posX l K k + 2 : Nat) : Int) := by omega
        have EP : ((posX l K k + 2 : Nat) : Int) + 1 = ((posX l K k + 3 : Nat) : Int) := by omega
        have EQ := hide (show ((posX l K k + 3 + 3 * (xAt l k).ct : Nat) : Int) = ((posX l K (k + 1) : Nat) : Int) by rw [hPs])
        have bA : 0 ≤ ((posX l K k : Nat) : Int) ∧ ((posX l K k : Nat) : Int) ≤ 8000000 := by omega
        have bA2 : 0 ≤ ((posX l K k + 1 : Nat) : Int) ∧ ((posX l K k + 1 : Nat) : Int) ≤ 8000001 := by omega
        have bA3 : 0 ≤ ((posX l K k + 2 : Nat) : Int) ∧ ((posX l K k + 2 : Nat) : Int) ≤ 8000002 := by omega
        clear r1 r2 q0 q1 q2 q3 q4 hM hh hz hPl hPs hn' ih FN
        generalize (xAt l k).ct = ctk at *
        generalize hA : ((posX l K k : Nat) : Int) = A at *
        generalize hB2 : ((posX l K k + 1 : Nat) : Int) = A2 at *
        generalize hC : ((posX l K k + 2 : Nat) : Int) = A3 at *
        generalize hD : ((posX l K k + 3 : Nat) : Int) = A4 at *
        generalize mkTx (posX l K k + 2) = X at *
        generalize (xAt l k).s = xs at *
        go_wp2_with fail
        generalize (wr.setCell ⟨b, k * 4, none⟩ (.int .i64 A)).setCell ⟨b, k * 4 + 1, none⟩ (.int .i64 A2) = W2 at *
        refine (unhide MX _).mono ?_
        rintro e w3 ⟨rfl, hb3⟩
        have d2 := (hb3.cell (p := ⟨b, k * 4 + 2, none⟩) (unhide GL)).trans (unhide C2)
        have d3 := (hb3.cell (p := ⟨b, k * 4 + 3, none⟩) (unhide GL)).trans (unhide C3)
        have e2 := (hb3.frozen (p := ⟨b, k * 4 + 2, none⟩) (unhide GL)).trans (unhide F2)
        have OD := hide (unhide OC w3 hb3 (.string X))
        have HB3 := hide hb3
        clear OC C2 C3 F2 GL MX c0 c1 f0 f1 hb3
        go_wp2_with fail
        refine (unhide OD).mono ?_
        rintro e w5 ⟨x', rfl, hmk, hox, hb5, hf5⟩
        have SS := hide (unhide ST w3 w5 x' (unhide HB3) hmk hox hb5 hf5)
        clear hmk hox hb5 hf5 OD ST d2 d3 e2
        go_wp2
        go_roundw
        case rel =>
          obtain ⟨ys', cs', hM'⟩ := unhide SS
          exact ⟨k + 1, by omega, by go_num, by rw [← unhide EQ]; congr 1; omega, ys', cs', _, hM'⟩
        case measure => simp [intOf]; omega
      · obtain rfl : k = n := by omega
        have HM := hide hM
        have FF := hide (unhide FN _ _ _ _ hM)
        clear hM
        go_wp2
        go_ret
        exact ⟨_, rfl, (unhide FF).1, (unhide FF).2, (unhide HM).bel, (unhide HM).fr⟩
theorem markXS_any (e : Ex) : MarkP e := by
  induction e using Ex.ind with
  | h k n s l ih => exact markXS_of _ (fun i hi => ih _ (xAt_mem hi))
end Go.Proofs.YtkolflcjkofleaaDoor
