/- Contracts over this seat's translation, laid together; conditions stand as hypotheses of each. -/
import Derived.Test.YtkolflcjkofleaaDoorTxA
import Derived.Test.YtkolflcjkofleaaDoorTxC
import Derived.Test.YtkolflcjkofleaaDoorTxE
import Derived.Deep.OwnRows

namespace Go.Proofs.YtkolflcjkofleaaDoor
open Go.ChangeShapes Go.WideShapes Go.ChangeAt Go.RowKit
set_option linter.unusedVariables false
set_option maxRecDepth 8000
set_option linter.unusedSimpArgs false

def Up (w : World) (b : Nat) : Prop := w.heap.size ≤ b
def FoR (e : Ex) : Prop := ∀ (b : Option Addr) (cap : Nat) (w : World), RdX w 0 e b → Calls Tryd.prog 53 #[.agg (e.cs b cap)] w (GiR (foldX e) (Up w) w)
theorem up_ow {w : World} {b : Nat} (h : w.heap.size + 2 ≤ b) : Ow w (Up w) b := ⟨Nat.le_trans (Nat.le_add_right _ _) h, .inr h⟩
set_option maxHeartbeats 4000000 in
theorem foldS_leaf (k n : Int) (s : ByteArray) (hs : s.size ≤ 1048576) : FoR ⟨k, n, s, []⟩ := by
  intro b cap w hr
  rw [fold_leaf]
  have X0 := hide (Bx.new w #[.int .i64 k, .int .i64 n, .string s, .slice b 0 cap])
  have CP := hide (copyS_any ⟨k, n, s, []⟩ b cap _ (hr.later (unhide X0).bel) (by rw [sz_leaf]; exact hs))
  generalize hX : GiR ⟨k, n, s, []⟩ (Up w) w = X
  have HX := hide hX
  unfold GiR Ex.cs at CP
  show Calls Tryd.prog 53 #[.agg #[.int .i64 k, .int .i64 n, .string s, .slice b 0 cap]] w X
  clear hX hr
  go_enter Tryd.func53, Tryd.ntmps53
  go_wp2_with fail
  generalize (w.alloc (.cells #[.int .i64 k, .int .i64 n, .string s, .slice b 0 cap] 26)).alloc (.cells #[.int .i64 0, .int .i64 0, .string ⟨#[]⟩, .slice none 0 0] 26) = W at *
  refine (unhide CP).mono ?_
  rintro r w1 ⟨c, cp, rfl, hx, hb1⟩
  have X1 := hide ((unhide X0).later hb1)
  have A1 := hide (PX.leaf w1 (Ow w (Up w)) k n s c)
  clear hx hb1 X0 CP
  go_wp2_with (refine wpList_store_row rfl 26 _ _ rfl (w.heap.size + 1) #[.int .i64 k, .int .i64 n, .string s, .slice c 0 cp] rfl rfl 26 _ ((unhide X1).res) szE rfl (ex_one _ _ _ _ _ _) ?_)
  refine bodyPost_ret (results_cell_row (P := Tryd.prog) rfl _ _ (w.heap.size + 1) 26 #[.int .i64 k, .int .i64 n, .string s, .slice c 0 cp] (0, 0) _ rfl (setRow_heap _ _ _ _ _ _ ((unhide X1).res)) Tryd.underlying26 rfl szE) rfl ?_
  rw [← unhide HX]
  exact Bx.end (x := ⟨k, n, s, []⟩) (unhide X1) (unhide A1) _
theorem RdX.at {w : World} {e : Ex} {a : Option Addr} (h : RdX w 0 e a) (hl : e.l ≠ []) : ∃ p off, a = some ⟨p, off, none⟩ ∧ p < w.heap.size ∧ ∀ i, i < e.l.length → OneX w 0 p (off + i * 4) (xAt e.l i) := by
  rcases (RdX_eq _ _ _ _).1 h with h0 | ⟨p, off, ha, _, hp, hc⟩
  · exact absurd h0 hl
  · exact ⟨p, off, ha, hp, hc⟩
set_option maxHeartbeats 4000000 in
theorem foldS_neg1 (a : Ex) (ih : FoR a) (hk : ((foldX a).k == 1) = true) (hn : 0 ≤ (foldX a).n ∧ (foldX a).n ≤ 65535 ∨ (foldX a).k ≠ 1) : FoR ⟨4, 0, ⟨#[]⟩, [a]⟩ := by
  intro b cap w hr
  rw [fold_neg]
  obtain ⟨p, off, rfl, hpl, hc⟩ := hr.at (by simp)
  obtain ⟨c0, c1, c2, q0, qp0, c3, r0⟩ := hc 0 (by simp)
  have X0 := hide (Bx.new w #[.int .i64 4, .int .i64 0, .string ⟨#[]⟩, .slice (some ⟨p, off, none⟩) 1 cap])
  have IH := hide (ih q0 qp0 _ (RdX.later r0 (unhide X0).bel))
  have d0 := ((unhide X0).bel.cell (p := ⟨p, off + 0 * 4, none⟩) hpl).trans c0
  have d1 := ((unhide X0).bel.cell (p := ⟨p, off + 0 * 4 + 1, none⟩) hpl).trans c1
  have d2 := ((unhide X0).bel.cell (p := ⟨p, off + 0 * 4 + 2, none⟩) hpl).trans c2
  have d3 := ((unhide X0).bel.cell (p := ⟨p, off + 0 * 4 + 3, none⟩) hpl).trans c3
  simp only [Nat.zero_mul, Nat.add_zero] at d0 d1 d2 d3
  have EQ := hide (show negX (foldX a) = numX (-(foldX a).n) by unfold negX; rw [if_pos (beq_iff_eq.1 hk)])
  rw [unhide EQ]
  have xa : xAt (Ex.mk 4 0 ⟨#[]⟩ [a]).l 0 = a := rfl
  rw [xa] at d0 d1 d2 d3
  have hn2 : 0 ≤ (foldX a).n ∧ (foldX a).n ≤ 65535 := hn.resolve_right (fun h => h (beq_iff_eq.1 hk))
  generalize hX : GiR _ (Up w) w = X
  have HX := hide hX
  unfold GiR Ex.cs at IH
  show Calls Tryd.prog 53 #[.agg #[.int .i64 4, .int .i64 0, .string ⟨#[]⟩, .slice (some ⟨p, off, none⟩) 1 cap]] w X
  generalize foldX a = x at *
  clear hX hr hc c0 c1 c2 c3 r0 ih EQ hn xa
  go_enter Tryd.func53, Tryd.ntmps53
  go_wp2_with fail
  generalize (w.alloc (.cells #[.int .i64 4, .int .i64 0, .string ⟨#[]⟩, .slice (some ⟨p, off, none⟩) 1 cap] 26)).alloc (.cells #[.int .i64 0, .int .i64 0, .string ⟨#[]⟩, .slice none 0 0] 26) = W at *
  clear d0 d1 d2 d3
  refine (unhide IH).mono ?_
  rintro r w1 ⟨ca, cpa, rfl, hx, hb1⟩
  have hb2 := below_new w1 (.cells #[.int .i64 x.k, .int .i64 x.n, .string x.s, .slice ca x.l.length cpa] 26)
  have hb12 := hb1.trans (hb2.mono hb1.size)
  have X2 := hide ((unhide X0).later hb12)
  have hzW := (unhide X0).lt
  have A1 := (show PX w1 (Ow w (Up w)) x ca from hx.mono (fun b (h : W.heap.size ≤ b) => up_ow (Nat.le_trans hzW h)))
  have A2 := hide (A1.later hb2)
  have G2 := hide (show (w1.alloc (.cells #[.int .i64 x.k, .int .i64 x.n, .string x.s, .slice ca x.l.length cpa] 26)).heap[w1.heap.size]? = some (.cells #[.int .i64 x.k, .int .i64 x.n, .string x.s, .slice ca x.l.length cpa] 26 (0, 0)) from Array.getElem?_push_size)
  have y0 := Lib.cell_of_heap (unhide G2) 0
  have y1 := Lib.cell_of_heap (unhide G2) 1
  have z0 := Lib.cell_of_heap (unhide X2).box 0
  clear hx hb1 hb2 hb12 A1 X0 IH
  go_wp2_with fail
  generalize w1.alloc (.cells #[.int .i64 x.k, .int .i64 x.n, .string x.s, .slice ca x.l.length cpa] 26) = w2 at *
  clear y0 y1 z0
  refine (numD (-x.n) w2).mono ?_
  rintro r w3 ⟨rfl, hb3⟩
  have X3 := hide ((unhide X2).later hb3)
  have A3 := hide (PX.leaf w3 (Ow w (Up w)) 1 (-x.n % 65536) (⟨#[]⟩ : ByteArray) none)
  clear hb3 X2 A2 G2
  go_wp2_with (refine wpList_store_row rfl 26 _ _ rfl (w.heap.size + 1) #[.int .i64 1, .int .i64 (-x.n % 65536), .string ⟨#[]⟩, .slice none 0 0] rfl rfl 26 _ ((unhide X3).res) szE rfl (ex_one _ _ _ _ _ _) ?_)
  refine bodyPost_ret (results_cell_row (P := Tryd.prog) rfl _ _ (w.heap.size + 1) 26 #[.int .i64 1, .int .i64 (-x.n % 65536), .string ⟨#[]⟩, .slice none 0 0] (0, 0) _ rfl (setRow_heap _ _ _ _ _ _ ((unhide X3).res)) Tryd.underlying26 rfl szE) rfl ?_
  rw [← unhide HX]
  exact Bx.end (x := numX (-x.n)) (unhide X3) (unhide A3) _
set_option maxHeartbeats 4000000 in
theorem foldS_neg0 (a : Ex) (ih : FoR a) (hk : ((foldX a).k == 1) = false) (hn : 0 ≤ (foldX a).n ∧ (foldX a).n ≤ 65535 ∨ (foldX a).k ≠ 1) : FoR ⟨4, 0, ⟨#[]⟩, [a]⟩ := by
  intro b cap w hr
  rw [fold_neg]
  obtain ⟨p, off, rfl, hpl, hc⟩ := hr.at (by simp)
  obtain ⟨c0, c1, c2, q0, qp0, c3, r0⟩ := hc 0 (by simp)
  have X0 := hide (Bx.new w #[.int .i64 4, .int .i64 0, .string ⟨#[]⟩, .slice (some ⟨p, off, none⟩) 1 cap])
  have IH := hide (ih q0 qp0 _ (RdX.later r0 (unhide X0).bel))
  have d0 := ((unhide X0).bel.cell (p := ⟨p, off + 0 * 4, none⟩) hpl).trans c0
  have d1 := ((unhide X0).bel.cell (p := ⟨p, off + 0 * 4 + 1, none⟩) hpl).trans c1
  have d2 := ((unhide X0).bel.cell (p := ⟨p, off + 0 * 4 + 2, none⟩) hpl).trans c2
  have d3 := ((unhide X0).bel.cell (p := ⟨p, off + 0 * 4 + 3, none⟩) hpl).trans c3
  simp only [Nat.zero_mul, Nat.add_zero] at d0 d1 d2 d3
  have EQ := hide (show negX (foldX a) = ⟨4, 0, ⟨#[]⟩, [foldX a]⟩ by unfold negX; rw [if_neg (beq_eq_false_iff_ne.1 hk)]; rfl)
  rw [unhide EQ]
  have xa : xAt (Ex.mk 4 0 ⟨#[]⟩ [a]).l 0 = a := rfl
  rw [xa] at d0 d1 d2 d3
  have hn2 : True := trivial
  generalize hX : GiR _ (Up w) w = X
  have HX := hide hX
  unfold GiR Ex.cs at IH
  show Calls Tryd.prog 53 #[.agg #[.int .i64 4, .int .i64 0, .string ⟨#[]⟩, .slice (some ⟨p, off, none⟩) 1 cap]] w X
  generalize foldX a = x at *
  clear hX hr hc c0 c1 c2 c3 r0 ih EQ hn xa
  go_enter Tryd.func53, Tryd.ntmps53
  go_wp2_with fail
  generalize (w.alloc (.cells #[.int .i64 4, .int .i64 0, .string ⟨#[]⟩, .slice (some ⟨p, off, none⟩) 1 cap] 26)).alloc (.cells #[.int .i64 0, .int .i64 0, .string ⟨#[]⟩, .slice none 0 0] 26) = W at *
  clear d0 d1 d2 d3
  refine (unhide IH).mono ?_
  rintro r w1 ⟨ca, cpa, rfl, hx, hb1⟩
  have hb2 := below_new w1 (.cells #[.int .i64 x.k, .int .i64 x.n, .string x.s, .slice ca x.l.length cpa] 26)
  have hb12 := hb1.trans (hb2.mono hb1.size)
  have X2 := hide ((unhide X0).later hb12)
  have hzW := (unhide X0).lt
  have A1 := (show PX w1 (Ow w (Up w)) x ca from hx.mono (fun b (h : W.heap.size ≤ b) => up_ow (Nat.le_trans hzW h)))
  have A2 := hide (A1.later hb2)
  have G2 := hide (show (w1.alloc (.cells #[.int .i64 x.k, .int .i64 x.n, .string x.s, .slice ca x.l.length cpa] 26)).heap[w1.heap.size]? = some (.cells #[.int .i64 x.k, .int .i64 x.n, .string x.s, .slice ca x.l.length cpa] 26 (0, 0)) from Array.getElem?_push_size)
  have y0 := Lib.cell_of_heap (unhide G2) 0
  have y1 := Lib.cell_of_heap (unhide G2) 1
  have z0 := Lib.cell_of_heap (unhide X2).box 0
  clear hx hb1 hb2 hb12 A1 X0 IH
  have hb3 := below_new (w1.alloc (.cells #[.int .i64 x.k, .int .i64 x.n, .string x.s, .slice ca x.l.length cpa] 26)) (.cells #[.int .i64 x.k, .int .i64 x.n, .string x.s, .slice ca x.l.length cpa] 26)
  have X3 := hide ((unhide X2).later hb3)
  have hz3 : (w1.alloc (.cells #[.int .i64 x.k, .int .i64 x.n, .string x.s, .slice ca x.l.length cpa] 26)).heap.size = w1.heap.size + 1 := by simp
  have A3' := (show PX ((w1.alloc (.cells #[.int .i64 x.k, .int .i64 x.n, .string x.s, .slice ca x.l.length cpa] 26)).alloc (.cells #[.int .i64 x.k, .int .i64 x.n, .string x.s, .slice ca x.l.length cpa] 26)) (Ow w (Up w)) ⟨4, 0, ⟨#[]⟩, [x]⟩ (some ⟨(w1.alloc (.cells #[.int .i64 x.k, .int .i64 x.n, .string x.s, .slice ca x.l.length cpa] 26)).heap.size, 0, none⟩) from (unhide A2).one (up_ow (unhide X2).lt) 4 0 ⟨#[]⟩ 26)
  rw [hz3] at A3'
  have A3 := hide A3'
  clear hb3 hz3 A3'
  go_wp2_with (first | (refine wpList_load_row rfl 26 _ rfl w1.heap.size rfl 26 #[.int .i64 x.k, .int .i64 x.n, .string x.s, .slice ca x.l.length cpa] (0, 0) _ (unhide G2) Tryd.underlying26 rfl (by kernel_rfl) ?_) | (refine wpList_store_row rfl 26 _ _ rfl (w.heap.size + 1) #[.int .i64 4, .int .i64 0, .string ⟨#[]⟩, .slice (some ⟨w1.heap.size + 1, 0, none⟩) 1 1] rfl rfl 26 _ ((unhide X3).res) szE rfl (ex_one _ _ _ _ _ _) ?_))
  refine bodyPost_ret (results_cell_row (P := Tryd.prog) rfl _ _ (w.heap.size + 1) 26 #[.int .i64 4, .int .i64 0, .string ⟨#[]⟩, .slice (some ⟨w1.heap.size + 1, 0, none⟩) 1 1] (0, 0) _ rfl (setRow_heap _ _ _ _ _ _ ((unhide X3).res)) Tryd.underlying26 rfl szE) rfl ?_
  rw [← unhide HX]
  exact Bx.end (x := ⟨4, 0, ⟨#[]⟩, [x]⟩) (unhide X3) (unhide A3) _
end Go.Proofs.YtkolflcjkofleaaDoor

namespace Go.Proofs.YtkolflcjkofleaaDoor
open Go.ChangeShapes Go.WideShapes Go.ChangeAt Go.RowKit
set_option linter.unusedVariables false
set_option maxRecDepth 8000
set_option linter.unusedSimpArgs false

set_option maxHeartbeats 8000000 in
theorem foldS_sub0 {d : Nat} (k : Int) (hk : 5 ≤ k ∧ k ≤ 10) (a b : Ex) (iha : FoR a) (ihb : FoR b) (oa : okF (d + 1) false (foldX a) = true) (ob : okF (d + 1) false (foldX b) = true) (f0 : ((foldX a).k == 1) = false) (g6 : (k == 6) = true) : FoR ⟨k, 0, ⟨#[]⟩, [a, b]⟩ := by
  intro bb cap w hr
  rw [fold_two]
  obtain ⟨p, off, rfl, hpl, hc⟩ := hr.at (by simp)
  obtain ⟨c0, c1, c2, q0, qp0, c3, r0⟩ := hc 0 (by simp)
  obtain ⟨e0, e1, e2, q1, qp1, e3, r1⟩ := hc 1 (by simp)
  have xa : xAt (Ex.mk k 0 ⟨#[]⟩ [a, b]).l 0 = a := rfl
  have xb : xAt (Ex.mk k 0 ⟨#[]⟩ [a, b]).l 1 = b := rfl
  rw [xa] at c0 c1 c2 c3 r0
  rw [xb] at e0 e1 e2 e3 r1
  simp only [Nat.zero_mul, Nat.add_zero, Nat.one_mul] at c0 c1 c2 c3 e0 e1 e2 e3
  have X0 := hide (Bx.new w #[.int .i64 k, .int .i64 0, .string ⟨#[]⟩, .slice (some ⟨p, off, none⟩) 2 cap])
  have IA := hide (iha q0 qp0 _ (RdX.later r0 (unhide X0).bel))
  have IB := hide (fun wr (h : Below w.heap.size w wr) => ihb q1 qp1 wr (RdX.later r1 h))
  have d0 := ((unhide X0).bel.cell (p := ⟨p, off, none⟩) hpl).trans c0
  have d1 := ((unhide X0).bel.cell (p := ⟨p, off + 1, none⟩) hpl).trans c1
  have d2 := ((unhide X0).bel.cell (p := ⟨p, off + 2, none⟩) hpl).trans c2
  have d3 := ((unhide X0).bel.cell (p := ⟨p, off + 3, none⟩) hpl).trans c3
  have E0' := hide (fun wr (h : Below w.heap.size w wr) => (h.cell (p := ⟨p, off + 4, none⟩) hpl).trans e0)
  have E1' := hide (fun wr (h : Below w.heap.size w wr) => (h.cell (p := ⟨p, off + 4 + 1, none⟩) hpl).trans e1)
  have E2' := hide (fun wr (h : Below w.heap.size w wr) => (h.cell (p := ⟨p, off + 4 + 2, none⟩) hpl).trans e2)
  have E3' := hide (fun wr (h : Below w.heap.size w wr) => (h.cell (p := ⟨p, off + 4 + 3, none⟩) hpl).trans e3)
  have g4 : (k == 4) = false := beq_eq_false_iff_ne.2 (by omega)
  have OA := hide oa
  have OB := hide ob
  have ia : 0 ≤ (foldX a).n ∧ (foldX a).n ≤ 65535 ∨ (foldX a).k ≠ 1 := by
    by_cases h : (foldX a).k = 1
    · obtain ⟨m, hm, e⟩ := ok_k1 oa h; rw [e]; exact .inl hm
    · exact .inr h
  have ib : 0 ≤ (foldX b).n ∧ (foldX b).n ≤ 65535 ∨ (foldX b).k ≠ 1 := by
    by_cases h : (foldX b).k = 1
    · obtain ⟨m, hm, e⟩ := ok_k1 ob h; rw [e]; exact .inl hm
    · exact .inr h
  have EQ := hide (show foldN k (foldX a) (foldX b) = subX (foldX a) (foldX b) by unfold foldN mixX; rw [if_neg (fun h => by have := beq_eq_false_iff_ne.1 f0; exact this h.1), if_pos (beq_iff_eq.1 g6)])
  rw [unhide EQ]
  generalize hX : GiR _ (Up w) w = X
  have HX := hide hX
  unfold GiR Ex.cs at IA IB
  show Calls Tryd.prog 53 #[.agg #[.int .i64 k, .int .i64 0, .string ⟨#[]⟩, .slice (some ⟨p, off, none⟩) 2 cap]] w X
  generalize (foldX a) = x at *
  generalize (foldX b) = y at *
  clear hX hr hc c0 c1 c2 c3 e0 e1 e2 e3 r0 r1 iha ihb EQ xa xb oa ob
  go_enter Tryd.func53, Tryd.ntmps53
  go_wp2_with fail
  generalize (w.alloc (.cells #[.int .i64 k, .int .i64 0, .string ⟨#[]⟩, .slice (some ⟨p, off, none⟩) 2 cap] 26)).alloc (.cells #[.int .i64 0, .int .i64 0, .string ⟨#[]⟩, .slice none 0 0] 26) = W at *
  clear d0 d1 d2 d3
  refine (unhide IA).mono ?_
  rintro r w1 ⟨ca, cpa, rfl, hx, hb1⟩
  have hb2 := below_new w1 (.cells #[.int .i64 x.k, .int .i64 x.n, .string x.s, .slice ca x.l.length cpa] 26)
  have hb12 := hb1.trans (hb2.mono hb1.size)
  have X2 := hide ((unhide X0).later hb12)
  have hzW := (unhide X0).lt
  have A2 := hide (hx.low.later hb2)
  have G2 := hide (show (w1.alloc (.cells #[.int .i64 x.k, .int .i64 x.n, .string x.s, .slice ca x.l.length cpa] 26)).heap[w1.heap.size]? = some (.cells #[.int .i64 x.k, .int .i64 x.n, .string x.s, .slice ca x.l.length cpa] 26 (0, 0)) from Array.getElem?_push_size)
  have z0 := Lib.cell_of_heap (unhide X2).box 0
  have z3 := Lib.cell_of_heap (unhide X2).box 3
  have d0 := unhide E0' _ (unhide X2).bel
  have d1 := unhide E1' _ (unhide X2).bel
  have d2 := unhide E2' _ (unhide X2).bel
  have d3 := unhide E3' _ (unhide X2).bel
  have IB2 := hide (unhide IB _ (unhide X2).bel)
  have S1 := hide hb1.size
  have hz12 : w1.heap.size < (w1.alloc (.cells #[.int .i64 x.k, .int .i64 x.n, .string x.s, .slice ca x.l.length cpa] 26)).heap.size := by simp
  have HZ2 := hide hz12
  clear hx hb1 hb2 hb12 X0 IA IB E0' E1' E2' E3' hz12
  go_wp2_with fail
  generalize w1.alloc (.cells #[.int .i64 x.k, .int .i64 x.n, .string x.s, .slice ca x.l.length cpa] 26) = w2 at *
  clear d0 d1 d2 d3 z0 z3
  refine (unhide IB2).mono ?_
  rintro r w3 ⟨cb, cpb, rfl, hy, hb3⟩
  have hb4 := below_new w3 (.cells #[.int .i64 y.k, .int .i64 y.n, .string y.s, .slice cb y.l.length cpb] 26)
  have hb34 := hb3.trans (hb4.mono hb3.size)
  have X4 := hide ((unhide X2).later hb34)
  have A4 := hide ((unhide A2).later hb34)
  have B4 := hide (hy.later hb4)
  have G4 := hide (row_keep (unhide G2) hb34)
  have K4 := hide (show (w3.alloc (.cells #[.int .i64 y.k, .int .i64 y.n, .string y.s, .slice cb y.l.length cpb] 26)).heap[w3.heap.size]? = some (.cells #[.int .i64 y.k, .int .i64 y.n, .string y.s, .slice cb y.l.length cpb] 26 (0, 0)) from Array.getElem?_push_size)
  have z0 := Lib.cell_of_heap (unhide X4).box 0
  have y0 := Lib.cell_of_heap (unhide G4) 0
  have y1 := Lib.cell_of_heap (unhide G4) 1
  have u0 := Lib.cell_of_heap (unhide K4) 0
  have u1 := Lib.cell_of_heap (unhide K4) 1
  have DJ := hide (show ∀ b, (Up W b ∧ b < w1.heap.size) → ¬ Up w2 b from fun b h k => by have := unhide HZ2; have h2 : w2.heap.size ≤ b := k; omega)
  have PR := hide (show ∀ b, (Up W b ∧ b < w1.heap.size) → Ow w (Up w) b from fun b h => up_ow (Nat.le_trans hzW h.1))
  have QR := hide (show ∀ b, Up w2 b → Ow w (Up w) b from fun b h => up_ow (Nat.le_trans (unhide X2).lt h))
  have HR := hide (show ∀ b, (w3.alloc (.cells #[.int .i64 y.k, .int .i64 y.n, .string y.s, .slice cb y.l.length cpb] 26)).heap.size ≤ b → Ow w (Up w) b from fun b h => up_ow (Nat.le_trans (unhide X4).lt h))
  clear hy hb3 hb4 hb34 X2 A2 G2 IB2
  have CL := hide (subS_any x y (unhide OA) (unhide OB) ca cb cpa cpb _ _ (Ow w (Up w)) (w3.alloc (.cells #[.int .i64 y.k, .int .i64 y.n, .string y.s, .slice cb y.l.length cpb] 26)) (unhide A4) (unhide B4) (unhide DJ) (unhide PR) (unhide QR) (unhide HR))
  unfold GiR Ex.cs at CL
  go_wp2_with (first | (refine wpList_load_row rfl 26 _ rfl w1.heap.size rfl 26 #[.int .i64 x.k, .int .i64 x.n, .string x.s, .slice ca x.l.length cpa] (0, 0) _ (unhide G4) Tryd.underlying26 rfl (by kernel_rfl) ?_) | (refine wpList_load_row rfl 26 _ rfl w3.heap.size rfl 26 #[.int .i64 y.k, .int .i64 y.n, .string y.s, .slice cb y.l.length cpb] (0, 0) _ (unhide K4) Tryd.underlying26 rfl (by kernel_rfl) ?_))
  generalize w3.alloc (.cells #[.int .i64 y.k, .int .i64 y.n, .string y.s, .slice cb y.l.length cpb] 26) = w4 at *
  clear z0 y0 y1 u0 u1
  refine (unhide CL).mono ?_
  rintro r w5 ⟨c5, cp5, rfl, hx5, hb5⟩
  have X5 := hide ((unhide X4).later hb5)
  have A5 := hide hx5
  clear hx5 hb5 X4 A4 B4 G4 K4 CL
  generalize subX x y = z at *
  go_wp2_with (refine wpList_store_row rfl 26 _ _ rfl (w.heap.size + 1) #[.int .i64 z.k, .int .i64 z.n, .string z.s, .slice c5 z.l.length cp5] rfl rfl 26 _ ((unhide X5).res) szE rfl (ex_one _ _ _ _ _ _) ?_)
  refine bodyPost_ret (results_cell_row (P := Tryd.prog) rfl _ _ (w.heap.size + 1) 26 #[.int .i64 z.k, .int .i64 z.n, .string z.s, .slice c5 z.l.length cp5] (0, 0) _ rfl (setRow_heap _ _ _ _ _ _ ((unhide X5).res)) Tryd.underlying26 rfl szE) rfl ?_
  rw [← unhide HX]
  exact (unhide X5).end (unhide A5) _
set_option maxHeartbeats 8000000 in
theorem foldS_mix0 {d : Nat} (k : Int) (hk : 5 ≤ k ∧ k ≤ 10) (a b : Ex) (iha : FoR a) (ihb : FoR b) (oa : okF (d + 1) false (foldX a) = true) (ob : okF (d + 1) false (foldX b) = true) (f0 : ((foldX a).k == 1) = false) (g6 : (k == 6) = false) (g5 : (k == 5) = false) : FoR ⟨k, 0, ⟨#[]⟩, [a, b]⟩ := by
  intro bb cap w hr
  rw [fold_two]
  obtain ⟨p, off, rfl, hpl, hc⟩ := hr.at (by simp)
  obtain ⟨c0, c1, c2, q0, qp0, c3, r0⟩ := hc 0 (by simp)
  obtain ⟨e0, e1, e2, q1, qp1, e3, r1⟩ := hc 1 (by simp)
  have xa : xAt (Ex.mk k 0 ⟨#[]⟩ [a, b]).l 0 = a := rfl
  have xb : xAt (Ex.mk k 0 ⟨#[]⟩ [a, b]).l 1 = b := rfl
  rw [xa] at c0 c1 c2 c3 r0
  rw [xb] at e0 e1 e2 e3 r1
  simp only [Nat.zero_mul, Nat.add_zero, Nat.one_mul] at c0 c1 c2 c3 e0 e1 e2 e3
  have X0 := hide (Bx.new w #[.int .i64 k, .int .i64 0, .string ⟨#[]⟩, .slice (some ⟨p, off, none⟩) 2 cap])
  have IA := hide (iha q0 qp0 _ (RdX.later r0 (unhide X0).bel))
  have IB := hide (fun wr (h : Below w.heap.size w wr) => ihb q1 qp1 wr (RdX.later r1 h))
  have d0 := ((unhide X0).bel.cell (p := ⟨p, off, none⟩) hpl).trans c0
  have d1 := ((unhide X0).bel.cell (p := ⟨p, off + 1, none⟩) hpl).trans c1
  have d2 := ((unhide X0).bel.cell (p := ⟨p, off + 2, none⟩) hpl).trans c2
  have d3 := ((unhide X0).bel.cell (p := ⟨p, off + 3, none⟩) hpl).trans c3
  have E0' := hide (fun wr (h : Below w.heap.size w wr) => (h.cell (p := ⟨p, off + 4, none⟩) hpl).trans e0)
  have E1' := hide (fun wr (h : Below w.heap.size w wr) => (h.cell (p := ⟨p, off + 4 + 1, none⟩) hpl).trans e1)
  have E2' := hide (fun wr (h : Below w.heap.size w wr) => (h.cell (p := ⟨p, off + 4 + 2, none⟩) hpl).trans e2)
  have E3' := hide (fun wr (h : Below w.heap.size w wr) => (h.cell (p := ⟨p, off + 4 + 3, none⟩) hpl).trans e3)
  have g4 : (k == 4) = false := beq_eq_false_iff_ne.2 (by omega)
  have OA := hide oa
  have OB := hide ob
  have ia : 0 ≤ (foldX a).n ∧ (foldX a).n ≤ 65535 ∨ (foldX a).k ≠ 1 := by
    by_cases h : (foldX a).k = 1
    · obtain ⟨m, hm, e⟩ := ok_k1 oa h; rw [e]; exact .inl hm
    · exact .inr h
  have ib : 0 ≤ (foldX b).n ∧ (foldX b).n ≤ 65535 ∨ (foldX b).k ≠ 1 := by
    by_cases h : (foldX b).k = 1
    · obtain ⟨m, hm, e⟩ := ok_k1 ob h; rw [e]; exact .inl hm
    · exact .inr h
  have EQ := hide (show foldN k (foldX a) (foldX b) = ⟨k, 0, ⟨#[]⟩, [(foldX a), (foldX b)]⟩ by unfold foldN mixX; rw [if_neg (fun h => by have := beq_eq_false_iff_ne.1 f0; exact this h.1), if_neg (beq_eq_false_iff_ne.1 g6), if_neg (fun h => beq_eq_false_iff_ne.1 g5 h.1), if_neg (fun h => beq_eq_false_iff_ne.1 g5 h.1)]; rfl)
  rw [unhide EQ]
  generalize hX : GiR _ (Up w) w = X
  have HX := hide hX
  unfold GiR Ex.cs at IA IB
  show Calls Tryd.prog 53 #[.agg #[.int .i64 k, .int .i64 0, .string ⟨#[]⟩, .slice (some ⟨p, off, none⟩) 2 cap]] w X
  generalize (foldX a) = x at *
  generalize (foldX b) = y at *
  clear hX hr hc c0 c1 c2 c3 e0 e1 e2 e3 r0 r1 iha ihb EQ xa xb oa ob
  go_enter Tryd.func53, Tryd.ntmps53
  go_wp2_with fail
  generalize (w.alloc (.cells #[.int .i64 k, .int .i64 0, .string ⟨#[]⟩, .slice (some ⟨p, off, none⟩) 2 cap] 26)).alloc (.cells #[.int .i64 0, .int .i64 0, .string ⟨#[]⟩, .slice none 0 0] 26) = W at *
  clear d0 d1 d2 d3
  refine (unhide IA).mono ?_
  rintro r w1 ⟨ca, cpa, rfl, hx, hb1⟩
  have hb2 := below_new w1 (.cells #[.int .i64 x.k, .int .i64 x.n, .string x.s, .slice ca x.l.length cpa] 26)
  have hb12 := hb1.trans (hb2.mono hb1.size)
  have X2 := hide ((unhide X0).later hb12)
  have hzW := (unhide X0).lt
  have A2 := hide (hx.low.later hb2)
  have G2 := hide (show (w1.alloc (.cells #[.int .i64 x.k, .int .i64 x.n, .string x.s, .slice ca x.l.length cpa] 26)).heap[w1.heap.size]? = some (.cells #[.int .i64 x.k, .int .i64 x.n, .string x.s, .slice ca x.l.length cpa] 26 (0, 0)) from Array.getElem?_push_size)
  have z0 := Lib.cell_of_heap (unhide X2).box 0
  have z3 := Lib.cell_of_heap (unhide X2).box 3
  have d0 := unhide E0' _ (unhide X2).bel
  have d1 := unhide E1' _ (unhide X2).bel
  have d2 := unhide E2' _ (unhide X2).bel
  have d3 := unhide E3' _ (unhide X2).bel
  have IB2 := hide (unhide IB _ (unhide X2).bel)
  have S1 := hide hb1.size
  have hz12 : w1.heap.size < (w1.alloc (.cells #[.int .i64 x.k, .int .i64 x.n, .string x.s, .slice ca x.l.length cpa] 26)).heap.size := by simp
  have HZ2 := hide hz12
  clear hx hb1 hb2 hb12 X0 IA IB E0' E1' E2' E3' hz12
  go_wp2_with fail
  generalize w1.alloc (.cells #[.int .i64 x.k, .int .i64 x.n, .string x.s, .slice ca x.l.length cpa] 26) = w2 at *
  clear d0 d1 d2 d3 z0 z3
  refine (unhide IB2).mono ?_
  rintro r w3 ⟨cb, cpb, rfl, hy, hb3⟩
  have hb4 := below_new w3 (.cells #[.int .i64 y.k, .int .i64 y.n, .string y.s, .slice cb y.l.length cpb] 26)
  have hb34 := hb3.trans (hb4.mono hb3.size)
  have X4 := hide ((unhide X2).later hb34)
  have A4 := hide ((unhide A2).later hb34)
  have B4 := hide (hy.later hb4)
  have G4 := hide (row_keep (unhide G2) hb34)
  have K4 := hide (show (w3.alloc (.cells #[.int .i64 y.k, .int .i64 y.n, .string y.s, .slice cb y.l.length cpb] 26)).heap[w3.heap.size]? = some (.cells #[.int .i64 y.k, .int .i64 y.n, .string y.s, .slice cb y.l.length cpb] 26 (0, 0)) from Array.getElem?_push_size)
  have z0 := Lib.cell_of_heap (unhide X4).box 0
  have y0 := Lib.cell_of_heap (unhide G4) 0
  have y1 := Lib.cell_of_heap (unhide G4) 1
  have u0 := Lib.cell_of_heap (unhide K4) 0
  have u1 := Lib.cell_of_heap (unhide K4) 1
  have DJ := hide (show ∀ b, (Up W b ∧ b < w1.heap.size) → ¬ Up w2 b from fun b h k => by have := unhide HZ2; have h2 : w2.heap.size ≤ b := k; omega)
  have PR := hide (show ∀ b, (Up W b ∧ b < w1.heap.size) → Ow w (Up w) b from fun b h => up_ow (Nat.le_trans hzW h.1))
  have QR := hide (show ∀ b, Up w2 b → Ow w (Up w) b from fun b h => up_ow (Nat.le_trans (unhide X2).lt h))
  have HR := hide (show ∀ b, (w3.alloc (.cells #[.int .i64 y.k, .int .i64 y.n, .string y.s, .slice cb y.l.length cpb] 26)).heap.size ≤ b → Ow w (Up w) b from fun b h => up_ow (Nat.le_trans (unhide X4).lt h))
  clear hy hb3 hb4 hb34 X2 A2 G2 IB2
  have hb5 := below_new (w3.alloc (.cells #[.int .i64 y.k, .int .i64 y.n, .string y.s, .slice cb y.l.length cpb] 26)) (.cells #[.int .i64 x.k, .int .i64 x.n, .string x.s, .slice ca x.l.length cpa, .int .i64 y.k, .int .i64 y.n, .string y.s, .slice cb y.l.length cpb] 26)
  have X5 := hide ((unhide X4).later hb5)
  have hz5 : (w3.alloc (.cells #[.int .i64 y.k, .int .i64 y.n, .string y.s, .slice cb y.l.length cpb] 26)).heap.size = w3.heap.size + 1 := by simp
  have N5' := (show PX ((w3.alloc (.cells #[.int .i64 y.k, .int .i64 y.n, .string y.s, .slice cb y.l.length cpb] 26)).alloc (.cells #[.int .i64 x.k, .int .i64 x.n, .string x.s, .slice ca x.l.length cpa, .int .i64 y.k, .int .i64 y.n, .string y.s, .slice cb y.l.length cpb] 26)) (Ow w (Up w)) ⟨k, 0, ⟨#[]⟩, [x, y]⟩ (some ⟨(w3.alloc (.cells #[.int .i64 y.k, .int .i64 y.n, .string y.s, .slice cb y.l.length cpb] 26)).heap.size, 0, none⟩) from (unhide A4).two (unhide B4) (unhide DJ) (unhide PR) (unhide QR) (unhide HR _ (Nat.le_refl _)) k 0 ⟨#[]⟩ 26)
  rw [hz5] at N5'
  have N5 := hide N5'
  clear hb5 N5' hz5
  go_wp2_with (first | (refine wpList_load_row rfl 26 _ rfl w1.heap.size rfl 26 #[.int .i64 x.k, .int .i64 x.n, .string x.s, .slice ca x.l.length cpa] (0, 0) _ (unhide G4) Tryd.underlying26 rfl (by kernel_rfl) ?_) | (refine wpList_load_row rfl 26 _ rfl w3.heap.size rfl 26 #[.int .i64 y.k, .int .i64 y.n, .string y.s, .slice cb y.l.length cpb] (0, 0) _ (unhide K4) Tryd.underlying26 rfl (by kernel_rfl) ?_) | (refine wpList_store_row rfl 26 _ _ rfl (w.heap.size + 1) #[.int .i64 k, .int .i64 0, .string ⟨#[]⟩, .slice (some ⟨w3.heap.size + 1, 0, none⟩) 2 2] rfl rfl 26 _ ((unhide X5).res) szE rfl (ex_one _ _ _ _ _ _) ?_))
  refine bodyPost_ret (results_cell_row (P := Tryd.prog) rfl _ _ (w.heap.size + 1) 26 #[.int .i64 k, .int .i64 0, .string ⟨#[]⟩, .slice (some ⟨w3.heap.size + 1, 0, none⟩) 2 2] (0, 0) _ rfl (setRow_heap _ _ _ _ _ _ ((unhide X5).res)) Tryd.underlying26 rfl szE) rfl ?_
  rw [← unhide HX]
  exact Bx.end (x := ⟨k, 0, ⟨#[]⟩, [x, y]⟩) (unhide X5) (unhide N5) _
set_option maxHeartbeats 8000000 in
theorem foldS_sub1 {d : Nat} (k : Int) (hk : 5 ≤ k ∧ k ≤ 10) (a b : Ex) (iha : FoR a) (ihb : FoR b) (oa : okF (d + 1) false (foldX a) = true) (ob : okF (d + 1) false (foldX b) = true) (f0 : ((foldX a).k == 1) = true) (f1 : ((foldX b).k == 1) = false) (g6 : (k == 6) = true) : FoR ⟨k, 0, ⟨#[]⟩, [a, b]⟩ := by
  intro bb cap w hr
  rw [fold_two]
  obtain ⟨p, off, rfl, hpl, hc⟩ := hr.at (by simp)
  obtain ⟨c0, c1, c2, q0, qp0, c3, r0⟩ := hc 0 (by simp)
  obtain ⟨e0, e1, e2, q1, qp1, e3, r1⟩ := hc 1 (by simp)
  have xa : xAt (Ex.mk k 0 ⟨#[]⟩ [a, b]).l 0 = a := rfl
  have xb : xAt (Ex.mk k 0 ⟨#[]⟩ [a, b]).l 1 = b := rfl
  rw [xa] at c0 c1 c2 c3 r0
  rw [xb] at e0 e1 e2 e3 r1
  simp only [Nat.zero_mul, Nat.add_zero, Nat.one_mul] at c0 c1 c2 c3 e0 e1 e2 e3
  have X0 := hide (Bx.new w #[.int .i64 k, .int .i64 0, .string ⟨#[]⟩, .slice (some ⟨p, off, none⟩) 2 cap])
  have IA := hide (iha q0 qp0 _ (RdX.later r0 (unhide X0).bel))
  have IB := hide (fun wr (h : Below w.heap.size w wr) => ihb q1 qp1 wr (RdX.later r1 h))
  have d0 := ((unhide X0).bel.cell (p := ⟨p, off, none⟩) hpl).trans c0
  have d1 := ((unhide X0).bel.cell (p := ⟨p, off + 1, none⟩) hpl).trans c1
  have d2 := ((unhide X0).bel.cell (p := ⟨p, off + 2, none⟩) hpl).trans c2
  have d3 := ((unhide X0).bel.cell (p := ⟨p, off + 3, none⟩) hpl).trans c3
  have E0' := hide (fun wr (h : Below w.heap.size w wr) => (h.cell (p := ⟨p, off + 4, none⟩) hpl).trans e0)
  have E1' := hide (fun wr (h : Below w.heap.size w wr) => (h.cell (p := ⟨p, off + 4 + 1, none⟩) hpl).trans e1)
  have E2' := hide (fun wr (h : Below w.heap.size w wr) => (h.cell (p := ⟨p, off + 4 + 2, none⟩) hpl).trans e2)
  have E3' := hide (fun wr (h : Below w.heap.size w wr) => (h.cell (p := ⟨p, off + 4 + 3, none⟩) hpl).trans e3)
  have g4 : (k == 4) = false := beq_eq_false_iff_ne.2 (by omega)
  have OA := hide oa
  have OB := hide ob
  have ia : 0 ≤ (foldX a).n ∧ (foldX a).n ≤ 65535 ∨ (foldX a).k ≠ 1 := by
    by_cases h : (foldX a).k = 1
    · obtain ⟨m, hm, e⟩ := ok_k1 oa h; rw [e]; exact .inl hm
    · exact .inr h
  have ib : 0 ≤ (foldX b).n ∧ (foldX b).n ≤ 65535 ∨ (foldX b).k ≠ 1 := by
    by_cases h : (foldX b).k = 1
    · obtain ⟨m, hm, e⟩ := ok_k1 ob h; rw [e]; exact .inl hm
    · exact .inr h
  have EQ := hide (show foldN k (foldX a) (foldX b) = subX (foldX a) (foldX b) by unfold foldN mixX; rw [if_neg (fun h => by have := beq_eq_false_iff_ne.1 f1; exact this h.2), if_pos (beq_iff_eq.1 g6)])
  rw [unhide EQ]
  generalize hX : GiR _ (Up w) w = X
  have HX := hide hX
  unfold GiR Ex.cs at IA IB
  show Calls Tryd.prog 53 #[.agg #[.int .i64 k, .int .i64 0, .string ⟨#[]⟩, .slice (some ⟨p, off, none⟩) 2 cap]] w X
  generalize (foldX a) = x at *
  generalize (foldX b) = y at *
  clear hX hr hc c0 c1 c2 c3 e0 e1 e2 e3 r0 r1 iha ihb EQ xa xb oa ob
  go_enter Tryd.func53, Tryd.ntmps53
  go_wp2_with fail
  generalize (w.alloc (.cells #[.int .i64 k, .int .i64 0, .string ⟨#[]⟩, .slice (some ⟨p, off, none⟩) 2 cap] 26)).alloc (.cells #[.int .i64 0, .int .i64 0, .string ⟨#[]⟩, .slice none 0 0] 26) = W at *
  clear d0 d1 d2 d3
  refine (unhide IA).mono ?_
  rintro r w1 ⟨ca, cpa, rfl, hx, hb1⟩
  have hb2 := below_new w1 (.cells #[.int .i64 x.k, .int .i64 x.n, .string x.s, .slice ca x.l.length cpa] 26)
  have hb12 := hb1.trans (hb2.mono hb1.size)
  have X2 := hide ((unhide X0).later hb12)
  have hzW := (unhide X0).lt
  have A2 := hide (hx.low.later hb2)
  have G2 := hide (show (w1.alloc (.cells #[.int .i64 x.k, .int .i64 x.n, .string x.s, .slice ca x.l.length cpa] 26)).heap[w1.heap.size]? = some (.cells #[.int .i64 x.k, .int .i64 x.n, .string x.s, .slice ca x.l.length cpa] 26 (0, 0)) from Array.getElem?_push_size)
  have z0 := Lib.cell_of_heap (unhide X2).box 0
  have z3 := Lib.cell_of_heap (unhide X2).box 3
  have d0 := unhide E0' _ (unhide X2).bel
  have d1 := unhide E1' _ (unhide X2).bel
  have d2 := unhide E2' _ (unhide X2).bel
  have d3 := unhide E3' _ (unhide X2).bel
  have IB2 := hide (unhide IB _ (unhide X2).bel)
  have S1 := hide hb1.size
  have hz12 : w1.heap.size < (w1.alloc (.cells #[.int .i64 x.k, .int .i64 x.n, .string x.s, .slice ca x.l.length cpa] 26)).heap.size := by simp
  have HZ2 := hide hz12
  clear hx hb1 hb2 hb12 X0 IA IB E0' E1' E2' E3' hz12
  go_wp2_with fail
  generalize w1.alloc (.cells #[.int .i64 x.k, .int .i64 x.n, .string x.s, .slice ca x.l.length cpa] 26) = w2 at *
  clear d0 d1 d2 d3 z0 z3
  refine (unhide IB2).mono ?_
  rintro r w3 ⟨cb, cpb, rfl, hy, hb3⟩
  have hb4 := below_new w3 (.cells #[.int .i64 y.k, .int .i64 y.n, .string y.s, .slice cb y.l.length cpb] 26)
  have hb34 := hb3.trans (hb4.mono hb3.size)
  have X4 := hide ((unhide X2).later hb34)
  have A4 := hide ((unhide A2).later hb34)
  have B4 := hide (hy.later hb4)
  have G4 := hide (row_keep (unhide G2) hb34)
  have K4 := hide (show (w3.alloc (.cells #[.int .i64 y.k, .int .i64 y.n, .string y.s, .slice cb y.l.length cpb] 26)).heap[w3.heap.size]? = some (.cells #[.int .i64 y.k, .int .i64 y.n, .string y.s, .slice cb y.l.length cpb] 26 (0, 0)) from Array.getElem?_push_size)
  have z0 := Lib.cell_of_heap (unhide X4).box 0
  have y0 := Lib.cell_of_heap (unhide G4) 0
  have y1 := Lib.cell_of_heap (unhide G4) 1
  have u0 := Lib.cell_of_heap (unhide K4) 0
  have u1 := Lib.cell_of_heap (unhide K4) 1
  have DJ := hide (show ∀ b, (Up W b ∧ b < w1.heap.size) → ¬ Up w2 b from fun b h k => by have := unhide HZ2; have h2 : w2.heap.size ≤ b := k; omega)
  have PR := hide (show ∀ b, (Up W b ∧ b < w1.heap.size) → Ow w (Up w) b from fun b h => up_ow (Nat.le_trans hzW h.1))
  have QR := hide (show ∀ b, Up w2 b → Ow w (Up w) b from fun b h => up_ow (Nat.le_trans (unhide X2).lt h))
  have HR := hide (show ∀ b, (w3.alloc (.cells #[.int .i64 y.k, .int .i64 y.n, .string y.s, .slice cb y.l.length cpb] 26)).heap.size ≤ b → Ow w (Up w) b from fun b h => up_ow (Nat.le_trans (unhide X4).lt h))
  clear hy hb3 hb4 hb34 X2 A2 G2 IB2
  have CL := hide (subS_any x y (unhide OA) (unhide OB) ca cb cpa cpb _ _ (Ow w (Up w)) (w3.alloc (.cells #[.int .i64 y.k, .int .i64 y.n, .string y.s, .slice cb y.l.length cpb] 26)) (unhide A4) (unhide B4) (unhide DJ) (unhide PR) (unhide QR) (unhide HR))
  unfold GiR Ex.cs at CL
  go_wp2_with (first | (refine wpList_load_row rfl 26 _ rfl w1.heap.size rfl 26 #[.int .i64 x.k, .int .i64 x.n, .string x.s, .slice ca x.l.length cpa] (0, 0) _ (unhide G4) Tryd.underlying26 rfl (by kernel_rfl) ?_) | (refine wpList_load_row rfl 26 _ rfl w3.heap.size rfl 26 #[.int .i64 y.k, .int .i64 y.n, .string y.s, .slice cb y.l.length cpb] (0, 0) _ (unhide K4) Tryd.underlying26 rfl (by kernel_rfl) ?_))
  generalize w3.alloc (.cells #[.int .i64 y.k, .int .i64 y.n, .string y.s, .slice cb y.l.length cpb] 26) = w4 at *
  clear z0 y0 y1 u0 u1
  refine (unhide CL).mono ?_
  rintro r w5 ⟨c5, cp5, rfl, hx5, hb5⟩
  have X5 := hide ((unhide X4).later hb5)
  have A5 := hide hx5
  clear hx5 hb5 X4 A4 B4 G4 K4 CL
  generalize subX x y = z at *
  go_wp2_with (refine wpList_store_row rfl 26 _ _ rfl (w.heap.size + 1) #[.int .i64 z.k, .int .i64 z.n, .string z.s, .slice c5 z.l.length cp5] rfl rfl 26 _ ((unhide X5).res) szE rfl (ex_one _ _ _ _ _ _) ?_)
  refine bodyPost_ret (results_cell_row (P := Tryd.prog) rfl _ _ (w.heap.size + 1) 26 #[.int .i64 z.k, .int .i64 z.n, .string z.s, .slice c5 z.l.length cp5] (0, 0) _ rfl (setRow_heap _ _ _ _ _ _ ((unhide X5).res)) Tryd.underlying26 rfl szE) rfl ?_
  rw [← unhide HX]
  exact (unhide X5).end (unhide A5) _
set_option maxHeartbeats 8000000 in
theorem foldS_mix1 {d : Nat} (k : Int) (hk : 5 ≤ k ∧ k ≤ 10) (a b : Ex) (iha : FoR a) (ihb : FoR b) (oa : okF (d + 1) false (foldX a) = true) (ob : okF (d + 1) false (foldX b) = true) (f0 : ((foldX a).k == 1) = true) (f1 : ((foldX b).k == 1) = false) (g6 : (k == 6) = false) (g5 : (k == 5) = false) : FoR ⟨k, 0, ⟨#[]⟩, [a, b]⟩ := by
  intro bb cap w hr
  rw [fold_two]
  obtain ⟨p, off, rfl, hpl, hc⟩ := hr.at (by simp)
  obtain ⟨c0, c1, c2, q0, qp0, c3, r0⟩ := hc 0 (by simp)
  obtain ⟨e0, e1, e2, q1, qp1, e3, r1⟩ := hc 1 (by simp)
  have xa : xAt (Ex.mk k 0 ⟨#[]⟩ [a, b]).l 0 = a := rfl
  have xb : xAt (Ex.mk k 0 ⟨#[]⟩ [a, b]).l 1 = b := rfl
  rw [xa] at c0 c1 c2 c3 r0
  rw [xb] at e0 e1 e2 e3 r1
  simp only [Nat.zero_mul, Nat.add_zero, Nat.one_mul] at c0 c1 c2 c3 e0 e1 e2 e3
  have X0 := hide (Bx.new w #[.int .i64 k, .int .i64 0, .string ⟨#[]⟩, .slice (some ⟨p, off, none⟩) 2 cap])
  have IA := hide (iha q0 qp0 _ (RdX.later r0 (unhide X0).bel))
  have IB := hide (fun wr (h : Below w.heap.size w wr) => ihb q1 qp1 wr (RdX.later r1 h))
  have d0 := ((unhide X0).bel.cell (p := ⟨p, off, none⟩) hpl).trans c0
  have d1 := ((unhide X0).bel.cell (p := ⟨p, off + 1, none⟩) hpl).trans c1
  have d2 := ((unhide X0).bel.cell (p := ⟨p, off + 2, none⟩) hpl).trans c2
  have d3 := ((unhide X0).bel.cell (p := ⟨p, off + 3, none⟩) hpl).trans c3
  have E0' := hide (fun wr (h : Below w.heap.size w wr) => (h.cell (p := ⟨p, off + 4, none⟩) hpl).trans e0)
  have E1' := hide (fun wr (h : Below w.heap.size w wr) => (h.cell (p := ⟨p, off + 4 + 1, none⟩) hpl).trans e1)
  have E2' := hide (fun wr (h : Below w.heap.size w wr) => (h.cell (p := ⟨p, off + 4 + 2, none⟩) hpl).trans e2)
  have E3' := hide (fun wr (h : Below w.heap.size w wr) => (h.cell (p := ⟨p, off + 4 + 3, none⟩) hpl).trans e3)
  have g4 : (k == 4) = false := beq_eq_false_iff_ne.2 (by omega)
  have OA := hide oa
  have OB := hide ob
  have ia : 0 ≤ (foldX a).n ∧ (foldX a).n ≤ 65535 ∨ (foldX a).k ≠ 1 := by
    by_cases h : (foldX a).k = 1
    · obtain ⟨m, hm, e⟩ := ok_k1 oa h; rw [e]; exact .inl hm
    · exact .inr h
  have ib : 0 ≤ (foldX b).n ∧ (foldX b).n ≤ 65535 ∨ (foldX b).k ≠ 1 := by
    by_cases h : (foldX b).k = 1
    · obtain ⟨m, hm, e⟩ := ok_k1 ob h; rw [e]; exact .inl hm
    · exact .inr h
  have EQ := hide (show foldN k (foldX a) (foldX b) = ⟨k, 0, ⟨#[]⟩, [(foldX a), (foldX b)]⟩ by unfold foldN mixX; rw [if_neg (fun h => by have := beq_eq_false_iff_ne.1 f1; exact this h.2), if_neg (beq_eq_false_iff_ne.1 g6), if_neg (fun h => beq_eq_false_iff_ne.1 g5 h.1), if_neg (fun h => beq_eq_false_iff_ne.1 g5 h.1)]; rfl)
  rw [unhide EQ]
  generalize hX : GiR _ (Up w) w = X
  have HX := hide hX
  unfold GiR Ex.cs at IA IB
  show Calls Tryd.prog 53 #[.agg #[.int .i64 k, .int .i64 0, .string ⟨#[]⟩, .slice (some ⟨p, off, none⟩) 2 cap]] w X
  generalize (foldX a) = x at *
  generalize (foldX b) = y at *
  clear hX hr hc c0 c1 c2 c3 e0 e1 e2 e3 r0 r1 iha ihb EQ xa xb oa ob
  go_enter Tryd.func53, Tryd.ntmps53
  go_wp2_with fail
  generalize (w.alloc (.cells #[.int .i64 k, .int .i64 0, .string ⟨#[]⟩, .slice (some ⟨p, off, none⟩) 2 cap] 26)).alloc (.cells #[.int .i64 0, .int .i64 0, .string ⟨#[]⟩, .slice none 0 0] 26) = W at *
  clear d0 d1 d2 d3
  refine (unhide IA).mono ?_
  rintro r w1 ⟨ca, cpa, rfl, hx, hb1⟩
  have hb2 := below_new w1 (.cells #[.int .i64 x.k, .int .i64 x.n, .string x.s, .slice ca x.l.length cpa] 26)
  have hb12 := hb1.trans (hb2.mono hb1.size)
  have X2 := hide ((unhide X0).later hb12)
  have hzW := (unhide X0).lt
  have A2 := hide (hx.low.later hb2)
  have G2 := hide (show (w1.alloc (.cells #[.int .i64 x.k, .int .i64 x.n, .string x.s, .slice ca x.l.length cpa] 26)).heap[w1.heap.size]? = some (.cells #[.int .i64 x.k, .int .i64 x.n, .string x.s, .slice ca x.l.length cpa] 26 (0, 0)) from Array.getElem?_push_size)
  have z0 := Lib.cell_of_heap (unhide X2).box 0
  have z3 := Lib.cell_of_heap (unhide X2).box 3
  have d0 := unhide E0' _ (unhide X2).bel
  have d1 := unhide E1' _ (unhide X2).bel
  have d2 := unhide E2' _ (unhide X2).bel
  have d3 := unhide E3' _ (unhide X2).bel
  have IB2 := hide (unhide IB _ (unhide X2).bel)
  have S1 := hide hb1.size
  have hz12 : w1.heap.size < (w1.alloc (.cells #[.int .i64 x.k, .int .i64 x.n, .string x.s, .slice ca x.l.length cpa] 26)).heap.size := by simp
  have HZ2 := hide hz12
  clear hx hb1 hb2 hb12 X0 IA IB E0' E1' E2' E3' hz12
  go_wp2_with fail
  generalize w1.alloc (.cells #[.int .i64 x.k, .int .i64 x.n, .string x.s, .slice ca x.l.length cpa] 26) = w2 at *
  clear d0 d1 d2 d3 z0 z3
  refine (unhide IB2).mono ?_
  rintro r w3 ⟨cb, cpb, rfl, hy, hb3⟩
  have hb4 := below_new w3 (.cells #[.int .i64 y.k, .int .i64 y.n, .string y.s, .slice cb y.l.length cpb] 26)
  have hb34 := hb3.trans (hb4.mono hb3.size)
  have X4 := hide ((unhide X2).later hb34)
  have A4 := hide ((unhide A2).later hb34)
  have B4 := hide (hy.later hb4)
  have G4 := hide (row_keep (unhide G2) hb34)
  have K4 := hide (show (w3.alloc (.cells #[.int .i64 y.k, .int .i64 y.n, .string y.s, .slice cb y.l.length cpb] 26)).heap[w3.heap.size]? = some (.cells #[.int .i64 y.k, .int .i64 y.n, .string y.s, .slice cb y.l.length cpb] 26 (0, 0)) from Array.getElem?_push_size)
  have z0 := Lib.cell_of_heap (unhide X4).box 0
  have y0 := Lib.cell_of_heap (unhide G4) 0
  have y1 := Lib.cell_of_heap (unhide G4) 1
  have u0 := Lib.cell_of_heap (unhide K4) 0
  have u1 := Lib.cell_of_heap (unhide K4) 1
  have DJ := hide (show ∀ b, (Up W b ∧ b < w1.heap.size) → ¬ Up w2 b from fun b h k => by have := unhide HZ2; have h2 : w2.heap.size ≤ b := k; omega)
  have PR := hide (show ∀ b, (Up W b ∧ b < w1.heap.size) → Ow w (Up w) b from fun b h => up_ow (Nat.le_trans hzW h.1))
  have QR := hide (show ∀ b, Up w2 b → Ow w (Up w) b from fun b h => up_ow (Nat.le_trans (unhide X2).lt h))
  have HR := hide (show ∀ b, (w3.alloc (.cells #[.int .i64 y.k, .int .i64 y.n, .string y.s, .slice cb y.l.length cpb] 26)).heap.size ≤ b → Ow w (Up w) b from fun b h => up_ow (Nat.le_trans (unhide X4).lt h))
  clear hy hb3 hb4 hb34 X2 A2 G2 IB2
  have hb5 := below_new (w3.alloc (.cells #[.int .i64 y.k, .int .i64 y.n, .string y.s, .slice cb y.l.length cpb] 26)) (.cells #[.int .i64 x.k, .int .i64 x.n, .string x.s, .slice ca x.l.length cpa, .int .i64 y.k, .int .i64 y.n, .string y.s, .slice cb y.l.length cpb] 26)
  have X5 := hide ((unhide X4).later hb5)
  have hz5 : (w3.alloc (.cells #[.int .i64 y.k, .int .i64 y.n, .string y.s, .slice cb y.l.length cpb] 26)).heap.size = w3.heap.size + 1 := by simp
  have N5' := (show PX ((w3.alloc (.cells #[.int .i64 y.k, .int .i64 y.n, .string y.s, .slice cb y.l.length cpb] 26)).alloc (.cells #[.int .i64 x.k, .int .i64 x.n, .string x.s, .slice ca x.l.length cpa, .int .i64 y.k, .int .i64 y.n, .string y.s, .slice cb y.l.length cpb] 26)) (Ow w (Up w)) ⟨k, 0, ⟨#[]⟩, [x, y]⟩ (some ⟨(w3.alloc (.cells #[.int .i64 y.k, .int .i64 y.n, .string y.s, .slice cb y.l.length cpb] 26)).heap.size, 0, none⟩) from (unhide A4).two (unhide B4) (unhide DJ) (unhide PR) (unhide QR) (unhide HR _ (Nat.le_refl _)) k 0 ⟨#[]⟩ 26)
  rw [hz5] at N5'
  have N5 := hide N5'
  clear hb5 N5' hz5
  go_wp2_with (first | (refine wpList_load_row rfl 26 _ rfl w1.heap.size rfl 26 #[.int .i64 x.k, .int .i64 x.n, .string x.s, .slice ca x.l.length cpa] (0, 0) _ (unhide G4) Tryd.underlying26 rfl (by kernel_rfl) ?_) | (refine wpList_load_row rfl 26 _ rfl w3.heap.size rfl 26 #[.int .i64 y.k, .int .i64 y.n, .string y.s, .slice cb y.l.length cpb] (0, 0) _ (unhide K4) Tryd.underlying26 rfl (by kernel_rfl) ?_) | (refine wpList_store_row rfl 26 _ _ rfl (w.heap.size + 1) #[.int .i64 k, .int .i64 0, .string ⟨#[]⟩, .slice (some ⟨w3.heap.size + 1, 0, none⟩) 2 2] rfl rfl 26 _ ((unhide X5).res) szE rfl (ex_one _ _ _ _ _ _) ?_))
  refine bodyPost_ret (results_cell_row (P := Tryd.prog) rfl _ _ (w.heap.size + 1) 26 #[.int .i64 k, .int .i64 0, .string ⟨#[]⟩, .slice (some ⟨w3.heap.size + 1, 0, none⟩) 2 2] (0, 0) _ rfl (setRow_heap _ _ _ _ _ _ ((unhide X5).res)) Tryd.underlying26 rfl szE) rfl ?_
  rw [← unhide HX]
  exact Bx.end (x := ⟨k, 0, ⟨#[]⟩, [x, y]⟩) (unhide X5) (unhide N5) _
set_option maxHeartbeats 8000000 in
theorem foldS_add1 {d : Nat} (k : Int) (hk : 5 ≤ k ∧ k ≤ 10) (a b : Ex) (iha : FoR a) (ihb : FoR b) (oa : okF (d + 1) false (foldX a) = true) (ob : okF (d + 1) false (foldX b) = true) (f0 : ((foldX a).k == 1) = true) (f1 : ((foldX b).k == 1) = false) (g6 : (k == 6) = false) (g5 : (k == 5) = true) : FoR ⟨k, 0, ⟨#[]⟩, [a, b]⟩ := by
  intro bb cap w hr
  rw [fold_two]
  obtain ⟨p, off, rfl, hpl, hc⟩ := hr.at (by simp)
  obtain ⟨c0, c1, c2, q0, qp0, c3, r0⟩ := hc 0 (by simp)
  obtain ⟨e0, e1, e2, q1, qp1, e3, r1⟩ := hc 1 (by simp)
  have xa : xAt (Ex.mk k 0 ⟨#[]⟩ [a, b]).l 0 = a := rfl
  have xb : xAt (Ex.mk k 0 ⟨#[]⟩ [a, b]).l 1 = b := rfl
  rw [xa] at c0 c1 c2 c3 r0
  rw [xb] at e0 e1 e2 e3 r1
  simp only [Nat.zero_mul, Nat.add_zero, Nat.one_mul] at c0 c1 c2 c3 e0 e1 e2 e3
  have X0 := hide (Bx.new w #[.int .i64 k, .int .i64 0, .string ⟨#[]⟩, .slice (some ⟨p, off, none⟩) 2 cap])
  have IA := hide (iha q0 qp0 _ (RdX.later r0 (unhide X0).bel))
  have IB := hide (fun wr (h : Below w.heap.size w wr) => ihb q1 qp1 wr (RdX.later r1 h))
  have d0 := ((unhide X0).bel.cell (p := ⟨p, off, none⟩) hpl).trans c0
  have d1 := ((unhide X0).bel.cell (p := ⟨p, off + 1, none⟩) hpl).trans c1
  have d2 := ((unhide X0).bel.cell (p := ⟨p, off + 2, none⟩) hpl).trans c2
  have d3 := ((unhide X0).bel.cell (p := ⟨p, off + 3, none⟩) hpl).trans c3
  have E0' := hide (fun wr (h : Below w.heap.size w wr) => (h.cell (p := ⟨p, off + 4, none⟩) hpl).trans e0)
  have E1' := hide (fun wr (h : Below w.heap.size w wr) => (h.cell (p := ⟨p, off + 4 + 1, none⟩) hpl).trans e1)
  have E2' := hide (fun wr (h : Below w.heap.size w wr) => (h.cell (p := ⟨p, off + 4 + 2, none⟩) hpl).trans e2)
  have E3' := hide (fun wr (h : Below w.heap.size w wr) => (h.cell (p := ⟨p, off + 4 + 3, none⟩) hpl).trans e3)
  have g4 : (k == 4) = false := beq_eq_false_iff_ne.2 (by omega)
  have OA := hide oa
  have OB := hide ob
  have ia : 0 ≤ (foldX a).n ∧ (foldX a).n ≤ 65535 ∨ (foldX a).k ≠ 1 := by
    by_cases h : (foldX a).k = 1
    · obtain ⟨m, hm, e⟩ := ok_k1 oa h; rw [e]; exact .inl hm
    · exact .inr h
  have ib : 0 ≤ (foldX b).n ∧ (foldX b).n ≤ 65535 ∨ (foldX b).k ≠ 1 := by
    by_cases h : (foldX b).k = 1
    · obtain ⟨m, hm, e⟩ := ok_k1 ob h; rw [e]; exact .inl hm
    · exact .inr h
  have EQ := hide (show foldN k (foldX a) (foldX b) = sumX (foldX b) (foldX a).n by unfold foldN mixX; rw [if_neg (fun h => by have := beq_eq_false_iff_ne.1 f1; exact this h.2), if_neg (beq_eq_false_iff_ne.1 g6), if_pos ⟨beq_iff_eq.1 g5, beq_iff_eq.1 f0⟩])
  rw [unhide EQ]
  generalize hX : GiR _ (Up w) w = X
  have HX := hide hX
  unfold GiR Ex.cs at IA IB
  show Calls Tryd.prog 53 #[.agg #[.int .i64 k, .int .i64 0, .string ⟨#[]⟩, .slice (some ⟨p, off, none⟩) 2 cap]] w X
  generalize (foldX a) = x at *
  generalize (foldX b) = y at *
  clear hX hr hc c0 c1 c2 c3 e0 e1 e2 e3 r0 r1 iha ihb EQ xa xb oa ob
  go_enter Tryd.func53, Tryd.ntmps53
  go_wp2_with fail
  generalize (w.alloc (.cells #[.int .i64 k, .int .i64 0, .string ⟨#[]⟩, .slice (some ⟨p, off, none⟩) 2 cap] 26)).alloc (.cells #[.int .i64 0, .int .i64 0, .string ⟨#[]⟩, .slice none 0 0] 26) = W at *
  clear d0 d1 d2 d3
  refine (unhide IA).mono ?_
  rintro r w1 ⟨ca, cpa, rfl, hx, hb1⟩
  have hb2 := below_new w1 (.cells #[.int .i64 x.k, .int .i64 x.n, .string x.s, .slice ca x.l.length cpa] 26)
  have hb12 := hb1.trans (hb2.mono hb1.size)
  have X2 := hide ((unhide X0).later hb12)
  have hzW := (unhide X0).lt
  have A2 := hide (hx.low.later hb2)
  have G2 := hide (show (w1.alloc (.cells #[.int .i64 x.k, .int .i64 x.n, .string x.s, .slice ca x.l.length cpa] 26)).heap[w1.heap.size]? = some (.cells #[.int .i64 x.k, .int .i64 x.n, .string x.s, .slice ca x.l.length cpa] 26 (0, 0)) from Array.getElem?_push_size)
  have z0 := Lib.cell_of_heap (unhide X2).box 0
  have z3 := Lib.cell_of_heap (unhide X2).box 3
  have d0 := unhide E0' _ (unhide X2).bel
  have d1 := unhide E1' _ (unhide X2).bel
  have d2 := unhide E2' _ (unhide X2).bel
  have d3 := unhide E3' _ (unhide X2).bel
  have IB2 := hide (unhide IB _ (unhide X2).bel)
  have S1 := hide hb1.size
  have hz12 : w1.heap.size < (w1.alloc (.cells #[.int .i64 x.k, .int .i64 x.n, .string x.s, .slice ca x.l.length cpa] 26)).heap.size := by simp
  have HZ2 := hide hz12
  clear hx hb1 hb2 hb12 X0 IA IB E0' E1' E2' E3' hz12
  go_wp2_with fail
  generalize w1.alloc (.cells #[.int .i64 x.k, .int .i64 x.n, .string x.s, .slice ca x.l.length cpa] 26) = w2 at *
  clear d0 d1 d2 d3 z0 z3
  refine (unhide IB2).mono ?_
  rintro r w3 ⟨cb, cpb, rfl, hy, hb3⟩
  have hb4 := below_new w3 (.cells #[.int .i64 y.k, .int .i64 y.n, .string y.s, .slice cb y.l.length cpb] 26)
  have hb34 := hb3.trans (hb4.mono hb3.size)
  have X4 := hide ((unhide X2).later hb34)
  have A4 := hide ((unhide A2).later hb34)
  have B4 := hide (hy.later hb4)
  have G4 := hide (row_keep (unhide G2) hb34)
  have K4 := hide (show (w3.alloc (.cells #[.int .i64 y.k, .int .i64 y.n, .string y.s, .slice cb y.l.length cpb] 26)).heap[w3.heap.size]? = some (.cells #[.int .i64 y.k, .int .i64 y.n, .string y.s, .slice cb y.l.length cpb] 26 (0, 0)) from Array.getElem?_push_size)
  have z0 := Lib.cell_of_heap (unhide X4).box 0
  have y0 := Lib.cell_of_heap (unhide G4) 0
  have y1 := Lib.cell_of_heap (unhide G4) 1
  have u0 := Lib.cell_of_heap (unhide K4) 0
  have u1 := Lib.cell_of_heap (unhide K4) 1
  have DJ := hide (show ∀ b, (Up W b ∧ b < w1.heap.size) → ¬ Up w2 b from fun b h k => by have := unhide HZ2; have h2 : w2.heap.size ≤ b := k; omega)
  have PR := hide (show ∀ b, (Up W b ∧ b < w1.heap.size) → Ow w (Up w) b from fun b h => up_ow (Nat.le_trans hzW h.1))
  have QR := hide (show ∀ b, Up w2 b → Ow w (Up w) b from fun b h => up_ow (Nat.le_trans (unhide X2).lt h))
  have HR := hide (show ∀ b, (w3.alloc (.cells #[.int .i64 y.k, .int .i64 y.n, .string y.s, .slice cb y.l.length cpb] 26)).heap.size ≤ b → Ow w (Up w) b from fun b h => up_ow (Nat.le_trans (unhide X4).lt h))
  clear hy hb3 hb4 hb34 X2 A2 G2 IB2
  have CL := hide (sumS_any y (unhide OB) cb cpb x.n (by have := ia.resolve_right (fun h => h (beq_iff_eq.1 f0)); omega) (Ow w (Up w)) (w3.alloc (.cells #[.int .i64 y.k, .int .i64 y.n, .string y.s, .slice cb y.l.length cpb] 26)) ((unhide B4).mono (unhide QR)) (unhide HR))
  unfold GiR Ex.cs at CL
  go_wp2_with (first | (refine wpList_load_row rfl 26 _ rfl w3.heap.size rfl 26 #[.int .i64 y.k, .int .i64 y.n, .string y.s, .slice cb y.l.length cpb] (0, 0) _ (unhide K4) Tryd.underlying26 rfl (by kernel_rfl) ?_))
  generalize w3.alloc (.cells #[.int .i64 y.k, .int .i64 y.n, .string y.s, .slice cb y.l.length cpb] 26) = w4 at *
  clear z0 y0 y1 u0 u1
  refine (unhide CL).mono ?_
  rintro r w5 ⟨c5, cp5, rfl, hx5, hb5⟩
  have X5 := hide ((unhide X4).later hb5)
  have A5 := hide hx5
  clear hx5 hb5 X4 A4 B4 G4 K4 CL
  generalize sumX y x.n = z at *
  go_wp2_with (refine wpList_store_row rfl 26 _ _ rfl (w.heap.size + 1) #[.int .i64 z.k, .int .i64 z.n, .string z.s, .slice c5 z.l.length cp5] rfl rfl 26 _ ((unhide X5).res) szE rfl (ex_one _ _ _ _ _ _) ?_)
  refine bodyPost_ret (results_cell_row (P := Tryd.prog) rfl _ _ (w.heap.size + 1) 26 #[.int .i64 z.k, .int .i64 z.n, .string z.s, .slice c5 z.l.length cp5] (0, 0) _ rfl (setRow_heap _ _ _ _ _ _ ((unhide X5).res)) Tryd.underlying26 rfl szE) rfl ?_
  rw [← unhide HX]
  exact (unhide X5).end (unhide A5) _
set_option maxHeartbeats 8000000 in
theorem foldS_add2 {d : Nat} (k : Int) (hk : 5 ≤ k ∧ k ≤ 10) (a b : Ex) (iha : FoR a) (ihb : FoR b) (oa : okF (d + 1) false (foldX a) = true) (ob : okF (d + 1) false (foldX b) = true) (f0 : ((foldX a).k == 1) = false) (f1 : ((foldX b).k == 1) = true) (g6 : (k == 6) = false) (g5 : (k == 5) = true) : FoR ⟨k, 0, ⟨#[]⟩, [a, b]⟩ := by
  intro bb cap w hr
  rw [fold_two]
  obtain ⟨p, off, rfl, hpl, hc⟩ := hr.at (by simp)
  obtain ⟨c0, c1, c2, q0, qp0, c3, r0⟩ := hc 0 (by simp)
  obtain ⟨e0, e1, e2, q1, qp1, e3, r1⟩ := hc 1 (by simp)
  have xa : xAt (Ex.mk k 0 ⟨#[]⟩ [a, b]).l 0 = a := rfl
  have xb : xAt (Ex.mk k 0 ⟨#[]⟩ [a, b]).l 1 = b := rfl
  rw [xa] at c0 c1 c2 c3 r0
  rw [xb] at e0 e1 e2 e3 r1
  simp only [Nat.zero_mul, Nat.add_zero, Nat.one_mul] at c0 c1 c2 c3 e0 e1 e2 e3
  have X0 := hide (Bx.new w #[.int .i64 k, .int .i64 0, .string ⟨#[]⟩, .slice (some ⟨p, off, none⟩) 2 cap])
  have IA := hide (iha q0 qp0 _ (RdX.later r0 (unhide X0).bel))
  have IB := hide (fun wr (h : Below w.heap.size w wr) => ihb q1 qp1 wr (RdX.later r1 h))
  have d0 := ((unhide X0).bel.cell (p := ⟨p, off, none⟩) hpl).trans c0
  have d1 := ((unhide X0).bel.cell (p := ⟨p, off + 1, none⟩) hpl).trans c1
  have d2 := ((unhide X0).bel.cell (p := ⟨p, off + 2, none⟩) hpl).trans c2
  have d3 := ((unhide X0).bel.cell (p := ⟨p, off + 3, none⟩) hpl).trans c3
  have E0' := hide (fun wr (h : Below w.heap.size w wr) => (h.cell (p := ⟨p, off + 4, none⟩) hpl).trans e0)
  have E1' := hide (fun wr (h : Below w.heap.size w wr) => (h.cell (p := ⟨p, off + 4 + 1, none⟩) hpl).trans e1)
  have E2' := hide (fun wr (h : Below w.heap.size w wr) => (h.cell (p := ⟨p, off + 4 + 2, none⟩) hpl).trans e2)
  have E3' := hide (fun wr (h : Below w.heap.size w wr) => (h.cell (p := ⟨p, off + 4 + 3, none⟩) hpl).trans e3)
  have g4 : (k == 4) = false := beq_eq_false_iff_ne.2 (by omega)
  have OA := hide oa
  have OB := hide ob
  have ia : 0 ≤ (foldX a).n ∧ (foldX a).n ≤ 65535 ∨ (foldX a).k ≠ 1 := by
    by_cases h : (foldX a).k = 1
    · obtain ⟨m, hm, e⟩ := ok_k1 oa h; rw [e]; exact .inl hm
    · exact .inr h
  have ib : 0 ≤ (foldX b).n ∧ (foldX b).n ≤ 65535 ∨ (foldX b).k ≠ 1 := by
    by_cases h : (foldX b).k = 1
    · obtain ⟨m, hm, e⟩ := ok_k1 ob h; rw [e]; exact .inl hm
    · exact .inr h
  have EQ := hide (show foldN k (foldX a) (foldX b) = sumX (foldX a) (foldX b).n by unfold foldN mixX; rw [if_neg (fun h => by have := beq_eq_false_iff_ne.1 f0; exact this h.1), if_neg (beq_eq_false_iff_ne.1 g6), if_neg (fun h => beq_eq_false_iff_ne.1 f0 h.2), if_pos ⟨beq_iff_eq.1 g5, beq_iff_eq.1 f1⟩])
  rw [unhide EQ]
  generalize hX : GiR _ (Up w) w = X
  have HX := hide hX
  unfold GiR Ex.cs at IA IB
  show Calls Tryd.prog 53 #[.agg #[.int .i64 k, .int .i64 0, .string ⟨#[]⟩, .slice (some ⟨p, off, none⟩) 2 cap]] w X
  generalize (foldX a) = x at *
  generalize (foldX b) = y at *
  clear hX hr hc c0 c1 c2 c3 e0 e1 e2 e3 r0 r1 iha ihb EQ xa xb oa ob
  go_enter Tryd.func53, Tryd.ntmps53
  go_wp2_with fail
  generalize (w.alloc (.cells #[.int .i64 k, .int .i64 0, .string ⟨#[]⟩, .slice (some ⟨p, off, none⟩) 2 cap] 26)).alloc (.cells #[.int .i64 0, .int .i64 0, .string ⟨#[]⟩, .slice none 0 0] 26) = W at *
  clear d0 d1 d2 d3
  refine (unhide IA).mono ?_
  rintro r w1 ⟨ca, cpa, rfl, hx, hb1⟩
  have hb2 := below_new w1 (.cells #[.int .i64 x.k, .int .i64 x.n, .string x.s, .slice ca x.l.length cpa] 26)
  have hb12 := hb1.trans (hb2.mono hb1.size)
  have X2 := hide ((unhide X0).later hb12)
  have hzW := (unhide X0).lt
  have A2 := hide (hx.low.later hb2)
  have G2 := hide (show (w1.alloc (.cells #[.int .i64 x.k, .int .i64 x.n, .string x.s, .slice ca x.l.length cpa] 26)).heap[w1.heap.size]? = some (.cells #[.int .i64 x.k, .int .i64 x.n, .string x.s, .slice ca x.l.length cpa] 26 (0, 0)) from Array.getElem?_push_size)
  have z0 := Lib.cell_of_heap (unhide X2).box 0
  have z3 := Lib.cell_of_heap (unhide X2).box 3
  have d0 := unhide E0' _ (unhide X2).bel
  have d1 := unhide E1' _ (unhide X2).bel
  have d2 := unhide E2' _ (unhide X2).bel
  have d3 := unhide E3' _ (unhide X2).bel
  have IB2 := hide (unhide IB _ (unhide X2).bel)
  have S1 := hide hb1.size
  have hz12 : w1.heap.size < (w1.alloc (.cells #[.int .i64 x.k, .int .i64 x.n, .string x.s, .slice ca x.l.length cpa] 26)).heap.size := by simp
  have HZ2 := hide hz12
  clear hx hb1 hb2 hb12 X0 IA IB E0' E1' E2' E3' hz12
  go_wp2_with fail
  generalize w1.alloc (.cells #[.int .i64 x.k, .int .i64 x.n, .string x.s, .slice ca x.l.length cpa] 26) = w2 at *
  clear d0 d1 d2 d3 z0 z3
  refine (unhide IB2).mono ?_
  rintro r w3 ⟨cb, cpb, rfl, hy, hb3⟩
  have hb4 := below_new w3 (.cells #[.int .i64 y.k, .int .i64 y.n, .string y.s, .slice cb y.l.length cpb] 26)
  have hb34 := hb3.trans (hb4.mono hb3.size)
  have X4 := hide ((unhide X2).later hb34)
  have A4 := hide ((unhide A2).later hb34)
  have B4 := hide (hy.later hb4)
  have G4 := hide (row_keep (unhide G2) hb34)
  have K4 := hide (show (w3.alloc (.cells #[.int .i64 y.k, .int .i64 y.n, .string y.s, .slice cb y.l.length cpb] 26)).heap[w3.heap.size]? = some (.cells #[.int .i64 y.k, .int .i64 y.n, .string y.s, .slice cb y.l.length cpb] 26 (0, 0)) from Array.getElem?_push_size)
  have z0 := Lib.cell_of_heap (unhide X4).box 0
  have y0 := Lib.cell_of_heap (unhide G4) 0
  have y1 := Lib.cell_of_heap (unhide G4) 1
  have u0 := Lib.cell_of_heap (unhide K4) 0
  have u1 := Lib.cell_of_heap (unhide K4) 1
  have DJ := hide (show ∀ b, (Up W b ∧ b < w1.heap.size) → ¬ Up w2 b from fun b h k => by have := unhide HZ2; have h2 : w2.heap.size ≤ b := k; omega)
  have PR := hide (show ∀ b, (Up W b ∧ b < w1.heap.size) → Ow w (Up w) b from fun b h => up_ow (Nat.le_trans hzW h.1))
  have QR := hide (show ∀ b, Up w2 b → Ow w (Up w) b from fun b h => up_ow (Nat.le_trans (unhide X2).lt h))
  have HR := hide (show ∀ b, (w3.alloc (.cells #[.int .i64 y.k, .int .i64 y.n, .string y.s, .slice cb y.l.length cpb] 26)).heap.size ≤ b → Ow w (Up w) b from fun b h => up_ow (Nat.le_trans (unhide X4).lt h))
  clear hy hb3 hb4 hb34 X2 A2 G2 IB2
  have CL := hide (sumS_any x (unhide OA) ca cpa y.n (by have := ib.resolve_right (fun h => h (beq_iff_eq.1 f1)); omega) (Ow w (Up w)) (w3.alloc (.cells #[.int .i64 y.k, .int .i64 y.n, .string y.s, .slice cb y.l.length cpb] 26)) ((unhide A4).mono (unhide PR)) (unhide HR))
  unfold GiR Ex.cs at CL
  go_wp2_with (first | (refine wpList_load_row rfl 26 _ rfl w1.heap.size rfl 26 #[.int .i64 x.k, .int .i64 x.n, .string x.s, .slice ca x.l.length cpa] (0, 0) _ (unhide G4) Tryd.underlying26 rfl (by kernel_rfl) ?_))
  generalize w3.alloc (.cells #[.int .i64 y.k, .int .i64 y.n, .string y.s, .slice cb y.l.length cpb] 26) = w4 at *
  clear z0 y0 y1 u0 u1
  refine (unhide CL).mono ?_
  rintro r w5 ⟨c5, cp5, rfl, hx5, hb5⟩
  have X5 := hide ((unhide X4).later hb5)
  have A5 := hide hx5
  clear hx5 hb5 X4 A4 B4 G4 K4 CL
  generalize sumX x y.n = z at *
  go_wp2_with (refine wpList_store_row rfl 26 _ _ rfl (w.heap.size + 1) #[.int .i64 z.k, .int .i64 z.n, .string z.s, .slice c5 z.l.length cp5] rfl rfl 26 _ ((unhide X5).res) szE rfl (ex_one _ _ _ _ _ _) ?_)
  refine bodyPost_ret (results_cell_row (P := Tryd.prog) rfl _ _ (w.heap.size + 1) 26 #[.int .i64 z.k, .int .i64 z.n, .string z.s, .slice c5 z.l.length cp5] (0, 0) _ rfl (setRow_heap _ _ _ _ _ _ ((unhide X5).res)) Tryd.underlying26 rfl szE) rfl ?_
  rw [← unhide HX]
  exact (unhide X5).end (unhide A5) _
set_option maxHeartbeats 8000000 in
theorem foldS_add0 {d : Nat} (k : Int) (hk : 5 ≤ k ∧ k ≤ 10) (a b : Ex) (iha : FoR a) (ihb : FoR b) (oa : okF (d + 1) false (foldX a) = true) (ob : okF (d + 1) false (foldX b) = true) (f0 : ((foldX a).k == 1) = false) (f1 : ((foldX b).k == 1) = false) (g6 : (k == 6) = false) (g5 : (k == 5) = true) : FoR ⟨k, 0, ⟨#[]⟩, [a, b]⟩ := by
  intro bb cap w hr
  rw [fold_two]
  obtain ⟨p, off, rfl, hpl, hc⟩ := hr.at (by simp)
  obtain ⟨c0, c1, c2, q0, qp0, c3, r0⟩ := hc 0 (by simp)
  obtain ⟨e0, e1, e2, q1, qp1, e3, r1⟩ := hc 1 (by simp)
  have xa : xAt (Ex.mk k 0 ⟨#[]⟩ [a, b]).l 0 = a := rfl
  have xb : xAt (Ex.mk k 0 ⟨#[]⟩ [a, b]).l 1 = b := rfl
  rw [xa] at c0 c1 c2 c3 r0
  rw [xb] at e0 e1 e2 e3 r1
  simp only [Nat.zero_mul, Nat.add_zero, Nat.one_mul] at c0 c1 c2 c3 e0 e1 e2 e3
  have X0 := hide (Bx.new w #[.int .i64 k, .int .i64 0, .string ⟨#[]⟩, .slice (some ⟨p, off, none⟩) 2 cap])
  have IA := hide (iha q0 qp0 _ (RdX.later r0 (unhide X0).bel))
  have IB := hide (fun wr (h : Below w.heap.size w wr) => ihb q1 qp1 wr (RdX.later r1 h))
  have d0 := ((unhide X0).bel.cell (p := ⟨p, off, none⟩) hpl).trans c0
  have d1 := ((unhide X0).bel.cell (p := ⟨p, off + 1, none⟩) hpl).trans c1
  have d2 := ((unhide X0).bel.cell (p := ⟨p, off + 2, none⟩) hpl).trans c2
  have d3 := ((unhide X0).bel.cell (p := ⟨p, off + 3, none⟩) hpl).trans c3
  have E0' := hide (fun wr (h : Below w.heap.size w wr) => (h.cell (p := ⟨p, off + 4, none⟩) hpl).trans e0)
  have E1' := hide (fun wr (h : Below w.heap.size w wr) => (h.cell (p := ⟨p, off + 4 + 1, none⟩) hpl).trans e1)
  have E2' := hide (fun wr (h : Below w.heap.size w wr) => (h.cell (p := ⟨p, off + 4 + 2, none⟩) hpl).trans e2)
  have E3' := hide (fun wr (h : Below w.heap.size w wr) => (h.cell (p := ⟨p, off + 4 + 3, none⟩) hpl).trans e3)
  have g4 : (k == 4) = false := beq_eq_false_iff_ne.2 (by omega)
  have OA := hide oa
  have OB := hide ob
  have ia : 0 ≤ (foldX a).n ∧ (foldX a).n ≤ 65535 ∨ (foldX a).k ≠ 1 := by
    by_cases h : (foldX a).k = 1
    · obtain ⟨m, hm, e⟩ := ok_k1 oa h; rw [e]; exact .inl hm
    · exact .inr h
  have ib : 0 ≤ (foldX b).n ∧ (foldX b).n ≤ 65535 ∨ (foldX b).k ≠ 1 := by
    by_cases h : (foldX b).k = 1
    · obtain ⟨m, hm, e⟩ := ok_k1 ob h; rw [e]; exact .inl hm
    · exact .inr h
  have EQ := hide (show foldN k (foldX a) (foldX b) = ⟨k, 0, ⟨#[]⟩, [(foldX a), (foldX b)]⟩ by unfold foldN mixX; rw [if_neg (fun h => by have := beq_eq_false_iff_ne.1 f0; exact this h.1), if_neg (beq_eq_false_iff_ne.1 g6), if_neg (fun h => beq_eq_false_iff_ne.1 f0 h.2), if_neg (fun h => beq_eq_false_iff_ne.1 f1 h.2)]; rfl)
  rw [unhide EQ]
  generalize hX : GiR _ (Up w) w = X
  have HX := hide hX
  unfold GiR Ex.cs at IA IB
  show Calls Tryd.prog 53 #[.agg #[.int .i64 k, .int .i64 0, .string ⟨#[]⟩, .slice (some ⟨p, off, none⟩) 2 cap]] w X
  generalize (foldX a) = x at *
  generalize (foldX b) = y at *
  clear hX hr hc c0 c1 c2 c3 e0 e1 e2 e3 r0 r1 iha ihb EQ xa xb oa ob
  go_enter Tryd.func53, Tryd.ntmps53
  go_wp2_with fail
  generalize (w.alloc (.cells #[.int .i64 k, .int .i64 0, .string ⟨#[]⟩, .slice (some ⟨p, off, none⟩) 2 cap] 26)).alloc (.cells #[.int .i64 0, .int .i64 0, .string ⟨#[]⟩, .slice none 0 0] 26) = W at *
  clear d0 d1 d2 d3
  refine (unhide IA).mono ?_
  rintro r w1 ⟨ca, cpa, rfl, hx, hb1⟩
  have hb2 := below_new w1 (.cells #[.int .i64 x.k, .int .i64 x.n, .string x.s, .slice ca x.l.length cpa] 26)
  have hb12 := hb1.trans (hb2.mono hb1.size)
  have X2 := hide ((unhide X0).later hb12)
  have hzW := (unhide X0).lt
  have A2 := hide (hx.low.later hb2)
  have G2 := hide (show (w1.alloc (.cells #[.int .i64 x.k, .int .i64 x.n, .string x.s, .slice ca x.l.length cpa] 26)).heap[w1.heap.size]? = some (.cells #[.int .i64 x.k, .int .i64 x.n, .string x.s, .slice ca x.l.length cpa] 26 (0, 0)) from Array.getElem?_push_size)
  have z0 := Lib.cell_of_heap (unhide X2).box 0
  have z3 := Lib.cell_of_heap (unhide X2).box 3
  have d0 := unhide E0' _ (unhide X2).bel
  have d1 := unhide E1' _ (unhide X2).bel
  have d2 := unhide E2' _ (unhide X2).bel
  have d3 := unhide E3' _ (unhide X2).bel
  have IB2 := hide (unhide IB _ (unhide X2).bel)
  have S1 := hide hb1.size
  have hz12 : w1.heap.size < (w1.alloc (.cells #[.int .i64 x.k, .int .i64 x.n, .string x.s, .slice ca x.l.length cpa] 26)).heap.size := by simp
  have HZ2 := hide hz12
  clear hx hb1 hb2 hb12 X0 IA IB E0' E1' E2' E3' hz12
  go_wp2_with fail
  generalize w1.alloc (.cells #[.int .i64 x.k, .int .i64 x.n, .string x.s, .slice ca x.l.length cpa] 26) = w2 at *
  clear d0 d1 d2 d3 z0 z3
  refine (unhide IB2).mono ?_
  rintro r w3 ⟨cb, cpb, rfl, hy, hb3⟩
  have hb4 := below_new w3 (.cells #[.int .i64 y.k, .int .i64 y.n, .string y.s, .slice cb y.l.length cpb] 26)
  have hb34 := hb3.trans (hb4.mono hb3.size)
  have X4 := hide ((unhide X2).later hb34)
  have A4 := hide ((unhide A2).later hb34)
  have B4 := hide (hy.later hb4)
  have G4 := hide (row_keep (unhide G2) hb34)
  have K4 := hide (show (w3.alloc (.cells #[.int .i64 y.k, .int .i64 y.n, .string y.s, .slice cb y.l.length cpb] 26)).heap[w3.heap.size]? = some (.cells #[.int .i64 y.k, .int .i64 y.n, .string y.s, .slice cb y.l.length cpb] 26 (0, 0)) from Array.getElem?_push_size)
  have z0 := Lib.cell_of_heap (unhide X4).box 0
  have y0 := Lib.cell_of_heap (unhide G4) 0
  have y1 := Lib.cell_of_heap (unhide G4) 1
  have u0 := Lib.cell_of_heap (unhide K4) 0
  have u1 := Lib.cell_of_heap (unhide K4) 1
  have DJ := hide (show ∀ b, (Up W b ∧ b < w1.heap.size) → ¬ Up w2 b from fun b h k => by have := unhide HZ2; have h2 : w2.heap.size ≤ b := k; omega)
  have PR := hide (show ∀ b, (Up W b ∧ b < w1.heap.size) → Ow w (Up w) b from fun b h => up_ow (Nat.le_trans hzW h.1))
  have QR := hide (show ∀ b, Up w2 b → Ow w (Up w) b from fun b h => up_ow (Nat.le_trans (unhide X2).lt h))
  have HR := hide (show ∀ b, (w3.alloc (.cells #[.int .i64 y.k, .int .i64 y.n, .string y.s, .slice cb y.l.length cpb] 26)).heap.size ≤ b → Ow w (Up w) b from fun b h => up_ow (Nat.le_trans (unhide X4).lt h))
  clear hy hb3 hb4 hb34 X2 A2 G2 IB2
  have hb5 := below_new (w3.alloc (.cells #[.int .i64 y.k, .int .i64 y.n, .string y.s, .slice cb y.l.length cpb] 26)) (.cells #[.int .i64 x.k, .int .i64 x.n, .string x.s, .slice ca x.l.length cpa, .int .i64 y.k, .int .i64 y.n, .string y.s, .slice cb y.l.length cpb] 26)
  have X5 := hide ((unhide X4).later hb5)
  have hz5 : (w3.alloc (.cells #[.int .i64 y.k, .int .i64 y.n, .string y.s, .slice cb y.l.length cpb] 26)).heap.size = w3.heap.size + 1 := by simp
  have N5' := (show PX ((w3.alloc (.cells #[.int .i64 y.k, .int .i64 y.n, .string y.s, .slice cb y.l.length cpb] 26)).alloc (.cells #[.int .i64 x.k, .int .i64 x.n, .string x.s, .slice ca x.l.length cpa, .int .i64 y.k, .int .i64 y.n, .string y.s, .slice cb y.l.length cpb] 26)) (Ow w (Up w)) ⟨k, 0, ⟨#[]⟩, [x, y]⟩ (some ⟨(w3.alloc (.cells #[.int .i64 y.k, .int .i64 y.n, .string y.s, .slice cb y.l.length cpb] 26)).heap.size, 0, none⟩) from (unhide A4).two (unhide B4) (unhide DJ) (unhide PR) (unhide QR) (unhide HR _ (Nat.le_refl _)) k 0 ⟨#[]⟩ 26)
  rw [hz5] at N5'
  have N5 := hide N5'
  clear hb5 N5' hz5
  go_wp2_with (first | (refine wpList_load_row rfl 26 _ rfl w1.heap.size rfl 26 #[.int .i64 x.k, .int .i64 x.n, .string x.s, .slice ca x.l.length cpa] (0, 0) _ (unhide G4) Tryd.underlying26 rfl (by kernel_rfl) ?_) | (refine wpList_load_row rfl 26 _ rfl w3.heap.size rfl 26 #[.int .i64 y.k, .int .i64 y.n, .string y.s, .slice cb y.l.length cpb] (0, 0) _ (unhide K4) Tryd.underlying26 rfl (by kernel_rfl) ?_) | (refine wpList_store_row rfl 26 _ _ rfl (w.heap.size + 1) #[.int .i64 k, .int .i64 0, .string ⟨#[]⟩, .slice (some ⟨w3.heap.size + 1, 0, none⟩) 2 2] rfl rfl 26 _ ((unhide X5).res) szE rfl (ex_one _ _ _ _ _ _) ?_))
  refine bodyPost_ret (results_cell_row (P := Tryd.prog) rfl _ _ (w.heap.size + 1) 26 #[.int .i64 k, .int .i64 0, .string ⟨#[]⟩, .slice (some ⟨w3.heap.size + 1, 0, none⟩) 2 2] (0, 0) _ rfl (setRow_heap _ _ _ _ _ _ ((unhide X5).res)) Tryd.underlying26 rfl szE) rfl ?_
  rw [← unhide HX]
  exact Bx.end (x := ⟨k, 0, ⟨#[]⟩, [x, y]⟩) (unhide X5) (unhide N5) _
set_option maxHeartbeats 8000000 in
theorem foldS_num {d : Nat} (k : Int) (hk : 5 ≤ k ∧ k ≤ 10) (a b : Ex) (iha : FoR a) (ihb : FoR b) (oa : okF (d + 1) false (foldX a) = true) (ob : okF (d + 1) false (foldX b) = true) (f0 : ((foldX a).k == 1) = true) (f1 : ((foldX b).k == 1) = true) (m : Int) (ht : two11 k (foldX a).n (foldX b).n = some m) : FoR ⟨k, 0, ⟨#[]⟩, [a, b]⟩ := by
  intro bb cap w hr
  rw [fold_two]
  obtain ⟨p, off, rfl, hpl, hc⟩ := hr.at (by simp)
  obtain ⟨c0, c1, c2, q0, qp0, c3, r0⟩ := hc 0 (by simp)
  obtain ⟨e0, e1, e2, q1, qp1, e3, r1⟩ := hc 1 (by simp)
  have xa : xAt (Ex.mk k 0 ⟨#[]⟩ [a, b]).l 0 = a := rfl
  have xb : xAt (Ex.mk k 0 ⟨#[]⟩ [a, b]).l 1 = b := rfl
  rw [xa] at c0 c1 c2 c3 r0
  rw [xb] at e0 e1 e2 e3 r1
  simp only [Nat.zero_mul, Nat.add_zero, Nat.one_mul] at c0 c1 c2 c3 e0 e1 e2 e3
  have X0 := hide (Bx.new w #[.int .i64 k, .int .i64 0, .string ⟨#[]⟩, .slice (some ⟨p, off, none⟩) 2 cap])
  have IA := hide (iha q0 qp0 _ (RdX.later r0 (unhide X0).bel))
  have IB := hide (fun wr (h : Below w.heap.size w wr) => ihb q1 qp1 wr (RdX.later r1 h))
  have d0 := ((unhide X0).bel.cell (p := ⟨p, off, none⟩) hpl).trans c0
  have d1 := ((unhide X0).bel.cell (p := ⟨p, off + 1, none⟩) hpl).trans c1
  have d2 := ((unhide X0).bel.cell (p := ⟨p, off + 2, none⟩) hpl).trans c2
  have d3 := ((unhide X0).bel.cell (p := ⟨p, off + 3, none⟩) hpl).trans c3
  have E0' := hide (fun wr (h : Below w.heap.size w wr) => (h.cell (p := ⟨p, off + 4, none⟩) hpl).trans e0)
  have E1' := hide (fun wr (h : Below w.heap.size w wr) => (h.cell (p := ⟨p, off + 4 + 1, none⟩) hpl).trans e1)
  have E2' := hide (fun wr (h : Below w.heap.size w wr) => (h.cell (p := ⟨p, off + 4 + 2, none⟩) hpl).trans e2)
  have E3' := hide (fun wr (h : Below w.heap.size w wr) => (h.cell (p := ⟨p, off + 4 + 3, none⟩) hpl).trans e3)
  have g4 : (k == 4) = false := beq_eq_false_iff_ne.2 (by omega)
  have OA := hide oa
  have OB := hide ob
  have ia : 0 ≤ (foldX a).n ∧ (foldX a).n ≤ 65535 ∨ (foldX a).k ≠ 1 := by
    by_cases h : (foldX a).k = 1
    · obtain ⟨m, hm, e⟩ := ok_k1 oa h; rw [e]; exact .inl hm
    · exact .inr h
  have ib : 0 ≤ (foldX b).n ∧ (foldX b).n ≤ 65535 ∨ (foldX b).k ≠ 1 := by
    by_cases h : (foldX b).k = 1
    · obtain ⟨m, hm, e⟩ := ok_k1 ob h; rw [e]; exact .inl hm
    · exact .inr h
  have EQ := hide (show foldN k (foldX a) (foldX b) = numX m by unfold foldN; rw [if_pos ⟨beq_iff_eq.1 f0, beq_iff_eq.1 f1⟩, ht])
  rw [unhide EQ]
  generalize hX : GiR _ (Up w) w = X
  have HX := hide hX
  unfold GiR Ex.cs at IA IB
  show Calls Tryd.prog 53 #[.agg #[.int .i64 k, .int .i64 0, .string ⟨#[]⟩, .slice (some ⟨p, off, none⟩) 2 cap]] w X
  generalize (foldX a) = x at *
  generalize (foldX b) = y at *
  clear hX hr hc c0 c1 c2 c3 e0 e1 e2 e3 r0 r1 iha ihb EQ xa xb oa ob
  go_enter Tryd.func53, Tryd.ntmps53
  go_wp2_with fail
  generalize (w.alloc (.cells #[.int .i64 k, .int .i64 0, .string ⟨#[]⟩, .slice (some ⟨p, off, none⟩) 2 cap] 26)).alloc (.cells #[.int .i64 0, .int .i64 0, .string ⟨#[]⟩, .slice none 0 0] 26) = W at *
  clear d0 d1 d2 d3
  refine (unhide IA).mono ?_
  rintro r w1 ⟨ca, cpa, rfl, hx, hb1⟩
  have hb2 := below_new w1 (.cells #[.int .i64 x.k, .int .i64 x.n, .string x.s, .slice ca x.l.length cpa] 26)
  have hb12 := hb1.trans (hb2.mono hb1.size)
  have X2 := hide ((unhide X0).later hb12)
  have hzW := (unhide X0).lt
  have A2 := hide (hx.low.later hb2)
  have G2 := hide (show (w1.alloc (.cells #[.int .i64 x.k, .int .i64 x.n, .string x.s, .slice ca x.l.length cpa] 26)).heap[w1.heap.size]? = some (.cells #[.int .i64 x.k, .int .i64 x.n, .string x.s, .slice ca x.l.length cpa] 26 (0, 0)) from Array.getElem?_push_size)
  have z0 := Lib.cell_of_heap (unhide X2).box 0
  have z3 := Lib.cell_of_heap (unhide X2).box 3
  have d0 := unhide E0' _ (unhide X2).bel
  have d1 := unhide E1' _ (unhide X2).bel
  have d2 := unhide E2' _ (unhide X2).bel
  have d3 := unhide E3' _ (unhide X2).bel
  have IB2 := hide (unhide IB _ (unhide X2).bel)
  have S1 := hide hb1.size
  have hz12 : w1.heap.size < (w1.alloc (.cells #[.int .i64 x.k, .int .i64 x.n, .string x.s, .slice ca x.l.length cpa] 26)).heap.size := by simp
  have HZ2 := hide hz12
  clear hx hb1 hb2 hb12 X0 IA IB E0' E1' E2' E3' hz12
  go_wp2_with fail
  generalize w1.alloc (.cells #[.int .i64 x.k, .int .i64 x.n, .string x.s, .slice ca x.l.length cpa] 26) = w2 at *
  clear d0 d1 d2 d3 z0 z3
  refine (unhide IB2).mono ?_
  rintro r w3 ⟨cb, cpb, rfl, hy, hb3⟩
  have hb4 := below_new w3 (.cells #[.int .i64 y.k, .int .i64 y.n, .string y.s, .slice cb y.l.length cpb] 26)
  have hb34 := hb3.trans (hb4.mono hb3.size)
  have X4 := hide ((unhide X2).later hb34)
  have A4 := hide ((unhide A2).later hb34)
  have B4 := hide (hy.later hb4)
  have G4 := hide (row_keep (unhide G2) hb34)
  have K4 := hide (show (w3.alloc (.cells #[.int .i64 y.k, .int .i64 y.n, .string y.s, .slice cb y.l.length cpb] 26)).heap[w3.heap.size]? = some (.cells #[.int .i64 y.k, .int .i64 y.n, .string y.s, .slice cb y.l.length cpb] 26 (0, 0)) from Array.getElem?_push_size)
  have z0 := Lib.cell_of_heap (unhide X4).box 0
  have y0 := Lib.cell_of_heap (unhide G4) 0
  have y1 := Lib.cell_of_heap (unhide G4) 1
  have u0 := Lib.cell_of_heap (unhide K4) 0
  have u1 := Lib.cell_of_heap (unhide K4) 1
  have DJ := hide (show ∀ b, (Up W b ∧ b < w1.heap.size) → ¬ Up w2 b from fun b h k => by have := unhide HZ2; have h2 : w2.heap.size ≤ b := k; omega)
  have PR := hide (show ∀ b, (Up W b ∧ b < w1.heap.size) → Ow w (Up w) b from fun b h => up_ow (Nat.le_trans hzW h.1))
  have QR := hide (show ∀ b, Up w2 b → Ow w (Up w) b from fun b h => up_ow (Nat.le_trans (unhide X2).lt h))
  have HR := hide (show ∀ b, (w3.alloc (.cells #[.int .i64 y.k, .int .i64 y.n, .string y.s, .slice cb y.l.length cpb] 26)).heap.size ≤ b → Ow w (Up w) b from fun b h => up_ow (Nat.le_trans (unhide X4).lt h))
  clear hy hb3 hb4 hb34 X2 A2 G2 IB2
  have TW := hide (twoS_any k x.n y.n hk (ia.resolve_right (fun h => h (beq_iff_eq.1 f0))) (ib.resolve_right (fun h => h (beq_iff_eq.1 f1))) (w3.alloc (.cells #[.int .i64 y.k, .int .i64 y.n, .string y.s, .slice cb y.l.length cpb] 26)))
  unfold TwoR at TW
  rw [ht] at TW
  simp only [Option.getD_some, Option.isSome_some] at TW
  go_wp2_with (first | (go_at_call 78; refine (unhide TW).mono ?_; rintro r w' ⟨hw', rfl⟩; rw [hw']; clear hw' w'))
  generalize w3.alloc (.cells #[.int .i64 y.k, .int .i64 y.n, .string y.s, .slice cb y.l.length cpb] 26) = w4 at *
  clear z0 y0 y1 u0 u1
  refine (numD m w4).mono ?_
  rintro r w5 ⟨rfl, hb5⟩
  have X5 := hide ((unhide X4).later hb5)
  have A5 := hide (PX.leaf w5 (Ow w (Up w)) 1 (m % 65536) (⟨#[]⟩ : ByteArray) none)
  clear hb5 X4 A4 B4 G4 K4 TW
  go_wp2_with (refine wpList_store_row rfl 26 _ _ rfl (w.heap.size + 1) #[.int .i64 1, .int .i64 (m % 65536), .string ⟨#[]⟩, .slice none 0 0] rfl rfl 26 _ ((unhide X5).res) szE rfl (ex_one _ _ _ _ _ _) ?_)
  refine bodyPost_ret (results_cell_row (P := Tryd.prog) rfl _ _ (w.heap.size + 1) 26 #[.int .i64 1, .int .i64 (m % 65536), .string ⟨#[]⟩, .slice none 0 0] (0, 0) _ rfl (setRow_heap _ _ _ _ _ _ ((unhide X5).res)) Tryd.underlying26 rfl szE) rfl ?_
  rw [← unhide HX]
  exact Bx.end (x := numX m) (unhide X5) (unhide A5) _
set_option maxHeartbeats 8000000 in
theorem foldS_none {d : Nat} (k : Int) (hk : 5 ≤ k ∧ k ≤ 10) (a b : Ex) (iha : FoR a) (ihb : FoR b) (oa : okF (d + 1) false (foldX a) = true) (ob : okF (d + 1) false (foldX b) = true) (f0 : ((foldX a).k == 1) = true) (f1 : ((foldX b).k == 1) = true) (g6 : (k == 6) = false) (g5 : (k == 5) = false) (ht : two11 k (foldX a).n (foldX b).n = none) : FoR ⟨k, 0, ⟨#[]⟩, [a, b]⟩ := by
  intro bb cap w hr
  rw [fold_two]
  obtain ⟨p, off, rfl, hpl, hc⟩ := hr.at (by simp)
  obtain ⟨c0, c1, c2, q0, qp0, c3, r0⟩ := hc 0 (by simp)
  obtain ⟨e0, e1, e2, q1, qp1, e3, r1⟩ := hc 1 (by simp)
  have xa : xAt (Ex.mk k 0 ⟨#[]⟩ [a, b]).l 0 = a := rfl
  have xb : xAt (Ex.mk k 0 ⟨#[]⟩ [a, b]).l 1 = b := rfl
  rw [xa] at c0 c1 c2 c3 r0
  rw [xb] at e0 e1 e2 e3 r1
  simp only [Nat.zero_mul, Nat.add_zero, Nat.one_mul] at c0 c1 c2 c3 e0 e1 e2 e3
  have X0 := hide (Bx.new w #[.int .i64 k, .int .i64 0, .string ⟨#[]⟩, .slice (some ⟨p, off, none⟩) 2 cap])
  have IA := hide (iha q0 qp0 _ (RdX.later r0 (unhide X0).bel))
  have IB := hide (fun wr (h : Below w.heap.size w wr) => ihb q1 qp1 wr (RdX.later r1 h))
  have d0 := ((unhide X0).bel.cell (p := ⟨p, off, none⟩) hpl).trans c0
  have d1 := ((unhide X0).bel.cell (p := ⟨p, off + 1, none⟩) hpl).trans c1
  have d2 := ((unhide X0).bel.cell (p := ⟨p, off + 2, none⟩) hpl).trans c2
  have d3 := ((unhide X0).bel.cell (p := ⟨p, off + 3, none⟩) hpl).trans c3
  have E0' := hide (fun wr (h : Below w.heap.size w wr) => (h.cell (p := ⟨p, off + 4, none⟩) hpl).trans e0)
  have E1' := hide (fun wr (h : Below w.heap.size w wr) => (h.cell (p := ⟨p, off + 4 + 1, none⟩) hpl).trans e1)
  have E2' := hide (fun wr (h : Below w.heap.size w wr) => (h.cell (p := ⟨p, off + 4 + 2, none⟩) hpl).trans e2)
  have E3' := hide (fun wr (h : Below w.heap.size w wr) => (h.cell (p := ⟨p, off + 4 + 3, none⟩) hpl).trans e3)
  have g4 : (k == 4) = false := beq_eq_false_iff_ne.2 (by omega)
  have OA := hide oa
  have OB := hide ob
  have ia : 0 ≤ (foldX a).n ∧ (foldX a).n ≤ 65535 ∨ (foldX a).k ≠ 1 := by
    by_cases h : (foldX a).k = 1
    · obtain ⟨m, hm, e⟩ := ok_k1 oa h; rw [e]; exact .inl hm
    · exact .inr h
  have ib : 0 ≤ (foldX b).n ∧ (foldX b).n ≤ 65535 ∨ (foldX b).k ≠ 1 := by
    by_cases h : (foldX b).k = 1
    · obtain ⟨m, hm, e⟩ := ok_k1 ob h; rw [e]; exact .inl hm
    · exact .inr h
  have EQ := hide (show foldN k (foldX a) (foldX b) = ⟨k, 0, ⟨#[]⟩, [(foldX a), (foldX b)]⟩ by unfold foldN mixX; rw [if_pos ⟨beq_iff_eq.1 f0, beq_iff_eq.1 f1⟩, ht]; simp only []; rw [if_neg (beq_eq_false_iff_ne.1 g6), if_neg (fun h => beq_eq_false_iff_ne.1 g5 h.1), if_neg (fun h => beq_eq_false_iff_ne.1 g5 h.1)]; rfl)
  rw [unhide EQ]
  generalize hX : GiR _ (Up w) w = X
  have HX := hide hX
  unfold GiR Ex.cs at IA IB
  show Calls Tryd.prog 53 #[.agg #[.int .i64 k, .int .i64 0, .string ⟨#[]⟩, .slice (some ⟨p, off, none⟩) 2 cap]] w X
  generalize (foldX a) = x at *
  generalize (foldX b) = y at *
  clear hX hr hc c0 c1 c2 c3 e0 e1 e2 e3 r0 r1 iha ihb EQ xa xb oa ob
  go_enter Tryd.func53, Tryd.ntmps53
  go_wp2_with fail
  generalize (w.alloc (.cells #[.int .i64 k, .int .i64 0, .string ⟨#[]⟩, .slice (some ⟨p, off, none⟩) 2 cap] 26)).alloc (.cells #[.int .i64 0, .int .i64 0, .string ⟨#[]⟩, .slice none 0 0] 26) = W at *
  clear d0 d1 d2 d3
  refine (unhide IA).mono ?_
  rintro r w1 ⟨ca, cpa, rfl, hx, hb1⟩
  have hb2 := below_new w1 (.cells #[.int .i64 x.k, .int .i64 x.n, .string x.s, .slice ca x.l.length cpa] 26)
  have hb12 := hb1.trans (hb2.mono hb1.size)
  have X2 := hide ((unhide X0).later hb12)
  have hzW := (unhide X0).lt
  have A2 := hide (hx.low.later hb2)
  have G2 := hide (show (w1.alloc (.cells #[.int .i64 x.k, .int .i64 x.n, .string x.s, .slice ca x.l.length cpa] 26)).heap[w1.heap.size]? = some (.cells #[.int .i64 x.k, .int .i64 x.n, .string x.s, .slice ca x.l.length cpa] 26 (0, 0)) from Array.getElem?_push_size)
  have z0 := Lib.cell_of_heap (unhide X2).box 0
  have z3 := Lib.cell_of_heap (unhide X2).box 3
  have d0 := unhide E0' _ (unhide X2).bel
  have d1 := unhide E1' _ (unhide X2).bel
  have d2 := unhide E2' _ (unhide X2).bel
  have d3 := unhide E3' _ (unhide X2).bel
  have IB2 := hide (unhide IB _ (unhide X2).bel)
  have S1 := hide hb1.size
  have hz12 : w1.heap.size < (w1.alloc (.cells #[.int .i64 x.k, .int .i64 x.n, .string x.s, .slice ca x.l.length cpa] 26)).heap.size := by simp
  have HZ2 := hide hz12
  clear hx hb1 hb2 hb12 X0 IA IB E0' E1' E2' E3' hz12
  go_wp2_with fail
  generalize w1.alloc (.cells #[.int .i64 x.k, .int .i64 x.n, .string x.s, .slice ca x.l.length cpa] 26) = w2 at *
  clear d0 d1 d2 d3 z0 z3
  refine (unhide IB2).mono ?_
  rintro r w3 ⟨cb, cpb, rfl, hy, hb3⟩
  have hb4 := below_new w3 (.cells #[.int .i64 y.k, .int .i64 y.n, .string y.s, .slice cb y.l.length cpb] 26)
  have hb34 := hb3.trans (hb4.mono hb3.size)
  have X4 := hide ((unhide X2).later hb34)
  have A4 := hide ((unhide A2).later hb34)
  have B4 := hide (hy.later hb4)
  have G4 := hide (row_keep (unhide G2) hb34)
  have K4 := hide (show (w3.alloc (.cells #[.int .i64 y.k, .int .i64 y.n, .string y.s, .slice cb y.l.length cpb] 26)).heap[w3.heap.size]? = some (.cells #[.int .i64 y.k, .int .i64 y.n, .string y.s, .slice cb y.l.length cpb] 26 (0, 0)) from Array.getElem?_push_size)
  have z0 := Lib.cell_of_heap (unhide X4).box 0
  have y0 := Lib.cell_of_heap (unhide G4) 0
  have y1 := Lib.cell_of_heap (unhide G4) 1
  have u0 := Lib.cell_of_heap (unhide K4) 0
  have u1 := Lib.cell_of_heap (unhide K4) 1
  have DJ := hide (show ∀ b, (Up W b ∧ b < w1.heap.size) → ¬ Up w2 b from fun b h k => by have := unhide HZ2; have h2 : w2.heap.size ≤ b := k; omega)
  have PR := hide (show ∀ b, (Up W b ∧ b < w1.heap.size) → Ow w (Up w) b from fun b h => up_ow (Nat.le_trans hzW h.1))
  have QR := hide (show ∀ b, Up w2 b → Ow w (Up w) b from fun b h => up_ow (Nat.le_trans (unhide X2).lt h))
  have HR := hide (show ∀ b, (w3.alloc (.cells #[.int .i64 y.k, .int .i64 y.n, .string y.s, .slice cb y.l.length cpb] 26)).heap.size ≤ b → Ow w (Up w) b from fun b h => up_ow (Nat.le_trans (unhide X4).lt h))
  clear hy hb3 hb4 hb34 X2 A2 G2 IB2
  have TW := hide (twoS_any k x.n y.n hk (ia.resolve_right (fun h => h (beq_iff_eq.1 f0))) (ib.resolve_right (fun h => h (beq_iff_eq.1 f1))) (w3.alloc (.cells #[.int .i64 y.k, .int .i64 y.n, .string y.s, .slice cb y.l.length cpb] 26)))
  unfold TwoR at TW
  rw [ht] at TW
  simp only [Option.getD_none, Option.isSome_none] at TW
  have hb5 := below_new (w3.alloc (.cells #[.int .i64 y.k, .int .i64 y.n, .string y.s, .slice cb y.l.length cpb] 26)) (.cells #[.int .i64 x.k, .int .i64 x.n, .string x.s, .slice ca x.l.length cpa, .int .i64 y.k, .int .i64 y.n, .string y.s, .slice cb y.l.length cpb] 26)
  have X5 := hide ((unhide X4).later hb5)
  have hz5 : (w3.alloc (.cells #[.int .i64 y.k, .int .i64 y.n, .string y.s, .slice cb y.l.length cpb] 26)).heap.size = w3.heap.size + 1 := by simp
  have N5' := (show PX ((w3.alloc (.cells #[.int .i64 y.k, .int .i64 y.n, .string y.s, .slice cb y.l.length cpb] 26)).alloc (.cells #[.int .i64 x.k, .int .i64 x.n, .string x.s, .slice ca x.l.length cpa, .int .i64 y.k, .int .i64 y.n, .string y.s, .slice cb y.l.length cpb] 26)) (Ow w (Up w)) ⟨k, 0, ⟨#[]⟩, [x, y]⟩ (some ⟨(w3.alloc (.cells #[.int .i64 y.k, .int .i64 y.n, .string y.s, .slice cb y.l.length cpb] 26)).heap.size, 0, none⟩) from (unhide A4).two (unhide B4) (unhide DJ) (unhide PR) (unhide QR) (unhide HR _ (Nat.le_refl _)) k 0 ⟨#[]⟩ 26)
  rw [hz5] at N5'
  have N5 := hide N5'
  clear hb5 N5' hz5
  go_wp2_with (first | (go_at_call 78; refine (unhide TW).mono ?_; rintro r w' ⟨hw', rfl⟩; rw [hw']; clear hw' w') | (refine wpList_load_row rfl 26 _ rfl w1.heap.size rfl 26 #[.int .i64 x.k, .int .i64 x.n, .string x.s, .slice ca x.l.length cpa] (0, 0) _ (unhide G4) Tryd.underlying26 rfl (by kernel_rfl) ?_) | (refine wpList_load_row rfl 26 _ rfl w3.heap.size rfl 26 #[.int .i64 y.k, .int .i64 y.n, .string y.s, .slice cb y.l.length cpb] (0, 0) _ (unhide K4) Tryd.underlying26 rfl (by kernel_rfl) ?_) | (refine wpList_store_row rfl 26 _ _ rfl (w.heap.size + 1) #[.int .i64 k, .int .i64 0, .string ⟨#[]⟩, .slice (some ⟨w3.heap.size + 1, 0, none⟩) 2 2] rfl rfl 26 _ ((unhide X5).res) szE rfl (ex_one _ _ _ _ _ _) ?_))
  refine bodyPost_ret (results_cell_row (P := Tryd.prog) rfl _ _ (w.heap.size + 1) 26 #[.int .i64 k, .int .i64 0, .string ⟨#[]⟩, .slice (some ⟨w3.heap.size + 1, 0, none⟩) 2 2] (0, 0) _ rfl (setRow_heap _ _ _ _ _ _ ((unhide X5).res)) Tryd.underlying26 rfl szE) rfl ?_
  rw [← unhide HX]
  exact Bx.end (x := ⟨k, 0, ⟨#[]⟩, [x, y]⟩) (unhide X5) (unhide N5) _
end Go.Proofs.YtkolflcjkofleaaDoor

namespace Go.Proofs.YtkolflcjkofleaaDoor
open Go.ChangeShapes Go.WideShapes Go.ChangeAt Go.RowKit
set_option linter.unusedVariables false
set_option maxRecDepth 8000
set_option linter.unusedSimpArgs false

theorem name_szF {s : ByteArray} (h : nameB s = true) : s.size ≤ 6 := by
  unfold nameB at h
  rw [Bool.and_eq_true] at h
  obtain ⟨c, r, _, _, _, hl⟩ := form_open h.1
  rw [← size_len]
  exact hl
theorem foldS_two {d : Nat} (k : Int) (hk : 5 ≤ k ∧ k ≤ 10) (a b : Ex) (iha : FoR a) (ihb : FoR b) (oa : okF (d + 1) false (foldX a) = true) (ob : okF (d + 1) false (foldX b) = true) : FoR ⟨k, 0, ⟨#[]⟩, [a, b]⟩ := by
  cases g6 : (k == 6) with
  | true =>
    cases f0 : ((foldX a).k == 1) with
    | false => exact foldS_sub0 k hk a b iha ihb oa ob f0 g6
    | true =>
      cases f1 : ((foldX b).k == 1) with
      | false => exact foldS_sub1 k hk a b iha ihb oa ob f0 f1 g6
      | true =>
        obtain ⟨m, hm⟩ := two11_some (a := (foldX a).n) (b := (foldX b).n) (k := k) (.inr (beq_iff_eq.1 g6))
        exact foldS_num k hk a b iha ihb oa ob f0 f1 m hm
  | false =>
    cases g5 : (k == 5) with
    | true =>
      cases f0 : ((foldX a).k == 1) with
      | false =>
        cases f1 : ((foldX b).k == 1) with
        | false => exact foldS_add0 k hk a b iha ihb oa ob f0 f1 g6 g5
        | true => exact foldS_add2 k hk a b iha ihb oa ob f0 f1 g6 g5
      | true =>
        cases f1 : ((foldX b).k == 1) with
        | false => exact foldS_add1 k hk a b iha ihb oa ob f0 f1 g6 g5
        | true =>
          obtain ⟨m, hm⟩ := two11_some (a := (foldX a).n) (b := (foldX b).n) (k := k) (.inl (beq_iff_eq.1 g5))
          exact foldS_num k hk a b iha ihb oa ob f0 f1 m hm
    | false =>
      cases f0 : ((foldX a).k == 1) with
      | false => exact foldS_mix0 k hk a b iha ihb oa ob f0 g6 g5
      | true =>
        cases f1 : ((foldX b).k == 1) with
        | false => exact foldS_mix1 k hk a b iha ihb oa ob f0 f1 g6 g5
        | true =>
          cases ht : two11 k (foldX a).n (foldX b).n with
          | some m => exact foldS_num k hk a b iha ihb oa ob f0 f1 m ht
          | none => exact foldS_none k hk a b iha ihb oa ob f0 f1 g6 g5 ht
theorem foldS_all : ∀ (d : Nat) (e : Ex), okF d false e = true → FoR e := by
  intro d
  induction d with
  | zero => intro e h; rw [okF] at h; cases h
  | succ d ih =>
    intro e h
    rcases ok_sev h with ⟨n, hn, rfl⟩ | ⟨s, hs, rfl⟩ | rfl | ⟨n, hn, rfl⟩ | ⟨s, hs, rfl⟩ | ⟨a, ha, rfl⟩ | ⟨k, a, b, hk, ha, hb, rfl⟩
    · exact foldS_leaf _ _ _ (by show 0 ≤ 1048576; omega)
    · exact foldS_leaf _ _ _ (by have := name_szF hs; omega)
    · exact foldS_leaf _ _ _ (by show 0 ≤ 1048576; omega)
    · exact foldS_leaf _ _ _ (by show 0 ≤ 1048576; omega)
    · exact foldS_leaf _ _ _ (by have := name_szF hs; omega)
    · have oa := fold_ok d a ha
      obtain ⟨c, rfl⟩ := ok_pos ha
      have hn : 0 ≤ (foldX a).n ∧ (foldX a).n ≤ 65535 ∨ (foldX a).k ≠ 1 := by
        by_cases h1 : (foldX a).k = 1
        · obtain ⟨m, hm, e⟩ := ok_k1 oa h1; rw [e]; exact .inl hm
        · exact .inr h1
      cases f0 : ((foldX a).k == 1) with
      | false => exact foldS_neg0 a (ih a ha) f0 hn
      | true => exact foldS_neg1 a (ih a ha) f0 hn
    · have oa := fold_ok d a ha
      have ob := fold_ok d b hb
      obtain ⟨c, rfl⟩ := ok_pos ha
      exact foldS_two k hk a b (ih a ha) (ih b hb) oa ob
/-- What Fold answers. -/
def foldA (e : Ex) : Ex := if okF 6 false e = true then foldX e else e
set_option maxHeartbeats 4000000 in
theorem foldA_yes (e : Ex) (b : Option Addr) (cap : Nat) (w : World) (hr : RdX w 0 e b) (hz : e.sz ≤ 1048576) (ho : okF 6 false e = true) : Calls Tryd.prog 16 #[.agg (e.cs b cap)] w (GiR (foldA e) (Up w) w) := by
  have EQ := hide (show foldA e = foldX e by unfold foldA; rw [if_pos ho])
  rw [unhide EQ]
  have X0 := hide (Bx.new w #[.int .i64 e.k, .int .i64 e.n, .string e.s, .slice b e.l.length cap])
  have OK := hide (okS_any e b cap _ (hr.later (unhide X0).bel) hz)
  rw [ho] at OK
  have CA := hide (fun wr (h : Below w.heap.size w wr) => foldS_all 6 e ho b cap wr (hr.later h))
  generalize hX : GiR _ (Up w) w = X
  have HX := hide hX
  unfold GiR at CA
  unfold Ex.cs at CA OK ⊢
  clear hX hr hz ho EQ
  go_enter Tryd.func16, Tryd.ntmps16
  go_wp2_with fail
  generalize (w.alloc (.cells #[.int .i64 e.k, .int .i64 e.n, .string e.s, .slice b e.l.length cap] 26)).alloc (.cells #[.int .i64 0, .int .i64 0, .string ⟨#[]⟩, .slice none 0 0] 26) = W at *
  refine (unhide OK).mono ?_
  rintro r w1 ⟨rfl, hb1⟩
  have X1 := hide ((unhide X0).later hb1)
  have C1 := hide (unhide CA w1 (unhide X1).bel)
  clear hb1 X0 OK CA
  go_wp2_with (refine wpList_load_row rfl 26 _ rfl w.heap.size rfl 26 #[.int .i64 e.k, .int .i64 e.n, .string e.s, .slice b e.l.length cap] (0, 0) _ ((unhide X1).box) Tryd.underlying26 rfl (by kernel_rfl) ?_)
  refine (unhide C1).mono ?_
  rintro r w2 ⟨c2, cp2, rfl, hx, hb2⟩
  have hz1 := (unhide X1).lt
  have X2 := hide ((unhide X1).later hb2)
  have A2 := hide (hx.mono (fun b h => up_ow (w := w) (b := b) (Nat.le_trans hz1 h)))
  clear hx hb2 X1 C1
  generalize foldX e = y at *
  go_wp2_with (refine wpList_store_row rfl 26 _ _ rfl (w.heap.size + 1) #[.int .i64 y.k, .int .i64 y.n, .string y.s, .slice c2 y.l.length cp2] rfl rfl 26 _ ((unhide X2).res) szE rfl (ex_one _ _ _ _ _ _) ?_)
  refine bodyPost_ret (results_cell_row (P := Tryd.prog) rfl _ _ (w.heap.size + 1) 26 #[.int .i64 y.k, .int .i64 y.n, .string y.s, .slice c2 y.l.length cp2] (0, 0) _ rfl (setRow_heap _ _ _ _ _ _ ((unhide X2).res)) Tryd.underlying26 rfl szE) rfl ?_
  rw [← unhide HX]
  exact (unhide X2).end (unhide A2) _
set_option maxHeartbeats 4000000 in
theorem foldA_no (e : Ex) (b : Option Addr) (cap : Nat) (w : World) (hr : RdX w 0 e b) (hz : e.sz ≤ 1048576) (ho : okF 6 false e = false) : Calls Tryd.prog 16 #[.agg (e.cs b cap)] w (GiR (foldA e) (Up w) w) := by
  have EQ := hide (show foldA e = e by unfold foldA; rw [if_neg (by rw [ho]; decide)])
  rw [unhide EQ]
  have X0 := hide (Bx.new w #[.int .i64 e.k, .int .i64 e.n, .string e.s, .slice b e.l.length cap])
  have OK := hide (okS_any e b cap _ (hr.later (unhide X0).bel) hz)
  rw [ho] at OK
  have CA := hide (fun wr (h : Below w.heap.size w wr) => copyS_any e b cap wr (hr.later h) hz)
  generalize hX : GiR _ (Up w) w = X
  have HX := hide hX
  unfold GiR at CA
  unfold Ex.cs at CA OK ⊢
  clear hX hr hz ho EQ
  go_enter Tryd.func16, Tryd.ntmps16
  go_wp2_with fail
  generalize (w.alloc (.cells #[.int .i64 e.k, .int .i64 e.n, .string e.s, .slice b e.l.length cap] 26)).alloc (.cells #[.int .i64 0, .int .i64 0, .string ⟨#[]⟩, .slice none 0 0] 26) = W at *
  refine (unhide OK).mono ?_
  rintro r w1 ⟨rfl, hb1⟩
  have X1 := hide ((unhide X0).later hb1)
  have C1 := hide (unhide CA w1 (unhide X1).bel)
  clear hb1 X0 OK CA
  go_wp2_with (refine wpList_load_row rfl 26 _ rfl w.heap.size rfl 26 #[.int .i64 e.k, .int .i64 e.n, .string e.s, .slice b e.l.length cap] (0, 0) _ ((unhide X1).box) Tryd.underlying26 rfl (by kernel_rfl) ?_)
  refine (unhide C1).mono ?_
  rintro r w2 ⟨c2, cp2, rfl, hx, hb2⟩
  have hz1 := (unhide X1).lt
  have X2 := hide ((unhide X1).later hb2)
  have A2 := hide (hx.mono (fun b h => up_ow (w := w) (b := b) (Nat.le_trans hz1 h)))
  clear hx hb2 X1 C1
  generalize e = y at *
  go_wp2_with (refine wpList_store_row rfl 26 _ _ rfl (w.heap.size + 1) #[.int .i64 y.k, .int .i64 y.n, .string y.s, .slice c2 y.l.length cp2] rfl rfl 26 _ ((unhide X2).res) szE rfl (ex_one _ _ _ _ _ _) ?_)
  refine bodyPost_ret (results_cell_row (P := Tryd.prog) rfl _ _ (w.heap.size + 1) 26 #[.int .i64 y.k, .int .i64 y.n, .string y.s, .slice c2 y.l.length cp2] (0, 0) _ rfl (setRow_heap _ _ _ _ _ _ ((unhide X2).res)) Tryd.underlying26 rfl szE) rfl ?_
  rw [← unhide HX]
  exact (unhide X2).end (unhide A2) _
theorem foldA_any (e : Ex) (b : Option Addr) (cap : Nat) (w : World) (hr : RdX w 0 e b) (hz : e.sz ≤ 1048576) : Calls Tryd.prog 16 #[.agg (e.cs b cap)] w (GiR (foldA e) (Up w) w) := by
  cases ho : okF 6 false e with
  | true => exact foldA_yes e b cap w hr hz ho
  | false => exact foldA_no e b cap w hr hz ho
/-- What is known of a term. -/
def knownA (e : Ex) : Option Int := if okF 6 false e = true ∧ (foldX e).k = 1 then some (foldX e).n else none
end Go.Proofs.YtkolflcjkofleaaDoor

namespace Go.Proofs.YtkolflcjkofleaaDoor
open Go.ChangeShapes Go.WideShapes Go.ChangeAt Go.RowKit
set_option linter.unusedVariables false
set_option maxRecDepth 8000
set_option linter.unusedSimpArgs false

/-- A number answered, or none. -/
def InR (o : Option Int) (w : World) (r : Ending) (w' : World) : Prop := r = .returned (.tuple #[.int .i64 (o.getD 0), .bool o.isSome]) ∧ Below w.heap.size w w'
set_option maxHeartbeats 4000000 in
theorem known_no (e : Ex) (b : Option Addr) (cap : Nat) (w : World) (hr : RdX w 0 e b) (hz : e.sz ≤ 1048576) (ho : okF 6 false e = false) : Calls Tryd.prog 20 #[.agg (e.cs b cap)] w (InR (knownA e) w) := by
  have EQ := hide (show knownA e = none by unfold knownA; rw [if_neg (fun h => by rw [ho] at h; exact absurd h.1 (by decide))])
  rw [unhide EQ]
  have hb0 := below_new w (.cells #[.int .i64 e.k, .int .i64 e.n, .string e.s, .slice b e.l.length cap] 26)
  have G0 := (show (w.alloc (.cells #[.int .i64 e.k, .int .i64 e.n, .string e.s, .slice b e.l.length cap] 26)).heap[w.heap.size]? = some (.cells #[.int .i64 e.k, .int .i64 e.n, .string e.s, .slice b e.l.length cap] 26 (0, 0)) from Array.getElem?_push_size)
  have FO := hide (foldA_any e b cap _ (hr.later hb0) hz)
  have OK := hide (fun wr (h : Below w.heap.size w wr) => okS_any e b cap wr (hr.later h) hz)
  rw [ho] at OK
  have B0 := hide hb0
  have R0 := hide G0
  generalize hX : InR _ w = X
  have HX := hide hX
  unfold GiR at FO
  unfold Ex.cs at FO OK ⊢
  generalize foldA e = x at *
  clear hX hr hz ho EQ hb0 G0
  go_enter Tryd.func20, Tryd.ntmps20
  go_wp2_with fail
  generalize w.alloc (.cells #[.int .i64 e.k, .int .i64 e.n, .string e.s, .slice b e.l.length cap] 26) = W at *
  refine (unhide FO).mono ?_
  rintro r w1 ⟨c1, cp1, rfl, hx, hb1⟩
  clear hx
  have B1 := (unhide B0).trans (hb1.mono (unhide B0).size)
  have R1 := row_keep (unhide R0) hb1
  have hb2 := below_new w1 (.cells #[.int .i64 x.k, .int .i64 x.n, .string x.s, .slice c1 x.l.length cp1] 26)
  have B2 := hide (B1.trans (hb2.mono B1.size))
  have R2 := hide (row_keep R1 hb2)
  have G2 := hide (show (w1.alloc (.cells #[.int .i64 x.k, .int .i64 x.n, .string x.s, .slice c1 x.l.length cp1] 26)).heap[w1.heap.size]? = some (.cells #[.int .i64 x.k, .int .i64 x.n, .string x.s, .slice c1 x.l.length cp1] 26 (0, 0)) from Array.getElem?_push_size)
  have O2 := hide (unhide OK _ (unhide B2))
  clear hb1 hb2 B1 R1 B0 R0 FO OK
  go_wp2_with (refine wpList_load_row rfl 26 _ rfl w.heap.size rfl 26 #[.int .i64 e.k, .int .i64 e.n, .string e.s, .slice b e.l.length cap] (0, 0) _ (unhide R2) Tryd.underlying26 rfl (by kernel_rfl) ?_)
  generalize w1.alloc (.cells #[.int .i64 x.k, .int .i64 x.n, .string x.s, .slice c1 x.l.length cp1] 26) = w2 at *
  generalize w1.heap.size = g1 at *
  refine (unhide O2).mono ?_
  rintro r w3 ⟨rfl, hb3⟩
  have B3 := hide ((unhide B2).trans (hb3.mono (unhide B2).size))
  have G3 := row_keep (unhide G2) hb3
  have y0 := Lib.cell_of_heap G3 0
  have y1 := Lib.cell_of_heap G3 1
  clear hb3 B2 G2 O2 R2 G3
  go_wp2
  rw [← unhide HX]
  exact ⟨rfl, unhide B3⟩
set_option maxHeartbeats 4000000 in
theorem known_y (e : Ex) (b : Option Addr) (cap : Nat) (w : World) (hr : RdX w 0 e b) (hz : e.sz ≤ 1048576) (ho : okF 6 false e = true) (f1 : ((foldA e).k == 1) = true) : Calls Tryd.prog 20 #[.agg (e.cs b cap)] w (InR (knownA e) w) := by
  have EQ := hide (show knownA e = some (foldA e).n by have e1 : foldA e = foldX e := (by unfold foldA; rw [if_pos ho]); rw [e1] at f1 ⊢; unfold knownA; rw [if_pos ⟨ho, beq_iff_eq.1 f1⟩])
  rw [unhide EQ]
  have hb0 := below_new w (.cells #[.int .i64 e.k, .int .i64 e.n, .string e.s, .slice b e.l.length cap] 26)
  have G0 := (show (w.alloc (.cells #[.int .i64 e.k, .int .i64 e.n, .string e.s, .slice b e.l.length cap] 26)).heap[w.heap.size]? = some (.cells #[.int .i64 e.k, .int .i64 e.n, .string e.s, .slice b e.l.length cap] 26 (0, 0)) from Array.getElem?_push_size)
  have FO := hide (foldA_any e b cap _ (hr.later hb0) hz)
  have OK := hide (fun wr (h : Below w.heap.size w wr) => okS_any e b cap wr (hr.later h) hz)
  rw [ho] at OK
  have B0 := hide hb0
  have R0 := hide G0
  generalize hX : InR _ w = X
  have HX := hide hX
  unfold GiR at FO
  unfold Ex.cs at FO OK ⊢
  generalize foldA e = x at *
  clear hX hr hz ho EQ hb0 G0
  go_enter Tryd.func20, Tryd.ntmps20
  go_wp2_with fail
  generalize w.alloc (.cells #[.int .i64 e.k, .int .i64 e.n, .string e.s, .slice b e.l.length cap] 26) = W at *
  refine (unhide FO).mono ?_
  rintro r w1 ⟨c1, cp1, rfl, hx, hb1⟩
  clear hx
  have B1 := (unhide B0).trans (hb1.mono (unhide B0).size)
  have R1 := row_keep (unhide R0) hb1
  have hb2 := below_new w1 (.cells #[.int .i64 x.k, .int .i64 x.n, .string x.s, .slice c1 x.l.length cp1] 26)
  have B2 := hide (B1.trans (hb2.mono B1.size))
  have R2 := hide (row_keep R1 hb2)
  have G2 := hide (show (w1.alloc (.cells #[.int .i64 x.k, .int .i64 x.n, .string x.s, .slice c1 x.l.length cp1] 26)).heap[w1.heap.size]? = some (.cells #[.int .i64 x.k, .int .i64 x.n, .string x.s, .slice c1 x.l.length cp1] 26 (0, 0)) from Array.getElem?_push_size)
  have O2 := hide (unhide OK _ (unhide B2))
  clear hb1 hb2 B1 R1 B0 R0 FO OK
  go_wp2_with (refine wpList_load_row rfl 26 _ rfl w.heap.size rfl 26 #[.int .i64 e.k, .int .i64 e.n, .string e.s, .slice b e.l.length cap] (0, 0) _ (unhide R2) Tryd.underlying26 rfl (by kernel_rfl) ?_)
  generalize w1.alloc (.cells #[.int .i64 x.k, .int .i64 x.n, .string x.s, .slice c1 x.l.length cp1] 26) = w2 at *
  generalize w1.heap.size = g1 at *
  refine (unhide O2).mono ?_
  rintro r w3 ⟨rfl, hb3⟩
  have B3 := hide ((unhide B2).trans (hb3.mono (unhide B2).size))
  have G3 := row_keep (unhide G2) hb3
  have y0 := Lib.cell_of_heap G3 0
  have y1 := Lib.cell_of_heap G3 1
  clear hb3 B2 G2 O2 R2 G3
  go_wp2
  rw [← unhide HX]
  exact ⟨rfl, unhide B3⟩
set_option maxHeartbeats 4000000 in
theorem known_n (e : Ex) (b : Option Addr) (cap : Nat) (w : World) (hr : RdX w 0 e b) (hz : e.sz ≤ 1048576) (ho : okF 6 false e = true) (f1 : ((foldA e).k == 1) = false) : Calls Tryd.prog 20 #[.agg (e.cs b cap)] w (InR (knownA e) w) := by
  have EQ := hide (show knownA e = none by have e1 : foldA e = foldX e := (by unfold foldA; rw [if_pos ho]); rw [e1] at f1; unfold knownA; rw [if_neg (fun h => beq_eq_false_iff_ne.1 f1 h.2)])
  rw [unhide EQ]
  have hb0 := below_new w (.cells #[.int .i64 e.k, .int .i64 e.n, .string e.s, .slice b e.l.length cap] 26)
  have G0 := (show (w.alloc (.cells #[.int .i64 e.k, .int .i64 e.n, .string e.s, .slice b e.l.length cap] 26)).heap[w.heap.size]? = some (.cells #[.int .i64 e.k, .int .i64 e.n, .string e.s, .slice b e.l.length cap] 26 (0, 0)) from Array.getElem?_push_size)
  have FO := hide (foldA_any e b cap _ (hr.later hb0) hz)
  have OK := hide (fun wr (h : Below w.heap.size w wr) => okS_any e b cap wr (hr.later h) hz)
  rw [ho] at OK
  have B0 := hide hb0
  have R0 := hide G0
  generalize hX : InR _ w = X
  have HX := hide hX
  unfold GiR at FO
  unfold Ex.cs at FO OK ⊢
  generalize foldA e = x at *
  clear hX hr hz ho EQ hb0 G0
  go_enter Tryd.func20, Tryd.ntmps20
  go_wp2_with fail
  generalize w.alloc (.cells #[.int .i64 e.k, .int .i64 e.n, .string e.s, .slice b e.l.length cap] 26) = W at *
  refine (unhide FO).mono ?_
  rintro r w1 ⟨c1, cp1, rfl, hx, hb1⟩
  clear hx
  have B1 := (unhide B0).trans (hb1.mono (unhide B0).size)
  have R1 := row_keep (unhide R0) hb1
  have hb2 := below_new w1 (.cells #[.int .i64 x.k, .int .i64 x.n, .string x.s, .slice c1 x.l.length cp1] 26)
  have B2 := hide (B1.trans (hb2.mono B1.size))
  have R2 := hide (row_keep R1 hb2)
  have G2 := hide (show (w1.alloc (.cells #[.int .i64 x.k, .int .i64 x.n, .string x.s, .slice c1 x.l.length cp1] 26)).heap[w1.heap.size]? = some (.cells #[.int .i64 x.k, .int .i64 x.n, .string x.s, .slice c1 x.l.length cp1] 26 (0, 0)) from Array.getElem?_push_size)
  have O2 := hide (unhide OK _ (unhide B2))
  clear hb1 hb2 B1 R1 B0 R0 FO OK
  go_wp2_with (refine wpList_load_row rfl 26 _ rfl w.heap.size rfl 26 #[.int .i64 e.k, .int .i64 e.n, .string e.s, .slice b e.l.length cap] (0, 0) _ (unhide R2) Tryd.underlying26 rfl (by kernel_rfl) ?_)
  generalize w1.alloc (.cells #[.int .i64 x.k, .int .i64 x.n, .string x.s, .slice c1 x.l.length cp1] 26) = w2 at *
  generalize w1.heap.size = g1 at *
  refine (unhide O2).mono ?_
  rintro r w3 ⟨rfl, hb3⟩
  have B3 := hide ((unhide B2).trans (hb3.mono (unhide B2).size))
  have G3 := row_keep (unhide G2) hb3
  have y0 := Lib.cell_of_heap G3 0
  have y1 := Lib.cell_of_heap G3 1
  clear hb3 B2 G2 O2 R2 G3
  go_wp2
  rw [← unhide HX]
  exact ⟨rfl, unhide B3⟩
theorem knownS_any (e : Ex) (b : Option Addr) (cap : Nat) (w : World) (hr : RdX w 0 e b) (hz : e.sz ≤ 1048576) : Calls Tryd.prog 20 #[.agg (e.cs b cap)] w (InR (knownA e) w) := by
  cases ho : okF 6 false e with
  | false => exact known_no e b cap w hr hz ho
  | true =>
    cases f1 : ((foldA e).k == 1) with
    | false => exact known_n e b cap w hr hz ho f1
    | true => exact known_y e b cap w hr hz ho f1
end Go.Proofs.YtkolflcjkofleaaDoor

namespace Go.Proofs.YtkolflcjkofleaaDoor
open Go.ChangeShapes Go.WideShapes Go.ChangeAt Go.RowKit
set_option linter.unusedVariables false
set_option maxRecDepth 8000
set_option linter.unusedSimpArgs false

set_option maxHeartbeats 4000000 in
theorem knownI_no (e : Ex) (b : Option Addr) (cap : Nat) (w : World) (hr : RdX w 0 e b) (hz : e.sz ≤ 1048576) (ht : TabK w) (ho : okF 6 false e = false) : Calls Tryd.prog 19 #[.agg (e.cs b cap)] w (InR none w) := by
  have FN := hide (fun r w' (h : r = .returned (.tuple #[.int .i64 0, .bool false])) (hb : Below w.heap.size w w') => (show InR none w r w' from ⟨h, hb⟩))
  generalize InR none w = R at *
  have B0 := hide (below_new w (.cells #[.int .i64 e.k, .int .i64 e.n, .string e.s, .slice b e.l.length cap] 26))
  have G0 := hide (show (w.alloc (.cells #[.int .i64 e.k, .int .i64 e.n, .string e.s, .slice b e.l.length cap] 26)).heap[w.heap.size]? = some (.cells #[.int .i64 e.k, .int .i64 e.n, .string e.s, .slice b e.l.length cap] 26 (0, 0)) from Array.getElem?_push_size)
  have TM := hide (term_all 6 (by omega) e b cap _ (hr.later (unhide B0)) hz (ht.next (unhide B0)))
  unfold TermR at TM
  rw [ho] at TM
  unfold Ex.cs at TM ⊢
  clear hr hz ht ho
  go_enter Tryd.func19, Tryd.ntmps19
  go_wp2_with (refine wpList_load_row rfl 26 _ rfl w.heap.size rfl 26 #[.int .i64 e.k, .int .i64 e.n, .string e.s, .slice b e.l.length cap] (0, 0) _ (unhide G0) Tryd.underlying26 rfl (by kernel_rfl) ?_)
  generalize w.alloc (.cells #[.int .i64 e.k, .int .i64 e.n, .string e.s, .slice b e.l.length cap] 26) = W at *
  refine (unhide TM).mono ?_
  rintro r w1 ⟨v, rfl, _, hb1⟩
  have B1 := hide ((unhide B0).trans (hb1.mono (unhide B0).size))
  clear hb1
  go_wp2
  (first | go_ret2 | go_ret | skip)
  exact unhide FN _ _ rfl (unhide B1)
set_option maxHeartbeats 4000000 in
theorem knownI_y (e : Ex) (b : Option Addr) (cap : Nat) (w : World) (hr : RdX w 0 e b) (hz : e.sz ≤ 1048576) (ht : TabK w) (ho : okF 6 false e = true) (f1 : (foldX e).k = 1) : Calls Tryd.prog 19 #[.agg (e.cs b cap)] w (InR (some (foldX e).n) w) := by
  have FN := hide (fun r w' (h : r = .returned (.tuple #[.int .i64 (foldX e).n, .bool true])) (hb : Below w.heap.size w w') => (show InR (some (foldX e).n) w r w' from ⟨h, hb⟩))
  generalize InR (some (foldX e).n) w = R at *
  have FT := hide (fun w => ft_all 6 e w ho)
  have IN : IsN (tv (foldX e)) ((foldX e).n) true := by
    rcases isN_of (fold_ok 6 e ho) with ⟨_, _, h⟩ | ⟨g, h⟩
    · exact h
    · exact absurd f1 g
  obtain ⟨tf, xf, ef⟩ := tv_if (foldX e)
  obtain ⟨te, xe, ee⟩ := tv_if e
  rw [ef] at IN FT
  rw [ee] at FT
  unfold VaR at FT
  unfold IsN at IN
  generalize (foldX e).n = fn at *
  have B0 := hide (below_new w (.cells #[.int .i64 e.k, .int .i64 e.n, .string e.s, .slice b e.l.length cap] 26))
  have G0 := hide (show (w.alloc (.cells #[.int .i64 e.k, .int .i64 e.n, .string e.s, .slice b e.l.length cap] 26)).heap[w.heap.size]? = some (.cells #[.int .i64 e.k, .int .i64 e.n, .string e.s, .slice b e.l.length cap] 26 (0, 0)) from Array.getElem?_push_size)
  have TM := hide (term_all 6 (by omega) e b cap _ (hr.later (unhide B0)) hz (ht.next (unhide B0)))
  unfold TermR at TM
  rw [ho, ee] at TM
  simp only [forall_const] at TM
  unfold Ex.cs at TM ⊢
  clear hr hz ht ho ef ee f1
  go_enter Tryd.func19, Tryd.ntmps19
  go_wp2_with (refine wpList_load_row rfl 26 _ rfl w.heap.size rfl 26 #[.int .i64 e.k, .int .i64 e.n, .string e.s, .slice b e.l.length cap] (0, 0) _ (unhide G0) Tryd.underlying26 rfl (by kernel_rfl) ?_)
  generalize w.alloc (.cells #[.int .i64 e.k, .int .i64 e.n, .string e.s, .slice b e.l.length cap] 26) = W at *
  refine (unhide TM).mono ?_
  rintro r w1 ⟨v, rfl, rfl, hb1⟩
  have B1 := hide ((unhide B0).trans (hb1.mono (unhide B0).size))
  clear hb1 TM B0 G0
  go_wp2_with fail
  refine (unhide FT _).mono ?_
  rintro r w2 ⟨rfl, hb2⟩
  have B2 := hide ((unhide B1).trans (hb2.mono (unhide B1).size))
  clear hb2 B1 FT
  go_wp2
  (first | (generalize w2.alloc (.cells #[.int .i64 (foldX e).n] 88) = w3 at *; go_region; go_wp2) | skip)
  (first | go_ret2 | go_ret | skip)
  exact unhide FN _ _ rfl (by first | exact unhide B2 | exact (unhide B2).alloc (unhide B2).size _)
set_option maxHeartbeats 4000000 in
theorem knownI_n (e : Ex) (b : Option Addr) (cap : Nat) (w : World) (hr : RdX w 0 e b) (hz : e.sz ≤ 1048576) (ht : TabK w) (ho : okF 6 false e = true) (f1 : (foldX e).k ≠ 1) : Calls Tryd.prog 19 #[.agg (e.cs b cap)] w (InR none w) := by
  have FN := hide (fun r w' (h : r = .returned (.tuple #[.int .i64 0, .bool false])) (hb : Below w.heap.size w w') => (show InR none w r w' from ⟨h, hb⟩))
  generalize InR none w = R at *
  have FT := hide (fun w => ft_all 6 e w ho)
  have IN : IsN (tv (foldX e)) (0) false := by
    rcases isN_of (fold_ok 6 e ho) with ⟨_, _, h⟩ | ⟨g, h⟩
    · exact absurd (by assumption) f1
    · exact h
  obtain ⟨tf, xf, ef⟩ := tv_if (foldX e)
  obtain ⟨te, xe, ee⟩ := tv_if e
  rw [ef] at IN FT
  rw [ee] at FT
  unfold VaR at FT
  unfold IsN at IN
  generalize (foldX e).n = fn at *
  have B0 := hide (below_new w (.cells #[.int .i64 e.k, .int .i64 e.n, .string e.s, .slice b e.l.length cap] 26))
  have G0 := hide (show (w.alloc (.cells #[.int .i64 e.k, .int .i64 e.n, .string e.s, .slice b e.l.length cap] 26)).heap[w.heap.size]? = some (.cells #[.int .i64 e.k, .int .i64 e.n, .string e.s, .slice b e.l.length cap] 26 (0, 0)) from Array.getElem?_push_size)
  have TM := hide (term_all 6 (by omega) e b cap _ (hr.later (unhide B0)) hz (ht.next (unhide B0)))
  unfold TermR at TM
  rw [ho, ee] at TM
  simp only [forall_const] at TM
  unfold Ex.cs at TM ⊢
  clear hr hz ht ho ef ee f1
  go_enter Tryd.func19, Tryd.ntmps19
  go_wp2_with (refine wpList_load_row rfl 26 _ rfl w.heap.size rfl 26 #[.int .i64 e.k, .int .i64 e.n, .string e.s, .slice b e.l.length cap] (0, 0) _ (unhide G0) Tryd.underlying26 rfl (by kernel_rfl) ?_)
  generalize w.alloc (.cells #[.int .i64 e.k, .int .i64 e.n, .string e.s, .slice b e.l.length cap] 26) = W at *
  refine (unhide TM).mono ?_
  rintro r w1 ⟨v, rfl, rfl, hb1⟩
  have B1 := hide ((unhide B0).trans (hb1.mono (unhide B0).size))
  clear hb1 TM B0 G0
  go_wp2_with fail
  refine (unhide FT _).mono ?_
  rintro r w2 ⟨rfl, hb2⟩
  have B2 := hide ((unhide B1).trans (hb2.mono (unhide B1).size))
  clear hb2 B1 FT
  go_wp2
  (first | (generalize w2.alloc (.cells #[.int .i64 0] 88) = w3 at *; go_region; go_wp2) | skip)
  (first | go_ret2 | go_ret | skip)
  exact unhide FN _ _ rfl (by first | exact unhide B2 | exact (unhide B2).alloc (unhide B2).size _)
theorem knownI_any (e : Ex) (b : Option Addr) (cap : Nat) (w : World) (hr : RdX w 0 e b) (hz : e.sz ≤ 1048576) (ht : TabK w) : Calls Tryd.prog 19 #[.agg (e.cs b cap)] w (InR (knownA e) w) := by
  unfold knownA
  cases ho : okF 6 false e with
  | false => rw [if_neg (fun h => absurd h.1 (by decide))]; exact knownI_no e b cap w hr hz ht ho
  | true =>
    by_cases f1 : (foldX e).k = 1
    · rw [if_pos ⟨rfl, f1⟩]; exact knownI_y e b cap w hr hz ht ho f1
    · rw [if_neg (fun h => f1 h.2)]; exact knownI_n e b cap w hr hz ht ho f1
end Go.Proofs.YtkolflcjkofleaaDoor

namespace Go.Proofs.YtkolflcjkofleaaDoor
open Go.ChangeShapes Go.WideShapes Go.ChangeAt Go.RowKit
set_option linter.unusedVariables false
set_option maxRecDepth 8000
set_option linter.unusedSimpArgs false

def tAtS (L : List ByteArray) (i : Nat) : ByteArray := L.getD i E0
/-- A slice of texts with address a reads as L. -/
def RdU (w : World) (a : Option Addr) (L : List ByteArray) : Prop := L = [] ∨ ∃ b off, a = some ⟨b, off, none⟩ ∧ b < w.heap.size ∧ ∀ i, i < L.length → w.cell? ⟨b, off + i, none⟩ = some (.string (tAtS L i))
theorem RdU.later {w w' : World} {a : Option Addr} {L : List ByteArray} (h : RdU w a L) (hb : Below w.heap.size w w') : RdU w' a L := by
  rcases h with h | ⟨b, off, ha, hlt, hc⟩
  · exact .inl h
  · exact .inr ⟨b, off, ha, Nat.lt_of_lt_of_le hlt hb.size, fun i hi => (hb.cell (p := ⟨b, off + i, none⟩) hlt).trans (hc i hi)⟩
def cellsS (L : List ByteArray) : List Value := L.map .string
theorem cellsS_length (L : List ByteArray) : (cellsS L).length = L.length := by simp [cellsS]
/-- A row of texts of one's own. -/
def OwnS (w : World) (B : Nat) (v : Value) (L : List ByteArray) : Prop := w.ownsRow B 9 1 v L.length (cellsS L)
theorem infoStr : (Tryd.prog.info? 9).map (fun i => (i.zero, i.size, i.bytes)) = some (some (.string ⟨#[]⟩), 1, 16) := by kernel_rfl
theorem OwnS.cells {w : World} {B g cap : Nat} {L : List ByteArray} (h : OwnS w B (.slice (some ⟨g, 0, none⟩) L.length cap) L) : RdS w g L := by
  intro j hj
  have hc := World.ownsRow.cellAt h j (by omega)
  rw [hc]
  unfold cellsS
  rw [List.getElem?_map, List.getElem?_eq_getElem hj, List.getD_eq_getElem?_getD, List.getElem?_eq_getElem hj]
  rfl
set_option maxHeartbeats 1000000 in
theorem toIntS_any (a : Option Addr) (len cap : Nat) (xs : List Int) (w : World) (hl : xs.length = len) (hm : len ≤ 1048576) (hr : RdN w a xs) :
    Calls Tryd.prog 39 #[.slice a len cap] w fun e w' => e = .returned (.slice (some ⟨w.heap.size, 0, none⟩) len len) ∧ OwnN w' w.heap.size (.slice (some ⟨w.heap.size, 0, none⟩) len len) xs ∧ Below w.heap.size w w' := by
  have hmk := run_make_row' (P := Tryd.prog) 30 3 (.int .i64 0) 8 Tryd.underlying30 info3 rfl .i64 .i64 len (by omega) (by omega)
  go_enter Tryd.func39, Tryd.ntmps39
  go_wp2
  go_loopw [4] (fun i wr => ∃ k : Nat, k ≤ len ∧ i = .int .i64 k ∧ wr.rowIs w.heap.size 3 len (fun j => if j < k then .int .i64 (nAt xs j) else .int .i64 0) ∧ Below w.heap.size w wr) (fun i _ => len - (intOf i).toNat)
  case atStart => exact ⟨0, Nat.zero_le _, rfl, (World.rowIs_made w (.int .i64 0) len 3).congr (fun i hi => by simp), (Below.refl _ _).alloc (Nat.le_refl _) _⟩
  case round =>
    obtain ⟨k, hk, rfl, hrow, hbel⟩ := hrel
    by_cases hlt : k < len
    · rcases hr with rfl | ⟨b, off, rfl, hb, hc⟩
      · simp at hl; omega
      have hcx : wr.cell? ⟨b, off + k, none⟩ = some (.int .i64 (nAt xs k)) := (hbel.cell (p := ⟨b, off + k, none⟩) hb).trans (hc k (by omega))
      have hfz := hrow.frozen k
      have hco := hrow.cell hlt
      have hR := (hrow.set k (.int .i64 (nAt xs k))).congr (g := fun j => if j < k + 1 then .int .i64 (nAt xs j) else .int .i64 0) (fun j hj => by
        by_cases e : j = k
        · simp [e]
        · by_cases e2 : j < k
          · simp [e, e2, show j < k + 1 by omega]
          · simp [e, e2, show ¬ j < k + 1 by omega])
      have hB := hbel.setCell (p := ⟨w.heap.size, k, none⟩) (Nat.le_refl _) (.int .i64 (nAt xs k))
      clear hrow hbel
      go_wp2
      go_roundw
      case rel => exact ⟨k + 1, by omega, by go_num, hR, hB⟩
      case measure => simp [intOf]; omega
    · have hR := hrow.congr (g := fun j => .int .i64 (nAt xs j)) (fun j hj => by simp [show j < k by omega])
      clear hrow
      go_wp2
      go_ret
      refine ⟨rfl, ?_, hbel⟩
      obtain ⟨c, hc, hs, hv⟩ := hR
      refine ⟨by rw [cellsN_length]; omega, .inr ⟨w.heap.size, len, c, by rw [hl], Nat.le_refl _, hc, by omega, by unfold maxLen; omega, by omega, ?_⟩⟩
      rw [hl, Nat.mul_one, List.take_of_length_le (by simp; omega)]
      apply List.ext_getElem?
      intro i
      by_cases hi : i < len
      · rw [Array.getElem?_toList, hv i hi]
        simp only [cellsN, List.getElem?_map, List.getElem?_eq_getElem (show i < xs.length by omega), Option.map_some, nAt, List.getD_eq_getElem?_getD, Option.getD_some]
      · rw [List.getElem?_eq_none (by simp; omega), List.getElem?_eq_none (by rw [cellsN_length]; omega)]
set_option maxHeartbeats 1000000 in
theorem toStrS_any (a : Option Addr) (len cap : Nat) (L : List ByteArray) (w : World) (hl : L.length = len) (hm : len ≤ 1048576) (hr : RdU w a L) :
    Calls Tryd.prog 33 #[.slice a len cap] w fun e w' => e = .returned (.slice (some ⟨w.heap.size, 0, none⟩) len len) ∧ OwnS w' w.heap.size (.slice (some ⟨w.heap.size, 0, none⟩) len len) L ∧ Below w.heap.size w w' := by
  have hmk := run_make_row' (P := Tryd.prog) 31 9 (.string ⟨#[]⟩) 16 Tryd.underlying31 infoStr rfl .i64 .i64 len (by omega) (by omega)
  go_enter Tryd.func33, Tryd.ntmps33
  go_wp2
  go_loopw [4] (fun i wr => ∃ k : Nat, k ≤ len ∧ i = .int .i64 k ∧ wr.rowIs w.heap.size 9 len (fun j => if j < k then .string (tAtS L j) else .string ⟨#[]⟩) ∧ Below w.heap.size w wr) (fun i _ => len - (intOf i).toNat)
  case atStart => exact ⟨0, Nat.zero_le _, rfl, (World.rowIs_made w (.string ⟨#[]⟩) len 9).congr (fun i hi => by simp), (Below.refl _ _).alloc (Nat.le_refl _) _⟩
  case round =>
    obtain ⟨k, hk, rfl, hrow, hbel⟩ := hrel
    by_cases hlt : k < len
    · rcases hr with rfl | ⟨b, off, rfl, hb, hc⟩
      · simp at hl; omega
      have hcx : wr.cell? ⟨b, off + k, none⟩ = some (.string (tAtS L k)) := (hbel.cell (p := ⟨b, off + k, none⟩) hb).trans (hc k (by omega))
      have hfz := hrow.frozen k
      have hco := hrow.cell hlt
      have hR := (hrow.set k (.string (tAtS L k))).congr (g := fun j => if j < k + 1 then .string (tAtS L j) else .string ⟨#[]⟩) (fun j hj => by
        by_cases e : j = k
        · simp [e]
        · by_cases e2 : j < k
          · simp [e, e2, show j < k + 1 by omega]
          · simp [e, e2, show ¬ j < k + 1 by omega])
      have hB := hbel.setCell (p := ⟨w.heap.size, k, none⟩) (Nat.le_refl _) (.string (tAtS L k))
      clear hrow hbel
      go_wp2
      go_roundw
      case rel => exact ⟨k + 1, by omega, by go_num, hR, hB⟩
      case measure => simp [intOf]; omega
    · have hR := hrow.congr (g := fun j => .string (tAtS L j)) (fun j hj => by simp [show j < k by omega])
      clear hrow
      go_wp2
      go_ret
      refine ⟨rfl, ?_, hbel⟩
      obtain ⟨c, hc, hs, hv⟩ := hR
      refine ⟨by rw [cellsS_length]; omega, .inr ⟨w.heap.size, len, c, by rw [hl], Nat.le_refl _, hc, by omega, by unfold maxLen; omega, by omega, ?_⟩⟩
      rw [hl, Nat.mul_one, List.take_of_length_le (by simp; omega)]
      apply List.ext_getElem?
      intro i
      by_cases hi : i < len
      · rw [Array.getElem?_toList, hv i hi]
        simp only [cellsS, List.getElem?_map, List.getElem?_eq_getElem (show i < L.length by omega), Option.map_some, tAtS, List.getD_eq_getElem?_getD, Option.getD_some]
      · rw [List.getElem?_eq_none (by simp; omega), List.getElem?_eq_none (by rw [cellsS_length]; omega)]
set_option maxHeartbeats 1000000 in
theorem eqStrS_same (a b : Option Addr) (len c1 c2 : Nat) (L : List ByteArray) (w : World) (hl : L.length = len) (hm : len ≤ 1099511627776) (h1 : RdU w a L) (h2 : RdU w b L) :
    Calls Tryd.prog 35 #[.slice a len c1, .slice b len c2] w fun e w' => e = .returned (.bool true) ∧ Below w.heap.size w w' := by
  go_enter Tryd.func35, Tryd.ntmps35
  go_wp2
  go_loopw [5] (fun i wr => ∃ k : Nat, k ≤ len ∧ i = .int .i64 k ∧ Below w.heap.size w wr) (fun i _ => len - (intOf i).toNat)
  case atStart => exact ⟨0, Nat.zero_le _, rfl, Below.refl _ _⟩
  case round =>
    obtain ⟨k, hk, rfl, hbel⟩ := hrel
    by_cases hlt : k < len
    · rcases h1 with rfl | ⟨p, po, rfl, hp, hpc⟩
      · simp at hl; omega
      rcases h2 with h0 | ⟨q, qo, rfl, hq, hqc⟩
      · rw [h0] at hl; simp at hl; omega
      have e1 : wr.cell? ⟨p, po + k, none⟩ = some (.string (tAtS L k)) := (hbel.cell (p := ⟨p, po + k, none⟩) hp).trans (hpc k (by omega))
      have e2 : wr.cell? ⟨q, qo + k, none⟩ = some (.string (tAtS L k)) := (hbel.cell (p := ⟨q, qo + k, none⟩) hq).trans (hqc k (by omega))
      clear hpc hqc
      go_wp2_with fail
      go_quiet (fail)
      go_wp2
      go_roundw
      case rel => exact ⟨k + 1, by omega, by go_num, below_drewN hbel _⟩
      case measure => simp [intOf]; omega
    · go_wp2
      go_ret
      exact ⟨rfl, hbel⟩
def szU : List ByteArray → Nat
  | [] => 0
  | t :: r => t.size + szU r
theorem szU_take (L : List ByteArray) (k : Nat) (h : k < L.length) : szU (L.take (k + 1)) = szU (L.take k) + (tAtS L k).size := by
  induction L generalizing k with
  | nil => simp at h
  | cons t r ih =>
    cases k with
    | zero => simp [szU, tAtS]
    | succ k =>
      have := ih k (by simpa using h)
      simp only [List.take_succ_cons, szU, this]
      show _ = t.size + _ + (tAtS r k).size
      omega
set_option maxHeartbeats 1000000 in
theorem szStrS_any (a : Option Addr) (len cap left : Nat) (L : List ByteArray) (w : World) (hl : L.length = len) (hm : len ≤ 9223372036854775807) (h1 : left ≤ 1048576) (hz : ∀ i, i < len → (tAtS L i).size ≤ 9223372036854775807) (hr : RdU w a L) : Calls Tryd.prog 31 #[.slice a len cap, .int .i64 left] w fun e w' => ((e = .returned (.int .i64 (-1))) ∨ (len + szU L ≤ left ∧ e = .returned (.int .i64 ((left - (len + szU L) : Nat) : Int)))) ∧ Below w.heap.size w w' := by
  by_cases hbig : (left : Int) - (len : Int) < 0
  · go_enter Tryd.func31, Tryd.ntmps31
    go_wp2
    go_ret
    exact ⟨.inl rfl, Below.refl _ _⟩
  · go_enter Tryd.func31, Tryd.ntmps31
    go_wp2
    go_loopw [1, 5] (fun lv i wr => ∃ k : Nat, k ≤ len ∧ i = .int .i64 k ∧ len + szU (L.take k) ≤ left ∧ lv = .int .i64 ((left : Int) - len - szU (L.take k)) ∧ Below w.heap.size w wr) (fun _ i _ => len - (intOf i).toNat)
    case atStart => exact ⟨0, Nat.zero_le _, rfl, by simp [szU]; omega, by simp [szU], Below.refl _ _⟩
    case round =>
      obtain ⟨k, hk, rfl, hs, rfl, hb⟩ := hrel
      by_cases hlt : k < len
      · rcases hr with h0 | ⟨b, off, rfl, hbl, hc⟩
        · rw [h0] at hl; simp at hl; omega
        have d0 : wr.cell? ⟨b, off + k, none⟩ = _ := (hb.cell (p := ⟨b, _, none⟩) hbl).trans (hc k (by omega))
        have ST := hide (szU_take L k (by omega))
        have hzk := hz k hlt
        clear hc
        generalize hzs : (tAtS L k).size = z at ST hzk
        generalize tAtS L k = ss at d0 hzs
        subst hzs
        by_cases hneg : (left : Int) - (len : Int) - (szU (L.take k) : Int) - (ss.size : Int) < 0
        · go_wp2
          go_ret
          exact ⟨.inl rfl, hb⟩
        · go_wp2
          go_roundw
          case rel =>
            refine ⟨k + 1, by omega, by go_num, ?_, ?_, hb⟩
            · rw [unhide ST]; omega
            · rw [unhide ST]; congr 1; omega
          case measure => simp [intOf]; omega
      · obtain rfl : k = len := by omega
        have E := hide (show L.take k = L by rw [← hl, List.take_length])
        rw [unhide E] at hs
        have E2 := hide (show szU (L.take k) = szU L by rw [unhide E])
        have E3 := hide (show ((left : Int) - (k : Int) - (szU (L.take k) : Int)) = ((left - (k + szU L) : Nat) : Int) by have := unhide E2; omega)
        go_wp2
        go_ret
        exact ⟨.inr ⟨hs, congrArg (fun z => Ending.returned (.int .i64 z)) (unhide E3)⟩, hb⟩
end Go.Proofs.YtkolflcjkofleaaDoor
