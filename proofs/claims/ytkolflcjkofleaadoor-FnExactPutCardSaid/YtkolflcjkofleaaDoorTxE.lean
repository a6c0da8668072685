/- Contracts over this seat's translation, laid together; conditions stand as hypotheses of each. -/
import Derived.Test.YtkolflcjkofleaaDoorTxA
import Derived.Test.YtkolflcjkofleaaDoorTxB
import Derived.Test.YtkolflcjkofleaaDoorTxC
import Derived.Test.YtkolflcjkofleaaDoorTxD
import Derived.MapKept
import Derived.Carry
import Derived.LoopN
import Derived.Laws.StructEq

namespace Go.Proofs.YtkolflcjkofleaaDoor
open Go.ChangeShapes Go.WideShapes Go.ChangeAt Go.RowKit
set_option linter.unusedVariables false
set_option maxRecDepth 8000
set_option linter.unusedSimpArgs false

theorem prt_in {d : Nat} {a : Ex} (h : okF (d + 1) false a = true) : 0 ≤ (prtX a).2 ∧ (prtX a).2 ≤ 65535 := by
  rcases prt_cases h with ⟨e, _⟩ | ⟨b, m, hm, rfl, e, hb⟩
  · rw [e]; exact ⟨Int.le_refl _, show (0 : Int) ≤ 65535 by decide⟩
  · rw [e]; exact hm
set_option maxHeartbeats 4000000 in
theorem sumS_any {d : Nat} (a : Ex) (ho : okF (d + 1) false a = true) (c : Option Addr) (cp : Nat) (n : Int) (hn : -65535 ≤ n ∧ n ≤ 65535) (P : Nat → Prop) (w : World) (h : PX w P a c) (hP : ∀ b, w.heap.size ≤ b → P b) : Calls Tryd.prog 80 #[.agg (a.cs c cp), .int .i64 n] w (GiR (sumX a n) P w) := by
  have X0 := hide (Bx.new w #[.int .i64 a.k, .int .i64 a.n, .string a.s, .slice c a.l.length cp])
  have PR := hide (prtS_any a ho c cp (Ow w P) _ (h.ow (unhide X0).bel))
  have HP := hide hP
  have hpi := prt_in ho
  have EQ := hide (show sumX a n = addX (prtX a).1 ((prtX a).2 + n) from rfl)
  generalize hX : GiR (sumX a n) P w = X
  have HX := hide hX
  unfold PrR at PR
  generalize prtX a = pa at *
  obtain ⟨x, m⟩ := pa
  simp only at PR hpi EQ
  rw [unhide EQ] at HX
  unfold Ex.cs at PR ⊢
  clear h hP hX EQ ho
  go_enter Tryd.func80, Tryd.ntmps80
  go_wp2_with fail
  generalize (w.alloc (.cells #[.int .i64 a.k, .int .i64 a.n, .string a.s, .slice c a.l.length cp] 26)).alloc (.cells #[.int .i64 0, .int .i64 0, .string ⟨#[]⟩, .slice none 0 0] 26) = W at *
  refine (unhide PR).mono ?_
  rintro r w1 ⟨c1, cp1, rfl, hx1, hb1⟩
  have X1 := (unhide X0).later hb1
  have hb2 := below_new w1 (.cells #[.int .i64 x.k, .int .i64 x.n, .string x.s, .slice c1 x.l.length cp1] 26)
  have X2 := hide (X1.later hb2)
  have G2 := hide (show (w1.alloc (.cells #[.int .i64 x.k, .int .i64 x.n, .string x.s, .slice c1 x.l.length cp1] 26)).heap[w1.heap.size]? = some (.cells #[.int .i64 x.k, .int .i64 x.n, .string x.s, .slice c1 x.l.length cp1] 26 (0, 0)) from Array.getElem?_push_size)
  have AD := hide (addS_any x c1 cp1 (m + n) (Ow w P) _ (hx1.later hb2) (fun b hb => ow_in (unhide HP) (Nat.le_trans (unhide X2).lt hb)))
  unfold GiR Ex.cs at AD
  clear hx1 hb1 hb2 X1 X0 PR
  go_wp2_with (refine wpList_load_row rfl 26 _ rfl w1.heap.size rfl 26 #[.int .i64 x.k, .int .i64 x.n, .string x.s, .slice c1 x.l.length cp1] (0, 0) _ (unhide G2) Tryd.underlying26 rfl (by kernel_rfl) ?_)
  generalize w1.alloc (.cells #[.int .i64 x.k, .int .i64 x.n, .string x.s, .slice c1 x.l.length cp1] 26) = w2 at *
  generalize w1.heap.size = g1 at *
  refine (unhide AD).mono ?_
  rintro r w3 ⟨c3, cp3, rfl, hx3, hb3⟩
  have X3 := hide ((unhide X2).later hb3)
  have A3 := hide hx3
  clear hx3 hb3 X2 G2 AD
  generalize addX x (m + n) = y at *
  go_wp2_with (refine wpList_store_row rfl 26 _ _ rfl (w.heap.size + 1) #[.int .i64 y.k, .int .i64 y.n, .string y.s, .slice c3 y.l.length cp3] rfl rfl 26 _ ((unhide X3).res) szE rfl (ex_one _ _ _ _ _ _) ?_)
  refine bodyPost_ret (results_cell_row (P := Tryd.prog) rfl _ _ (w.heap.size + 1) 26 #[.int .i64 y.k, .int .i64 y.n, .string y.s, .slice c3 y.l.length cp3] (0, 0) _ rfl (setRow_heap _ _ _ _ _ _ ((unhide X3).res)) Tryd.underlying26 rfl szE) rfl ?_
  rw [← unhide HX]
  exact (unhide X3).end (unhide A3) _
/-- The rows of a function of two terms: the arguments, and what is answered. -/
structure By (w wr : World) (pa pb : Array Value) : Prop where
  bel : Below w.heap.size w wr
  lt : w.heap.size + 3 ≤ wr.heap.size
  boxa : wr.heap[w.heap.size]? = some (.cells pa 26 (0, 0))
  boxb : wr.heap[w.heap.size + 1]? = some (.cells pb 26 (0, 0))
  res : wr.heap[w.heap.size + 2]? = some (.cells #[.int .i64 0, .int .i64 0, .string ⟨#[]⟩, .slice none 0 0] 26 (0, 0))
theorem By.later {w wr w' : World} {pa pb : Array Value} (h : By w wr pa pb) (hb : Below wr.heap.size wr w') : By w w' pa pb := ⟨h.bel.trans (hb.mono h.bel.size), Nat.le_trans h.lt hb.size, row_keep h.boxa hb, row_keep h.boxb hb, row_keep h.res hb⟩
theorem By.new (w : World) (pa pb : Array Value) : By w (((w.alloc (.cells pa 26)).alloc (.cells pb 26)).alloc (.cells #[.int .i64 0, .int .i64 0, .string ⟨#[]⟩, .slice none 0 0] 26)) pa pb := by
  have hb := (((Below.refl w.heap.size w).alloc (Nat.le_refl _) (.cells pa 26)).alloc (by simp) (.cells pb 26)).alloc (by simp; omega) (.cells #[.int .i64 0, .int .i64 0, .string ⟨#[]⟩, .slice none 0 0] 26)
  have h1 : (w.alloc (.cells pa 26)).heap.size = w.heap.size + 1 := by simp
  have h2 : ((w.alloc (.cells pa 26)).alloc (.cells pb 26)).heap.size = w.heap.size + 2 := by simp
  refine ⟨hb, by simp, ?_, ?_, ?_⟩
  · exact row_keep (row_keep (heap_alloc_new w _) (below_new _ _)) (below_new _ _)
  · refine row_keep ?_ (below_new _ _)
    rw [← h1]; exact Array.getElem?_push_size
  · rw [← h2]; exact Array.getElem?_push_size
def Oy (w : World) (P : Nat → Prop) (b : Nat) : Prop := P b ∧ (b < w.heap.size ∨ w.heap.size + 3 ≤ b)
theorem oy_no (w : World) (P : Nat → Prop) : ¬ Oy w P (w.heap.size + 2) := fun h => by have := h.2; omega
theorem oy_in {w : World} {P : Nat → Prop} (hP : ∀ b, w.heap.size ≤ b → P b) {b : Nat} (h : w.heap.size + 3 ≤ b) : Oy w P b := ⟨hP b (by omega), .inr h⟩
theorem PX.oy {w w' : World} {P : Nat → Prop} {e : Ex} {c : Option Addr} (h : PX w P e c) (hb : Below w.heap.size w w') : PX w' (Oy w P) e c := (h.low.mono (fun b hb => ⟨hb.1, .inl hb.2⟩)).later hb
theorem By.end {w wr : World} {pa pb : Array Value} {P : Nat → Prop} {x : Ex} {c : Option Addr} {cp : Nat} (h : By w wr pa pb) (hx : PX wr (Oy w P) x c) (row : Array Value) : GiR x P w (.returned (.agg #[.int .i64 x.k, .int .i64 x.n, .string x.s, .slice c x.l.length cp])) (wr.setRow (w.heap.size + 2) row) :=
  ⟨c, cp, rfl, (hx.row _ (oy_no w P)).mono (fun b hb => hb.1), h.bel.grown (grownBy_row _) h.bel.size (fun k e => by cases e; omega)⟩
set_option maxHeartbeats 4000000 in
theorem subS_num {d : Nat} (a b : Ex) (oa : okF (d + 1) false a = true) (ob : okF (d + 1) false b = true) (c e : Option Addr) (cp ep : Nat) (P Q R : Nat → Prop) (w : World) (ha : PX w P a c) (hb : PX w Q b e) (hPQ : ∀ b, P b → ¬ Q b) (hPR : ∀ b, P b → R b) (hQR : ∀ b, Q b → R b) (hR : ∀ b, w.heap.size ≤ b → R b) (h1 : b.k = 1) : Calls Tryd.prog 79 #[.agg (a.cs c cp), .agg (b.cs e ep)] w (GiR (subX a b) R w) := by
  obtain ⟨m, hm, rfl⟩ := ok_k1 ob h1
  have X0 := hide (By.new w #[.int .i64 a.k, .int .i64 a.n, .string a.s, .slice c a.l.length cp] #[.int .i64 1, .int .i64 m, .string E0, .slice e 0 ep])
  have SU := hide (sumS_any a oa c cp (-m) (by omega) (Oy w R) _ ((ha.oy (unhide X0).bel).mono (fun b h => ⟨hPR b h.1, h.2⟩)) (fun b h => oy_in hR (Nat.le_trans (unhide X0).lt h)))
  have EQ := hide (show subX a ⟨1, m, E0, []⟩ = sumX a (-m) by unfold subX; rw [if_pos rfl])
  rw [unhide EQ]
  generalize hX : GiR (sumX a (-m)) R w = X
  have HX := hide hX
  unfold GiR Ex.cs at SU
  show Calls Tryd.prog 79 #[.agg #[.int .i64 a.k, .int .i64 a.n, .string a.s, .slice c a.l.length cp], .agg #[.int .i64 1, .int .i64 m, .string E0, .slice e 0 ep]] w X
  clear hX EQ oa ob ha hb hPQ hPR hQR hR h1
  go_enter Tryd.func79, Tryd.ntmps79
  go_wp2_with fail
  generalize ((w.alloc (.cells #[.int .i64 a.k, .int .i64 a.n, .string a.s, .slice c a.l.length cp] 26)).alloc (.cells #[.int .i64 1, .int .i64 m, .string E0, .slice e 0 ep] 26)).alloc (.cells #[.int .i64 0, .int .i64 0, .string ⟨#[]⟩, .slice none 0 0] 26) = W at *
  refine (unhide SU).mono ?_
  rintro r w3 ⟨c3, cp3, rfl, hx3, hb3⟩
  have X3 := hide ((unhide X0).later hb3)
  have A3 := hide hx3
  clear hx3 hb3 X0 SU
  generalize sumX a (-m) = y at *
  go_wp2_with (refine wpList_store_row rfl 26 _ _ rfl (w.heap.size + 2) #[.int .i64 y.k, .int .i64 y.n, .string y.s, .slice c3 y.l.length cp3] rfl rfl 26 _ ((unhide X3).res) szE rfl (ex_one _ _ _ _ _ _) ?_)
  refine bodyPost_ret (results_cell_row (P := Tryd.prog) rfl _ _ (w.heap.size + 2) 26 #[.int .i64 y.k, .int .i64 y.n, .string y.s, .slice c3 y.l.length cp3] (0, 0) _ rfl (setRow_heap _ _ _ _ _ _ ((unhide X3).res)) Tryd.underlying26 rfl szE) rfl ?_
  rw [← unhide HX]
  exact (unhide X3).end (unhide A3) _
set_option maxHeartbeats 8000000 in
theorem subS_sect {d : Nat} (a b : Ex) (oa : okF (d + 1) false a = true) (ob : okF (d + 1) false b = true) (c e : Option Addr) (cp ep : Nat) (P Q R : Nat → Prop) (w : World) (ha : PX w P a c) (hb : PX w Q b e) (hPQ : ∀ b, P b → ¬ Q b) (hPR : ∀ b, P b → R b) (hQR : ∀ b, Q b → R b) (hR : ∀ b, w.heap.size ≤ b → R b) (h1 : b.k ≠ 1) (f0 : ((prtX a).1.k == 11) = true) (f1 : ((prtX b).1.k == 11) = true) (f2 : ((prtX a).1.n == (prtX b).1.n) = true) : Calls Tryd.prog 79 #[.agg (a.cs c cp), .agg (b.cs e ep)] w (GiR (subX a b) R w) := by
  have X0 := hide (By.new w #[.int .i64 a.k, .int .i64 a.n, .string a.s, .slice c a.l.length cp] #[.int .i64 b.k, .int .i64 b.n, .string b.s, .slice e b.l.length ep])
  have A0 := hide (ha.oy (unhide X0).bel)
  have C0 := hide (hb.oy (unhide X0).bel)
  have PA := hide (prtS_any a oa c cp (Oy w P) _ (unhide A0))
  have PB := hide (fun wr (h : PX wr (Oy w Q) b e) => prtS_any b ob e ep (Oy w Q) wr h)
  have HR := hide hR
  have DJ := hide (show ∀ b, Oy w P b → ¬ Oy w Q b from fun b h k => hPQ b h.1 k.1)
  have PR := hide (show ∀ b, Oy w P b → Oy w R b from fun b h => ⟨hPR b h.1, h.2⟩)
  have QR := hide (show ∀ b, Oy w Q b → Oy w R b from fun b h => ⟨hQR b h.1, h.2⟩)
  have ia := prt_in oa
  have ib := prt_in ob
  have g1 : (b.k == 1) = false := beq_eq_false_iff_ne.2 h1
  have EQ := hide (show subX a b = numX ((prtX a).2 - (prtX b).2) by unfold subX; rw [if_neg h1, if_pos ⟨beq_iff_eq.1 f0, beq_iff_eq.1 f1, beq_iff_eq.1 f2⟩])
  unfold PrR at PA PB
  generalize prtX a = pa at *
  generalize prtX b = pb at *
  obtain ⟨x, n⟩ := pa
  obtain ⟨y, k⟩ := pb
  simp only at PA PB ia ib EQ f0 f1 f2
  rw [unhide EQ]
  generalize hX : GiR _ R w = X
  have HX := hide hX
  unfold Ex.cs at PA PB ⊢
  clear hX EQ oa ob ha hb hPQ hPR hQR hR h1
  go_enter Tryd.func79, Tryd.ntmps79
  go_wp2_with fail
  generalize ((w.alloc (.cells #[.int .i64 a.k, .int .i64 a.n, .string a.s, .slice c a.l.length cp] 26)).alloc (.cells #[.int .i64 b.k, .int .i64 b.n, .string b.s, .slice e b.l.length ep] 26)).alloc (.cells #[.int .i64 0, .int .i64 0, .string ⟨#[]⟩, .slice none 0 0] 26) = W at *
  refine (unhide PA).mono ?_
  rintro r w1 ⟨c1, cp1, rfl, hx1, hb1⟩
  clear hx1
  have X1 := (unhide X0).later hb1
  have A1 := (unhide A0).later hb1
  have C1 := (unhide C0).later hb1
  have hb2 := below_new w1 (.cells #[.int .i64 x.k, .int .i64 x.n, .string x.s, .slice c1 x.l.length cp1] 26)
  have X2 := hide (X1.later hb2)
  have A2 := hide (A1.later hb2)
  have C2 := hide (C1.later hb2)
  have G2 := hide (show (w1.alloc (.cells #[.int .i64 x.k, .int .i64 x.n, .string x.s, .slice c1 x.l.length cp1] 26)).heap[w1.heap.size]? = some (.cells #[.int .i64 x.k, .int .i64 x.n, .string x.s, .slice c1 x.l.length cp1] 26 (0, 0)) from Array.getElem?_push_size)
  have PB2 := hide (unhide PB _ (unhide C2))
  clear hb1 hb2 X1 A1 C1 X0 A0 C0 PA PB
  go_wp2_with (refine wpList_load_row rfl 26 _ rfl (w.heap.size + 1) rfl 26 #[.int .i64 b.k, .int .i64 b.n, .string b.s, .slice e b.l.length ep] (0, 0) _ ((unhide X2).boxb) Tryd.underlying26 rfl (by kernel_rfl) ?_)
  generalize w1.alloc (.cells #[.int .i64 x.k, .int .i64 x.n, .string x.s, .slice c1 x.l.length cp1] 26) = w2 at *
  generalize w1.heap.size = g1' at *
  refine (unhide PB2).mono ?_
  rintro r w3 ⟨c3, cp3, rfl, hx3, hb3⟩
  clear hx3
  have X3 := (unhide X2).later hb3
  have A3 := (unhide A2).later hb3
  have C3 := (unhide C2).later hb3
  have G3 := row_keep (unhide G2) hb3
  have hb4 := below_new w3 (.cells #[.int .i64 y.k, .int .i64 y.n, .string y.s, .slice c3 y.l.length cp3] 26)
  have X4 := hide (X3.later hb4)
  have A4 := hide (A3.later hb4)
  have C4 := hide (C3.later hb4)
  have G4 := row_keep G3 hb4
  have K4 := (show (w3.alloc (.cells #[.int .i64 y.k, .int .i64 y.n, .string y.s, .slice c3 y.l.length cp3] 26)).heap[w3.heap.size]? = some (.cells #[.int .i64 y.k, .int .i64 y.n, .string y.s, .slice c3 y.l.length cp3] 26 (0, 0)) from Array.getElem?_push_size)
  have x0 := Lib.cell_of_heap G4 0
  have x1 := Lib.cell_of_heap G4 1
  have y0 := Lib.cell_of_heap K4 0
  have y1 := Lib.cell_of_heap K4 1
  clear hb3 hb4 X3 A3 C3 G3 X2 A2 C2 G2 PB2 G4 K4
  go_wp2_with fail
  generalize w3.alloc (.cells #[.int .i64 y.k, .int .i64 y.n, .string y.s, .slice c3 y.l.length cp3] 26) = w4 at *
  generalize w3.heap.size = g3 at *
  clear x0 x1 y0 y1
  have NU := hide (numD (n - k) w4)
  refine (unhide NU).mono ?_
  rintro r w5 ⟨rfl, hb5⟩
  have X5 := hide ((unhide X4).later hb5)
  have N5 := hide (PX.leaf w5 (Oy w R) 1 ((n - k) % 65536) (⟨#[]⟩ : ByteArray) none)
  clear hb5 X4 A4 C4 NU
  go_wp2_with (refine wpList_store_row rfl 26 _ _ rfl (w.heap.size + 2) #[.int .i64 1, .int .i64 ((n - k) % 65536), .string ⟨#[]⟩, .slice none 0 0] rfl rfl 26 _ ((unhide X5).res) szE rfl (ex_one _ _ _ _ _ _) ?_)
  refine bodyPost_ret (results_cell_row (P := Tryd.prog) rfl _ _ (w.heap.size + 2) 26 #[.int .i64 1, .int .i64 ((n - k) % 65536), .string ⟨#[]⟩, .slice none 0 0] (0, 0) _ rfl (setRow_heap _ _ _ _ _ _ ((unhide X5).res)) Tryd.underlying26 rfl szE) rfl ?_
  rw [← unhide HX]
  exact By.end (x := numX (n - k)) (unhide X5) (unhide N5) _
set_option maxHeartbeats 8000000 in
theorem subS_n0 {d : Nat} (a b : Ex) (oa : okF (d + 1) false a = true) (ob : okF (d + 1) false b = true) (c e : Option Addr) (cp ep : Nat) (P Q R : Nat → Prop) (w : World) (ha : PX w P a c) (hb : PX w Q b e) (hPQ : ∀ b, P b → ¬ Q b) (hPR : ∀ b, P b → R b) (hQR : ∀ b, Q b → R b) (hR : ∀ b, w.heap.size ≤ b → R b) (h1 : b.k ≠ 1) (f0 : ((prtX a).1.k == 11) = false) : Calls Tryd.prog 79 #[.agg (a.cs c cp), .agg (b.cs e ep)] w (GiR (subX a b) R w) := by
  have X0 := hide (By.new w #[.int .i64 a.k, .int .i64 a.n, .string a.s, .slice c a.l.length cp] #[.int .i64 b.k, .int .i64 b.n, .string b.s, .slice e b.l.length ep])
  have A0 := hide (ha.oy (unhide X0).bel)
  have C0 := hide (hb.oy (unhide X0).bel)
  have PA := hide (prtS_any a oa c cp (Oy w P) _ (unhide A0))
  have PB := hide (fun wr (h : PX wr (Oy w Q) b e) => prtS_any b ob e ep (Oy w Q) wr h)
  have HR := hide hR
  have DJ := hide (show ∀ b, Oy w P b → ¬ Oy w Q b from fun b h k => hPQ b h.1 k.1)
  have PR := hide (show ∀ b, Oy w P b → Oy w R b from fun b h => ⟨hPR b h.1, h.2⟩)
  have QR := hide (show ∀ b, Oy w Q b → Oy w R b from fun b h => ⟨hQR b h.1, h.2⟩)
  have ia := prt_in oa
  have ib := prt_in ob
  have g1 : (b.k == 1) = false := beq_eq_false_iff_ne.2 h1
  have EQ := hide (show subX a b = ⟨6, 0, ⟨#[]⟩, [a, b]⟩ by unfold subX; rw [if_neg h1, if_neg (fun h => by have := beq_eq_false_iff_ne.1 f0; exact this h.1)]; rfl)
  unfold PrR at PA PB
  generalize prtX a = pa at *
  generalize prtX b = pb at *
  obtain ⟨x, n⟩ := pa
  obtain ⟨y, k⟩ := pb
  simp only at PA PB ia ib EQ f0
  rw [unhide EQ]
  generalize hX : GiR _ R w = X
  have HX := hide hX
  unfold Ex.cs at PA PB ⊢
  clear hX EQ oa ob ha hb hPQ hPR hQR hR h1
  go_enter Tryd.func79, Tryd.ntmps79
  go_wp2_with fail
  generalize ((w.alloc (.cells #[.int .i64 a.k, .int .i64 a.n, .string a.s, .slice c a.l.length cp] 26)).alloc (.cells #[.int .i64 b.k, .int .i64 b.n, .string b.s, .slice e b.l.length ep] 26)).alloc (.cells #[.int .i64 0, .int .i64 0, .string ⟨#[]⟩, .slice none 0 0] 26) = W at *
  refine (unhide PA).mono ?_
  rintro r w1 ⟨c1, cp1, rfl, hx1, hb1⟩
  clear hx1
  have X1 := (unhide X0).later hb1
  have A1 := (unhide A0).later hb1
  have C1 := (unhide C0).later hb1
  have hb2 := below_new w1 (.cells #[.int .i64 x.k, .int .i64 x.n, .string x.s, .slice c1 x.l.length cp1] 26)
  have X2 := hide (X1.later hb2)
  have A2 := hide (A1.later hb2)
  have C2 := hide (C1.later hb2)
  have G2 := hide (show (w1.alloc (.cells #[.int .i64 x.k, .int .i64 x.n, .string x.s, .slice c1 x.l.length cp1] 26)).heap[w1.heap.size]? = some (.cells #[.int .i64 x.k, .int .i64 x.n, .string x.s, .slice c1 x.l.length cp1] 26 (0, 0)) from Array.getElem?_push_size)
  have PB2 := hide (unhide PB _ (unhide C2))
  clear hb1 hb2 X1 A1 C1 X0 A0 C0 PA PB
  go_wp2_with (refine wpList_load_row rfl 26 _ rfl (w.heap.size + 1) rfl 26 #[.int .i64 b.k, .int .i64 b.n, .string b.s, .slice e b.l.length ep] (0, 0) _ ((unhide X2).boxb) Tryd.underlying26 rfl (by kernel_rfl) ?_)
  generalize w1.alloc (.cells #[.int .i64 x.k, .int .i64 x.n, .string x.s, .slice c1 x.l.length cp1] 26) = w2 at *
  generalize w1.heap.size = g1' at *
  refine (unhide PB2).mono ?_
  rintro r w3 ⟨c3, cp3, rfl, hx3, hb3⟩
  clear hx3
  have X3 := (unhide X2).later hb3
  have A3 := (unhide A2).later hb3
  have C3 := (unhide C2).later hb3
  have G3 := row_keep (unhide G2) hb3
  have hb4 := below_new w3 (.cells #[.int .i64 y.k, .int .i64 y.n, .string y.s, .slice c3 y.l.length cp3] 26)
  have X4 := hide (X3.later hb4)
  have A4 := hide (A3.later hb4)
  have C4 := hide (C3.later hb4)
  have G4 := row_keep G3 hb4
  have K4 := (show (w3.alloc (.cells #[.int .i64 y.k, .int .i64 y.n, .string y.s, .slice c3 y.l.length cp3] 26)).heap[w3.heap.size]? = some (.cells #[.int .i64 y.k, .int .i64 y.n, .string y.s, .slice c3 y.l.length cp3] 26 (0, 0)) from Array.getElem?_push_size)
  have x0 := Lib.cell_of_heap G4 0
  have x1 := Lib.cell_of_heap G4 1
  have y0 := Lib.cell_of_heap K4 0
  have y1 := Lib.cell_of_heap K4 1
  clear hb3 hb4 X3 A3 C3 G3 X2 A2 C2 G2 PB2 G4 K4
  have hb5 := below_new (w3.alloc (.cells #[.int .i64 y.k, .int .i64 y.n, .string y.s, .slice c3 y.l.length cp3] 26)) (.cells #[.int .i64 a.k, .int .i64 a.n, .string a.s, .slice c a.l.length cp, .int .i64 b.k, .int .i64 b.n, .string b.s, .slice e b.l.length ep] 26)
  have X5 := hide ((unhide X4).later hb5)
  have hz5 : (w3.alloc (.cells #[.int .i64 y.k, .int .i64 y.n, .string y.s, .slice c3 y.l.length cp3] 26)).heap.size = w3.heap.size + 1 := by simp
  have N5' := (show PX ((w3.alloc (.cells #[.int .i64 y.k, .int .i64 y.n, .string y.s, .slice c3 y.l.length cp3] 26)).alloc (.cells #[.int .i64 a.k, .int .i64 a.n, .string a.s, .slice c a.l.length cp, .int .i64 b.k, .int .i64 b.n, .string b.s, .slice e b.l.length ep] 26)) (Oy w R) ⟨6, 0, ⟨#[]⟩, [a, b]⟩ (some ⟨(w3.alloc (.cells #[.int .i64 y.k, .int .i64 y.n, .string y.s, .slice c3 y.l.length cp3] 26)).heap.size, 0, none⟩) from (unhide A4).two (unhide C4) (unhide DJ) (unhide PR) (unhide QR) (oy_in (unhide HR) (unhide X4).lt) 6 0 ⟨#[]⟩ 26)
  rw [hz5] at N5'
  have N5 := hide N5'
  clear N5' hz5
  clear hb5
  go_wp2_with (first | (refine wpList_load_row rfl 26 _ rfl w.heap.size rfl 26 #[.int .i64 a.k, .int .i64 a.n, .string a.s, .slice c a.l.length cp] (0, 0) _ ((unhide X4).boxa) Tryd.underlying26 rfl (by kernel_rfl) ?_) | (refine wpList_load_row rfl 26 _ rfl (w.heap.size + 1) rfl 26 #[.int .i64 b.k, .int .i64 b.n, .string b.s, .slice e b.l.length ep] (0, 0) _ ((unhide X4).boxb) Tryd.underlying26 rfl (by kernel_rfl) ?_) | (refine wpList_store_row rfl 26 _ _ rfl (w.heap.size + 2) #[.int .i64 6, .int .i64 0, .string ⟨#[]⟩, .slice (some ⟨w3.heap.size + 1, 0, none⟩) 2 2] rfl rfl 26 _ (unhide X5).res szE rfl (ex_one _ _ _ _ _ _) ?_))
  refine bodyPost_ret (results_cell_row (P := Tryd.prog) rfl _ _ (w.heap.size + 2) 26 #[.int .i64 6, .int .i64 0, .string ⟨#[]⟩, .slice (some ⟨w3.heap.size + 1, 0, none⟩) 2 2] (0, 0) _ rfl (setRow_heap _ _ _ _ _ _ (unhide X5).res) Tryd.underlying26 rfl szE) rfl ?_
  rw [← unhide HX]
  exact By.end (x := ⟨6, 0, ⟨#[]⟩, [a, b]⟩) (unhide X5) (unhide N5) _
set_option maxHeartbeats 8000000 in
theorem subS_n1 {d : Nat} (a b : Ex) (oa : okF (d + 1) false a = true) (ob : okF (d + 1) false b = true) (c e : Option Addr) (cp ep : Nat) (P Q R : Nat → Prop) (w : World) (ha : PX w P a c) (hb : PX w Q b e) (hPQ : ∀ b, P b → ¬ Q b) (hPR : ∀ b, P b → R b) (hQR : ∀ b, Q b → R b) (hR : ∀ b, w.heap.size ≤ b → R b) (h1 : b.k ≠ 1) (f0 : ((prtX a).1.k == 11) = true) (f1 : ((prtX b).1.k == 11) = false) : Calls Tryd.prog 79 #[.agg (a.cs c cp), .agg (b.cs e ep)] w (GiR (subX a b) R w) := by
  have X0 := hide (By.new w #[.int .i64 a.k, .int .i64 a.n, .string a.s, .slice c a.l.length cp] #[.int .i64 b.k, .int .i64 b.n, .string b.s, .slice e b.l.length ep])
  have A0 := hide (ha.oy (unhide X0).bel)
  have C0 := hide (hb.oy (unhide X0).bel)
  have PA := hide (prtS_any a oa c cp (Oy w P) _ (unhide A0))
  have PB := hide (fun wr (h : PX wr (Oy w Q) b e) => prtS_any b ob e ep (Oy w Q) wr h)
  have HR := hide hR
  have DJ := hide (show ∀ b, Oy w P b → ¬ Oy w Q b from fun b h k => hPQ b h.1 k.1)
  have PR := hide (show ∀ b, Oy w P b → Oy w R b from fun b h => ⟨hPR b h.1, h.2⟩)
  have QR := hide (show ∀ b, Oy w Q b → Oy w R b from fun b h => ⟨hQR b h.1, h.2⟩)
  have ia := prt_in oa
  have ib := prt_in ob
  have g1 : (b.k == 1) = false := beq_eq_false_iff_ne.2 h1
  have EQ := hide (show subX a b = ⟨6, 0, ⟨#[]⟩, [a, b]⟩ by unfold subX; rw [if_neg h1, if_neg (fun h => by have := beq_eq_false_iff_ne.1 f1; exact this h.2.1)]; rfl)
  unfold PrR at PA PB
  generalize prtX a = pa at *
  generalize prtX b = pb at *
  obtain ⟨x, n⟩ := pa
  obtain ⟨y, k⟩ := pb
  simp only at PA PB ia ib EQ f0 f1
  rw [unhide EQ]
  generalize hX : GiR _ R w = X
  have HX := hide hX
  unfold Ex.cs at PA PB ⊢
  clear hX EQ oa ob ha hb hPQ hPR hQR hR h1
  go_enter Tryd.func79, Tryd.ntmps79
  go_wp2_with fail
  generalize ((w.alloc (.cells #[.int .i64 a.k, .int .i64 a.n, .string a.s, .slice c a.l.length cp] 26)).alloc (.cells #[.int .i64 b.k, .int .i64 b.n, .string b.s, .slice e b.l.length ep] 26)).alloc (.cells #[.int .i64 0, .int .i64 0, .string ⟨#[]⟩, .slice none 0 0] 26) = W at *
  refine (unhide PA).mono ?_
  rintro r w1 ⟨c1, cp1, rfl, hx1, hb1⟩
  clear hx1
  have X1 := (unhide X0).later hb1
  have A1 := (unhide A0).later hb1
  have C1 := (unhide C0).later hb1
  have hb2 := below_new w1 (.cells #[.int .i64 x.k, .int .i64 x.n, .string x.s, .slice c1 x.l.length cp1] 26)
  have X2 := hide (X1.later hb2)
  have A2 := hide (A1.later hb2)
  have C2 := hide (C1.later hb2)
  have G2 := hide (show (w1.alloc (.cells #[.int .i64 x.k, .int .i64 x.n, .string x.s, .slice c1 x.l.length cp1] 26)).heap[w1.heap.size]? = some (.cells #[.int .i64 x.k, .int .i64 x.n, .string x.s, .slice c1 x.l.length cp1] 26 (0, 0)) from Array.getElem?_push_size)
  have PB2 := hide (unhide PB _ (unhide C2))
  clear hb1 hb2 X1 A1 C1 X0 A0 C0 PA PB
  go_wp2_with (refine wpList_load_row rfl 26 _ rfl (w.heap.size + 1) rfl 26 #[.int .i64 b.k, .int .i64 b.n, .string b.s, .slice e b.l.length ep] (0, 0) _ ((unhide X2).boxb) Tryd.underlying26 rfl (by kernel_rfl) ?_)
  generalize w1.alloc (.cells #[.int .i64 x.k, .int .i64 x.n, .string x.s, .slice c1 x.l.length cp1] 26) = w2 at *
  generalize w1.heap.size = g1' at *
  refine (unhide PB2).mono ?_
  rintro r w3 ⟨c3, cp3, rfl, hx3, hb3⟩
  clear hx3
  have X3 := (unhide X2).later hb3
  have A3 := (unhide A2).later hb3
  have C3 := (unhide C2).later hb3
  have G3 := row_keep (unhide G2) hb3
  have hb4 := below_new w3 (.cells #[.int .i64 y.k, .int .i64 y.n, .string y.s, .slice c3 y.l.length cp3] 26)
  have X4 := hide (X3.later hb4)
  have A4 := hide (A3.later hb4)
  have C4 := hide (C3.later hb4)
  have G4 := row_keep G3 hb4
  have K4 := (show (w3.alloc (.cells #[.int .i64 y.k, .int .i64 y.n, .string y.s, .slice c3 y.l.length cp3] 26)).heap[w3.heap.size]? = some (.cells #[.int .i64 y.k, .int .i64 y.n, .string y.s, .slice c3 y.l.length cp3] 26 (0, 0)) from Array.getElem?_push_size)
  have x0 := Lib.cell_of_heap G4 0
  have x1 := Lib.cell_of_heap G4 1
  have y0 := Lib.cell_of_heap K4 0
  have y1 := Lib.cell_of_heap K4 1
  clear hb3 hb4 X3 A3 C3 G3 X2 A2 C2 G2 PB2 G4 K4
  have hb5 := below_new (w3.alloc (.cells #[.int .i64 y.k, .int .i64 y.n, .string y.s, .slice c3 y.l.length cp3] 26)) (.cells #[.int .i64 a.k, .int .i64 a.n, .string a.s, .slice c a.l.length cp, .int .i64 b.k, .int .i64 b.n, .string b.s, .slice e b.l.length ep] 26)
  have X5 := hide ((unhide X4).later hb5)
  have hz5 : (w3.alloc (.cells #[.int .i64 y.k, .int .i64 y.n, .string y.s, .slice c3 y.l.length cp3] 26)).heap.size = w3.heap.size + 1 := by simp
  have N5' := (show PX ((w3.alloc (.cells #[.int .i64 y.k, .int .i64 y.n, .string y.s, .slice c3 y.l.length cp3] 26)).alloc (.cells #[.int .i64 a.k, .int .i64 a.n, .string a.s, .slice c a.l.length cp, .int .i64 b.k, .int .i64 b.n, .string b.s, .slice e b.l.length ep] 26)) (Oy w R) ⟨6, 0, ⟨#[]⟩, [a, b]⟩ (some ⟨(w3.alloc (.cells #[.int .i64 y.k, .int .i64 y.n, .string y.s, .slice c3 y.l.length cp3] 26)).heap.size, 0, none⟩) from (unhide A4).two (unhide C4) (unhide DJ) (unhide PR) (unhide QR) (oy_in (unhide HR) (unhide X4).lt) 6 0 ⟨#[]⟩ 26)
  rw [hz5] at N5'
  have N5 := hide N5'
  clear N5' hz5
  clear hb5
  go_wp2_with (first | (refine wpList_load_row rfl 26 _ rfl w.heap.size rfl 26 #[.int .i64 a.k, .int .i64 a.n, .string a.s, .slice c a.l.length cp] (0, 0) _ ((unhide X4).boxa) Tryd.underlying26 rfl (by kernel_rfl) ?_) | (refine wpList_load_row rfl 26 _ rfl (w.heap.size + 1) rfl 26 #[.int .i64 b.k, .int .i64 b.n, .string b.s, .slice e b.l.length ep] (0, 0) _ ((unhide X4).boxb) Tryd.underlying26 rfl (by kernel_rfl) ?_) | (refine wpList_store_row rfl 26 _ _ rfl (w.heap.size + 2) #[.int .i64 6, .int .i64 0, .string ⟨#[]⟩, .slice (some ⟨w3.heap.size + 1, 0, none⟩) 2 2] rfl rfl 26 _ (unhide X5).res szE rfl (ex_one _ _ _ _ _ _) ?_))
  refine bodyPost_ret (results_cell_row (P := Tryd.prog) rfl _ _ (w.heap.size + 2) 26 #[.int .i64 6, .int .i64 0, .string ⟨#[]⟩, .slice (some ⟨w3.heap.size + 1, 0, none⟩) 2 2] (0, 0) _ rfl (setRow_heap _ _ _ _ _ _ (unhide X5).res) Tryd.underlying26 rfl szE) rfl ?_
  rw [← unhide HX]
  exact By.end (x := ⟨6, 0, ⟨#[]⟩, [a, b]⟩) (unhide X5) (unhide N5) _
set_option maxHeartbeats 8000000 in
theorem subS_n2 {d : Nat} (a b : Ex) (oa : okF (d + 1) false a = true) (ob : okF (d + 1) false b = true) (c e : Option Addr) (cp ep : Nat) (P Q R : Nat → Prop) (w : World) (ha : PX w P a c) (hb : PX w Q b e) (hPQ : ∀ b, P b → ¬ Q b) (hPR : ∀ b, P b → R b) (hQR : ∀ b, Q b → R b) (hR : ∀ b, w.heap.size ≤ b → R b) (h1 : b.k ≠ 1) (f0 : ((prtX a).1.k == 11) = true) (f1 : ((prtX b).1.k == 11) = true) (f2 : ((prtX a).1.n == (prtX b).1.n) = false) : Calls Tryd.prog 79 #[.agg (a.cs c cp), .agg (b.cs e ep)] w (GiR (subX a b) R w) := by
  have X0 := hide (By.new w #[.int .i64 a.k, .int .i64 a.n, .string a.s, .slice c a.l.length cp] #[.int .i64 b.k, .int .i64 b.n, .string b.s, .slice e b.l.length ep])
  have A0 := hide (ha.oy (unhide X0).bel)
  have C0 := hide (hb.oy (unhide X0).bel)
  have PA := hide (prtS_any a oa c cp (Oy w P) _ (unhide A0))
  have PB := hide (fun wr (h : PX wr (Oy w Q) b e) => prtS_any b ob e ep (Oy w Q) wr h)
  have HR := hide hR
  have DJ := hide (show ∀ b, Oy w P b → ¬ Oy w Q b from fun b h k => hPQ b h.1 k.1)
  have PR := hide (show ∀ b, Oy w P b → Oy w R b from fun b h => ⟨hPR b h.1, h.2⟩)
  have QR := hide (show ∀ b, Oy w Q b → Oy w R b from fun b h => ⟨hQR b h.1, h.2⟩)
  have ia := prt_in oa
  have ib := prt_in ob
  have g1 : (b.k == 1) = false := beq_eq_false_iff_ne.2 h1
  have EQ := hide (show subX a b = ⟨6, 0, ⟨#[]⟩, [a, b]⟩ by unfold subX; rw [if_neg h1, if_neg (fun h => by have := beq_eq_false_iff_ne.1 f2; exact this h.2.2)]; rfl)
  unfold PrR at PA PB
  generalize prtX a = pa at *
  generalize prtX b = pb at *
  obtain ⟨x, n⟩ := pa
  obtain ⟨y, k⟩ := pb
  simp only at PA PB ia ib EQ f0 f1 f2
  rw [unhide EQ]
  generalize hX : GiR _ R w = X
  have HX := hide hX
  unfold Ex.cs at PA PB ⊢
  clear hX EQ oa ob ha hb hPQ hPR hQR hR h1
  go_enter Tryd.func79, Tryd.ntmps79
  go_wp2_with fail
  generalize ((w.alloc (.cells #[.int .i64 a.k, .int .i64 a.n, .string a.s, .slice c a.l.length cp] 26)).alloc (.cells #[.int .i64 b.k, .int .i64 b.n, .string b.s, .slice e b.l.length ep] 26)).alloc (.cells #[.int .i64 0, .int .i64 0, .string ⟨#[]⟩, .slice none 0 0] 26) = W at *
  refine (unhide PA).mono ?_
  rintro r w1 ⟨c1, cp1, rfl, hx1, hb1⟩
  clear hx1
  have X1 := (unhide X0).later hb1
  have A1 := (unhide A0).later hb1
  have C1 := (unhide C0).later hb1
  have hb2 := below_new w1 (.cells #[.int .i64 x.k, .int .i64 x.n, .string x.s, .slice c1 x.l.length cp1] 26)
  have X2 := hide (X1.later hb2)
  have A2 := hide (A1.later hb2)
  have C2 := hide (C1.later hb2)
  have G2 := hide (show (w1.alloc (.cells #[.int .i64 x.k, .int .i64 x.n, .string x.s, .slice c1 x.l.length cp1] 26)).heap[w1.heap.size]? = some (.cells #[.int .i64 x.k, .int .i64 x.n, .string x.s, .slice c1 x.l.length cp1] 26 (0, 0)) from Array.getElem?_push_size)
  have PB2 := hide (unhide PB _ (unhide C2))
  clear hb1 hb2 X1 A1 C1 X0 A0 C0 PA PB
  go_wp2_with (refine wpList_load_row rfl 26 _ rfl (w.heap.size + 1) rfl 26 #[.int .i64 b.k, .int .i64 b.n, .string b.s, .slice e b.l.length ep] (0, 0) _ ((unhide X2).boxb) Tryd.underlying26 rfl (by kernel_rfl) ?_)
  generalize w1.alloc (.cells #[.int .i64 x.k, .int .i64 x.n, .string x.s, .slice c1 x.l.length cp1] 26) = w2 at *
  generalize w1.heap.size = g1' at *
  refine (unhide PB2).mono ?_
  rintro r w3 ⟨c3, cp3, rfl, hx3, hb3⟩
  clear hx3
  have X3 := (unhide X2).later hb3
  have A3 := (unhide A2).later hb3
  have C3 := (unhide C2).later hb3
  have G3 := row_keep (unhide G2) hb3
  have hb4 := below_new w3 (.cells #[.int .i64 y.k, .int .i64 y.n, .string y.s, .slice c3 y.l.length cp3] 26)
  have X4 := hide (X3.later hb4)
  have A4 := hide (A3.later hb4)
  have C4 := hide (C3.later hb4)
  have G4 := row_keep G3 hb4
  have K4 := (show (w3.alloc (.cells #[.int .i64 y.k, .int .i64 y.n, .string y.s, .slice c3 y.l.length cp3] 26)).heap[w3.heap.size]? = some (.cells #[.int .i64 y.k, .int .i64 y.n, .string y.s, .slice c3 y.l.length cp3] 26 (0, 0)) from Array.getElem?_push_size)
  have x0 := Lib.cell_of_heap G4 0
  have x1 := Lib.cell_of_heap G4 1
  have y0 := Lib.cell_of_heap K4 0
  have y1 := Lib.cell_of_heap K4 1
  clear hb3 hb4 X3 A3 C3 G3 X2 A2 C2 G2 PB2 G4 K4
  have hb5 := below_new (w3.alloc (.cells #[.int .i64 y.k, .int .i64 y.n, .string y.s, .slice c3 y.l.length cp3] 26)) (.cells #[.int .i64 a.k, .int .i64 a.n, .string a.s, .slice c a.l.length cp, .int .i64 b.k, .int .i64 b.n, .string b.s, .slice e b.l.length ep] 26)
  have X5 := hide ((unhide X4).later hb5)
  have hz5 : (w3.alloc (.cells #[.int .i64 y.k, .int .i64 y.n, .string y.s, .slice c3 y.l.length cp3] 26)).heap.size = w3.heap.size + 1 := by simp
  have N5' := (show PX ((w3.alloc (.cells #[.int .i64 y.k, .int .i64 y.n, .string y.s, .slice c3 y.l.length cp3] 26)).alloc (.cells #[.int .i64 a.k, .int .i64 a.n, .string a.s, .slice c a.l.length cp, .int .i64 b.k, .int .i64 b.n, .string b.s, .slice e b.l.length ep] 26)) (Oy w R) ⟨6, 0, ⟨#[]⟩, [a, b]⟩ (some ⟨(w3.alloc (.cells #[.int .i64 y.k, .int .i64 y.n, .string y.s, .slice c3 y.l.length cp3] 26)).heap.size, 0, none⟩) from (unhide A4).two (unhide C4) (unhide DJ) (unhide PR) (unhide QR) (oy_in (unhide HR) (unhide X4).lt) 6 0 ⟨#[]⟩ 26)
  rw [hz5] at N5'
  have N5 := hide N5'
  clear N5' hz5
  clear hb5
  go_wp2_with (first | (refine wpList_load_row rfl 26 _ rfl w.heap.size rfl 26 #[.int .i64 a.k, .int .i64 a.n, .string a.s, .slice c a.l.length cp] (0, 0) _ ((unhide X4).boxa) Tryd.underlying26 rfl (by kernel_rfl) ?_) | (refine wpList_load_row rfl 26 _ rfl (w.heap.size + 1) rfl 26 #[.int .i64 b.k, .int .i64 b.n, .string b.s, .slice e b.l.length ep] (0, 0) _ ((unhide X4).boxb) Tryd.underlying26 rfl (by kernel_rfl) ?_) | (refine wpList_store_row rfl 26 _ _ rfl (w.heap.size + 2) #[.int .i64 6, .int .i64 0, .string ⟨#[]⟩, .slice (some ⟨w3.heap.size + 1, 0, none⟩) 2 2] rfl rfl 26 _ (unhide X5).res szE rfl (ex_one _ _ _ _ _ _) ?_))
  refine bodyPost_ret (results_cell_row (P := Tryd.prog) rfl _ _ (w.heap.size + 2) 26 #[.int .i64 6, .int .i64 0, .string ⟨#[]⟩, .slice (some ⟨w3.heap.size + 1, 0, none⟩) 2 2] (0, 0) _ rfl (setRow_heap _ _ _ _ _ _ (unhide X5).res) Tryd.underlying26 rfl szE) rfl ?_
  rw [← unhide HX]
  exact By.end (x := ⟨6, 0, ⟨#[]⟩, [a, b]⟩) (unhide X5) (unhide N5) _
theorem subS_any {d : Nat} (a b : Ex) (oa : okF (d + 1) false a = true) (ob : okF (d + 1) false b = true) (c e : Option Addr) (cp ep : Nat) (P Q R : Nat → Prop) (w : World) (ha : PX w P a c) (hb : PX w Q b e) (hPQ : ∀ b, P b → ¬ Q b) (hPR : ∀ b, P b → R b) (hQR : ∀ b, Q b → R b) (hR : ∀ b, w.heap.size ≤ b → R b) : Calls Tryd.prog 79 #[.agg (a.cs c cp), .agg (b.cs e ep)] w (GiR (subX a b) R w) := by
  by_cases h1 : b.k = 1
  · exact subS_num a b oa ob c e cp ep P Q R w ha hb hPQ hPR hQR hR h1
  · cases f0 : ((prtX a).1.k == 11) with
    | false => exact subS_n0 a b oa ob c e cp ep P Q R w ha hb hPQ hPR hQR hR h1 f0
    | true =>
      cases f1 : ((prtX b).1.k == 11) with
      | false => exact subS_n1 a b oa ob c e cp ep P Q R w ha hb hPQ hPR hQR hR h1 f0 f1
      | true =>
        cases f2 : ((prtX a).1.n == (prtX b).1.n) with
        | false => exact subS_n2 a b oa ob c e cp ep P Q R w ha hb hPQ hPR hQR hR h1 f0 f1 f2
        | true => exact subS_sect a b oa ob c e cp ep P Q R w ha hb hPQ hPR hQR hR h1 f0 f1 f2
end Go.Proofs.YtkolflcjkofleaaDoor

namespace Go.Proofs.YtkolflcjkofleaaDoor
open Go.ChangeShapes Go.WideShapes Go.ChangeAt Go.RowKit
set_option linter.unusedVariables false
set_option maxRecDepth 8000
set_option linter.unusedSimpArgs false

/-- So many parts of a list are appended: the row is v, all blocks from B on and below M. -/
def ApX (w : World) (B : Nat) (l : List Ex) (k : Nat) (v : Value) (M : Nat) : Prop := ∃ (cs : List Value) (Fs : List (List Nat)), w.ownsRow B 26 4 v k cs ∧ (∀ g, v.ownBlock = some g → g < M) ∧ Fs.length = k ∧ Fs.flatten.Nodup ∧ (∀ b ∈ Fs.flatten, B ≤ b ∧ b < M ∧ v.ownBlock ≠ some b) ∧ ∀ i, i < k → OwIn w cs i (xAt l i) (Fs.getD i [])
theorem ownsRow_keepF {w w' : World} {B n m : Nat} {t : TypeId} {v : Value} {cs : List Value} (h : w.ownsRow B t m v n cs) (hk : ∀ g, v.ownBlock = some g → w'.heap[g]? = w.heap[g]?) : w'.ownsRow B t m v n cs := by
  obtain ⟨h1, h2 | ⟨g, cap, cur, rfl, hg, hh, r⟩⟩ := h
  · exact ⟨h1, .inl h2⟩
  · exact ⟨h1, .inr ⟨g, cap, cur, rfl, hg, (hk g rfl).trans hh, r⟩⟩
theorem ApX.keep {w w' : World} {B k M : Nat} {l : List Ex} {v : Value} (h : ApX w B l k v M) (hk : ∀ b, B ≤ b → b < M → w'.heap[b]? = w.heap[b]?) : ApX w' B l k v M := by
  obtain ⟨cs, Fs, h1, h2, h3, h4, h5, h6⟩ := h
  refine ⟨cs, Fs, ownsRow_keepF h1 (fun g hg => hk g (World.ownsRow.lt h1 g hg).1 (h2 g hg)), h2, h3, h4, h5, fun i hi => (h6 i hi).keep (fun b hb => ?_)⟩
  obtain ⟨q1, q2, _⟩ := h5 b (getD_flat hb)
  exact hk b q1 q2
theorem ApX.later {w w' : World} {B k M : Nat} {l : List Ex} {v : Value} (h : ApX w B l k v M) (hb : Below w.heap.size w w') (hM : M ≤ w.heap.size) : ApX w' B l k v M := h.keep (fun b _ h2 => hb.block b (by omega))
theorem ApX.far {w : World} {B k M : Nat} {l : List Ex} {v : Value} (h : ApX w B l k v M) (p : Addr) (u : Value) (hp : p.block < B) : ApX (w.setCell p u) B l k v M := h.keep (fun b h1 _ => heap_setCell_other w p b u (by omega))
theorem ApX.nil (w : World) (B : Nat) (l : List Ex) (M : Nat) : ApX w B l 0 (.slice none 0 0) M := ⟨[], [], World.ownsRow_nil _ _ _ _, (fun g h => by simp [Value.ownBlock] at h), rfl, List.nodup_nil, (fun b hb => by simp at hb), fun i hi => by omega⟩
theorem ApX.step {w w' : World} {B k M M' : Nat} {l : List Ex} {v : Value} {cs : List Value} {Fs : List (List Nat)} {q : Option Addr} {cp g cap : Nat} (h1 : w.ownsRow B 26 4 v k cs) (h2 : ∀ g, v.ownBlock = some g → g < M) (h3 : Fs.length = k) (h4 : Fs.flatten.Nodup) (h5 : ∀ b ∈ Fs.flatten, B ≤ b ∧ b < M ∧ v.ownBlock ≠ some b) (h6 : ∀ i, i < k → OwIn w cs i (xAt l i) (Fs.getD i []))
    (hx : HalfX w M M' (xAt l k) q) (hBM : B ≤ M) (hM : M ≤ M') (hM' : M' ≤ w.heap.size) (ho : w'.ownsRow B 26 4 (.slice (some ⟨g, 0, none⟩) (k + 1) cap) (k + 1) (cs ++ exL (xAt l k) q cp)) (hg : w.grownBy w' v.ownBlock) (hw : v.ownBlock = some g ∨ g = w.heap.size) : ApX w' B l (k + 1) (.slice (some ⟨g, 0, none⟩) (k + 1 : Nat) cap) w'.heap.size := by
  obtain ⟨F, x1, x2, x3⟩ := hx
  have hl := h1.1
  refine ⟨_, Fs ++ [F], ho, (fun g' e => by
    have := World.ownsRow.lt ho g' e
    exact this.2), by simp [h3], ?_, ?_, ?_⟩
  · rw [flat_snoc]
    exact nodup_snoc h4 x2 (fun b hb => (h5 b hb).2.1) (fun b hb => (x3 b hb).1)
  · intro b hb
    rw [flat_snoc] at hb
    have hs := hg.size
    rcases List.mem_append.1 hb with hb | hb
    · obtain ⟨q1, q2, q3⟩ := h5 b hb
      refine ⟨q1, by omega, fun e => ?_⟩
      have e : g = b := by simpa [Value.ownBlock] using e
      rcases hw with hw | hw
      · exact q3 (by rw [hw, e])
      · omega
    · obtain ⟨q1, q2⟩ := x3 b hb
      refine ⟨by omega, by omega, fun e => ?_⟩
      have e : g = b := by simpa [Value.ownBlock] using e
      rcases hw with hw | hw
      · have := h2 g hw
        omega
      · omega
  · intro i hi
    by_cases hik : i < k
    · rw [getD_snoc_lt (by omega)]
      obtain ⟨c0, c1, c2, c, cp', c3, c4⟩ := h6 i hik
      refine ⟨by rw [List.getElem?_append_left (by omega)]; exact c0, by rw [List.getElem?_append_left (by omega)]; exact c1, by rw [List.getElem?_append_left (by omega)]; exact c2, c, cp', by rw [List.getElem?_append_left (by omega)]; exact c3, ?_⟩
      refine OwX.keep _ _ _ (fun b hb => ?_) c4
      obtain ⟨q1, q2, q3⟩ := h5 b (getD_flat hb)
      exact hg.block b (by omega) (fun e => q3 e.symm)
    · obtain rfl : i = k := by omega
      rw [getD_snoc_eq (by omega)]
      have hj : ∀ j, j < 4 → (cs ++ exL (xAt l i) q cp)[i * 4 + j]? = (exL (xAt l i) q cp)[j]? := fun j hj => by
        rw [List.getElem?_append_right (by omega), hl]
        congr 1
        omega
      refine ⟨(hj 0 (by omega)).trans rfl, (hj 1 (by omega)).trans rfl, (hj 2 (by omega)).trans rfl, q, cp, (hj 3 (by omega)).trans rfl, ?_⟩
      refine OwX.keep _ _ _ (fun b hb => ?_) x1
      obtain ⟨q1, q2⟩ := x3 b hb
      exact hg.block b (by omega) (fun e => by have := h2 b e.symm; omega)
/-- All are appended. -/
theorem ApX.done {w : World} {B M n cap : Nat} {l : List Ex} {a : Option Addr} (h : ApX w B l l.length (.slice a n cap) M) (k m : Int) (s : ByteArray) : PX w (B ≤ ·) ⟨k, m, s, l⟩ a ∧ n = l.length := by
  obtain ⟨cs, Fs, h1, h2, h3, h4, h5, h6⟩ := h
  have h1' := h1
  obtain ⟨hl, ⟨e, h0⟩ | ⟨g, cap', cur, e, hg, hh, hn, hm, hz, ht⟩⟩ := h1
  · cases e
    have : l = [] := List.length_eq_zero_iff.1 h0
    subst this
    exact ⟨PX.leaf _ _ _ _ _ _, rfl⟩
  · cases e
    obtain ⟨cur, hh, hz, hg, hc⟩ := row_take h1'
    refine ⟨⟨g :: Fs.flatten, (OwX_eq _ _ _ _).2 (.inr ⟨g, cur, _, Fs, rfl, hh, hz, h3, rfl, fun i hi => ?_⟩), List.nodup_cons.2 ⟨fun hb => (h5 g hb).2.2 rfl, h4⟩, fun b hb => ?_⟩, rfl⟩
    · obtain ⟨c0, c1, c2, c, cp', c3, c4⟩ := h6 i hi
      have hi : i < l.length := hi
      exact ⟨(hc _ (by omega)).trans c0, (hc _ (by omega)).trans c1, (hc _ (by omega)).trans c2, c, cp', (hc _ (by omega)).trans c3, c4⟩
    · rcases List.mem_cons.1 hb with rfl | hb
      · exact hg
      · exact (h5 b hb).1
end Go.Proofs.YtkolflcjkofleaaDoor

namespace Go.Proofs.YtkolflcjkofleaaDoor
open Go.ChangeShapes Go.WideShapes Go.ChangeAt Go.RowKit
set_option linter.unusedVariables false
set_option maxRecDepth 8000
set_option linter.unusedSimpArgs false

theorem cell_newF (W : World) (cs : Array Value) (t : TypeId) : ∀ j u, cs.toList[j]? = some u → (W.alloc (.cells cs t)).cell? ((⟨W.heap.size, 0, none⟩ : Addr).add j) = some u := by
  intro j u hu
  have h : (W.alloc (.cells cs t)).cell? ⟨W.heap.size, j, none⟩ = some u := by rw [World.cell?_alloc_at _ _ _ _ rfl]; simpa using hu
  unfold Addr.add
  by_cases h0 : j = 0
  · subst h0; simpa using h
  · simpa [h0] using h
/-- The rows of a function that fills a term: the argument, what is answered, the term. -/
structure Cz (w wr : World) (pr : Array Value) (k n : Int) (s : ByteArray) (v : Value) : Prop where
  bel : Below w.heap.size w wr
  lt : w.heap.size + 3 ≤ wr.heap.size
  box : wr.heap[w.heap.size]? = some (.cells pr 26 (0, 0))
  res : wr.heap[w.heap.size + 1]? = some (.cells #[.int .i64 0, .int .i64 0, .string ⟨#[]⟩, .slice none 0 0] 26 (0, 0))
  out : wr.heap[w.heap.size + 2]? = some (.cells #[.int .i64 k, .int .i64 n, .string s, v] 26 (0, 0))
section
variable {w wr w' : World} {pr : Array Value} {k n : Int} {s : ByteArray} {v : Value}
theorem Cz.later (h : Cz w wr pr k n s v) (hb : Below wr.heap.size wr w') : Cz w w' pr k n s v := ⟨h.bel.trans (hb.mono h.bel.size), Nat.le_trans h.lt hb.size, row_keep h.box hb, row_keep h.res hb, row_keep h.out hb⟩
theorem Cz.grown {o : Option Nat} (h : Cz w wr pr k n s v) (hg : wr.grownBy w' o) (ho : ∀ g, o = some g → w.heap.size + 3 ≤ g) : Cz w w' pr k n s v := by
  have ne : ∀ b, b < w.heap.size + 3 → some b ≠ o := fun b hb e => by have := ho b e.symm; omega
  exact ⟨h.bel.grown hg h.bel.size (fun q e => by have := ho q e; omega), Nat.le_trans h.lt hg.size, (hg.block _ (Array.getElem?_eq_some_iff.1 h.box).1 (ne _ (by omega))).trans h.box, (hg.block _ (Array.getElem?_eq_some_iff.1 h.res).1 (ne _ (by omega))).trans h.res, (hg.block _ (Array.getElem?_eq_some_iff.1 h.out).1 (ne _ (by omega))).trans h.out⟩
theorem Cz.set3 (h : Cz w wr pr k n s v) (x : Value) : Cz w (wr.setCell ⟨w.heap.size + 2, 3, none⟩ x) pr k n s x := by
  have ne : ∀ b, b < w.heap.size + 2 → (wr.setCell ⟨w.heap.size + 2, 3, none⟩ x).heap[b]? = wr.heap[b]? := fun b hb => heap_setCell_other wr ⟨w.heap.size + 2, 3, none⟩ b _ (fun e => by have e' : b = w.heap.size + 2 := e; omega)
  refine ⟨h.bel.setCell (p := ⟨w.heap.size + 2, 3, none⟩) (by show w.heap.size ≤ w.heap.size + 2; omega) _, by simp; exact h.lt, (ne _ (by omega)).trans h.box, (ne _ (by omega)).trans h.res, ?_⟩
  rw [heap_setCell_same wr (w.heap.size + 2) 3 _ 26 x h.out]
  rfl
theorem Cz.new (w : World) (pr : Array Value) : Cz w (((w.alloc (.cells pr 26)).alloc (.cells #[.int .i64 0, .int .i64 0, .string ⟨#[]⟩, .slice none 0 0] 26)).alloc (.cells #[.int .i64 k, .int .i64 n, .string s, v] 26)) pr k n s v := by
  have hb := (((Below.refl w.heap.size w).alloc (Nat.le_refl _) (.cells pr 26)).alloc (by simp) (.cells #[.int .i64 0, .int .i64 0, .string ⟨#[]⟩, .slice none 0 0] 26)).alloc (by simp; omega) (.cells #[.int .i64 k, .int .i64 n, .string s, v] 26)
  have h1 : (w.alloc (.cells pr 26)).heap.size = w.heap.size + 1 := by simp
  have h2 : ((w.alloc (.cells pr 26)).alloc (.cells #[.int .i64 0, .int .i64 0, .string ⟨#[]⟩, .slice none 0 0] 26)).heap.size = w.heap.size + 2 := by simp
  refine ⟨hb, by simp, ?_, ?_, ?_⟩
  · exact row_keep (row_keep (heap_alloc_new w _) (below_new _ _)) (below_new _ _)
  · refine row_keep ?_ (below_new _ _)
    rw [← h1]; exact Array.getElem?_push_size
  · rw [← h2]; exact Array.getElem?_push_size
end
theorem copy_fin {e : Ex} {w w' : World} {a : Option Addr} {n cp M : Nat} {pr : Array Value} (row : Array Value) (hc : Cz w w' pr e.k e.n e.s (.slice a n cp)) (h : ApX w' (w.heap.size + 3) e.l e.l.length (.slice a n cp) M) : GiR e (w.heap.size ≤ ·) w (.returned (.agg #[.int .i64 e.k, .int .i64 e.n, .string e.s, .slice a n cp])) (w'.setRow (w.heap.size + 1) row) := by
  obtain ⟨k, m, s, l⟩ := e
  obtain ⟨hd, rfl⟩ := h.done k m s
  exact ⟨a, cp, rfl, (PX.row (g := w.heap.size + 1) hd row (by show ¬ (w.heap.size + 3 ≤ w.heap.size + 1); omega)).mono (Q := fun x => w.heap.size ≤ x) (fun b (hb : w.heap.size + 3 ≤ b) => by show w.heap.size ≤ b; omega), hc.bel.grown (grownBy_row _) hc.bel.size (fun k e => by cases e; omega)⟩
def CoP (e : Ex) : Prop := ∀ (b : Option Addr) (cap : Nat) (w : World), RdX w 0 e b → e.sz ≤ 1048576 → Calls Tryd.prog 52 #[.agg (e.cs b cap)] w (GiR e (w.heap.size ≤ ·) w)
set_option maxHeartbeats 8000000 in
theorem copyS_of (e : Ex) (ih : ∀ i, i < e.l.length → CoP (xAt e.l i)) : CoP e := by
  intro b cap w hr hz
  have hsz := sz_is e
  rw [RdX_eq] at hr
  have hp : ∀ i, i < e.l.length → (xAt e.l i).sz ≤ 1048576 := fun i hi => by have := sz_part hi; omega
  have hm : e.l.length ≤ 1048576 := by omega
  have FN := hide (fun (w' : World) (a : Option Addr) (n cp : Nat) (pr : Array Value) (row : Array Value) (M : Nat) => copy_fin (e := e) (w := w) (w' := w') (a := a) (n := n) (cp := cp) (pr := pr) (M := M) row)
  clear hsz hz
  unfold Ex.cs
  generalize GiR e (w.heap.size ≤ ·) w = X at *
  generalize e.k = ek at *
  generalize e.n = en at *
  generalize e.s = es at *
  generalize e.l = l at *
  obtain ⟨len, hl⟩ : ∃ len, l.length = len := ⟨_, rfl⟩
  rw [hl] at hm ih hr hp FN ⊢
  obtain ⟨i0, hi, hz0, hz1, hz2⟩ := info_parts infoX
  have C0 := hide (Cz.new (k := ek) (n := en) (s := es) (v := .slice none 0 0) w #[.int .i64 ek, .int .i64 en, .string es, .slice b len cap])
  go_enter Tryd.func52, Tryd.ntmps52
  go_wp2
  generalize ((w.alloc (.cells #[.int .i64 ek, .int .i64 en, .string es, .slice b len cap] 26)).alloc (.cells #[.int .i64 0, .int .i64 0, .string ⟨#[]⟩, .slice none 0 0] 26)).alloc (.cells #[.int .i64 ek, .int .i64 en, .string es, .slice none 0 0] 26) = W at *
  go_loopw [4] (fun i wr => ∃ (k : Nat) (v : Value), k ≤ len ∧ i = .int .i64 k ∧ Cz w wr #[.int .i64 ek, .int .i64 en, .string es, .slice b len cap] ek en es v ∧ ApX wr (w.heap.size + 3) l k v wr.heap.size) (fun i _ => len - (intOf i).toNat)
  case atStart => exact ⟨0, _, Nat.zero_le _, rfl, unhide C0, ApX.nil _ _ _ _⟩
  case round =>
    clear C0
    obtain ⟨k, v, hk, rfl, hcz, hap⟩ := hrel
    have B1 := hcz.bel
    by_cases hlt : k < len
    · rcases hr with h0 | ⟨p, off, rfl, _, hbl, hc⟩
      · rw [h0] at hl; simp at hl; omega
      obtain ⟨c0, c1, c2, c, cap', c3, c4⟩ := hc k (by omega)
      have d0 : wr.cell? ⟨p, off + k * 4, none⟩ = _ := (B1.cell (p := ⟨p, _, none⟩) hbl).trans c0
      have d1 : wr.cell? ⟨p, off + k * 4 + 1, none⟩ = _ := (B1.cell (p := ⟨p, _, none⟩) hbl).trans c1
      have d2 : wr.cell? ⟨p, off + k * 4 + 2, none⟩ = _ := (B1.cell (p := ⟨p, _, none⟩) hbl).trans c2
      have d3 : wr.cell? ⟨p, off + k * 4 + 3, none⟩ = _ := (B1.cell (p := ⟨p, _, none⟩) hbl).trans c3
      have b3 := Lib.cell_of_heap hcz.box 3
      have HT := hide (ih k hlt c cap' wr (c4.later B1) (hp k hlt))
      unfold GiR Ex.cs at HT
      have CZ := hide hcz
      have AP := hide hap
      have AS := hide (fun (w1 w2 : World) (g cp M' : Nat) (q : Option Addr) (cq : Nat) cs Fs h1 h2 h3 h4 h5 h6 hx hBM hM hM' ho hg hw => ApX.step (w := w1) (w' := w2) (B := w.heap.size + 3) (k := k) (M := wr.heap.size) (M' := M') (l := l) (v := v) (cs := cs) (Fs := Fs) (q := q) (cp := cq) (g := g) (cap := cp) h1 h2 h3 h4 h5 h6 hx hBM hM hM' ho hg hw)
      clear c0 c1 c2 c3 c4 hc hcz hap B1
      unfold exL at AS
      generalize (xAt l k).s = ss at d2 HT AS
      generalize (xAt l k).k = kk at d0 HT AS
      generalize (xAt l k).n = nn at d1 HT AS
      generalize (xAt l k).l.length = ll at d3 HT AS
      go_wp2_with fail
      refine (unhide HT).mono ?_
      rintro e w1 ⟨q, cq, rfl, hq, hb1⟩
      have hb2 := below_new w1 (.cells #[.int .i64 kk, .int .i64 nn, .string ss, .slice q ll cq] 26)
      have hb3 := below_new (w1.alloc (.cells #[.int .i64 kk, .int .i64 nn, .string ss, .slice q ll cq] 26)) (.cells #[.int .i64 kk, .int .i64 nn, .string ss, .slice q ll cq] 26)
      have hb12 := hb1.trans (hb2.mono hb1.size)
      have hb13 := hb12.trans (hb3.mono hb12.size)
      have hb23 := hb2.trans (hb3.mono hb2.size)
      have hz2' : (w1.alloc (.cells #[.int .i64 kk, .int .i64 nn, .string ss, .slice q ll cq] 26)).heap.size = w1.heap.size + 1 := by simp
      have hz3' : ((w1.alloc (.cells #[.int .i64 kk, .int .i64 nn, .string ss, .slice q ll cq] 26)).alloc (.cells #[.int .i64 kk, .int .i64 nn, .string ss, .slice q ll cq] 26)).heap.size = w1.heap.size + 2 := by simp
      have C2 := (unhide CZ).later hb12
      have C3 := hide ((unhide CZ).later hb13)
      have G2 := hide (show (w1.alloc (.cells #[.int .i64 kk, .int .i64 nn, .string ss, .slice q ll cq] 26)).heap[w1.heap.size]? = some (.cells #[.int .i64 kk, .int .i64 nn, .string ss, .slice q ll cq] 26 (0, 0)) from Array.getElem?_push_size)
      have o3 := Lib.cell_of_heap C2.out 3
      have A3 := hide ((unhide AP).later hb13 (Nat.le_refl _))
      have CN' := cell_newF (w1.alloc (.cells #[.int .i64 kk, .int .i64 nn, .string ss, .slice q ll cq] 26)) #[.int .i64 kk, .int .i64 nn, .string ss, .slice q ll cq] 26
      rw [hz2'] at CN'
      have CN := hide CN'
      have HX := hide ((show NewX w1 wr.heap.size (xAt l k) q from hq).half.later hb23)
      have SZ := hide hz3'
      have S1 := hide hb1.size
      clear hq hb1 hb2 hb3 hb12 hb13 hb23 hz2' hz3' CN' C2 HT
      obtain ⟨cs, Fs, a1, a2, a3, a4, a5, a6⟩ := unhide A3
      have OW := hide a1
      have SP := hide (fun w2 g cp => unhide AS ((w1.alloc (.cells #[.int .i64 kk, .int .i64 nn, .string ss, .slice q ll cq] 26)).alloc (.cells #[.int .i64 kk, .int .i64 nn, .string ss, .slice q ll cq] 26)) w2 g cp w1.heap.size q cq cs Fs a1 a2 a3 a4 a5 a6 (unhide HX) (by have := (unhide CZ).lt; omega) (unhide S1) (by have := unhide SZ; omega))
      have BA := hide (show w.heap.size + 3 ≤ ((w1.alloc (.cells #[.int .i64 kk, .int .i64 nn, .string ss, .slice q ll cq] 26)).alloc (.cells #[.int .i64 kk, .int .i64 nn, .string ss, .slice q ll cq] 26)).heap.size from (unhide C3).lt)
      have WB := hide (show ∀ g, v.ownBlock = some g → w.heap.size + 3 ≤ g from fun g hg => (World.ownsRow.lt a1 g hg).1)
      have ON := hide (show ∀ u ∈ ([.int .i64 kk, .int .i64 nn, .string ss, .slice q ll cq] : List Value), u.oneCell' = true by intro u hu; simp only [List.mem_cons, List.not_mem_nil, or_false] at hu; rcases hu with rfl | rfl | rfl | rfl <;> rfl)
      clear a1 a2 a3 a4 a5 a6 A3 AS HX
      go_wp2_with (first | (refine wpList_load_row rfl 26 _ rfl w1.heap.size rfl 26 #[.int .i64 kk, .int .i64 nn, .string ss, .slice q ll cq] (0, 0) _ (unhide G2) Tryd.underlying26 rfl (by kernel_rfl) ?_) | (at_builtin; go_must (refine wpList_append_to rfl (.tmp 27) (.tmp 29) 24 rfl (w.heap.size + 3) 26 i0 (.agg #[.int .i64 0, .int .i64 0, .string ⟨#[]⟩, .slice none 0 0]) 4 56 Tryd.underlying24 hi hz0 hz1 hz2 rfl (by decide) v k cs rfl (unhide OW) ⟨w1.heap.size + 1, 0, none⟩ 1 1 [.int .i64 kk, .int .i64 nn, .string ss, .slice q ll cq] rfl rfl (unhide CN) (unhide ON) (by unfold maxLen; omega) (by omega) (unhide BA) (by omega) ?_; intro g4 cap4 w4 hown4 hgrow4 hwh4; have A4 := hide (unhide SP w4 g4 cap4 hown4 hgrow4 hwh4); have C4 := (unhide C3).grown hgrow4 (unhide WB); have f4 : w4.frozen? ⟨w.heap.size + 2, 3, none⟩ = false := (by simp [World.frozen?, C4.out]); have o4 := Lib.cell_of_heap C4.out 3; have C5 := hide (C4.set3 (.slice (some ⟨g4, 0, none⟩) (k + 1 : Nat) cap4)); clear hown4 hgrow4 hwh4 C4)))
      go_roundw
      case rel => exact ⟨k + 1, _, by omega, by go_num, unhide C5, by
        rw [show (w4.setCell ⟨w.heap.size + 2, 3, none⟩ (.slice (some ⟨g4, 0, none⟩) (k + 1 : Nat) cap4)).heap.size = w4.heap.size by simp]
        exact (unhide A4).far ⟨w.heap.size + 2, 3, none⟩ _ (by show w.heap.size + 2 < w.heap.size + 3; omega)⟩
      case measure => simp [intOf]; omega
    · obtain rfl : k = len := by omega
      have b3 := Lib.cell_of_heap hcz.box 3
      obtain ⟨a5, n5, c5, rfl⟩ : ∃ a n c, v = .slice a n c := by
        obtain ⟨_, _, ⟨_, ⟨e, _⟩ | ⟨g, cap', cur, e, _⟩⟩, _⟩ := hap
        · exact ⟨_, _, _, e⟩
        · exact ⟨_, _, _, e⟩
      have CZ := hide hcz
      have AP := hide hap
      clear hcz hap
      go_wp2_with (first | (refine wpList_load_row rfl 26 _ rfl (w.heap.size + 2) rfl 26 #[.int .i64 ek, .int .i64 en, .string es, .slice a5 n5 c5] (0, 0) _ ((unhide CZ).out) Tryd.underlying26 rfl (by kernel_rfl) ?_) | (refine wpList_store_row rfl 26 _ _ rfl (w.heap.size + 1) #[.int .i64 ek, .int .i64 en, .string es, .slice a5 n5 c5] rfl rfl 26 _ (unhide CZ).res szE rfl (ex_one _ _ _ _ _ _) ?_))
      refine bodyPost_ret (results_cell_row (P := Tryd.prog) rfl _ _ (w.heap.size + 1) 26 #[.int .i64 ek, .int .i64 en, .string es, .slice a5 n5 c5] (0, 0) _ rfl (setRow_heap _ _ _ _ _ _ (unhide CZ).res) Tryd.underlying26 rfl szE) rfl ?_
      exact unhide FN _ _ _ _ _ _ _ (unhide CZ) (unhide AP)
theorem copyS_any (e : Ex) : CoP e := by
  induction e using Ex.ind with
  | h k n s l ih => exact copyS_of _ (fun i hi => ih _ (xAt_mem hi))
end Go.Proofs.YtkolflcjkofleaaDoor

namespace Go.Proofs.YtkolflcjkofleaaDoor
open Go.ChangeShapes Go.WideShapes Go.ChangeAt Go.RowKit
set_option linter.unusedVariables false
set_option maxRecDepth 8000
set_option linter.unusedSimpArgs false

theorem infoTm : (Tryd.prog.info? 66).map (fun i => (i.zero, i.size, i.bytes)) = some (some .nilIface, 1, 16) := by kernel_rfl
theorem own_below {w w' : World} {B n m : Nat} {t : TypeId} {v : Value} {cs : List Value} (h : w.ownsRow B t m v n cs) (hb : Below w.heap.size w w') : w'.ownsRow B t m v n cs := by
  obtain ⟨h1, h2 | ⟨g, cap, cur, e, hg, hh, r⟩⟩ := h
  · exact ⟨h1, .inl h2⟩
  · exact ⟨h1, .inr ⟨g, cap, cur, e, hg, (hb.block g (Array.getElem?_eq_some_iff.1 hh).1).trans hh, r⟩⟩
/-- Whether the first k of these are all right. -/
def okL (l : List Ex) : Bool := l.all (okF 6 false)
theorem okL_take {l : List Ex} {k : Nat} (h : k < l.length) : okL (l.take (k + 1)) = (okL (l.take k) && okF 6 false (xAt l k)) := by
  unfold okL
  rw [List.take_add_one, List.getElem?_eq_getElem h, xAt_get h]
  simp only [Option.toList_some, List.all_append, List.all_cons, List.all_nil, Bool.and_true]
theorem okL_no {l : List Ex} {k : Nat} (h : k < l.length) (hk : okF 6 false (xAt l k) = false) : okL l = false := by
  unfold okL
  cases hh : l.all (okF 6 false) with
  | false => rfl
  | true =>
    rw [List.all_eq_true] at hh
    rw [hh _ (xAt_mem h)] at hk
    cases hk
theorem tvs_take {l : List Ex} {k : Nat} (h : k < l.length) : (l.take (k + 1)).map tv = (l.take k).map tv ++ [tv (xAt l k)] := by
  rw [List.take_add_one, List.getElem?_eq_getElem h, xAt_get h]
  simp only [Option.toList_some, List.map_append, List.map_cons, List.map_nil]
/-- What termsOf answers. -/
def TsR (l : List Ex) (w : World) (r : Ending) (w' : World) : Prop := ∃ v, r = .returned (.tuple #[v, .bool (okL l)]) ∧ (okL l = true → w'.ownsRow w.heap.size 66 1 v l.length (l.map tv)) ∧ Below w.heap.size w w'
set_option maxHeartbeats 8000000 in
theorem termsI_any (l : List Ex) (a : Option Addr) (n cap : Nat) (w : World) (hn : l.length = n) (hm : n ≤ 4194304) (hz : ∀ i, i < n → (xAt l i).sz ≤ 1048576) (hr : RdX w 0 ⟨0, 0, E0, l⟩ a) (ht : TabK w) : Calls Tryd.prog 58 #[.slice a n cap] w (TsR l w) := by
  obtain ⟨i0, hi, hz0, hz1, hz2⟩ := info_parts infoTm
  have FN := hide (fun (r : Ending) (w' : World) (v : Value) (q : Bool) (h0 : okL l = q) (h : r = .returned (.tuple #[v, .bool q])) (h1 : q = true → w'.ownsRow w.heap.size 66 1 v n (l.map tv)) (h2 : Below w.heap.size w w') => (show TsR l w r w' from ⟨v, by rw [h, h0], fun e => by rw [hn]; exact h1 (h0.symm.trans e), h2⟩))
  have TM := hide (fun i (hi : i < n) (c : Option Addr) (cp : Nat) wr (h : RdX wr 0 (xAt l i) c) (hb : Below w.heap.size w wr) => term_all 6 (by omega) (xAt l i) c cp wr h (hz i hi) (ht.next hb))
  unfold TermR at TM
  have RD := hide (fun i (h : i < n) => rd_at hr (i := i) (by show i < l.length; omega))
  have OT := hide (fun k (h : k < n) => okL_take (l := l) (k := k) (by omega))
  have ON := hide (fun k (h : k < n) => okL_no (l := l) (k := k) (by omega))
  have TT := hide (fun k (h : k < n) => tvs_take (l := l) (k := k) (by omega))
  have EN := hide (show okL (l.take n) = okL l ∧ (l.take n).map tv = l.map tv by rw [← hn, List.take_length]; exact ⟨rfl, rfl⟩)
  generalize TsR l w = R at *
  clear hr hz ht hn
  go_enter Tryd.func58, Tryd.ntmps58
  go_wp2
  go_loopw [4, 11] (fun v i wr => ∃ k : Nat, k ≤ n ∧ i = .int .i64 k ∧ okL (l.take k) = true ∧ wr.ownsRow w.heap.size 66 1 v k ((l.take k).map tv) ∧ Below w.heap.size w wr) (fun _ i _ => n - (intOf i).toNat)
  case atStart => exact ⟨0, Nat.zero_le _, rfl, by simp [okL], World.ownsRow_nil _ _ _ _, Below.refl _ _⟩
  case round =>
    obtain ⟨k, hk, rfl, hok, hown, hbel⟩ := hrel
    by_cases hlt : k < n
    · obtain ⟨p, po, rfl, hp, o1⟩ := unhide RD k hlt
      obtain ⟨e0, e1, e2, c, cp, e3, e4⟩ := o1
      have c0 := (hbel.cell (p := ⟨p, po + k * 4, none⟩) hp).trans e0
      have c1 := (hbel.cell (p := ⟨p, po + k * 4 + 1, none⟩) hp).trans e1
      have c2 := (hbel.cell (p := ⟨p, po + k * 4 + 2, none⟩) hp).trans e2
      have c3 := (hbel.cell (p := ⟨p, po + k * 4 + 3, none⟩) hp).trans e3
      have T1 := hide (unhide OT k hlt)
      have T2 := hide (unhide TT k hlt)
      have T3 := hide (unhide ON k hlt)
      have X0 := hide (show RdX wr 0 (xAt l k) c from e4.later hbel)
      have TK := hide (unhide TM k hlt c cp)
      have OK := hide hok
      have OW := hide hown
      have BL := hide hbel
      unfold Ex.cs at TK
      have hkn : ¬ ((n : Int) ≤ (k : Int)) := by omega
      clear e0 e1 e2 e3 e4 hok hown hbel hp
      obtain ⟨tt, xx, ett⟩ := tv_if (xAt l k)
      rw [ett] at TK T2
      clear ett
      generalize (xAt l k).k = ek at *
      generalize (xAt l k).n = en at *
      generalize (xAt l k).s = es at *
      generalize (xAt l k).l.length = el at *
      have hb1 := below_new wr (.cells #[.int .i64 ek, .int .i64 en, .string es, .slice c el cp] 26)
      have G1 := hide (show (wr.alloc (.cells #[.int .i64 ek, .int .i64 en, .string es, .slice c el cp] 26)).heap[wr.heap.size]? = some (.cells #[.int .i64 ek, .int .i64 en, .string es, .slice c el cp] 26 (0, 0)) from Array.getElem?_push_size)
      have B1 := hide ((unhide BL).trans (hb1.mono (unhide BL).size))
      have C1 := hide (unhide TK _ ((unhide X0).later hb1) (unhide B1))
      have O1 := hide (own_below (unhide OW) hb1)
      clear hb1 TK X0 OW BL
      go_wp2_with (refine wpList_load_row rfl 26 _ rfl wr.heap.size rfl 26 #[.int .i64 ek, .int .i64 en, .string es, .slice c el cp] (0, 0) _ (unhide G1) Tryd.underlying26 rfl (by kernel_rfl) ?_)
      generalize wr.alloc (.cells #[.int .i64 ek, .int .i64 en, .string es, .slice c el cp] 26) = w1 at *
      refine (unhide C1).mono ?_
      rintro r w2 ⟨tk, rfl, htk, hb2⟩
      have B2 := hide ((unhide B1).trans (hb2.mono (unhide B1).size))
      have O2 := hide (own_below (unhide O1) hb2)
      have HT := hide htk
      clear htk hb2 B1 O1 C1 G1 c0 c1 c2 c3
      generalize hq : okF 6 false (xAt l k) = q at *
      cases q with
      | false =>
        have F := unhide T3 rfl
        go_wp2
        (first | go_ret2 | go_ret | skip)
        exact unhide FN _ _ _ false F rfl (fun h => by cases h) (unhide B2)
      | true =>
        have etk := unhide HT rfl
        rw [etk]
        clear HT etk tk
        have T1c := hide (show ∀ u ∈ ([.iface tt xx] : List Value), u.oneCell' = true from fun u hu => by rw [List.mem_singleton.1 hu]; rfl)
        have hb3 := below_new w2 (.cells #[.iface tt xx] 66)
        have B3 := hide ((unhide B2).trans (hb3.mono (unhide B2).size))
        have O3 := hide (own_below (unhide O2) hb3)
        have N3 := hide (cell_newF w2 #[.iface tt xx] 66)
        have E1 := hide (show okL (l.take (k + 1)) = true by rw [unhide T1, unhide OK]; rfl)
        have WB := hide (show ∀ g, u4.ownBlock = some g → w.heap.size ≤ g from fun g hg => (World.ownsRow.lt (unhide O3) g hg).1)
        clear hb3 B2 O2 T1 T3 OK
        go_wp2_with (at_builtin; go_must (refine wpList_append_own _ rfl (.tmp 22) (.tmp 24) 91 rfl w.heap.size 66 i0 .nilIface 1 16 Tryd.underlying91 hi hz0 hz1 hz2 rfl (by decide) u4 k ((l.take k).map tv) rfl (unhide O3) ⟨w2.heap.size, 0, none⟩ 1 1 [.iface tt xx] rfl rfl (unhide N3) (unhide T1c) (by unfold maxLen; omega) (by omega) (unhide B3).size ?_; intro v4 w4 hown4 hgrow4 _; have O4 := hide hown4; have B4 := hide ((unhide B3).grown hgrow4 (unhide B3).size (unhide WB)); clear hown4 hgrow4))
        go_roundw
        case rel => exact ⟨k + 1, by omega, by go_num, unhide E1, by rw [unhide T2]; exact unhide O4, unhide B4⟩
        case measure => simp [intOf]; omega
    · obtain rfl : k = n := by omega
      have E1 := (unhide EN).1.symm.trans hok
      rw [(unhide EN).2] at hown
      have OW := hide hown
      have BL := hide hbel
      clear hok hown hbel
      go_wp2
      (first | go_ret2 | go_ret | skip)
      exact unhide FN _ _ _ true E1 rfl (fun _ => unhide OW) (unhide BL)
end Go.Proofs.YtkolflcjkofleaaDoor

namespace Go.Proofs.YtkolflcjkofleaaDoor
open Go.ChangeShapes Go.WideShapes Go.ChangeAt Go.RowKit
set_option linter.unusedVariables false
set_option maxRecDepth 8000
set_option linter.unusedSimpArgs false

/-- What stands at a name. -/
def lkS : List (ByteArray × Nat) → ByteArray → Option Nat
  | [], _ => none
  | (t, i) :: r, s => if eqS t s = true then some i else lkS r s
theorem lkS_snoc (ps : List (ByteArray × Nat)) (t : ByteArray) (i : Nat) (s : ByteArray) : lkS (ps ++ [(t, i)]) s = (lkS ps s).or (if eqS t s = true then some i else none) := by
  induction ps with
  | nil => simp [lkS]
  | cons p r ih =>
    obtain ⟨q, j⟩ := p
    simp only [List.cons_append, lkS]
    split
    · rfl
    · exact ih
/-- The first place of a name. -/
def plS (L : List ByteArray) (s : ByteArray) : Option Nat := L.findIdx? (fun t => eqS t s)
theorem plS_snoc (L : List ByteArray) (t s : ByteArray) : plS (L ++ [t]) s = (plS L s).or (if eqS t s = true then some L.length else none) := by
  unfold plS
  rw [List.findIdx?_append]
  congr 1
  simp only [List.findIdx?_cons, List.findIdx?_nil]
  split <;> simp
theorem plS_at (L : List ByteArray) (s : ByteArray) : atV L s = ((plS L s).map (fun i : Nat => (i : Int))).getD (-1) := by
  unfold plS
  cases h : L.findIdx? (fun t => eqS t s) with
  | none =>
    rw [List.findIdx?_eq_none_iff] at h
    rw [atV_no]
    · rfl
    · refine hasS_miss (fun k hk => ?_)
      have := h (L.getD k E0) (by rw [List.getD_eq_getElem?_getD, List.getElem?_eq_getElem hk]; exact List.getElem_mem hk)
      simpa using this
  | some i =>
    rw [List.findIdx?_eq_some_iff_getElem] at h
    obtain ⟨hi, h1, h2⟩ := h
    have e1 : ∀ j, j < i → eqS (L.getD j E0) s = false := fun j hj => by
      have h3 := h2 j hj
      rw [List.getD_eq_getElem?_getD, List.getElem?_eq_getElem (show j < L.length by omega)]
      simpa using h3
    have e2 : eqS (L.getD i E0) s = true := by
      rw [List.getD_eq_getElem?_getD, List.getElem?_eq_getElem hi]
      exact h1
    rw [atV_hit hi e1 e2]
    rfl
/-- The entries of a map of names. -/
def esS : List (ByteArray × Nat) → Nat → List MapEntry
  | [], _ => []
  | (t, i) :: r, born => { key := .string t, val := .int .i64 i, born := born } :: esS r (born + 1)
theorem esS_snoc (ps : List (ByteArray × Nat)) (t : ByteArray) (i : Nat) : ∀ born, esS (ps ++ [(t, i)]) born = esS ps born ++ [{ key := .string t, val := .int .i64 i, born := born + ps.length }] := by
  induction ps with
  | nil => intro born; rfl
  | cons p r ih => obtain ⟨q, j⟩ := p; intro born; simp only [List.cons_append, esS, ih, List.length_cons]; congr 4; omega
/-- Block b is a map of these names. -/
def IsMs (w : World) (b : Nat) (ps : List (ByteArray × Nat)) : Prop := w.heap[b]? = some (.map (esS ps 0).toArray ps.length)
theorem IsMs.later {w w' : World} {b : Nat} {ps : List (ByteArray × Nat)} (h : IsMs w b ps) (hb : Below w.heap.size w w') : IsMs w' b ps := row_keep h hb
theorem ba_eq (s t : ByteArray) : (s == t) = eqS t s := by
  rw [Bool.eq_iff_iff, eqS_iff]
  have h : (s == t) = (s.data == t.data) := rfl
  rw [h, beq_iff_eq]
  exact ⟨fun e => ByteArray.ext e.symm, fun e => by rw [e]⟩
theorem find_now (s : ByteArray) : ∀ (ps : List (ByteArray × Nat)) (born i : Nat), ∃ r, Instr.findNow .string (.string s) (esS ps born) i = some r ∧ ((lkS ps s = none ∧ r = none) ∨ ∃ j v, lkS ps s = some v ∧ r = some (j, .int .i64 (v : Nat))) := by
  intro ps
  induction ps with
  | nil => intro born i; exact ⟨none, rfl, .inl ⟨rfl, rfl⟩⟩
  | cons p r ih =>
    obtain ⟨t, v⟩ := p
    intro born i
    obtain ⟨q, hq, hr⟩ := ih (born + 1) (i + 1)
    have hs : Instr.sameNow .string (.string s) (.string t) = some (s == t) := rfl
    rw [ba_eq] at hs
    cases e1 : eqS t s with
    | true => exact ⟨some (i, .int .i64 (v : Nat)), by simp only [esS, Instr.findNow, hs, e1], .inr ⟨i, v, by simp [lkS, e1], rfl⟩⟩
    | false =>
      refine ⟨q, by simp only [esS, Instr.findNow, hs, e1]; exact hq, ?_⟩
      have : lkS ((t, v) :: r) s = lkS r s := by simp [lkS, e1]
      rw [this]
      exact hr
theorem run_keyS (em : Bool) (s : ByteArray) (w : World) : (Instr.checkKey em 10000 9 (.string s)).run Tryd.prog w = .ok () w := by
  cases em <;> kernel_rfl
theorem run_lookS {w : World} {b : Nat} {ps : List (ByteArray × Nat)} (h : IsMs w b ps) (s : ByteArray) : (Instr.lookup 71 (.map (some b)) (.string s) true).run Tryd.prog w = .ok (.tuple #[.int .i64 ((lkS ps s).getD 0 : Nat), .bool (lkS ps s).isSome]) w := by
  obtain ⟨r, hr, hh⟩ := find_now s ps 0 0
  have hf : (Instr.findKey 9 (.string s) (esS ps 0)).run Tryd.prog w = .ok r w := by simp [Instr.findKey, run_underlying Tryd.underlying9, hr]
  have hz : (zeroValue 3).run Tryd.prog w = .ok (.int .i64 0) w := by kernel_rfl
  rcases hh with ⟨h1, rfl⟩ | ⟨j, v, h1, rfl⟩
  · simp [Instr.lookup, run_underlying Tryd.underlying71, MapKept.run_getObj_map h, run_keyS, hf, hz, h1, Result.andThen]
  · simp [Instr.lookup, run_underlying Tryd.underlying71, MapKept.run_getObj_map h, run_keyS, hf, h1, Result.andThen]
theorem run_putS {w : World} {b : Nat} {ps : List (ByteArray × Nat)} (h : IsMs w b ps) (s : ByteArray) (i : Nat) (hn : lkS ps s = none) : ∃ w', (Instr.mapUpdate 71 (.map (some b)) (.string s) (.int .i64 (i : Nat))).run Tryd.prog w = .ok () w' ∧ IsMs w' b (ps ++ [(s, i)]) ∧ w.grownBy w' (some b) := by
  obtain ⟨r, hr, hh⟩ := find_now s ps 0 0
  have hf : (Instr.findKey 9 (.string s) (esS ps 0)).run Tryd.prog w = .ok r w := by simp [Instr.findKey, run_underlying Tryd.underlying9, hr]
  rcases hh with ⟨h1, rfl⟩ | ⟨j, v, h1, rfl⟩
  · have hrun : (Instr.mapUpdate 71 (.map (some b)) (.string s) (.int .i64 (i : Nat))).run Tryd.prog w = .ok () { w with heap := w.heap.setIfInBounds b (.map ((esS ps 0).toArray.push { key := .string s, val := .int .i64 (i : Nat), born := ps.length }) (ps.length + 1)) } := by
      simp [Instr.mapUpdate, run_underlying Tryd.underlying71, MapKept.run_getObj_map h, run_keyS, hf, MapKept.run_setObj_map _ h, Result.andThen]
    refine ⟨_, hrun, ?_, rfl, rfl, rfl, by simp, fun g _ hg => ?_⟩
    · have hl : b < w.heap.size := (Array.getElem?_eq_some_iff.1 h).1
      unfold IsMs
      simp [hl, esS_snoc]
    · have hg : g ≠ b := fun e => hg (by rw [e])
      simp [Array.getElem?_setIfInBounds, Ne.symm hg]
  · rw [hn] at h1; cases h1
theorem run_mkS (w : World) : (Instr.makeMap 71 none).run Tryd.prog w = .ok (.map (some w.heap.size)) (w.alloc (.map #[] 0)) := by kernel_rfl
theorem pl_take (L : List ByteArray) (k : Nat) (h : k < L.length) (s : ByteArray) : plS (L.take (k + 1)) s = (plS (L.take k) s).or (if eqS (tAtS L k) s = true then some k else none) := by
  rw [List.take_add_one, List.getElem?_eq_getElem h]
  show plS (L.take k ++ [L[k]]) s = _
  rw [plS_snoc, List.length_take, Nat.min_eq_left (by omega)]
  unfold tAtS
  rw [List.getD_eq_getElem?_getD, List.getElem?_eq_getElem h]
  rfl
set_option maxHeartbeats 2000000 in
theorem places_any (a : Option Addr) (n cap : Nat) (L : List ByteArray) (w : World) (hl : L.length = n) (hm : n ≤ 1099511627776) (hr : RdU w a L) : Calls Tryd.prog 49 #[.slice a n cap] w fun r w' => ∃ b ps, r = .returned (.map (some b)) ∧ IsMs w' b ps ∧ (∀ s, lkS ps s = plS L s) ∧ w.heap.size ≤ b ∧ Below w.heap.size w w' := by
  have hmk := run_mkS
  go_enter Tryd.func49, Tryd.ntmps49
  go_wp2
  go_loopw [11] (fun i wr => ∃ (k : Nat) (ps : List (ByteArray × Nat)), k ≤ n ∧ i = .int .i64 k ∧ IsMs wr w.heap.size ps ∧ (∀ s, lkS ps s = plS (L.take k) s) ∧ Below w.heap.size w wr) (fun i _ => n - (intOf i).toNat)
  case atStart => exact ⟨0, [], Nat.zero_le _, rfl, Array.getElem?_push_size, fun s => rfl, (Below.refl _ _).alloc (Nat.le_refl _) _⟩
  case round =>
    obtain ⟨k, ps, hk, rfl, hmp, hps, hbel⟩ := hrel
    by_cases hlt : k < n
    · rcases hr with rfl | ⟨b, off, rfl, hb, hc⟩
      · simp at hl; omega
      have hcx : wr.cell? ⟨b, off + k, none⟩ = some (.string (tAtS L k)) := (hbel.cell (p := ⟨b, off + k, none⟩) hb).trans (hc k (by omega))
      have PT := hide (pl_take L k (by omega))
      have HP := hide hps
      have HB := hide hbel
      have HM := hide hmp
      have LK := run_lookS hmp (tAtS L k)
      clear hps hbel hc hb hmp
      cases hf : lkS ps (tAtS L k) with
      | some v =>
        have E := hide (show ∀ s, lkS ps s = plS (L.take (k + 1)) s from fun s => by
          rw [unhide PT, ← unhide HP s]
          split
          · rename_i e
            rw [← (eqS_iff _ _).1 e, hf]
            rfl
          · simp)
        rw [hf] at LK
        simp only [Option.getD_some, Option.isSome_some] at LK
        clear PT HP hf
        generalize tAtS L k = nm at *
        go_wp2
        go_roundw
        case rel => exact ⟨k + 1, ps, by omega, by go_num, unhide HM, unhide E, unhide HB⟩
        case measure => simp [intOf]; omega
      | none =>
        obtain ⟨w2, hput, hm2, hg2⟩ := run_putS (unhide HM) (tAtS L k) k hf
        have E := hide (show ∀ s, lkS (ps ++ [(tAtS L k, k)]) s = plS (L.take (k + 1)) s from fun s => by rw [unhide PT, ← unhide HP s, lkS_snoc])
        have M2 := hide hm2
        have B2 := hide ((unhide HB).grown hg2 (unhide HB).size (fun g e => by cases e; exact Nat.le_refl _))
        rw [hf] at LK
        simp only [Option.getD_none, Option.isSome_none] at LK
        clear PT HP hf hm2 hg2
        generalize ps ++ [(tAtS L k, k)] = ps2 at *
        generalize tAtS L k = nm at *
        go_wp2
        go_roundw
        case rel => exact ⟨k + 1, ps2, by omega, by go_num, unhide M2, unhide E, unhide B2⟩
        case measure => simp [intOf]; omega
    · have hkn : k = n := by omega
      have E : ∀ s, lkS ps s = plS L s := fun s => by rw [hps, hkn, ← hl, List.take_length]
      clear hps
      go_wp2
      go_ret
      exact ⟨_, ps, rfl, hmp, E, Nat.le_refl _, hbel⟩
end Go.Proofs.YtkolflcjkofleaaDoor

namespace Go.Proofs.YtkolflcjkofleaaDoor
open Go.ChangeShapes Go.WideShapes Go.ChangeAt Go.RowKit
set_option linter.unusedVariables false
set_option maxRecDepth 8000
set_option linter.unusedSimpArgs false

set_option maxHeartbeats 2000000 in
theorem kind_num (n : Int) (s : ByteArray) (t u : TypeId) (x y : Value) (w : World) : Calls Tryd.prog 71 #[.iface 88 (.agg #[.int .i64 n])] w fun r w' => r = .returned (.int .i64 1) ∧ w' = w := by
  have tt := taY_num (.agg #[.int .i64 n])
  go_enter Tryd.func71, Tryd.ntmps71
  go_wp2
  go_ret
  exact ⟨rfl, rfl⟩
set_option maxHeartbeats 2000000 in
theorem kind_sym (n : Int) (s : ByteArray) (t u : TypeId) (x y : Value) (w : World) : Calls Tryd.prog 71 #[.iface 117 (.agg #[.string s])] w fun r w' => r = .returned (.int .i64 2) ∧ w' = w := by
  have t0 := taN_num 117 (.agg #[.string s]) (by decide)
  have tt := taY_sym (.agg #[.string s])
  go_enter Tryd.func71, Tryd.ntmps71
  go_wp2
  go_ret
  exact ⟨rfl, rfl⟩
set_option maxHeartbeats 2000000 in
theorem kind_here (n : Int) (s : ByteArray) (t u : TypeId) (x y : Value) (w : World) : Calls Tryd.prog 71 #[.iface 130 (.agg #[])] w fun r w' => r = .returned (.int .i64 3) ∧ w' = w := by
  have t0 := taN_num 130 (.agg #[]) (by decide)
  have t1 := taN_sym 130 (.agg #[]) (by decide)
  have tt := taY_here (.agg #[])
  go_enter Tryd.func71, Tryd.ntmps71
  go_wp2
  go_ret
  exact ⟨rfl, rfl⟩
set_option maxHeartbeats 2000000 in
theorem kind_neg (n : Int) (s : ByteArray) (t u : TypeId) (x y : Value) (w : World) : Calls Tryd.prog 71 #[.iface 104 (.agg #[.iface t x])] w fun r w' => r = .returned (.int .i64 4) ∧ w' = w := by
  have t0 := taN_num 104 (.agg #[.iface t x]) (by decide)
  have t1 := taN_sym 104 (.agg #[.iface t x]) (by decide)
  have t2 := taN_here 104 (.agg #[.iface t x]) (by decide)
  have tt := taY_neg (.agg #[.iface t x])
  go_enter Tryd.func71, Tryd.ntmps71
  go_wp2
  go_ret
  exact ⟨rfl, rfl⟩
set_option maxHeartbeats 2000000 in
theorem kind_add (n : Int) (s : ByteArray) (t u : TypeId) (x y : Value) (w : World) : Calls Tryd.prog 71 #[.iface 134 (.agg #[.iface t x, .iface u y])] w fun r w' => r = .returned (.int .i64 5) ∧ w' = w := by
  have t0 := taN_num 134 (.agg #[.iface t x, .iface u y]) (by decide)
  have t1 := taN_sym 134 (.agg #[.iface t x, .iface u y]) (by decide)
  have t2 := taN_here 134 (.agg #[.iface t x, .iface u y]) (by decide)
  have t3 := taN_neg 134 (.agg #[.iface t x, .iface u y]) (by decide)
  have tt := taY_add (.agg #[.iface t x, .iface u y])
  go_enter Tryd.func71, Tryd.ntmps71
  go_wp2
  go_ret
  exact ⟨rfl, rfl⟩
set_option maxHeartbeats 2000000 in
theorem kind_sub (n : Int) (s : ByteArray) (t u : TypeId) (x y : Value) (w : World) : Calls Tryd.prog 71 #[.iface 135 (.agg #[.iface t x, .iface u y])] w fun r w' => r = .returned (.int .i64 6) ∧ w' = w := by
  have t0 := taN_num 135 (.agg #[.iface t x, .iface u y]) (by decide)
  have t1 := taN_sym 135 (.agg #[.iface t x, .iface u y]) (by decide)
  have t2 := taN_here 135 (.agg #[.iface t x, .iface u y]) (by decide)
  have t3 := taN_neg 135 (.agg #[.iface t x, .iface u y]) (by decide)
  have t4 := taN_add 135 (.agg #[.iface t x, .iface u y]) (by decide)
  have tt := taY_sub (.agg #[.iface t x, .iface u y])
  go_enter Tryd.func71, Tryd.ntmps71
  go_wp2
  go_ret
  exact ⟨rfl, rfl⟩
set_option maxHeartbeats 2000000 in
theorem kind_mul (n : Int) (s : ByteArray) (t u : TypeId) (x y : Value) (w : World) : Calls Tryd.prog 71 #[.iface 136 (.agg #[.iface t x, .iface u y])] w fun r w' => r = .returned (.int .i64 7) ∧ w' = w := by
  have t0 := taN_num 136 (.agg #[.iface t x, .iface u y]) (by decide)
  have t1 := taN_sym 136 (.agg #[.iface t x, .iface u y]) (by decide)
  have t2 := taN_here 136 (.agg #[.iface t x, .iface u y]) (by decide)
  have t3 := taN_neg 136 (.agg #[.iface t x, .iface u y]) (by decide)
  have t4 := taN_add 136 (.agg #[.iface t x, .iface u y]) (by decide)
  have t5 := taN_sub 136 (.agg #[.iface t x, .iface u y]) (by decide)
  have tt := taY_mul (.agg #[.iface t x, .iface u y])
  go_enter Tryd.func71, Tryd.ntmps71
  go_wp2
  go_ret
  exact ⟨rfl, rfl⟩
set_option maxHeartbeats 2000000 in
theorem kind_div (n : Int) (s : ByteArray) (t u : TypeId) (x y : Value) (w : World) : Calls Tryd.prog 71 #[.iface 137 (.agg #[.iface t x, .iface u y])] w fun r w' => r = .returned (.int .i64 8) ∧ w' = w := by
  have t0 := taN_num 137 (.agg #[.iface t x, .iface u y]) (by decide)
  have t1 := taN_sym 137 (.agg #[.iface t x, .iface u y]) (by decide)
  have t2 := taN_here 137 (.agg #[.iface t x, .iface u y]) (by decide)
  have t3 := taN_neg 137 (.agg #[.iface t x, .iface u y]) (by decide)
  have t4 := taN_add 137 (.agg #[.iface t x, .iface u y]) (by decide)
  have t5 := taN_sub 137 (.agg #[.iface t x, .iface u y]) (by decide)
  have t6 := taN_mul 137 (.agg #[.iface t x, .iface u y]) (by decide)
  have tt := taY_div (.agg #[.iface t x, .iface u y])
  go_enter Tryd.func71, Tryd.ntmps71
  go_wp2
  go_ret
  exact ⟨rfl, rfl⟩
set_option maxHeartbeats 2000000 in
theorem kind_and (n : Int) (s : ByteArray) (t u : TypeId) (x y : Value) (w : World) : Calls Tryd.prog 71 #[.iface 138 (.agg #[.iface t x, .iface u y])] w fun r w' => r = .returned (.int .i64 9) ∧ w' = w := by
  have t0 := taN_num 138 (.agg #[.iface t x, .iface u y]) (by decide)
  have t1 := taN_sym 138 (.agg #[.iface t x, .iface u y]) (by decide)
  have t2 := taN_here 138 (.agg #[.iface t x, .iface u y]) (by decide)
  have t3 := taN_neg 138 (.agg #[.iface t x, .iface u y]) (by decide)
  have t4 := taN_add 138 (.agg #[.iface t x, .iface u y]) (by decide)
  have t5 := taN_sub 138 (.agg #[.iface t x, .iface u y]) (by decide)
  have t6 := taN_mul 138 (.agg #[.iface t x, .iface u y]) (by decide)
  have t7 := taN_div 138 (.agg #[.iface t x, .iface u y]) (by decide)
  have tt := taY_and (.agg #[.iface t x, .iface u y])
  go_enter Tryd.func71, Tryd.ntmps71
  go_wp2
  go_ret
  exact ⟨rfl, rfl⟩
set_option maxHeartbeats 2000000 in
theorem kind_or (n : Int) (s : ByteArray) (t u : TypeId) (x y : Value) (w : World) : Calls Tryd.prog 71 #[.iface 139 (.agg #[.iface t x, .iface u y])] w fun r w' => r = .returned (.int .i64 10) ∧ w' = w := by
  have t0 := taN_num 139 (.agg #[.iface t x, .iface u y]) (by decide)
  have t1 := taN_sym 139 (.agg #[.iface t x, .iface u y]) (by decide)
  have t2 := taN_here 139 (.agg #[.iface t x, .iface u y]) (by decide)
  have t3 := taN_neg 139 (.agg #[.iface t x, .iface u y]) (by decide)
  have t4 := taN_add 139 (.agg #[.iface t x, .iface u y]) (by decide)
  have t5 := taN_sub 139 (.agg #[.iface t x, .iface u y]) (by decide)
  have t6 := taN_mul 139 (.agg #[.iface t x, .iface u y]) (by decide)
  have t7 := taN_div 139 (.agg #[.iface t x, .iface u y]) (by decide)
  have t8 := taN_and 139 (.agg #[.iface t x, .iface u y]) (by decide)
  have tt := taY_or (.agg #[.iface t x, .iface u y])
  go_enter Tryd.func71, Tryd.ntmps71
  go_wp2
  go_ret
  exact ⟨rfl, rfl⟩
set_option maxHeartbeats 2000000 in
theorem kind_sect (n : Int) (s : ByteArray) (t u : TypeId) (x y : Value) (w : World) : Calls Tryd.prog 71 #[.iface 115 (.agg #[.int .i64 n])] w fun r w' => r = .returned (.int .i64 11) ∧ w' = w := by
  have t0 := taN_num 115 (.agg #[.int .i64 n]) (by decide)
  have t1 := taN_sym 115 (.agg #[.int .i64 n]) (by decide)
  have t2 := taN_here 115 (.agg #[.int .i64 n]) (by decide)
  have t3 := taN_neg 115 (.agg #[.int .i64 n]) (by decide)
  have t4 := taN_add 115 (.agg #[.int .i64 n]) (by decide)
  have t5 := taN_sub 115 (.agg #[.int .i64 n]) (by decide)
  have t6 := taN_mul 115 (.agg #[.int .i64 n]) (by decide)
  have t7 := taN_div 115 (.agg #[.int .i64 n]) (by decide)
  have t8 := taN_and 115 (.agg #[.int .i64 n]) (by decide)
  have t9 := taN_or 115 (.agg #[.int .i64 n]) (by decide)
  have tt := taY_sect (.agg #[.int .i64 n])
  go_enter Tryd.func71, Tryd.ntmps71
  go_wp2
  go_ret
  exact ⟨rfl, rfl⟩
set_option maxHeartbeats 2000000 in
theorem kind_glob (n : Int) (s : ByteArray) (t u : TypeId) (x y : Value) (w : World) : Calls Tryd.prog 71 #[.iface 118 (.agg #[.string s])] w fun r w' => r = .returned (.int .i64 12) ∧ w' = w := by
  have t0 := taN_num 118 (.agg #[.string s]) (by decide)
  have t1 := taN_sym 118 (.agg #[.string s]) (by decide)
  have t2 := taN_here 118 (.agg #[.string s]) (by decide)
  have t3 := taN_neg 118 (.agg #[.string s]) (by decide)
  have t4 := taN_add 118 (.agg #[.string s]) (by decide)
  have t5 := taN_sub 118 (.agg #[.string s]) (by decide)
  have t6 := taN_mul 118 (.agg #[.string s]) (by decide)
  have t7 := taN_div 118 (.agg #[.string s]) (by decide)
  have t8 := taN_and 118 (.agg #[.string s]) (by decide)
  have t9 := taN_or 118 (.agg #[.string s]) (by decide)
  have t10 := taN_sect 118 (.agg #[.string s]) (by decide)
  have tt := taY_glob (.agg #[.string s])
  go_enter Tryd.func71, Tryd.ntmps71
  go_wp2
  go_ret
  exact ⟨rfl, rfl⟩
theorem kindI_any {d : Nat} {e : Ex} (h : okF d false e = true) (w : World) : Calls Tryd.prog 71 #[tv e] w fun r w' => r = .returned (.int .i64 e.k) ∧ w' = w := by
  cases d with
  | zero => cases h
  | succ d =>
    rcases ok_cases h with ⟨n, hn, rfl⟩ | ⟨s, hs, rfl⟩ | rfl | ⟨a, ha, rfl⟩ | ⟨k, a, b, hk, ha, hb, rfl⟩ | ⟨n, hn, rfl⟩ | ⟨s, hs, rfl⟩
    · rw [tv_num]; exact kind_num n E0 0 0 .nilIface .nilIface w
    · rw [tv_sym]; exact kind_sym 0 s 0 0 .nilIface .nilIface w
    · rw [tv_here]; exact kind_here 0 E0 0 0 .nilIface .nilIface w
    · obtain ⟨t, x, e1⟩ := tv_if a
      rw [tv_neg, e1]; exact kind_neg 0 E0 t 0 x .nilIface w
    · obtain ⟨t, x, e1⟩ := tv_if a
      obtain ⟨u, y, e2⟩ := tv_if b
      rw [tv_two hk, e1, e2]
      have : k = 5 ∨ k = 6 ∨ k = 7 ∨ k = 8 ∨ k = 9 ∨ k = 10 := by omega
      rcases this with rfl | rfl | rfl | rfl | rfl | rfl
      · exact kind_add 0 E0 t u x y w
      · exact kind_sub 0 E0 t u x y w
      · exact kind_mul 0 E0 t u x y w
      · exact kind_div 0 E0 t u x y w
      · exact kind_and 0 E0 t u x y w
      · exact kind_or 0 E0 t u x y w
    · rw [tv_sect]; exact kind_sect n E0 0 0 .nilIface .nilIface w
    · rw [tv_glob]; exact kind_glob 0 s 0 0 .nilIface .nilIface w
end Go.Proofs.YtkolflcjkofleaaDoor

namespace Go.Proofs.YtkolflcjkofleaaDoor
open Go.ChangeShapes Go.WideShapes Go.ChangeAt Go.RowKit
set_option linter.unusedVariables false
set_option maxRecDepth 8000
set_option linter.unusedSimpArgs false

set_option maxHeartbeats 2000000 in
theorem twoI_any (k a b : Int) (hk : 5 ≤ k ∧ k ≤ 10) (ha : 0 ≤ a ∧ a ≤ 65535) (hb : 0 ≤ b ∧ b ≤ 65535) (w : World) : Calls Tryd.prog 88 #[.int .i64 k, .int .i64 a, .int .i64 b] w (TwoR k a b w) := by
  have hm0 : 0 ≤ a * b := Int.mul_nonneg ha.1 hb.1
  have hm1 : a * b ≤ 65535 * 65535 := Int.mul_le_mul ha.2 hb.2 hb.1 (by decide)
  have hm2 : a * b ≤ 4294836225 := by omega
  have hn1 : -9223372036854775808 ≤ a * b := by omega
  have hn2 : a * b ≤ 9223372036854775807 := by omega
  unfold TwoR
  have : k = 5 ∨ k = 6 ∨ k = 7 ∨ k = 8 ∨ k = 9 ∨ k = 10 := by omega
  clear hk
  rcases this with rfl | rfl | rfl | rfl | rfl | rfl
  · have E := hide (show two11 5 a b = some ((a + b) % 65536) from rfl)
    rw [unhide E]
    go_enter Tryd.func88, Tryd.ntmps88
    go_wp2_with (go_at_call 75; refine (wrapI_any _ _).mono ?_; rintro e w' ⟨rfl, hw'⟩; rw [hw']; clear hw' w')
    go_ret2
    exact ⟨rfl, rfl⟩
  · have E := hide (show two11 6 a b = some ((a - b) % 65536) from rfl)
    rw [unhide E]
    go_enter Tryd.func88, Tryd.ntmps88
    go_wp2_with (go_at_call 75; refine (wrapI_any _ _).mono ?_; rintro e w' ⟨rfl, hw'⟩; rw [hw']; clear hw' w')
    go_ret2
    exact ⟨rfl, rfl⟩
  · have E := hide (show two11 7 a b = some ((a * b) % 65536) from rfl)
    rw [unhide E]
    go_enter Tryd.func88, Tryd.ntmps88
    go_wp2_with (go_at_call 75; refine (wrapI_any _ _).mono ?_; rintro e w' ⟨rfl, hw'⟩; rw [hw']; clear hw' w')
    go_ret2
    exact ⟨rfl, rfl⟩
  · by_cases h0 : b = 0
    · subst h0
      rw [show two11 8 a 0 = none from rfl]
      go_enter Tryd.func88, Tryd.ntmps88
      go_wp2
      go_ret2
      exact ⟨rfl, rfl⟩
    · have g0 : (b == 0) = false := beq_eq_false_iff_ne.2 h0
      have E := hide (show two11 8 a b = some (a / b) by unfold two11; rw [if_neg (by decide), if_neg (by decide), if_neg (by decide), if_neg (by decide), if_neg (by decide), if_neg h0])
      rw [unhide E]
      go_enter Tryd.func88, Tryd.ntmps88
      go_wp2
      go_ret2
      exact ⟨rfl, rfl⟩
  · have E := hide (show two11 9 a b = some (bits .and .i64 a b) from rfl)
    rw [unhide E]
    go_enter Tryd.func88, Tryd.ntmps88
    go_wp2
    go_ret2
    exact ⟨rfl, rfl⟩
  · have E := hide (show two11 10 a b = some (bits .or .i64 a b) from rfl)
    rw [unhide E]
    go_enter Tryd.func88, Tryd.ntmps88
    go_wp2
    go_ret2
    exact ⟨rfl, rfl⟩
/-- The type of a right term's value is that of its kind. -/
theorem tv_kT {d : Nat} {e : Ex} (h : okF (d + 1) false e = true) : ∃ T x, tv e = .iface T x ∧ (e.k ≠ 1 → T ≠ 88) ∧ (e.k ≠ 11 → T ≠ 115) ∧ (e.k ≠ 5 → T ≠ 134) := by
  rcases ok_cases h with ⟨n, hn, rfl⟩ | ⟨s, hs, rfl⟩ | rfl | ⟨a, ha, rfl⟩ | ⟨k, a, b, hk, ha, hb, rfl⟩ | ⟨n, hn, rfl⟩ | ⟨s, hs, rfl⟩
  · exact ⟨_, _, tv_num _ _, fun h => absurd rfl h, fun _ => by decide, fun _ => by decide⟩
  · exact ⟨_, _, tv_sym _ _, fun _ => by decide, fun _ => by decide, fun _ => by decide⟩
  · exact ⟨_, _, tv_here _ _, fun _ => by decide, fun _ => by decide, fun _ => by decide⟩
  · exact ⟨_, _, tv_neg _ _ _, fun _ => by decide, fun _ => by decide, fun _ => by decide⟩
  · refine ⟨_, _, tv_two hk _ _ _ _, ?_⟩
    have : k = 5 ∨ k = 6 ∨ k = 7 ∨ k = 8 ∨ k = 9 ∨ k = 10 := by omega
    rcases this with rfl | rfl | rfl | rfl | rfl | rfl
    · exact ⟨fun _ => by decide, fun _ => by decide, fun h => absurd rfl h⟩
    all_goals exact ⟨fun _ => by decide, fun _ => by decide, fun _ => by decide⟩
  · exact ⟨_, _, tv_sect _ _, fun _ => by decide, fun h => absurd rfl h, fun _ => by decide⟩
  · exact ⟨_, _, tv_glob _ _, fun _ => by decide, fun _ => by decide, fun _ => by decide⟩
/-- What a function answers, as a value, beside memory of its own. -/
def VaR (v : Value) (w : World) (r : Ending) (w' : World) : Prop := r = .returned v ∧ Below w.heap.size w w'
set_option maxHeartbeats 2000000 in
theorem cutN_no (T : TypeId) (x : Value) (hT : T ≠ 134) (w : World) : Calls Tryd.prog 96 #[.iface T x] w (VaR (.tuple #[.iface T x, .int .i64 0]) w) := by
  have t1 := taN_add T x hT
  have FN := hide (fun r w' (h : r = .returned (.tuple #[.iface T x, .int .i64 0])) (hb : Below w.heap.size w w') => (show VaR _ w r w' from ⟨h, hb⟩))
  generalize VaR (.tuple #[.iface T x, .int .i64 0]) w = R at *
  have B0 := hide (below_new w (.cells #[.nilIface, .nilIface] 134))
  clear hT
  go_enter Tryd.func96, Tryd.ntmps96
  go_wp2
  (first | go_ret2 | go_ret | skip)
  exact unhide FN _ _ rfl (by first | exact unhide B0 | exact Below.refl _ _)
set_option maxHeartbeats 2000000 in
theorem cutN_mis (t u : TypeId) (x y : Value) (hu : u ≠ 88) (w : World) : Calls Tryd.prog 96 #[.iface 134 (.agg #[.iface t x, .iface u y])] w (VaR (.tuple #[.iface 134 (.agg #[.iface t x, .iface u y]), .int .i64 0]) w) := by
  have t1 := taY_add (.agg #[.iface t x, .iface u y])
  have t2 := taN_num u y hu
  have FN := hide (fun r w' (h : r = .returned (.tuple #[.iface 134 (.agg #[.iface t x, .iface u y]), .int .i64 0])) (hb : Below w.heap.size w w') => (show VaR _ w r w' from ⟨h, hb⟩))
  generalize VaR (.tuple #[.iface 134 (.agg #[.iface t x, .iface u y]), .int .i64 0]) w = R at *
  clear hu
  go_enter Tryd.func96, Tryd.ntmps96
  go_wp2
  (first | go_ret2 | go_ret | skip)
  exact unhide FN _ _ rfl (by first | exact Below.refl _ _ | exact (Below.refl _ _).alloc (Nat.le_refl _) _ | exact ((Below.refl _ _).alloc (Nat.le_refl _) _).alloc (by simp) _)
theorem two_resG (w : World) (o o2 : Obj) : Below w.heap.size w ((w.alloc o).alloc o2) ∧ ((w.alloc o).alloc o2).heap[w.heap.size]? = some o ∧ ((w.alloc o).alloc o2).heap[w.heap.size + 1]? = some o2 := by
  have h1 : (w.alloc o).heap.size = w.heap.size + 1 := by simp
  refine ⟨((Below.refl _ _).alloc (Nat.le_refl _) _).alloc (by simp) _, row_keep (heap_alloc_new w _) (below_new _ _), ?_⟩
  rw [← h1]
  exact Array.getElem?_push_size
theorem below_dr {w w' : World} (h : Below w.heap.size w w') : Below w.heap.size w w'.drew := h.trans (below_drew.mono h.size)
set_option maxHeartbeats 2000000 in
theorem cutN_yes (t : TypeId) (x : Value) (n : Int) (w : World) : Calls Tryd.prog 96 #[.iface 134 (.agg #[.iface t x, .iface 88 (.agg #[.int .i64 n])])] w (VaR (.tuple #[.iface t x, .int .i64 n]) w) := by
  have t1 := taY_add (.agg #[.iface t x, .iface 88 (.agg #[.int .i64 n])])
  have t2 := taY_num (.agg #[.int .i64 n])
  have FN := hide (fun r w' (h : r = .returned (.tuple #[.iface t x, .int .i64 n])) (hb : Below w.heap.size w w') => (show VaR _ w r w' from ⟨h, hb⟩))
  generalize VaR (.tuple #[.iface t x, .int .i64 n]) w = R at *
  have T := hide (two_resG w (.cells #[.iface t x, .iface 88 (.agg #[.int .i64 n])] 134) (.cells #[.int .i64 n] 88))
  go_enter Tryd.func96, Tryd.ntmps96
  go_wp2
  generalize (w.alloc (.cells #[.iface t x, .iface 88 (.agg #[.int .i64 n])] 134)).alloc (.cells #[.int .i64 n] 88) = W at *
  have c0 := Lib.cell_of_heap (unhide T).2.1 0
  have c1 := Lib.cell_of_heap (unhide T).2.2 0
  go_region
  go_wp2
  (first | go_ret2 | go_ret | skip)
  exact unhide FN _ _ rfl (below_dr (unhide T).1)
theorem cutI_any {d : Nat} {a : Ex} (h : okF (d + 1) false a = true) (w : World) : Calls Tryd.prog 96 #[tv a] w (VaR (.tuple #[tv (prtX a).1, .int .i64 (prtX a).2]) w) := by
  rcases prt_cases h with ⟨e, hc⟩ | ⟨b, m, hm, rfl, e, hb⟩
  · rw [e]
    by_cases h5 : a.k = 5
    · obtain ⟨k, n, s, l⟩ := a
      rcases ok_cases h with ⟨n', hn, e'⟩ | ⟨s', hs, e'⟩ | e' | ⟨a', ha, e'⟩ | ⟨k', a', b', hk, ha, hb, e'⟩ | ⟨n', hn, e'⟩ | ⟨s', hs, e'⟩
      · rw [e'] at h5; cases h5
      · rw [e'] at h5; cases h5
      · rw [e'] at h5; cases h5
      · rw [e'] at h5; cases h5
      · rw [e'] at h5 hc ⊢
        obtain rfl : k' = 5 := h5
        obtain ⟨c, rfl⟩ := ok_pos hb
        obtain ⟨t, x, e1⟩ := tv_if a'
        obtain ⟨u, y, e2, g1, _, _⟩ := tv_kT hb
        rw [tv_two hk, e1, e2]
        exact cutN_mis t u x y (g1 (fun q => hc ⟨rfl, q⟩)) w
      · rw [e'] at h5; cases h5
      · rw [e'] at h5; cases h5
    · obtain ⟨T, x, e1, _, _, g⟩ := tv_kT h
      rw [e1]
      exact cutN_no T x (g h5) w
  · rw [e, tv_two (by omega), tv_num]
    obtain ⟨t, x, e1⟩ := tv_if b
    rw [e1]
    exact cutN_yes t x m w
theorem prt_inG {d : Nat} {a : Ex} (h : okF (d + 1) false a = true) : 0 ≤ (prtX a).2 ∧ (prtX a).2 ≤ 65535 := by
  rcases prt_cases h with ⟨e, hc⟩ | ⟨b, m, hm, rfl, e, hb⟩
  · rw [e]; exact ⟨Int.le_refl _, by show (0 : Int) ≤ 65535; omega⟩
  · rw [e]; exact hm
set_option maxHeartbeats 2000000 in
theorem addI_any {d : Nat} {a : Ex} (h : okF (d + 1) false a = true) (n : Int) (hn : -65536 ≤ n ∧ n ≤ 65536) (w : World) : Calls Tryd.prog 89 #[tv a, .int .i64 n] w (VaR (tv (sumX a n)) w) := by
  have CU := hide (cutI_any h w)
  have hp := prt_inG h
  obtain ⟨t0, x0, e0⟩ := tv_if a
  obtain ⟨t, x, e1⟩ := tv_if (prtX a).1
  have E0 := hide (show wr (n + (prtX a).2) = 0 → tv (sumX a n) = .iface t x from fun hz => by unfold sumX addX; rw [if_pos (by rw [Int.add_comm]; exact hz), e1])
  have E1 := hide (show wr (n + (prtX a).2) ≠ 0 → tv (sumX a n) = .iface 134 (.agg #[.iface t x, .iface 88 (.agg #[.int .i64 (wr (n + (prtX a).2))])]) from fun hz => by
    unfold sumX addX numX
    rw [if_neg (by rw [Int.add_comm]; exact hz), tv_two (by omega), tv_num, e1, Int.add_comm]
    rfl)
  rw [e1, e0] at CU
  rw [e0]
  unfold wr at E0 E1
  have FN := hide (fun r w' (h : r = .returned (tv (sumX a n))) (hb : Below w.heap.size w w') => (show VaR _ w r w' from ⟨h, hb⟩))
  generalize tv (sumX a n) = V at *
  generalize VaR V w = R at *
  generalize (prtX a).2 = m at *
  unfold VaR at CU
  clear h e0 e1
  by_cases hz : (n + m) % 65536 = 0
  · have E := unhide E0 hz
    subst E
    have hz2 : ((n + m) % 65536 == 0) = true := beq_iff_eq.2 hz
    have hq := hz
    clear E0 E1 hz
    generalize hM : (n + m) % 65536 = M at *
    have HM := hide hM
    subst hq
    clear hM
    go_enter Tryd.func89, Tryd.ntmps89
    go_wp2_with (first | (go_at_call 96; refine (unhide CU).mono ?_; rintro r w1 ⟨rfl, hb1⟩; have B1 := hide hb1; clear hb1) | (go_at_call 75; refine (wrapI_any _ _).mono ?_; rintro e w' ⟨rfl, hw'⟩; rw [hw', unhide HM]; clear hw' w'))
    (first | go_ret2 | go_ret | skip)
    exact unhide FN _ _ rfl (unhide B1)
  · have E := unhide E1 hz
    subst E
    have hz2 : ((n + m) % 65536 == 0) = false := beq_eq_false_iff_ne.2 hz
    clear E0 E1 hz
    generalize hM : (n + m) % 65536 = M at *
    have HM := hide hM
    clear hM
    go_enter Tryd.func89, Tryd.ntmps89
    go_wp2_with (first | (go_at_call 96; refine (unhide CU).mono ?_; rintro r w1 ⟨rfl, hb1⟩; have B1 := hide hb1; clear hb1) | (go_at_call 75; refine (wrapI_any _ _).mono ?_; rintro e w' ⟨rfl, hw'⟩; rw [hw', unhide HM]; clear hw' w'))
    (first | go_ret2 | go_ret | skip)
    exact unhide FN _ _ rfl (unhide B1)
end Go.Proofs.YtkolflcjkofleaaDoor

namespace Go.Proofs.YtkolflcjkofleaaDoor
open Go.ChangeShapes Go.WideShapes Go.ChangeAt Go.RowKit
set_option linter.unusedVariables false
set_option maxRecDepth 8000
set_option linter.unusedSimpArgs false

theorem leaf_eq (d : Nat) (w : World) : (Op.equalIn (d + 1) 86 (.agg #[]) (.agg #[])).run Tryd.prog w = .ok true w := by
  rw [run_equalIn_struct w d 86 _ _ (by kernel_rfl) (by kernel_rfl), show (Tryd.prog.fieldsOf 86).toList = [] by kernel_rfl]
  rfl
theorem sect_eq (n m : Int) (w : World) : (Op.equalIn 10000 115 (.agg #[.int .i64 n]) (.agg #[.int .i64 m])).run Tryd.prog w = .ok (n == m) w := by
  rw [run_equalIn_struct w 9999 115 _ _ (by kernel_rfl) (by kernel_rfl)]
  have hf : (Tryd.prog.fieldsOf 115).toList.map (fun f => (f.name, f.type, f.offset)) = [("leaf", 86, 0), ("n", 3, 0)] := by kernel_rfl
  have hlen := congrArg List.length hf
  rw [List.length_map] at hlen
  generalize (Tryd.prog.fieldsOf 115).toList = fs at *
  match fs, hlen, hf with
  | [f0, f1], _, hf =>
    simp only [List.map_cons, List.map_nil, List.cons.injEq, Prod.mk.injEq] at hf
    obtain ⟨⟨n0, t0, o0⟩, ⟨n1, t1, o1⟩, _⟩ := hf
    have q0 : ∀ n : Int, (part 86 #[.int .i64 n] 0).run Tryd.prog w = .ok (.agg #[]) w := fun n => by kernel_rfl
    have q1 : ∀ n : Int, (part 3 #[.int .i64 n] 0).run Tryd.prog w = .ok (.int .i64 n) w := fun n => by kernel_rfl
    have s0 := leaf_eq 9998 w
    have s1 := run_equalIn_int w 9998 3 .i64 .i64 n m Tryd.underlying3
    simp only [Op.eqFields, n0, n1, t0, t1, o0, o1, Sem.run_bind, Sem.run_ite, q0, q1, Result.andThen_ok, s0, s1]
    cases n == m <;> simp
/-- Whether two count from one section. -/
def sApX (a b : Ex) : Bool := decide ((prtX a).1.k = 11 ∧ (prtX b).1.k = 11 ∧ (prtX a).1.n = (prtX b).1.n)
def ApR (n m : Int) (q : Bool) (w : World) (r : Ending) (w' : World) : Prop := r = .returned (.tuple #[.int .i64 (wr (n - m)), .bool q]) ∧ Below w.heap.size w w'
/-- Whether a value is a section of the program's, and which (0, where it is none). -/
def IsS (v : Value) (z : Int) (q : Bool) : Prop := ∀ w, (Instr.typeAssert v 66 115 true).run Tryd.prog w = .ok (.tuple #[.agg #[.int .i64 z], .bool q]) w
set_option maxHeartbeats 4000000 in
theorem ap_any (va vb : Value) (ta tb : TypeId) (xa xb : Value) (n m z1 z2 : Int) (q1 q2 : Bool) (i1 : IsS (.iface ta xa) z1 q1) (i2 : IsS (.iface tb xb) z2 q2) (hn : 0 ≤ n ∧ n ≤ 65535) (hm : 0 ≤ m ∧ m ≤ 65535) (w : World) (ca : ∀ w, Calls Tryd.prog 96 #[va] w (VaR (.tuple #[.iface ta xa, .int .i64 n]) w)) (cb : ∀ w, Calls Tryd.prog 96 #[vb] w (VaR (.tuple #[.iface tb xb, .int .i64 m]) w)) : Calls Tryd.prog 90 #[.agg #[va, vb]] w (ApR n m (q1 && (q2 && (z1 == z2))) w) := by
  have FN := hide (fun r w' (h : r = .returned (.tuple #[.int .i64 (wr (n - m)), .bool (q1 && (q2 && (z1 == z2)))])) (hb : Below w.heap.size w w') => (show ApR n m (q1 && (q2 && (z1 == z2))) w r w' from ⟨h, hb⟩))
  generalize ApR n m (q1 && (q2 && (z1 == z2))) w = R at *
  have CA := hide ca
  have CB := hide cb
  unfold VaR at CA CB
  unfold wr at FN
  unfold IsS at i1 i2
  have B0 := hide (below_new w (.cells #[va, vb] 107))
  have G0 := hide (show (w.alloc (.cells #[va, vb] 107)).heap[w.heap.size]? = some (.cells #[va, vb] 107 (0, 0)) from Array.getElem?_push_size)
  have eqs := sect_eq z1 z2
  clear ca cb
  cases q1 <;> cases q2
  all_goals
    simp only [Bool.false_and, Bool.true_and] at FN
    go_enter Tryd.func90, Tryd.ntmps90
    go_wp2_with fail
    generalize w.alloc (.cells #[va, vb] 107) = W at *
    refine (unhide CA _).mono ?_
    rintro r w1 ⟨rfl, hb1⟩
    have B1 := hide ((unhide B0).trans (hb1.mono (unhide B0).size))
    have c1 := Lib.cell_of_heap (row_keep (unhide G0) hb1) 1
    clear hb1 B0 G0 CA
    go_wp2_with fail
    clear c1
    refine (unhide CB _).mono ?_
    rintro r w2 ⟨rfl, hb2⟩
    have B2 := hide ((unhide B1).trans (hb2.mono (unhide B1).size))
    clear hb2 B1 CB
    go_wp2_with fail
    have T := two_resG w2 (.cells #[.int .i64 z1] 115) (.cells #[.int .i64 z2] 115)
    have B3 := hide ((unhide B2).trans (T.1.mono (unhide B2).size))
    generalize w2.heap.size = g2 at *
    generalize (w2.alloc (.cells #[.int .i64 z1] 115)).alloc (.cells #[.int .i64 z2] 115) = V at *
    have y0 : ∀ y : Sub V.heap.size V, y.w.cell? ⟨g2, 0, none⟩ = some (.int .i64 z1) := fun y => (y.h.cell (p := ⟨g2, 0, none⟩) (Array.getElem?_eq_some_iff.1 T.2.1).1).trans (Lib.cell_of_heap T.2.1 0)
    have y1 : ∀ y : Sub V.heap.size V, y.w.cell? ⟨g2 + 1, 0, none⟩ = some (.int .i64 z2) := fun y => (y.h.cell (p := ⟨g2 + 1, 0, none⟩) (Array.getElem?_eq_some_iff.1 T.2.2).1).trans (Lib.cell_of_heap T.2.2 0)
    have ne := Sub.ne V.heap.size V
    have HB := hide (fun y : Sub V.heap.size V => (unhide B3).trans (y.h.mono (unhide B3).size))
    clear T B2 B3
    refine wp_region_sub (⟨V, Below.refl _ _⟩ : Sub V.heap.size V) (by kernel_rfl) (by kernel_rfl) ?_
    (repeat (go_big_quiet_step (first | (go_at_call 75; exact Sub.same (wrapI_any _ _)))))
    refine wpQuiet_nil ?_
    intro y
    go_wp2
    (first | go_ret2 | go_ret | skip)
    exact unhide FN _ _ rfl (unhide HB _)
theorem apI_any {d : Nat} {a b : Ex} (ha : okF (d + 1) false a = true) (hb : okF (d + 1) false b = true) (w : World) : Calls Tryd.prog 90 #[.agg #[tv a, tv b]] w (ApR (prtX a).2 (prtX b).2 (sApX a b) w) := by
  have ca := fun w => cutI_any ha w
  have cb := fun w => cutI_any hb w
  obtain ⟨da, oa⟩ := prt_ok ha
  obtain ⟨db, ob⟩ := prt_ok hb
  have ia := prt_inG ha
  have ib := prt_inG hb
  unfold sApX
  generalize (prtX a).2 = n at *
  generalize (prtX b).2 = m at *
  generalize (prtX a).1 = x at *
  generalize (prtX b).1 = y at *
  have IS : ∀ {d : Nat} {x : Ex}, okF (d + 1) false x = true → (x.k = 11 ∧ IsS (tv x) x.n true) ∨ (x.k ≠ 11 ∧ IsS (tv x) 0 false) := by
    intro d x h
    by_cases h1 : x.k = 11
    · obtain ⟨p, hp, rfl⟩ := ok_k11 h h1
      left
      rw [tv_sect]
      exact ⟨rfl, fun w => taY_sect _ w⟩
    · right
      obtain ⟨T, v, e, _, g, _⟩ := tv_kT h
      rw [e]
      exact ⟨h1, fun w => taN_sect T v (g h1) w⟩
  have I1 := IS oa
  have I2 := IS ob
  obtain ⟨ta, xa, e1⟩ := tv_if x
  obtain ⟨tb, xb, e2⟩ := tv_if y
  rw [e1] at ca I1
  rw [e2] at cb I2
  rcases I1 with ⟨h1, i1⟩ | ⟨h1, i1⟩
  · rcases I2 with ⟨h2, i2⟩ | ⟨h2, i2⟩
    · rw [show decide (x.k = 11 ∧ y.k = 11 ∧ x.n = y.n) = (true && (true && (x.n == y.n))) by rw [h1, h2]; simp; rfl]
      exact ap_any _ _ ta tb xa xb n m _ _ true true i1 i2 ia ib w ca cb
    · rw [decide_eq_false (fun h => h2 h.2.1)]
      exact ap_any _ _ ta tb xa xb n m _ _ true false i1 i2 ia ib w ca cb
  · rw [decide_eq_false (fun h => h1 h.1)]
    rcases I2 with ⟨h2, i2⟩ | ⟨h2, i2⟩
    · exact ap_any _ _ ta tb xa xb n m _ _ false true i1 i2 ia ib w ca cb
    · exact ap_any _ _ ta tb xa xb n m _ _ false false i1 i2 ia ib w ca cb
set_option maxHeartbeats 2000000 in
theorem negI_num (n : Int) (hn : 0 ≤ n ∧ n ≤ 65535) (w : World) : Calls Tryd.prog 72 #[.iface 88 (.agg #[.int .i64 n])] w (VaR (.iface 88 (.agg #[.int .i64 (wr (-n))])) w) := by
  have t1 := taY_num (.agg #[.int .i64 n])
  have FN := hide (fun r w' (h : r = .returned (.iface 88 (.agg #[.int .i64 (wr (-n))]))) (hb : Below w.heap.size w w') => (show VaR _ w r w' from ⟨h, hb⟩))
  generalize VaR (.iface 88 (.agg #[.int .i64 (wr (-n))])) w = R at *
  unfold wr at FN
  go_enter Tryd.func72, Tryd.ntmps72
  go_wp2_with (go_at_call 75; refine (wrapI_any _ _).mono ?_; rintro e w0 ⟨rfl, hw0⟩; rw [hw0]; clear hw0 w0)
  (first | go_ret2 | go_ret | skip)
  exact unhide FN _ _ rfl (by first | exact Below.refl _ _ | exact below_new w _ | exact ((Below.refl _ _).alloc (Nat.le_refl _) _).alloc (by simp) _)
set_option maxHeartbeats 2000000 in
theorem negI_oth (t : TypeId) (x : Value) (ht : t ≠ 88) (w : World) : Calls Tryd.prog 72 #[.iface t x] w (VaR (.iface 104 (.agg #[.iface t x])) w) := by
  have t1 := taN_num t x ht
  have FN := hide (fun r w' (h : r = .returned (.iface 104 (.agg #[.iface t x]))) (hb : Below w.heap.size w w') => (show VaR _ w r w' from ⟨h, hb⟩))
  generalize VaR (.iface 104 (.agg #[.iface t x])) w = R at *
  clear ht
  go_enter Tryd.func72, Tryd.ntmps72
  go_wp2
  (first | go_ret2 | go_ret | skip)
  exact unhide FN _ _ rfl (by first | exact Below.refl _ _ | exact below_new w _ | exact ((Below.refl _ _).alloc (Nat.le_refl _) _).alloc (by simp) _)
theorem negI_any {d : Nat} {a : Ex} (h : okF (d + 1) false a = true) (w : World) : Calls Tryd.prog 72 #[tv a] w (VaR (tv (negX a)) w) := by
  unfold negX
  by_cases h1 : a.k = 1
  · obtain ⟨n, hn, rfl⟩ := ok_k1 h h1
    rw [if_pos h1, tv_num]
    unfold numX
    rw [tv_num]
    exact negI_num n hn w
  · obtain ⟨T, x, e, g, _, _⟩ := tv_kT h
    rw [if_neg h1, tv_neg, e]
    exact negI_oth T x (g h1) w
end Go.Proofs.YtkolflcjkofleaaDoor
