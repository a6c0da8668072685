/- Contracts over this seat's translation, laid together; conditions stand as hypotheses of each. -/
import Derived.Test.YtkolflcjkofleaaDoorTxA
import Derived.Test.YtkolflcjkofleaaDoorTxB
import Derived.Test.YtkolflcjkofleaaDoorTxD
import Derived.Test.YtkolflcjkofleaaDoorTxF
import Derived.Test.YtkolflcjkofleaaDoorTxG
import Derived.Test.YtkolflcjkofleaaDoorTxH
import Derived.SliceStrings

namespace Go.Proofs.YtkolflcjkofleaaDoor
open Go.ChangeShapes Go.WideShapes Go.ChangeAt Go.RowKit
set_option linter.unusedVariables false
set_option maxRecDepth 8000
set_option linter.unusedSimpArgs false

/-- While a term is drawn and bent: the answer's block, the term's box, its parts, the cursor. -/
structure Ey (w wr : World) (cb g : Nat) (a : Option Addr) (len cap : Nat) (xs : List UInt8) (e : Ex) (c : Option Addr) (cp : Nat) : Prop where
  res : wr.heap[w.heap.size]? = some (.cells E0x 26 (0, 0))
  box : wr.heap[g]? = some (.cells (e.cs c cp) 26 (0, 0))
  dz : Dz w wr cb a len cap xs
  lt : w.heap.size < g
  own : ∃ F, OwX wr e c F ∧ F.Nodup ∧ ∀ b ∈ F, w.heap.size + 1 ≤ b ∧ b ≠ g
section
variable {w wr w' : World} {cb g : Nat} {a : Option Addr} {len cap : Nat} {xs : List UInt8} {e : Ex} {c : Option Addr} {cp : Nat}
theorem Ey.draw (h : Ey w wr cb g a len cap xs e c cp) (hc : Cur w' cb a len cap xs) (hg : wr.grownBy w' (some cb)) : Ey w w' cb g a len cap xs e c cp := by
  have hl := h.dz.lt
  refine ⟨h.dz.blk hg h.res (Nat.le_refl _), h.dz.blk hg h.box (Nat.le_of_lt h.lt), h.dz.draw hc hg, h.lt, ?_⟩
  obtain ⟨F, h1, h2, h3⟩ := h.own
  exact ⟨F, OwX.keep e c F (fun b hF => hg.block b (OwX.lt e c F h1 b hF) (fun e => by have := (h3 b hF).1; simp at e; omega)) h1, h2, h3⟩
theorem Ey.cells (h : Ey w wr cb g a len cap xs e c cp) : wr.cell? ⟨g, 0, none⟩ = some (.int .i64 e.k) ∧ wr.cell? ⟨g, 1, none⟩ = some (.int .i64 e.n) ∧ wr.cell? ⟨g, 2, none⟩ = some (.string e.s) ∧ wr.cell? ⟨g, 3, none⟩ = some (.slice c e.l.length cp) := ⟨Lib.cell_of_heap h.box 0, Lib.cell_of_heap h.box 1, Lib.cell_of_heap h.box 2, Lib.cell_of_heap h.box 3⟩
theorem Ey.frz (h : Ey w wr cb g a len cap xs e c cp) (j : Nat) : wr.frozen? ⟨g, j, none⟩ = false := by simp [World.frozen?, h.box]
theorem Ey.dzset (h : Ey w wr cb g a len cap xs e c cp) (j : Nat) (v : Value) : Dz w (wr.setCell ⟨g, j, none⟩ v) cb a len cap xs := h.dz.own (grownBy_set (b := g) (o := j) v) (fun k e => by cases e; exact Nat.le_of_lt h.lt)
theorem Ey.resset (h : Ey w wr cb g a len cap xs e c cp) (j : Nat) (v : Value) : (wr.setCell ⟨g, j, none⟩ v).heap[w.heap.size]? = some (.cells E0x 26 (0, 0)) := (heap_setCell_other wr ⟨g, j, none⟩ _ v (by have := h.lt; simp; omega)).trans h.res
theorem ow_l {w : World} {e f : Ex} {c : Option Addr} {F : List Nat} (h : OwX w e c F) (hl : e.l = f.l) : OwX w f c F := by
  rw [OwX_eq] at h ⊢
  rw [← hl]
  exact h
theorem Ey.ownset (h : Ey w wr cb g a len cap xs e c cp) (j : Nat) (v : Value) (f : Ex) (hl : e.l = f.l) : ∃ F, OwX (wr.setCell ⟨g, j, none⟩ v) f c F ∧ F.Nodup ∧ ∀ b ∈ F, w.heap.size + 1 ≤ b ∧ b ≠ g := by
  obtain ⟨F, h1, h2, h3⟩ := h.own
  exact ⟨F, ow_l (OwX.keep e c F (fun b hF => heap_setCell_other wr ⟨g, j, none⟩ b v (h3 b hF).2) h1) hl, h2, h3⟩
theorem Ey.setK (h : Ey w wr cb g a len cap xs e c cp) (y : Int) : Ey w (wr.setCell ⟨g, 0, none⟩ (.int .i64 y)) cb g a len cap xs ⟨y, e.n, e.s, e.l⟩ c cp :=
  ⟨h.resset _ _, heap_setCell_same wr g 0 _ _ _ h.box, h.dzset _ _, h.lt, h.ownset _ _ _ rfl⟩
theorem Ey.setN (h : Ey w wr cb g a len cap xs e c cp) (y : Int) : Ey w (wr.setCell ⟨g, 1, none⟩ (.int .i64 y)) cb g a len cap xs ⟨e.k, y, e.s, e.l⟩ c cp :=
  ⟨h.resset _ _, heap_setCell_same wr g 1 _ _ _ h.box, h.dzset _ _, h.lt, h.ownset _ _ _ rfl⟩
theorem Ey.setS (h : Ey w wr cb g a len cap xs e c cp) (y : ByteArray) : Ey w (wr.setCell ⟨g, 2, none⟩ (.string y)) cb g a len cap xs ⟨e.k, e.n, y, e.l⟩ c cp :=
  ⟨h.resset _ _, heap_setCell_same wr g 2 _ _ _ h.box, h.dzset _ _, h.lt, h.ownset _ _ _ rfl⟩
theorem Ey.later (h : Ey w wr cb g a len cap xs e c cp) (hb : Below wr.heap.size wr w') : Ey w w' cb g a len cap xs e c cp := h.draw (h.dz.cur.later hb) (grownBy_below hb)
/-- The term becomes a part of a new one. -/
theorem Ey.wrap (h : Ey w wr cb g a len cap xs e c cp) : Ey w ((wr.alloc (.cells #[.int .i64 e.k, .int .i64 e.n, .string e.s, .slice c e.l.length cp] 26)).setRow g #[.int .i64 4, .int .i64 0, .string ⟨#[]⟩, .slice (some ⟨wr.heap.size, 0, none⟩) 1 1]) cb g a len cap xs ⟨4, 0, ⟨#[]⟩, [e]⟩ (some ⟨wr.heap.size, 0, none⟩) 1 := by
  have hb := below_new wr (.cells #[.int .i64 e.k, .int .i64 e.n, .string e.s, .slice c e.l.length cp] 26)
  have h' := h.later hb
  have hlt := (Array.getElem?_eq_some_iff.1 h.box).1
  have hl := h.lt
  refine ⟨(setRow_other _ _ _ _ (by omega)).trans h'.res, setRow_heap _ _ _ _ _ _ h'.box, h'.dz.own (grownBy_row _) (fun k e => by cases e; omega), hl, ?_⟩
  obtain ⟨F, h1, h2, h3⟩ := h.own
  have hF := OwX.lt e c F h1
  refine ⟨wr.heap.size :: F, ?_, List.nodup_cons.2 ⟨fun h => by have := hF _ h; omega, h2⟩, fun b hb => ?_⟩
  · refine (OwX_eq _ _ _ _).2 (.inr ⟨wr.heap.size, #[.int .i64 e.k, .int .i64 e.n, .string e.s, .slice c e.l.length cp], 26, [F], rfl, (setRow_other _ _ _ _ (by omega)).trans Array.getElem?_push_size, by simp, rfl, by simp, fun i hi => ?_⟩)
    have hi : i < 1 := hi
    obtain rfl : i = 0 := by omega
    exact ⟨rfl, rfl, rfl, c, cp, rfl, OwX.keep e c F (fun b hb => setRow_other _ _ _ _ (h3 b hb).2) (OwX.later h1 hb)⟩
  · rcases List.mem_cons.1 hb with rfl | hb
    · omega
    · exact h3 b hb
theorem Ey.new (h : Ey w wr cb g a len cap xs e c cp) (cs : Array Value) : NewX (wr.setRow w.heap.size cs) w.heap.size e c := by
  obtain ⟨F, h1, h2, h3⟩ := h.own
  exact ⟨F, OwX.keep e c F (fun b hb => setRow_other _ _ _ _ (by have := (h3 b hb).1; omega)) h1, h2, fun b hb => Nat.le_of_succ_le (h3 b hb).1⟩
theorem Ey.start (hd : Dz w wr cb a len cap xs) (hr : wr.heap[w.heap.size]? = some (.cells E0x 26 (0, 0))) (hn : NewX wr (w.heap.size + 1) e c) : Ey w (wr.alloc (.cells (e.cs c cp) 26)) cb wr.heap.size a len cap xs e c cp := by
  have hb := below_new wr (.cells (e.cs c cp) 26)
  obtain ⟨F, h1, h2, h3⟩ := hn
  exact ⟨(hb.block _ (Array.getElem?_eq_some_iff.1 hr).1).trans hr, Array.getElem?_push_size, hd.later hb, (Array.getElem?_eq_some_iff.1 hr).1, F, OwX.later h1 hb, h2, fun b hb => ⟨h3 b hb, by have := OwX.lt e c F h1 b hb; omega⟩⟩
end
theorem sz_k (e : Ex) (y z : Int) : (Ex.mk y z e.s e.l).sz = e.sz := by obtain ⟨k, n, s, l⟩ := e; simp only [Ex.sz_eq]
theorem sz_s (e : Ex) (y : ByteArray) : (Ex.mk e.k e.n y e.l).sz ≤ y.size + e.sz := by obtain ⟨k, n, s, l⟩ := e; simp only [Ex.sz_eq]; omega
def L10c : List ByteArray := [⟨#[]⟩, ⟨#[97]⟩, ⟨#[109, 111, 118]⟩, ⟨#[65]⟩]
theorem sz10c : ∀ j : Fin 4, (L10c.getD j.val E0).size ≤ 3 := by decide +kernel
set_option maxHeartbeats 8000000 in
theorem anyD (cb : Nat) (a : Option Addr) (len cap : Nat) (xs : List UInt8) (w : World) (hc : Cur w cb a len cap xs) : Calls Tryd.prog 43 #[.pointer (some ⟨cb, 0, none⟩)] w (DrX 31 cb a len cap xs w) := by
  have D0 := hide ((dz_new hc).later (below_new w (.cells E0x 26)))
  have R0 := hide (heap_alloc_new w (.cells E0x 26))
  have hZ0 : w.heap.size < (w.alloc (.cells E0x 26)).heap.size := by simp
  unfold DrX
  unfold E0x at D0 R0 hZ0
  clear hc
  go_enter Tryd.func43, Tryd.ntmps43
  go_wp2_with fail
  generalize w.alloc (Obj.cells #[.int .i64 0, .int .i64 0, .string ⟨#[]⟩, .slice none 0 0] 26) = W at *
  refine (once_any cb a len cap xs 2 W (by omega) (unhide D0).cur).mono ?_
  rintro e w1 ⟨q, rfl, hc1, hg1⟩
  have D1 := hide ((unhide D0).draw hc1 hg1)
  have R1 := hide ((unhide D0).blk hg1 (unhide R0) (Nat.le_refl _))
  have hZ1 : w.heap.size < w1.heap.size := Nat.lt_of_lt_of_le hZ0 hg1.size
  have DX := hide (drawX3 3 rfl q cb a len cap xs w1 hc1)
  clear hc1 hg1 D0 R0 hZ0
  go_wp2_with fail
  refine (unhide DX).mono ?_
  rintro e w2 ⟨x, c, cp, rfl, hsx, hnx, hc2, hg2⟩
  have hsx : x.sz ≤ 22 := hsx
  have EY0 := hide (Ey.start (cp := cp) ((unhide D1).draw hc2 hg2) ((unhide D1).blk hg2 (unhide R1) (Nat.le_refl _)) (hnx.lower hZ1))
  obtain ⟨g, hg⟩ : ∃ g, w2.heap.size = g := ⟨_, rfl⟩
  clear hnx hc2 hg2 D1 R1 DX
  unfold Ex.cs
  unfold Ex.cs at EY0
  obtain ⟨W3, hW3⟩ : ∃ W3, w2.alloc (.cells #[.int .i64 x.k, .int .i64 x.n, .string x.s, .slice c x.l.length cp] 26) = W3 := ⟨_, rfl⟩
  rw [hW3] at EY0
  rw [hg] at EY0
  go_wp2_with fail
  refine (below_any cb a len cap xs 14 W3 (by omega) (unhide EY0).dz.cur).mono ?_
  rintro e w4 ⟨i, hx0, hx1, rfl, hc4, hg4⟩
  obtain ⟨hx2, hx3⟩ := hx0 (by omega)
  have EY := hide ((unhide EY0).draw hc4 hg4)
  clear hx0 hx1 hc4 hg4 EY0 hW3
  have h5 : i = 0 ∨ i = 1 ∨ i = 2 ∨ i = 3 ∨ 4 ≤ i := by omega
  have hcl := (unhide EY).dz.cur.lt
  rcases h5 with rfl | rfl | rfl | rfl | h5
  · have BL := hide (below_any cb a len cap xs 14 w4 (by omega) (unhide EY).dz.cur)
    go_wp2_with fail
    refine (unhide BL).mono ?_
    rintro e w5 ⟨y, _, _, rfl, hc5, hg5⟩
    have EX := hide ((unhide EY).draw hc5 hg5)
    have EZ := hide ((unhide EX).setK y)
    have f0 := (unhide EX).frz 0
    obtain ⟨x0, x1, x2, x3⟩ := (unhide EX).cells
    clear hc5 hg5 BL EY
    have RR := hide ((unhide EZ).res)
    unfold E0x at RR
    have hlg := (unhide EZ).lt
    have HSZ := hide (show Ex.sz ⟨y, x.n, x.s, x.l⟩ ≤ 31 from by rw [sz_k]; omega)
    go_wp2_with (refine wpList_store_row rfl 26 _ _ rfl w.heap.size #[.int .i64 y, .int .i64 x.n, .string x.s, .slice c x.l.length cp] rfl rfl 26 _ (unhide RR) szE rfl (ex_one _ _ _ _ _ _) ?_)
    refine bodyPost_ret (results_cell_row (P := Tryd.prog) rfl _ _ w.heap.size 26 #[.int .i64 y, .int .i64 x.n, .string x.s, .slice c x.l.length cp] (0, 0) _ rfl (setRow_heap _ _ _ _ _ _ (unhide RR)) Tryd.underlying26 rfl szE) rfl ?_
    exact ⟨⟨y, x.n, x.s, x.l⟩, c, cp, rfl, unhide HSZ, (unhide EZ).new _, ((unhide EZ).dz.row _).cur, ((unhide EZ).dz.row _).gr⟩
  · have I1 := hide (int_any cb a len cap xs (some ⟨w4.heap.size, 0, none⟩) 3 3 [-1, 1, 65536] (w4.alloc (.cells ([-1, 1, 65536].map (Value.int .i64)).toArray 3)) ((unhide EY).dz.cur.later ((Below.refl _ _).alloc (Nat.le_refl _) _)) (RdN_lit w4 _) (fun ad e => by cases e; show w4.heap.size ≠ cb; omega) rfl (by omega) (by omega))
    have G1 := hide (World.grownBy_alloc w4 (.cells ([-1, 1, 65536].map (Value.int .i64)).toArray 3) (some cb))
    go_wp2_with fail
    refine (unhide I1).mono ?_
    rintro e w5 ⟨j, hj, rfl, hc5, hg5⟩
    have EX := hide ((unhide EY).draw hc5 (grownBy_trans (unhide G1) hg5))
    generalize nAt [-1, 1, 65536] j = y at *
    have EZ := hide ((unhide EX).setN y)
    have f0 := (unhide EX).frz 1
    obtain ⟨x0, x1, x2, x3⟩ := (unhide EX).cells
    clear hc5 hg5 I1 G1 EY
    have RR := hide ((unhide EZ).res)
    unfold E0x at RR
    have hlg := (unhide EZ).lt
    have HSZ := hide (show Ex.sz ⟨x.k, y, x.s, x.l⟩ ≤ 31 from by rw [sz_k]; omega)
    go_wp2_with (refine wpList_store_row rfl 26 _ _ rfl w.heap.size #[.int .i64 x.k, .int .i64 y, .string x.s, .slice c x.l.length cp] rfl rfl 26 _ (unhide RR) szE rfl (ex_one _ _ _ _ _ _) ?_)
    refine bodyPost_ret (results_cell_row (P := Tryd.prog) rfl _ _ w.heap.size 26 #[.int .i64 x.k, .int .i64 y, .string x.s, .slice c x.l.length cp] (0, 0) _ rfl (setRow_heap _ _ _ _ _ _ (unhide RR)) Tryd.underlying26 rfl szE) rfl ?_
    exact ⟨⟨x.k, y, x.s, x.l⟩, c, cp, rfl, unhide HSZ, (unhide EZ).new _, ((unhide EZ).dz.row _).cur, ((unhide EZ).dz.row _).gr⟩
  · have S1 := hide (strD L10c 4 cb a len cap xs w4 rfl (by omega) (by omega) (unhide EY).dz.cur)
    go_wp2_with fail
    refine (unhide S1).mono ?_
    rintro e w5 ⟨j, hj, rfl, hc5, hg5⟩
    have EX := hide ((unhide EY).draw hc5 hg5)
    have OK := hide (sz10c ⟨j, hj⟩)
    simp only at OK
    generalize L10c.getD j E0 = y at *
    have EZ := hide ((unhide EX).setS y)
    have f0 := (unhide EX).frz 2
    obtain ⟨x0, x1, x2, x3⟩ := (unhide EX).cells
    clear hc5 hg5 S1 EY
    have RR := hide ((unhide EZ).res)
    unfold E0x at RR
    have hlg := (unhide EZ).lt
    have HSZ := hide (show Ex.sz ⟨x.k, x.n, y, x.l⟩ ≤ 31 from by have := sz_s x y; have := unhide OK; omega)
    go_wp2_with (refine wpList_store_row rfl 26 _ _ rfl w.heap.size #[.int .i64 x.k, .int .i64 x.n, .string y, .slice c x.l.length cp] rfl rfl 26 _ (unhide RR) szE rfl (ex_one _ _ _ _ _ _) ?_)
    refine bodyPost_ret (results_cell_row (P := Tryd.prog) rfl _ _ w.heap.size 26 #[.int .i64 x.k, .int .i64 x.n, .string y, .slice c x.l.length cp] (0, 0) _ rfl (setRow_heap _ _ _ _ _ _ (unhide RR)) Tryd.underlying26 rfl szE) rfl ?_
    exact ⟨⟨x.k, x.n, y, x.l⟩, c, cp, rfl, unhide HSZ, (unhide EZ).new _, ((unhide EZ).dz.row _).cur, ((unhide EZ).dz.row _).gr⟩
  · have BL := hide (below_any cb a len cap xs 7 w4 (by omega) (unhide EY).dz.cur)
    go_wp2_with fail
    refine (unhide BL).mono ?_
    rintro e w5 ⟨y, hy0, _, rfl, hc5, hg5⟩
    obtain ⟨hy2, hy3⟩ := hy0 (by omega)
    obtain ⟨j, rfl⟩ := Int.eq_ofNat_of_zero_le hy2
    have EX := hide ((unhide EY).draw hc5 hg5)
    have hj : j ≤ 6 := by omega
    have hxj : x.sz + j ≤ 28 := by omega
    clear hc5 hg5 BL EY hy0 hy2 hy3
    go_wp2
    go_loopw [4] (fun i wr => ∃ (m : Nat) (e : Ex) (c : Option Addr) (cp : Nat), i = .int .i64 m ∧ e.sz + m ≤ 28 ∧ Ey w wr cb g a len cap xs e c cp) (fun i _ => (intOf i).toNat)
    case atStart => exact ⟨j, x, c, cp, rfl, hxj, unhide EX⟩
    case round =>
      clear EX hj hxj hsx
      obtain ⟨m, v, d, dp, rfl, hm, hy⟩ := hrel
      have EZ := hide hy
      obtain ⟨x0, x1, x2, x3⟩ := hy.cells
      clear hy
      by_cases h0 : 0 < m
      · have hp : (0 : Int) < (m : Int) := by omega
        have EB := hide ((unhide EZ).later (below_new wr (.cells #[.int .i64 v.k, .int .i64 v.n, .string v.s, .slice d v.l.length dp] 26))).box
        have EW := hide (unhide EZ).wrap
        unfold Ex.cs at EB
        have hlg := (unhide EZ).lt
        go_wp2_with (refine wpList_store_row rfl 26 _ _ rfl g #[.int .i64 4, .int .i64 0, .string ⟨#[]⟩, .slice (some ⟨wr.heap.size, 0, none⟩) 1 1] rfl rfl 26 _ (unhide EB) szE rfl (ex_one _ _ _ _ _ _) ?_)
        go_roundw
        case rel => exact ⟨m - 1, _, _, _, by go_num, by rw [sz_one]; omega, unhide EW⟩
        case measure => simp [intOf]; omega
      · obtain rfl : m = 0 := by omega
        have RR := hide ((unhide EZ).res)
        unfold E0x at RR
        have hlg := (unhide EZ).lt
        have HSZ := hide (show Ex.sz v ≤ 31 from by omega)
        go_wp2_with (refine wpList_store_row rfl 26 _ _ rfl w.heap.size #[.int .i64 v.k, .int .i64 v.n, .string v.s, .slice d v.l.length dp] rfl rfl 26 _ (unhide RR) szE rfl (ex_one _ _ _ _ _ _) ?_)
        refine bodyPost_ret (results_cell_row (P := Tryd.prog) rfl _ _ w.heap.size 26 #[.int .i64 v.k, .int .i64 v.n, .string v.s, .slice d v.l.length dp] (0, 0) _ rfl (setRow_heap _ _ _ _ _ _ (unhide RR)) Tryd.underlying26 rfl szE) rfl ?_
        exact ⟨v, d, dp, rfl, unhide HSZ, (unhide EZ).new _, ((unhide EZ).dz.row _).cur, ((unhide EZ).dz.row _).gr⟩
  · have h0 : ¬ i = 0 := by omega
    have h1 : ¬ i = 1 := by omega
    have h2 : ¬ i = 2 := by omega
    have h3 : ¬ i = 3 := by omega
    have EZ := hide (unhide EY)
    obtain ⟨x0, x1, x2, x3⟩ := (unhide EZ).cells
    clear EY
    have RR := hide ((unhide EZ).res)
    unfold E0x at RR
    have hlg := (unhide EZ).lt
    have HSZ := hide (show Ex.sz x ≤ 31 from by omega)
    go_wp2_with (refine wpList_store_row rfl 26 _ _ rfl w.heap.size #[.int .i64 x.k, .int .i64 x.n, .string x.s, .slice c x.l.length cp] rfl rfl 26 _ (unhide RR) szE rfl (ex_one _ _ _ _ _ _) ?_)
    refine bodyPost_ret (results_cell_row (P := Tryd.prog) rfl _ _ w.heap.size 26 #[.int .i64 x.k, .int .i64 x.n, .string x.s, .slice c x.l.length cp] (0, 0) _ rfl (setRow_heap _ _ _ _ _ _ (unhide RR)) Tryd.underlying26 rfl szE) rfl ?_
    exact ⟨x, c, cp, rfl, unhide HSZ, (unhide EZ).new _, ((unhide EZ).dz.row _).cur, ((unhide EZ).dz.row _).gr⟩
end Go.Proofs.YtkolflcjkofleaaDoor

namespace Go.Proofs.YtkolflcjkofleaaDoor
open Go.ChangeShapes Go.WideShapes Go.ChangeAt Go.RowKit
set_option linter.unusedVariables false
set_option maxRecDepth 8000
set_option linter.unusedSimpArgs false

theorem ct_szF (e : Ex) : e.ct ≤ e.sz := by
  induction e using Ex.ind with
  | h k n s l ih =>
    rw [Ex.ct, Ex.sz_eq]
    have : (l.map Ex.ct).sum ≤ (l.map Ex.sz).sum := by
      clear k n s
      induction l with
      | nil => simp
      | cons x r ihr =>
        have h1 := ih x List.mem_cons_self
        have h2 := ihr (fun y hy => ih y (List.mem_cons_of_mem _ hy))
        simp only [List.map_cons, List.sum_cons]
        omega
    omega
theorem put_szM {here : Ex} {L : List ByteArray} {vals : List Ex} {M : Nat} (hh : here.sz ≤ M) (hv : ∀ i, (xAt vals i).sz ≤ M) (e : Ex) : (putX here L vals e).sz ≤ e.sz + (1 + e.ct) * M := by
  induction e using Ex.ind with
  | h k n s l ih =>
    rw [putX_eq]
    have hM : M ≤ (1 + (Ex.mk k n s l).ct) * M := Nat.le_mul_of_pos_left _ (by omega)
    unfold putC
    split
    · omega
    · split
      · have := hv (atV L s).toNat; omega
      · rw [Ex.sz_eq, Ex.sz_eq, Ex.ct, List.length_map]
        have : ((l.map (putX here L vals)).map Ex.sz).sum ≤ (l.map Ex.sz).sum + (l.length + (l.map Ex.ct).sum) * M := by
          clear hM
          induction l with
          | nil => simp
          | cons x r ihr =>
            have h1 := ih x List.mem_cons_self
            have h2 := ihr (fun y hy => ih y (List.mem_cons_of_mem _ hy))
            simp only [List.map_cons, List.sum_cons, List.length_cons]
            have e1 : (r.length + 1 + (x.ct + (r.map Ex.ct).sum)) * M = (1 + x.ct) * M + (r.length + (r.map Ex.ct).sum) * M := by rw [← Nat.add_mul]; congr 1; omega
            omega
        have e2 : (1 + (l.length + (l.map Ex.ct).sum)) * M = M + (l.length + (l.map Ex.ct).sum) * M := by rw [Nat.add_mul, Nat.one_mul]
        omega
def flV : List Ex := [⟨1, 7, ⟨#[]⟩, []⟩, ⟨11, 0, ⟨#[]⟩, []⟩, ⟨12, 0, ⟨#[103]⟩, []⟩]
def flH : Ex := ⟨11, 1, ⟨#[]⟩, []⟩
def flL : List ByteArray := [⟨#[97]⟩, ⟨#[98]⟩, ⟨#[99]⟩]
theorem flV_sz : ∀ i, (xAt flV i).sz ≤ 1 := by
  intro i
  match i with
  | 0 => show (Ex.mk 1 7 ⟨#[]⟩ []).sz ≤ 1; rw [sz_leaf]; decide
  | 1 => show (Ex.mk 11 0 ⟨#[]⟩ []).sz ≤ 1; rw [sz_leaf]; decide
  | 2 => show (Ex.mk 12 0 ⟨#[103]⟩ []).sz ≤ 1; rw [sz_leaf]; decide
  | (i + 3) => show (Ex.mk 0 0 ⟨#[]⟩ []).sz ≤ 1; rw [sz_leaf]; decide
theorem flH_sz : flH.sz ≤ 1 := by unfold flH; rw [sz_leaf]; decide
theorem fl_pk : Pk flH flL flV := ⟨Nat.le_trans flH_sz (by decide), by decide, fun i _ => Nat.le_trans (flV_sz i) (by decide), rfl⟩
theorem fl_pv {w : World} {gn gv : Nat} {t u : TypeId} (hn : w.heap[gn]? = some (.cells #[.string ⟨#[97]⟩, .string ⟨#[98]⟩, .string ⟨#[99]⟩] t (0, 0))) (hv : w.heap[gv]? = some (.cells #[.int .i64 1, .int .i64 7, .string ⟨#[]⟩, .slice none 0 0, .int .i64 11, .int .i64 0, .string ⟨#[]⟩, .slice none 0 0, .int .i64 12, .int .i64 0, .string ⟨#[103]⟩, .slice none 0 0] u (0, 0))) : Pv w flH none gn flL (some ⟨gv, 0, none⟩) flV := by
  refine ⟨(RdX_eq _ _ _ _).2 (.inl rfl), fun j hj => ?_, (Array.getElem?_eq_some_iff.1 hn).1, (RdX_eq _ _ _ _).2 (.inr ⟨gv, 0, rfl, Nat.zero_le _, (Array.getElem?_eq_some_iff.1 hv).1, fun i hi => ?_⟩)⟩
  · have hj : j < 3 := hj
    have : j = 0 ∨ j = 1 ∨ j = 2 := by omega
    rcases this with rfl | rfl | rfl <;> exact Lib.cell_of_heap hn _
  · have hi : i < 3 := hi
    have lf : ∀ (k n : Int) (s : ByteArray), RdX w 0 ⟨k, n, s, []⟩ none := fun k n s => (RdX_eq _ _ _ _).2 (.inl rfl)
    have : i = 0 ∨ i = 1 ∨ i = 2 := by omega
    rcases this with rfl | rfl | rfl
    · exact ⟨Lib.cell_of_heap hv 0, Lib.cell_of_heap hv 1, Lib.cell_of_heap hv 2, none, 0, Lib.cell_of_heap hv 3, lf _ _ _⟩
    · exact ⟨Lib.cell_of_heap hv 4, Lib.cell_of_heap hv 5, Lib.cell_of_heap hv 6, none, 0, Lib.cell_of_heap hv 7, lf _ _ _⟩
    · exact ⟨Lib.cell_of_heap hv 8, Lib.cell_of_heap hv 9, Lib.cell_of_heap hv 10, none, 0, Lib.cell_of_heap hv 11, lf _ _ _⟩
theorem flPut (x : Ex) (hz : x.sz ≤ 1100000) (c : Option Addr) (cp gn gv : Nat) (w : World) (t u : TypeId) (hr : RdX w 0 x c) (hn : w.heap[gn]? = some (.cells #[.string ⟨#[97]⟩, .string ⟨#[98]⟩, .string ⟨#[99]⟩] t (0, 0))) (hv : w.heap[gv]? = some (.cells #[.int .i64 1, .int .i64 7, .string ⟨#[]⟩, .slice none 0 0, .int .i64 11, .int .i64 0, .string ⟨#[]⟩, .slice none 0 0, .int .i64 12, .int .i64 0, .string ⟨#[103]⟩, .slice none 0 0] u (0, 0))) : Calls Tryd.prog 54 #[.agg #[.int .i64 x.k, .int .i64 x.n, .string x.s, .slice c x.l.length cp], .agg #[.int .i64 11, .int .i64 1, .string ⟨#[]⟩, .slice none 0 0], .slice (some ⟨gn, 0, none⟩) 3 3, .slice (some ⟨gv, 0, none⟩) 3 3] w (GiR (putX flH flL flV x) (Up w) w) :=
  putS_any flH flL flV fl_pk x hz c none (some ⟨gv, 0, none⟩) cp 0 gn 3 w hr (fl_pv hn hv)
theorem two_resF (w : World) (o o2 : Obj) : Below w.heap.size w ((w.alloc o).alloc o2) ∧ ((w.alloc o).alloc o2).heap[w.heap.size]? = some o ∧ ((w.alloc o).alloc o2).heap[w.heap.size + 1]? = some o2 ∧ ((w.alloc o).alloc o2).heap.size = w.heap.size + 2 := by
  have h1 : (w.alloc o).heap.size = w.heap.size + 1 := by simp
  refine ⟨((Below.refl _ _).alloc (Nat.le_refl _) _).alloc (by simp) _, row_keep (heap_alloc_new w _) (below_new _ _), ?_, by simp⟩
  rw [← h1]
  exact Array.getElem?_push_size
set_option maxHeartbeats 16000000 in
theorem flatD (d : Nat) (hd : d ≤ 4) (hsz : szD d ≤ 1000) (ih : DrP d) (cb : Nat) (a : Option Addr) (len cap : Nat) (xs : List UInt8) (w : World) (hc : Cur w cb a len cap xs) : Calls Tryd.prog 44 #[.pointer (some ⟨cb, 0, none⟩), .int .i64 (d : Nat)] w (DrX (2 * szD d + 1) cb a len cap xs w) := by
  have IH := hide (fun wr (h : Cur wr cb a len cap xs) => ih d rfl false cb a len cap xs wr h)
  unfold DrX at IH
  obtain ⟨b0, r0, h0, z0⟩ := two_resF w (.cells #[.int .i64 0, .int .i64 0, .string ⟨#[]⟩, .slice none 0 0] 26) (.cells #[.int .i64 11, .int .i64 1, .string ⟨#[]⟩, .slice none 0 0] 26)
  have D0 := hide ((dz_new hc).later b0)
  have RS0 := hide r0
  have HB0 := hide h0
  have hlc := hc.lt
  have SZ0 := hide z0
  generalize hX : DrX (2 * szD d + 1) cb a len cap xs w = X
  have HX := hide hX
  generalize szD d = zd at *
  clear hc hX ih b0 r0 h0 z0
  go_enter Tryd.func44, Tryd.ntmps44
  go_wp2_with fail
  generalize (w.alloc (.cells #[.int .i64 0, .int .i64 0, .string ⟨#[]⟩, .slice none 0 0] 26)).alloc (.cells #[.int .i64 11, .int .i64 1, .string ⟨#[]⟩, .slice none 0 0] 26) = W at *
  have D1 := hide ((unhide D0).later (below_drew (w := W)))
  have RS1 := hide (row_keep (unhide RS0) (below_drew (w := W)))
  have HB1 := hide (row_keep (unhide HB0) (below_drew (w := W)))
  have LT1 := hide (show w.heap.size + 2 ≤ W.drew.heap.size from Nat.le_of_eq (unhide SZ0).symm)
  refine wp_region_held_drew (S := fun v => v.heap[w.heap.size + 1]? = some (.cells #[.int .i64 11, .int .i64 1, .string ⟨#[]⟩, .slice none 0 0] 26 (0, 0))) (by kernel_rfl) (unhide HB1) (fun hS => ?_)
  have HS := hide hS
  clear hS D0 RS0 HB0 SZ0
  generalize W.drew = w1 at *
  refine wpAnyH_take (i := 0) (v := .pointer (some ⟨cb, 0, none⟩)) rfl (by kernel_rfl) (by kernel_rfl) (by kernel_rfl) (fun _ _ _ h => h) (Or.inl ⟨by rfl, fun w hc => ?_⟩) (unhide HS) ?_
  · clear hc; go_simp
  go_simp
  refine wpAnyH_take (i := 1) (v := .int .i64 (d : Nat)) rfl (by kernel_rfl) (by kernel_rfl) (by kernel_rfl) (fun _ _ _ h => h) (Or.inl ⟨by rfl, fun w hc => ?_⟩) (unhide HS) ?_
  · clear hc; go_simp
  go_simp
  refine wpAnyH_take (i := 3) (v := .agg #[.int .i64 11, .int .i64 1, .string ⟨#[]⟩, .slice none 0 0]) rfl (by kernel_rfl) (by kernel_rfl) (by kernel_rfl) (fun _ _ _ h => h) (yields_loadG (by rfl) 26 _ rfl (w.heap.size + 1) rfl 26 #[.int .i64 11, .int .i64 1, .string ⟨#[]⟩, .slice none 0 0] _ (fun w h => h) Tryd.underlying26 rfl (by kernel_rfl)) (unhide HS) ?_
  go_simp
  refine wpAnyH_take (i := 6) (v := .agg #[.int .i64 11, .int .i64 0, .string ⟨#[]⟩, .slice none 0 0]) rfl (by kernel_rfl) (by kernel_rfl) (by kernel_rfl) (fun _ _ _ h => h) (Or.inl ⟨by rfl, fun w hc => ?_⟩) (unhide HS) ?_
  · clear hc; go_simp
  go_simp
  refine wpAnyH_take (i := 7) (v := .agg #[.int .i64 12, .int .i64 0, .string ⟨#[103]⟩, .slice none 0 0]) rfl (by kernel_rfl) (by kernel_rfl) (by kernel_rfl) (fun _ _ _ h => h) (Or.inl ⟨by rfl, fun w hc => ?_⟩) (unhide HS) ?_
  · clear hc; go_simp
  go_simp
  refine wpAnyH_ready (rs := [2, 4]) (by kernel_rfl) (by simp) ?_
  refine AllReadyH.cons rfl (fun K2 hK => ?_) (AllReadyH.cons rfl (fun K2 hK => ?_) AllReadyH.nil)
  · go_simp
    refine (unhide IH w1 (unhide D1).cur).mono ?_
    rintro r w2 ⟨x, c, cp, rfl, hsx, hnx, hcc, hgg⟩
    unfold Ex.cs
    have D2 := hide ((unhide D1).draw hcc hgg)
    have RS2 := hide ((unhide D1).blk hgg (unhide RS1) (Nat.le_refl _))
    have HB2 := hide ((unhide D1).blk hgg (unhide HB1) (Nat.le_succ _))
    have LT2 := hide (Nat.le_trans (unhide LT1) hgg.size)
    have X2 := hide (hnx.lower (unhide LT1))
    refine hK.out _ _ (unhide HB2) (fun hS => ?_)
    clear HS
    have HS := hide hS
    clear hS hK K2
    clear hnx hcc hgg D1 RS1 HB1 LT1 
    refine wpAnyH_ready (rs := [4, 5]) (by kernel_rfl) (by simp) ?_
    refine AllReadyH.cons rfl (fun K2 hK => ?_) (AllReadyH.cons rfl (fun K2 hK => ?_) AllReadyH.nil)
    · go_simp
      have hb := below_new w2 (.cells #[.string ⟨#[97]⟩, .string ⟨#[98]⟩, .string ⟨#[99]⟩] 9)
      have N3 := hide (show (w2.alloc (.cells #[.string ⟨#[97]⟩, .string ⟨#[98]⟩, .string ⟨#[99]⟩] 9)).heap[w2.heap.size]? = some (.cells #[.string ⟨#[97]⟩, .string ⟨#[98]⟩, .string ⟨#[99]⟩] 9 (0, 0)) from Array.getElem?_push_size)
      have LN := hide (show w.heap.size + 2 ≤ w2.heap.size from unhide LT2)
      have D3 := hide ((unhide D2).later hb)
      have RS3 := hide (row_keep (unhide RS2) hb)
      have HB3 := hide (row_keep (unhide HB2) hb)
      have LT3 := hide (Nat.le_trans (unhide LT2) hb.size)
      have X3 := hide ((unhide X2).later hb)
      refine hK.out _ _ (unhide HB3) (fun hS => ?_)
      clear HS
      have HS := hide hS
      clear hS hK K2
      clear hb D2 RS2 HB2 LT2 X2
      generalize w2.alloc (.cells #[.string ⟨#[97]⟩, .string ⟨#[98]⟩, .string ⟨#[99]⟩] 9) = w3 at *
      generalize w2.heap.size = gn at *
      refine wpAnyH_ready (rs := [5]) (by kernel_rfl) (by simp) ?_
      refine AllReadyH.cons rfl (fun K2 hK => ?_) AllReadyH.nil
      go_simp
      refine (numD 7 w3).mono ?_
      rintro r w4 ⟨rfl, hb⟩
      have D4 := hide ((unhide D3).later hb)
      have RS4 := hide (row_keep (unhide RS3) hb)
      have HB4 := hide (row_keep (unhide HB3) hb)
      have LT4 := hide (Nat.le_trans (unhide LT3) hb.size)
      have X4 := hide ((unhide X3).later hb)
      have N4 := hide (row_keep (unhide N3) hb)
      refine hK.out _ _ (unhide HB4) (fun hS => ?_)
      clear HS
      have HS := hide hS
      clear hS hK K2
      clear hb D3 RS3 HB3 LT3 X3 N3
      refine wpAnyH_ready (rs := [8]) (by kernel_rfl) (by simp) ?_
      refine AllReadyH.cons rfl (fun K2 hK => ?_) AllReadyH.nil
      go_simp
      have hb := below_new w4 (.cells #[.int .i64 1, .int .i64 7, .string ⟨#[]⟩, .slice none 0 0, .int .i64 11, .int .i64 0, .string ⟨#[]⟩, .slice none 0 0, .int .i64 12, .int .i64 0, .string ⟨#[103]⟩, .slice none 0 0] 26)
      have V5 := hide (show (w4.alloc (.cells #[.int .i64 1, .int .i64 7, .string ⟨#[]⟩, .slice none 0 0, .int .i64 11, .int .i64 0, .string ⟨#[]⟩, .slice none 0 0, .int .i64 12, .int .i64 0, .string ⟨#[103]⟩, .slice none 0 0] 26)).heap[w4.heap.size]? = some (.cells #[.int .i64 1, .int .i64 7, .string ⟨#[]⟩, .slice none 0 0, .int .i64 11, .int .i64 0, .string ⟨#[]⟩, .slice none 0 0, .int .i64 12, .int .i64 0, .string ⟨#[103]⟩, .slice none 0 0] 26 (0, 0)) from Array.getElem?_push_size)
      have LV := hide (show w.heap.size + 2 ≤ w4.heap.size from unhide LT4)
      have D5 := hide ((unhide D4).later hb)
      have RS5 := hide (row_keep (unhide RS4) hb)
      have HB5 := hide (row_keep (unhide HB4) hb)
      have LT5 := hide (Nat.le_trans (unhide LT4) hb.size)
      have X5 := hide ((unhide X4).later hb)
      have N5 := hide (row_keep (unhide N4) hb)
      refine hK.out _ _ (unhide HB5) (fun hS => ?_)
      clear HS
      have HS := hide hS
      clear hS hK K2
      clear hb D4 RS4 HB4 LT4 X4 N4
      generalize w4.alloc (.cells #[.int .i64 1, .int .i64 7, .string ⟨#[]⟩, .slice none 0 0, .int .i64 11, .int .i64 0, .string ⟨#[]⟩, .slice none 0 0, .int .i64 12, .int .i64 0, .string ⟨#[103]⟩, .slice none 0 0] 26) = w5 at *
      generalize w4.heap.size = gv at *
      refine wpAnyH_ready (rs := [9]) (by kernel_rfl) (by simp) ?_
      refine AllReadyH.cons rfl (fun K2 hK => ?_) AllReadyH.nil
      go_simp
      have PU := hide (flPut x (by omega) c cp gn gv w5 _ _ ((unhide X5).rd.lower (Nat.zero_le _) _ _) (unhide N5) (unhide V5))
      unfold GiR Ex.cs at PU
      have SY := hide (show (putX flH flL flV x).sz ≤ 2 * zd + 1 from Nat.le_trans (put_szM flH_sz flV_sz x) (by have := ct_szF x; omega))
      refine (unhide PU).mono ?_
      rintro r w6 ⟨c2, cp2, rfl, hnx, hb⟩
      generalize putX flH flL flV x = y at *
      have D6 := hide ((unhide D5).later hb)
      have RS6 := hide (row_keep (unhide RS5) hb)
      have HB6 := hide (row_keep (unhide HB5) hb)
      have Y6 := hide ((show NewX w6 w5.heap.size y c2 from hnx).lower (unhide LT5))
      refine hK.out _ _ (unhide HB6) (fun hS => ?_)
      clear HS
      have HS := hide hS
      clear hS hK K2
      clear hb hnx PU D5 RS5 HB5 LT5 X5 N5 V5
      refine wpAnyH_ready (rs := [10]) (by kernel_rfl) (by simp) ?_
      refine AllReadyH.cons rfl (fun K2 hK => ?_) AllReadyH.nil
      rw [if_pos (by rfl)]
      refine wp_store_row 26 _ _ rfl w.heap.size #[.int .i64 y.k, .int .i64 y.n, .string y.s, .slice c2 y.l.length cp2] rfl rfl 26 _ (unhide RS6) szE rfl (ex_one _ _ _ _ _ _) ?_
      refine hK.out _ _ ((setRow_other _ _ _ _ (by omega)).trans (unhide HB6)) (fun hS => ?_)
      clear HS
      have HS := hide hS
      clear hS hK K2
      refine wpAnyH_done (by kernel_rfl) ?_ _
      clear HS
      go_wp2
      refine bodyPost_ret (results_cell_row (P := Tryd.prog) rfl _ _ w.heap.size 26 #[.int .i64 y.k, .int .i64 y.n, .string y.s, .slice c2 y.l.length cp2] (0, 0) _ rfl (setRow_heap _ _ _ _ _ _ (unhide RS6)) Tryd.underlying26 rfl szE) rfl ?_
      rw [← unhide HX]
      exact ⟨y, c2, cp2, rfl, unhide SY, ((unhide Y6).row _ (by omega)).lower (by omega), ((unhide D6).row _).cur, ((unhide D6).row _).gr⟩
    · go_simp
      refine (numD 7 w2).mono ?_
      rintro r w3 ⟨rfl, hb⟩
      have D3 := hide ((unhide D2).later hb)
      have RS3 := hide (row_keep (unhide RS2) hb)
      have HB3 := hide (row_keep (unhide HB2) hb)
      have LT3 := hide (Nat.le_trans (unhide LT2) hb.size)
      have X3 := hide ((unhide X2).later hb)
      refine hK.out _ _ (unhide HB3) (fun hS => ?_)
      clear HS
      have HS := hide hS
      clear hS hK K2
      clear hb D2 RS2 HB2 LT2 X2
      refine wpAnyH_ready (rs := [4, 8]) (by kernel_rfl) (by simp) ?_
      refine AllReadyH.cons rfl (fun K2 hK => ?_) (AllReadyH.cons rfl (fun K2 hK => ?_) AllReadyH.nil)
      · go_simp
        have hb := below_new w3 (.cells #[.string ⟨#[97]⟩, .string ⟨#[98]⟩, .string ⟨#[99]⟩] 9)
        have N4 := hide (show (w3.alloc (.cells #[.string ⟨#[97]⟩, .string ⟨#[98]⟩, .string ⟨#[99]⟩] 9)).heap[w3.heap.size]? = some (.cells #[.string ⟨#[97]⟩, .string ⟨#[98]⟩, .string ⟨#[99]⟩] 9 (0, 0)) from Array.getElem?_push_size)
        have LN := hide (show w.heap.size + 2 ≤ w3.heap.size from unhide LT3)
        have D4 := hide ((unhide D3).later hb)
        have RS4 := hide (row_keep (unhide RS3) hb)
        have HB4 := hide (row_keep (unhide HB3) hb)
        have LT4 := hide (Nat.le_trans (unhide LT3) hb.size)
        have X4 := hide ((unhide X3).later hb)
        refine hK.out _ _ (unhide HB4) (fun hS => ?_)
        clear HS
        have HS := hide hS
        clear hS hK K2
        clear hb D3 RS3 HB3 LT3 X3
        generalize w3.alloc (.cells #[.string ⟨#[97]⟩, .string ⟨#[98]⟩, .string ⟨#[99]⟩] 9) = w4 at *
        generalize w3.heap.size = gn at *
        refine wpAnyH_ready (rs := [8]) (by kernel_rfl) (by simp) ?_
        refine AllReadyH.cons rfl (fun K2 hK => ?_) AllReadyH.nil
        go_simp
        have hb := below_new w4 (.cells #[.int .i64 1, .int .i64 7, .string ⟨#[]⟩, .slice none 0 0, .int .i64 11, .int .i64 0, .string ⟨#[]⟩, .slice none 0 0, .int .i64 12, .int .i64 0, .string ⟨#[103]⟩, .slice none 0 0] 26)
        have V5 := hide (show (w4.alloc (.cells #[.int .i64 1, .int .i64 7, .string ⟨#[]⟩, .slice none 0 0, .int .i64 11, .int .i64 0, .string ⟨#[]⟩, .slice none 0 0, .int .i64 12, .int .i64 0, .string ⟨#[103]⟩, .slice none 0 0] 26)).heap[w4.heap.size]? = some (.cells #[.int .i64 1, .int .i64 7, .string ⟨#[]⟩, .slice none 0 0, .int .i64 11, .int .i64 0, .string ⟨#[]⟩, .slice none 0 0, .int .i64 12, .int .i64 0, .string ⟨#[103]⟩, .slice none 0 0] 26 (0, 0)) from Array.getElem?_push_size)
        have LV := hide (show w.heap.size + 2 ≤ w4.heap.size from unhide LT4)
        have D5 := hide ((unhide D4).later hb)
        have RS5 := hide (row_keep (unhide RS4) hb)
        have HB5 := hide (row_keep (unhide HB4) hb)
        have LT5 := hide (Nat.le_trans (unhide LT4) hb.size)
        have X5 := hide ((unhide X4).later hb)
        have N5 := hide (row_keep (unhide N4) hb)
        refine hK.out _ _ (unhide HB5) (fun hS => ?_)
        clear HS
        have HS := hide hS
        clear hS hK K2
        clear hb D4 RS4 HB4 LT4 X4 N4
        generalize w4.alloc (.cells #[.int .i64 1, .int .i64 7, .string ⟨#[]⟩, .slice none 0 0, .int .i64 11, .int .i64 0, .string ⟨#[]⟩, .slice none 0 0, .int .i64 12, .int .i64 0, .string ⟨#[103]⟩, .slice none 0 0] 26) = w5 at *
        generalize w4.heap.size = gv at *
        refine wpAnyH_ready (rs := [9]) (by kernel_rfl) (by simp) ?_
        refine AllReadyH.cons rfl (fun K2 hK => ?_) AllReadyH.nil
        go_simp
        have PU := hide (flPut x (by omega) c cp gn gv w5 _ _ ((unhide X5).rd.lower (Nat.zero_le _) _ _) (unhide N5) (unhide V5))
        unfold GiR Ex.cs at PU
        have SY := hide (show (putX flH flL flV x).sz ≤ 2 * zd + 1 from Nat.le_trans (put_szM flH_sz flV_sz x) (by have := ct_szF x; omega))
        refine (unhide PU).mono ?_
        rintro r w6 ⟨c2, cp2, rfl, hnx, hb⟩
        generalize putX flH flL flV x = y at *
        have D6 := hide ((unhide D5).later hb)
        have RS6 := hide (row_keep (unhide RS5) hb)
        have HB6 := hide (row_keep (unhide HB5) hb)
        have Y6 := hide ((show NewX w6 w5.heap.size y c2 from hnx).lower (unhide LT5))
        refine hK.out _ _ (unhide HB6) (fun hS => ?_)
        clear HS
        have HS := hide hS
        clear hS hK K2
        clear hb hnx PU D5 RS5 HB5 LT5 X5 N5 V5
        refine wpAnyH_ready (rs := [10]) (by kernel_rfl) (by simp) ?_
        refine AllReadyH.cons rfl (fun K2 hK => ?_) AllReadyH.nil
        rw [if_pos (by rfl)]
        refine wp_store_row 26 _ _ rfl w.heap.size #[.int .i64 y.k, .int .i64 y.n, .string y.s, .slice c2 y.l.length cp2] rfl rfl 26 _ (unhide RS6) szE rfl (ex_one _ _ _ _ _ _) ?_
        refine hK.out _ _ ((setRow_other _ _ _ _ (by omega)).trans (unhide HB6)) (fun hS => ?_)
        clear HS
        have HS := hide hS
        clear hS hK K2
        refine wpAnyH_done (by kernel_rfl) ?_ _
        clear HS
        go_wp2
        refine bodyPost_ret (results_cell_row (P := Tryd.prog) rfl _ _ w.heap.size 26 #[.int .i64 y.k, .int .i64 y.n, .string y.s, .slice c2 y.l.length cp2] (0, 0) _ rfl (setRow_heap _ _ _ _ _ _ (unhide RS6)) Tryd.underlying26 rfl szE) rfl ?_
        rw [← unhide HX]
        exact ⟨y, c2, cp2, rfl, unhide SY, ((unhide Y6).row _ (by omega)).lower (by omega), ((unhide D6).row _).cur, ((unhide D6).row _).gr⟩
      · go_simp
        have hb := below_new w3 (.cells #[.int .i64 1, .int .i64 7, .string ⟨#[]⟩, .slice none 0 0, .int .i64 11, .int .i64 0, .string ⟨#[]⟩, .slice none 0 0, .int .i64 12, .int .i64 0, .string ⟨#[103]⟩, .slice none 0 0] 26)
        have V4 := hide (show (w3.alloc (.cells #[.int .i64 1, .int .i64 7, .string ⟨#[]⟩, .slice none 0 0, .int .i64 11, .int .i64 0, .string ⟨#[]⟩, .slice none 0 0, .int .i64 12, .int .i64 0, .string ⟨#[103]⟩, .slice none 0 0] 26)).heap[w3.heap.size]? = some (.cells #[.int .i64 1, .int .i64 7, .string ⟨#[]⟩, .slice none 0 0, .int .i64 11, .int .i64 0, .string ⟨#[]⟩, .slice none 0 0, .int .i64 12, .int .i64 0, .string ⟨#[103]⟩, .slice none 0 0] 26 (0, 0)) from Array.getElem?_push_size)
        have LV := hide (show w.heap.size + 2 ≤ w3.heap.size from unhide LT3)
        have D4 := hide ((unhide D3).later hb)
        have RS4 := hide (row_keep (unhide RS3) hb)
        have HB4 := hide (row_keep (unhide HB3) hb)
        have LT4 := hide (Nat.le_trans (unhide LT3) hb.size)
        have X4 := hide ((unhide X3).later hb)
        refine hK.out _ _ (unhide HB4) (fun hS => ?_)
        clear HS
        have HS := hide hS
        clear hS hK K2
        clear hb D3 RS3 HB3 LT3 X3
        generalize w3.alloc (.cells #[.int .i64 1, .int .i64 7, .string ⟨#[]⟩, .slice none 0 0, .int .i64 11, .int .i64 0, .string ⟨#[]⟩, .slice none 0 0, .int .i64 12, .int .i64 0, .string ⟨#[103]⟩, .slice none 0 0] 26) = w4 at *
        generalize w3.heap.size = gv at *
        refine wpAnyH_ready (rs := [4]) (by kernel_rfl) (by simp) ?_
        refine AllReadyH.cons rfl (fun K2 hK => ?_) AllReadyH.nil
        go_simp
        have hb := below_new w4 (.cells #[.string ⟨#[97]⟩, .string ⟨#[98]⟩, .string ⟨#[99]⟩] 9)
        have N5 := hide (show (w4.alloc (.cells #[.string ⟨#[97]⟩, .string ⟨#[98]⟩, .string ⟨#[99]⟩] 9)).heap[w4.heap.size]? = some (.cells #[.string ⟨#[97]⟩, .string ⟨#[98]⟩, .string ⟨#[99]⟩] 9 (0, 0)) from Array.getElem?_push_size)
        have LN := hide (show w.heap.size + 2 ≤ w4.heap.size from unhide LT4)
        have D5 := hide ((unhide D4).later hb)
        have RS5 := hide (row_keep (unhide RS4) hb)
        have HB5 := hide (row_keep (unhide HB4) hb)
        have LT5 := hide (Nat.le_trans (unhide LT4) hb.size)
        have X5 := hide ((unhide X4).later hb)
        have V5 := hide (row_keep (unhide V4) hb)
        refine hK.out _ _ (unhide HB5) (fun hS => ?_)
        clear HS
        have HS := hide hS
        clear hS hK K2
        clear hb D4 RS4 HB4 LT4 X4 V4
        generalize w4.alloc (.cells #[.string ⟨#[97]⟩, .string ⟨#[98]⟩, .string ⟨#[99]⟩] 9) = w5 at *
        generalize w4.heap.size = gn at *
        refine wpAnyH_ready (rs := [9]) (by kernel_rfl) (by simp) ?_
        refine AllReadyH.cons rfl (fun K2 hK => ?_) AllReadyH.nil
        go_simp
        have PU := hide (flPut x (by omega) c cp gn gv w5 _ _ ((unhide X5).rd.lower (Nat.zero_le _) _ _) (unhide N5) (unhide V5))
        unfold GiR Ex.cs at PU
        have SY := hide (show (putX flH flL flV x).sz ≤ 2 * zd + 1 from Nat.le_trans (put_szM flH_sz flV_sz x) (by have := ct_szF x; omega))
        refine (unhide PU).mono ?_
        rintro r w6 ⟨c2, cp2, rfl, hnx, hb⟩
        generalize putX flH flL flV x = y at *
        have D6 := hide ((unhide D5).later hb)
        have RS6 := hide (row_keep (unhide RS5) hb)
        have HB6 := hide (row_keep (unhide HB5) hb)
        have Y6 := hide ((show NewX w6 w5.heap.size y c2 from hnx).lower (unhide LT5))
        refine hK.out _ _ (unhide HB6) (fun hS => ?_)
        clear HS
        have HS := hide hS
        clear hS hK K2
        clear hb hnx PU D5 RS5 HB5 LT5 X5 V5 N5
        refine wpAnyH_ready (rs := [10]) (by kernel_rfl) (by simp) ?_
        refine AllReadyH.cons rfl (fun K2 hK => ?_) AllReadyH.nil
        rw [if_pos (by rfl)]
        refine wp_store_row 26 _ _ rfl w.heap.size #[.int .i64 y.k, .int .i64 y.n, .string y.s, .slice c2 y.l.length cp2] rfl rfl 26 _ (unhide RS6) szE rfl (ex_one _ _ _ _ _ _) ?_
        refine hK.out _ _ ((setRow_other _ _ _ _ (by omega)).trans (unhide HB6)) (fun hS => ?_)
        clear HS
        have HS := hide hS
        clear hS hK K2
        refine wpAnyH_done (by kernel_rfl) ?_ _
        clear HS
        go_wp2
        refine bodyPost_ret (results_cell_row (P := Tryd.prog) rfl _ _ w.heap.size 26 #[.int .i64 y.k, .int .i64 y.n, .string y.s, .slice c2 y.l.length cp2] (0, 0) _ rfl (setRow_heap _ _ _ _ _ _ (unhide RS6)) Tryd.underlying26 rfl szE) rfl ?_
        rw [← unhide HX]
        exact ⟨y, c2, cp2, rfl, unhide SY, ((unhide Y6).row _ (by omega)).lower (by omega), ((unhide D6).row _).cur, ((unhide D6).row _).gr⟩
  · go_simp
    have hb := below_new w1 (.cells #[.string ⟨#[97]⟩, .string ⟨#[98]⟩, .string ⟨#[99]⟩] 9)
    have N2 := hide (show (w1.alloc (.cells #[.string ⟨#[97]⟩, .string ⟨#[98]⟩, .string ⟨#[99]⟩] 9)).heap[w1.heap.size]? = some (.cells #[.string ⟨#[97]⟩, .string ⟨#[98]⟩, .string ⟨#[99]⟩] 9 (0, 0)) from Array.getElem?_push_size)
    have LN := hide (show w.heap.size + 2 ≤ w1.heap.size from unhide LT1)
    have D2 := hide ((unhide D1).later hb)
    have RS2 := hide (row_keep (unhide RS1) hb)
    have HB2 := hide (row_keep (unhide HB1) hb)
    have LT2 := hide (Nat.le_trans (unhide LT1) hb.size)
    refine hK.out _ _ (unhide HB2) (fun hS => ?_)
    clear HS
    have HS := hide hS
    clear hS hK K2
    clear hb D1 RS1 HB1 LT1 
    generalize w1.alloc (.cells #[.string ⟨#[97]⟩, .string ⟨#[98]⟩, .string ⟨#[99]⟩] 9) = w2 at *
    generalize w1.heap.size = gn at *
    refine wpAnyH_ready (rs := [2]) (by kernel_rfl) (by simp) ?_
    refine AllReadyH.cons rfl (fun K2 hK => ?_) AllReadyH.nil
    go_simp
    refine (unhide IH w2 (unhide D2).cur).mono ?_
    rintro r w3 ⟨x, c, cp, rfl, hsx, hnx, hcc, hgg⟩
    unfold Ex.cs
    have D3 := hide ((unhide D2).draw hcc hgg)
    have RS3 := hide ((unhide D2).blk hgg (unhide RS2) (Nat.le_refl _))
    have HB3 := hide ((unhide D2).blk hgg (unhide HB2) (Nat.le_succ _))
    have LT3 := hide (Nat.le_trans (unhide LT2) hgg.size)
    have X3 := hide (hnx.lower (unhide LT2))
    have N3 := hide ((unhide D2).blk hgg (unhide N2) (by have := unhide LN; omega))
    refine hK.out _ _ (unhide HB3) (fun hS => ?_)
    clear HS
    have HS := hide hS
    clear hS hK K2
    clear hnx hcc hgg D2 RS2 HB2 LT2 N2
    refine wpAnyH_ready (rs := [5]) (by kernel_rfl) (by simp) ?_
    refine AllReadyH.cons rfl (fun K2 hK => ?_) AllReadyH.nil
    go_simp
    refine (numD 7 w3).mono ?_
    rintro r w4 ⟨rfl, hb⟩
    have D4 := hide ((unhide D3).later hb)
    have RS4 := hide (row_keep (unhide RS3) hb)
    have HB4 := hide (row_keep (unhide HB3) hb)
    have LT4 := hide (Nat.le_trans (unhide LT3) hb.size)
    have N4 := hide (row_keep (unhide N3) hb)
    have X4 := hide ((unhide X3).later hb)
    refine hK.out _ _ (unhide HB4) (fun hS => ?_)
    clear HS
    have HS := hide hS
    clear hS hK K2
    clear hb D3 RS3 HB3 LT3 N3 X3
    refine wpAnyH_ready (rs := [8]) (by kernel_rfl) (by simp) ?_
    refine AllReadyH.cons rfl (fun K2 hK => ?_) AllReadyH.nil
    go_simp
    have hb := below_new w4 (.cells #[.int .i64 1, .int .i64 7, .string ⟨#[]⟩, .slice none 0 0, .int .i64 11, .int .i64 0, .string ⟨#[]⟩, .slice none 0 0, .int .i64 12, .int .i64 0, .string ⟨#[103]⟩, .slice none 0 0] 26)
    have V5 := hide (show (w4.alloc (.cells #[.int .i64 1, .int .i64 7, .string ⟨#[]⟩, .slice none 0 0, .int .i64 11, .int .i64 0, .string ⟨#[]⟩, .slice none 0 0, .int .i64 12, .int .i64 0, .string ⟨#[103]⟩, .slice none 0 0] 26)).heap[w4.heap.size]? = some (.cells #[.int .i64 1, .int .i64 7, .string ⟨#[]⟩, .slice none 0 0, .int .i64 11, .int .i64 0, .string ⟨#[]⟩, .slice none 0 0, .int .i64 12, .int .i64 0, .string ⟨#[103]⟩, .slice none 0 0] 26 (0, 0)) from Array.getElem?_push_size)
    have LV := hide (show w.heap.size + 2 ≤ w4.heap.size from unhide LT4)
    have D5 := hide ((unhide D4).later hb)
    have RS5 := hide (row_keep (unhide RS4) hb)
    have HB5 := hide (row_keep (unhide HB4) hb)
    have LT5 := hide (Nat.le_trans (unhide LT4) hb.size)
    have N5 := hide (row_keep (unhide N4) hb)
    have X5 := hide ((unhide X4).later hb)
    refine hK.out _ _ (unhide HB5) (fun hS => ?_)
    clear HS
    have HS := hide hS
    clear hS hK K2
    clear hb D4 RS4 HB4 LT4 N4 X4
    generalize w4.alloc (.cells #[.int .i64 1, .int .i64 7, .string ⟨#[]⟩, .slice none 0 0, .int .i64 11, .int .i64 0, .string ⟨#[]⟩, .slice none 0 0, .int .i64 12, .int .i64 0, .string ⟨#[103]⟩, .slice none 0 0] 26) = w5 at *
    generalize w4.heap.size = gv at *
    refine wpAnyH_ready (rs := [9]) (by kernel_rfl) (by simp) ?_
    refine AllReadyH.cons rfl (fun K2 hK => ?_) AllReadyH.nil
    go_simp
    have PU := hide (flPut x (by omega) c cp gn gv w5 _ _ ((unhide X5).rd.lower (Nat.zero_le _) _ _) (unhide N5) (unhide V5))
    unfold GiR Ex.cs at PU
    have SY := hide (show (putX flH flL flV x).sz ≤ 2 * zd + 1 from Nat.le_trans (put_szM flH_sz flV_sz x) (by have := ct_szF x; omega))
    refine (unhide PU).mono ?_
    rintro r w6 ⟨c2, cp2, rfl, hnx, hb⟩
    generalize putX flH flL flV x = y at *
    have D6 := hide ((unhide D5).later hb)
    have RS6 := hide (row_keep (unhide RS5) hb)
    have HB6 := hide (row_keep (unhide HB5) hb)
    have Y6 := hide ((show NewX w6 w5.heap.size y c2 from hnx).lower (unhide LT5))
    refine hK.out _ _ (unhide HB6) (fun hS => ?_)
    clear HS
    have HS := hide hS
    clear hS hK K2
    clear hb hnx PU D5 RS5 HB5 LT5 N5 X5 V5
    refine wpAnyH_ready (rs := [10]) (by kernel_rfl) (by simp) ?_
    refine AllReadyH.cons rfl (fun K2 hK => ?_) AllReadyH.nil
    rw [if_pos (by rfl)]
    refine wp_store_row 26 _ _ rfl w.heap.size #[.int .i64 y.k, .int .i64 y.n, .string y.s, .slice c2 y.l.length cp2] rfl rfl 26 _ (unhide RS6) szE rfl (ex_one _ _ _ _ _ _) ?_
    refine hK.out _ _ ((setRow_other _ _ _ _ (by omega)).trans (unhide HB6)) (fun hS => ?_)
    clear HS
    have HS := hide hS
    clear hS hK K2
    refine wpAnyH_done (by kernel_rfl) ?_ _
    clear HS
    go_wp2
    refine bodyPost_ret (results_cell_row (P := Tryd.prog) rfl _ _ w.heap.size 26 #[.int .i64 y.k, .int .i64 y.n, .string y.s, .slice c2 y.l.length cp2] (0, 0) _ rfl (setRow_heap _ _ _ _ _ _ (unhide RS6)) Tryd.underlying26 rfl szE) rfl ?_
    rw [← unhide HX]
    exact ⟨y, c2, cp2, rfl, unhide SY, ((unhide Y6).row _ (by omega)).lower (by omega), ((unhide D6).row _).cur, ((unhide D6).row _).gr⟩
end Go.Proofs.YtkolflcjkofleaaDoor

namespace Go.Proofs.YtkolflcjkofleaaDoor
open Go.ChangeShapes Go.WideShapes Go.ChangeAt Go.RowKit
set_option linter.unusedVariables false
set_option maxRecDepth 8000
set_option linter.unusedSimpArgs false

set_option maxHeartbeats 4000000 in
theorem drawFold_any (a : Option Addr) (len cap : Nat) (xs : List UInt8) (w : World) (hl : xs.length = len) (hm : len ≤ 1048576) (hr : Rd w a xs) :
    Calls Tryd.prog 11 #[.slice a len cap] w fun r w' => ∃ (e : Ex) (c : Option Addr) (cp : Nat), r = .returned (.agg (e.cs c cp)) ∧ e.sz ≤ 1000 ∧ NewX w' w.heap.size e c ∧ Below w.heap.size w w' := by
  have B0 := hide (below_new w (.cells #[.int .i64 0, .int .i64 0, .string ⟨#[]⟩, .slice none 0 0] 26))
  have R0 := hide (heap_alloc_new w (.cells #[.int .i64 0, .int .i64 0, .string ⟨#[]⟩, .slice none 0 0] 26))
  have hZ0 : (w.alloc (.cells #[.int .i64 0, .int .i64 0, .string ⟨#[]⟩, .slice none 0 0] 26)).heap.size = w.heap.size + 1 := by simp
  have N0 := hide (new_any a len cap xs (w.alloc (.cells #[.int .i64 0, .int .i64 0, .string ⟨#[]⟩, .slice none 0 0] 26)) hl hm (hr.later (unhide B0)))
  have HZ := hide hZ0
  clear hr hZ0
  go_enter Tryd.func11, Tryd.ntmps11
  go_wp2_with fail
  generalize w.alloc (.cells #[.int .i64 0, .int .i64 0, .string ⟨#[]⟩, .slice none 0 0] 26) = W at *
  refine (unhide N0).mono ?_
  rintro e w1 ⟨rfl, hc1, hb1⟩
  have R1 := hide ((hb1.block _ (Array.getElem?_eq_some_iff.1 (unhide R0)).1).trans (unhide R0))
  have B1 := hide ((unhide B0).trans (hb1.mono (unhide B0).size))
  have o1 : w.heap.size < W.heap.size := by have := unhide HZ; omega
  have hs1 := hb1.size
  have ON := hide (once_any W.heap.size a len cap xs 4 w1 (by omega) hc1)
  generalize W.heap.size = cb at *
  clear hc1 hb1 N0 R0 B0 HZ
  go_wp2_with fail
  refine (unhide ON).mono ?_
  rintro e w2 ⟨q, rfl, hc2, hg2⟩
  have B2 := hide ((unhide B1).grown hg2 (unhide B1).size (fun k e => by cases e; omega))
  have R2 := hide ((hg2.block _ (Array.getElem?_eq_some_iff.1 (unhide R1)).1 (fun e => by simp at e; omega)).trans (unhide R1))
  have hs2 := hg2.size
  have C2 := hide hc2
  clear hc2 hg2 B1 R1 ON
  cases q
  · have AD := hide (flatD 4 (by omega) (by decide) drawX4 cb a len cap xs w2 (unhide C2))
    have e93 : 2 * szD 4 + 1 = 93 := by decide
    rw [e93] at AD
    unfold DrX at AD
    clear C2 e93
    go_wp2_with fail
    refine (unhide AD).mono ?_
    rintro e w3 ⟨x, c, cp, rfl, hsx, hnx, hc3, hg3⟩
    have B3 := hide ((unhide B2).grown hg3 (unhide B2).size (fun k e => by cases e; omega))
    have R3 := hide ((hg3.block _ (Array.getElem?_eq_some_iff.1 (unhide R2)).1 (fun e => by simp at e; omega)).trans (unhide R2))
    have X3 := hide (hnx.lower (show w.heap.size + 1 ≤ w2.heap.size by omega))
    unfold Ex.cs
    clear hnx hc3 hg3 B2 R2 AD
    go_wp2_with (refine wpList_store_row rfl 26 _ _ rfl w.heap.size #[.int .i64 x.k, .int .i64 x.n, .string x.s, .slice c x.l.length cp] rfl rfl 26 _ (unhide R3) szE rfl (ex_one _ _ _ _ _ _) ?_)
    refine bodyPost_ret (results_cell_row (P := Tryd.prog) rfl _ _ w.heap.size 26 #[.int .i64 x.k, .int .i64 x.n, .string x.s, .slice c x.l.length cp] (0, 0) _ rfl (setRow_heap _ _ _ _ _ _ (unhide R3)) Tryd.underlying26 rfl szE) rfl ?_
    exact ⟨x, c, cp, rfl, by omega, ((unhide X3).row _ (Nat.lt_succ_self _)).lower (Nat.le_succ _), (unhide B3).grown (grownBy_row _) (unhide B3).size (fun k e => by cases e; exact Nat.le_refl _)⟩
  · have AD := hide (anyD cb a len cap xs w2 (unhide C2))
    unfold DrX at AD
    clear C2
    go_wp2_with fail
    refine (unhide AD).mono ?_
    rintro e w3 ⟨x, c, cp, rfl, hsx, hnx, hc3, hg3⟩
    have B3 := hide ((unhide B2).grown hg3 (unhide B2).size (fun k e => by cases e; omega))
    have R3 := hide ((hg3.block _ (Array.getElem?_eq_some_iff.1 (unhide R2)).1 (fun e => by simp at e; omega)).trans (unhide R2))
    have X3 := hide (hnx.lower (show w.heap.size + 1 ≤ w2.heap.size by omega))
    unfold Ex.cs
    clear hnx hc3 hg3 B2 R2 AD
    go_wp2_with (refine wpList_store_row rfl 26 _ _ rfl w.heap.size #[.int .i64 x.k, .int .i64 x.n, .string x.s, .slice c x.l.length cp] rfl rfl 26 _ (unhide R3) szE rfl (ex_one _ _ _ _ _ _) ?_)
    refine bodyPost_ret (results_cell_row (P := Tryd.prog) rfl _ _ w.heap.size 26 #[.int .i64 x.k, .int .i64 x.n, .string x.s, .slice c x.l.length cp] (0, 0) _ rfl (setRow_heap _ _ _ _ _ _ (unhide R3)) Tryd.underlying26 rfl szE) rfl ?_
    exact ⟨x, c, cp, rfl, by omega, ((unhide X3).row _ (Nat.lt_succ_self _)).lower (Nat.le_succ _), (unhide B3).grown (grownBy_row _) (unhide B3).size (fun k e => by cases e; exact Nat.le_refl _)⟩
def knV : List Ex := [⟨1, 7, ⟨#[]⟩, []⟩, ⟨1, 65535, ⟨#[]⟩, []⟩, ⟨1, 0, ⟨#[]⟩, []⟩]
def knH : Ex := ⟨1, 100, ⟨#[]⟩, []⟩
theorem knV_sz : ∀ i, (xAt knV i).sz ≤ 1 := by
  intro i
  match i with
  | 0 => show (Ex.mk 1 7 ⟨#[]⟩ []).sz ≤ 1; rw [sz_leaf]; decide
  | 1 => show (Ex.mk 1 65535 ⟨#[]⟩ []).sz ≤ 1; rw [sz_leaf]; decide
  | 2 => show (Ex.mk 1 0 ⟨#[]⟩ []).sz ≤ 1; rw [sz_leaf]; decide
  | (i + 3) => show (Ex.mk 0 0 ⟨#[]⟩ []).sz ≤ 1; rw [sz_leaf]; decide
theorem knH_sz : knH.sz ≤ 1 := by unfold knH; rw [sz_leaf]; decide
theorem kn_pk : Pk knH flL knV := ⟨Nat.le_trans knH_sz (by decide), by decide, fun i _ => Nat.le_trans (knV_sz i) (by decide), rfl⟩
theorem kn_pv {w : World} {gn gv : Nat} {t u : TypeId} (hn : w.heap[gn]? = some (.cells #[.string ⟨#[97]⟩, .string ⟨#[98]⟩, .string ⟨#[99]⟩] t (0, 0))) (hv : w.heap[gv]? = some (.cells #[.int .i64 1, .int .i64 7, .string ⟨#[]⟩, .slice none 0 0, .int .i64 1, .int .i64 65535, .string ⟨#[]⟩, .slice none 0 0, .int .i64 1, .int .i64 0, .string ⟨#[]⟩, .slice none 0 0] u (0, 0))) : Pv w knH none gn flL (some ⟨gv, 0, none⟩) knV := by
  refine ⟨(RdX_eq _ _ _ _).2 (.inl rfl), fun j hj => ?_, (Array.getElem?_eq_some_iff.1 hn).1, (RdX_eq _ _ _ _).2 (.inr ⟨gv, 0, rfl, Nat.zero_le _, (Array.getElem?_eq_some_iff.1 hv).1, fun i hi => ?_⟩)⟩
  · have hj : j < 3 := hj
    have : j = 0 ∨ j = 1 ∨ j = 2 := by omega
    rcases this with rfl | rfl | rfl <;> exact Lib.cell_of_heap hn _
  · have hi : i < 3 := hi
    have lf : ∀ (k n : Int) (s : ByteArray), RdX w 0 ⟨k, n, s, []⟩ none := fun k n s => (RdX_eq _ _ _ _).2 (.inl rfl)
    have : i = 0 ∨ i = 1 ∨ i = 2 := by omega
    rcases this with rfl | rfl | rfl
    · exact ⟨Lib.cell_of_heap hv 0, Lib.cell_of_heap hv 1, Lib.cell_of_heap hv 2, none, 0, Lib.cell_of_heap hv 3, lf _ _ _⟩
    · exact ⟨Lib.cell_of_heap hv 4, Lib.cell_of_heap hv 5, Lib.cell_of_heap hv 6, none, 0, Lib.cell_of_heap hv 7, lf _ _ _⟩
    · exact ⟨Lib.cell_of_heap hv 8, Lib.cell_of_heap hv 9, Lib.cell_of_heap hv 10, none, 0, Lib.cell_of_heap hv 11, lf _ _ _⟩
theorem knPut (x : Ex) (hz : x.sz ≤ 1100000) (c : Option Addr) (cp gn gv : Nat) (w : World) (t u : TypeId) (hr : RdX w 0 x c) (hn : w.heap[gn]? = some (.cells #[.string ⟨#[97]⟩, .string ⟨#[98]⟩, .string ⟨#[99]⟩] t (0, 0))) (hv : w.heap[gv]? = some (.cells #[.int .i64 1, .int .i64 7, .string ⟨#[]⟩, .slice none 0 0, .int .i64 1, .int .i64 65535, .string ⟨#[]⟩, .slice none 0 0, .int .i64 1, .int .i64 0, .string ⟨#[]⟩, .slice none 0 0] u (0, 0))) : Calls Tryd.prog 54 #[.agg #[.int .i64 x.k, .int .i64 x.n, .string x.s, .slice c x.l.length cp], .agg #[.int .i64 1, .int .i64 100, .string ⟨#[]⟩, .slice none 0 0], .slice (some ⟨gn, 0, none⟩) 3 3, .slice (some ⟨gv, 0, none⟩) 3 3] w (GiR (putX knH flL knV x) (Up w) w) :=
  putS_any knH flL knV kn_pk x hz c none (some ⟨gv, 0, none⟩) cp 0 gn 3 w hr (kn_pv hn hv)
set_option maxHeartbeats 4000000 in
theorem drawKnown_any (a : Option Addr) (len cap : Nat) (xs : List UInt8) (w : World) (hl : xs.length = len) (hm : len ≤ 1048576) (hr : Rd w a xs) :
    Calls Tryd.prog 18 #[.slice a len cap] w fun r w' => ∃ (e : Ex) (c : Option Addr) (cp : Nat), r = .returned (.agg (e.cs c cp)) ∧ e.sz ≤ 1000 ∧ NewX w' w.heap.size e c ∧ Below w.heap.size w w' := by
  have B0 := hide (below_new w (.cells #[.int .i64 0, .int .i64 0, .string ⟨#[]⟩, .slice none 0 0] 26))
  have R0 := hide (heap_alloc_new w (.cells #[.int .i64 0, .int .i64 0, .string ⟨#[]⟩, .slice none 0 0] 26))
  have hZ0 : (w.alloc (.cells #[.int .i64 0, .int .i64 0, .string ⟨#[]⟩, .slice none 0 0] 26)).heap.size = w.heap.size + 1 := by simp
  have N0 := hide (new_any a len cap xs (w.alloc (.cells #[.int .i64 0, .int .i64 0, .string ⟨#[]⟩, .slice none 0 0] 26)) hl hm (hr.later (unhide B0)))
  have HZ := hide hZ0
  clear hr hZ0
  go_enter Tryd.func18, Tryd.ntmps18
  go_wp2_with fail
  generalize w.alloc (.cells #[.int .i64 0, .int .i64 0, .string ⟨#[]⟩, .slice none 0 0] 26) = W at *
  refine (unhide N0).mono ?_
  rintro e w1 ⟨rfl, hc1, hb1⟩
  have R1 := hide ((hb1.block _ (Array.getElem?_eq_some_iff.1 (unhide R0)).1).trans (unhide R0))
  have B1 := hide ((unhide B0).trans (hb1.mono (unhide B0).size))
  have o1 : w.heap.size < W.heap.size := by have := unhide HZ; omega
  have hs1 := hb1.size
  have ON := hide (once_any W.heap.size a len cap xs 3 w1 (by omega) hc1)
  generalize W.heap.size = cb at *
  clear hc1 hb1 N0 R0 B0 HZ
  go_wp2_with fail
  refine (unhide ON).mono ?_
  rintro e w2 ⟨q, rfl, hc2, hg2⟩
  have B2 := hide ((unhide B1).grown hg2 (unhide B1).size (fun k e => by cases e; omega))
  have R2 := hide ((hg2.block _ (Array.getElem?_eq_some_iff.1 (unhide R1)).1 (fun e => by simp at e; omega)).trans (unhide R1))
  have hs2 := hg2.size
  have C2 := hide hc2
  clear hc2 hg2 B1 R1 ON
  cases q
  · have AD := hide (flatD 3 (by omega) (by decide) drawX3 cb a len cap xs w2 (unhide C2))
    have e45 : 2 * szD 3 + 1 = 45 := by decide
    rw [e45] at AD
    unfold DrX at AD
    clear C2 e45
    go_wp2_with fail
    refine (unhide AD).mono ?_
    rintro e w3 ⟨x, c, cp, rfl, hsx, hnx, hc3, hg3⟩
    have B3 := hide ((unhide B2).grown hg3 (unhide B2).size (fun k e => by cases e; omega))
    have R3 := hide ((hg3.block _ (Array.getElem?_eq_some_iff.1 (unhide R2)).1 (fun e => by simp at e; omega)).trans (unhide R2))
    have X3 := hide (hnx.lower (show w.heap.size + 1 ≤ w2.heap.size by omega))
    unfold Ex.cs
    clear hnx hc3 hg3 B2 R2 AD
    go_wp2_with (refine wpList_store_row rfl 26 _ _ rfl w.heap.size #[.int .i64 x.k, .int .i64 x.n, .string x.s, .slice c x.l.length cp] rfl rfl 26 _ (unhide R3) szE rfl (ex_one _ _ _ _ _ _) ?_)
    refine bodyPost_ret (results_cell_row (P := Tryd.prog) rfl _ _ w.heap.size 26 #[.int .i64 x.k, .int .i64 x.n, .string x.s, .slice c x.l.length cp] (0, 0) _ rfl (setRow_heap _ _ _ _ _ _ (unhide R3)) Tryd.underlying26 rfl szE) rfl ?_
    exact ⟨x, c, cp, rfl, by omega, ((unhide X3).row _ (Nat.lt_succ_self _)).lower (Nat.le_succ _), (unhide B3).grown (grownBy_row _) (unhide B3).size (fun k e => by cases e; exact Nat.le_refl _)⟩
  · have AD := hide (drawX3 3 rfl true cb a len cap xs w2 (unhide C2))
    rw [show szD 3 = 22 by decide] at AD
    unfold DrX at AD
    clear C2
    go_wp2_with fail
    refine (unhide AD).mono ?_
    rintro e w3 ⟨x, c, cp, rfl, hsx, hnx, hc3, hg3⟩
    have B3 := hide ((unhide B2).grown hg3 (unhide B2).size (fun k e => by cases e; omega))
    have R3 := hide ((hg3.block _ (Array.getElem?_eq_some_iff.1 (unhide R2)).1 (fun e => by simp at e; omega)).trans (unhide R2))
    have X3 := hide (hnx.lower (show w.heap.size + 1 ≤ w2.heap.size by omega))
    have L3 := hide (show w.heap.size + 1 ≤ w3.heap.size by have := hg3.size; omega)
    unfold Ex.cs
    clear hnx hc3 hg3 B2 R2 AD
    go_wp2_with fail
    refine (numD 100 w3).mono ?_
    rintro e w4 ⟨rfl, hb4⟩
    have hb5 := below_new w4 (.cells #[.string ⟨#[97]⟩, .string ⟨#[98]⟩, .string ⟨#[99]⟩] 9)
    have hb45 := hb4.trans (hb5.mono hb4.size)
    have B5 := hide ((unhide B3).trans (hb45.mono (unhide B3).size))
    have R5 := hide (row_keep (unhide R3) hb45)
    have X5 := hide ((unhide X3).later hb45)
    have L5 := hide (Nat.le_trans (unhide L3) hb45.size)
    have N5 := hide (show (w4.alloc (.cells #[.string ⟨#[97]⟩, .string ⟨#[98]⟩, .string ⟨#[99]⟩] 9)).heap[w4.heap.size]? = some (.cells #[.string ⟨#[97]⟩, .string ⟨#[98]⟩, .string ⟨#[99]⟩] 9 (0, 0)) from Array.getElem?_push_size)
    clear hb4 hb5 hb45 B3 R3 X3 L3
    go_wp2_with fail
    generalize w4.alloc (.cells #[.string ⟨#[97]⟩, .string ⟨#[98]⟩, .string ⟨#[99]⟩] 9) = w5 at *
    generalize w4.heap.size = gn at *
    refine (numD 7 w5).mono ?_
    rintro e w6 ⟨rfl, hb6⟩
    have B6 := hide ((unhide B5).trans (hb6.mono (unhide B5).size))
    have R6 := hide (row_keep (unhide R5) hb6)
    have X6 := hide ((unhide X5).later hb6)
    have L6 := hide (Nat.le_trans (unhide L5) hb6.size)
    have N6 := hide (row_keep (unhide N5) hb6)
    clear hb6 B5 R5 X5 L5 N5
    go_wp2_with fail
    refine (numD 65535 w6).mono ?_
    rintro e w7 ⟨rfl, hb7⟩
    have B7 := hide ((unhide B6).trans (hb7.mono (unhide B6).size))
    have R7 := hide (row_keep (unhide R6) hb7)
    have X7 := hide ((unhide X6).later hb7)
    have L7 := hide (Nat.le_trans (unhide L6) hb7.size)
    have N7 := hide (row_keep (unhide N6) hb7)
    clear hb7 B6 R6 X6 L6 N6
    go_wp2_with fail
    refine (numD 0 w7).mono ?_
    rintro e w8 ⟨rfl, hb8⟩
    have B8 := hide ((unhide B7).trans (hb8.mono (unhide B7).size))
    have R8 := hide (row_keep (unhide R7) hb8)
    have X8 := hide ((unhide X7).later hb8)
    have L8 := hide (Nat.le_trans (unhide L7) hb8.size)
    have N8 := hide (row_keep (unhide N7) hb8)
    clear hb8 B7 R7 X7 L7 N7
    have hb9 := below_new w8 (.cells #[.int .i64 1, .int .i64 7, .string ⟨#[]⟩, .slice none 0 0, .int .i64 1, .int .i64 65535, .string ⟨#[]⟩, .slice none 0 0, .int .i64 1, .int .i64 0, .string ⟨#[]⟩, .slice none 0 0] 26)
    have V9 := hide (show (w8.alloc (.cells #[.int .i64 1, .int .i64 7, .string ⟨#[]⟩, .slice none 0 0, .int .i64 1, .int .i64 65535, .string ⟨#[]⟩, .slice none 0 0, .int .i64 1, .int .i64 0, .string ⟨#[]⟩, .slice none 0 0] 26)).heap[w8.heap.size]? = some (.cells #[.int .i64 1, .int .i64 7, .string ⟨#[]⟩, .slice none 0 0, .int .i64 1, .int .i64 65535, .string ⟨#[]⟩, .slice none 0 0, .int .i64 1, .int .i64 0, .string ⟨#[]⟩, .slice none 0 0] 26 (0, 0)) from Array.getElem?_push_size)
    have B9 := hide ((unhide B8).trans (hb9.mono (unhide B8).size))
    have R9 := hide (row_keep (unhide R8) hb9)
    have X9 := hide ((unhide X8).later hb9)
    have L9 := hide (Nat.le_trans (unhide L8) hb9.size)
    have N9 := hide (row_keep (unhide N8) hb9)
    clear hb9 B8 R8 X8 L8 N8
    have PU := hide (knPut x (by omega) c cp gn w8.heap.size _ _ _ ((unhide X9).rd.lower (Nat.zero_le _) _ _) (unhide N9) (unhide V9))
    unfold GiR Ex.cs at PU
    have SY := hide (show (putX knH flL knV x).sz ≤ 1000 from Nat.le_trans (put_szM knH_sz knV_sz x) (by have := ct_szF x; omega))
    go_wp2_with fail
    generalize w8.alloc (.cells #[.int .i64 1, .int .i64 7, .string ⟨#[]⟩, .slice none 0 0, .int .i64 1, .int .i64 65535, .string ⟨#[]⟩, .slice none 0 0, .int .i64 1, .int .i64 0, .string ⟨#[]⟩, .slice none 0 0] 26) = w9 at *
    generalize w8.heap.size = gv at *
    refine (unhide PU).mono ?_
    rintro r w10 ⟨c2, cp2, rfl, hny, hb10⟩
    generalize putX knH flL knV x = y at *
    have B10 := hide ((unhide B9).trans (hb10.mono (unhide B9).size))
    have R10 := hide (row_keep (unhide R9) hb10)
    have Y10 := hide ((show NewX w10 w9.heap.size y c2 from hny).lower (unhide L9))
    clear hny hb10 B9 R9 X9 L9 N9 V9 PU
    go_wp2_with (refine wpList_store_row rfl 26 _ _ rfl w.heap.size #[.int .i64 y.k, .int .i64 y.n, .string y.s, .slice c2 y.l.length cp2] rfl rfl 26 _ (unhide R10) szE rfl (ex_one _ _ _ _ _ _) ?_)
    refine bodyPost_ret (results_cell_row (P := Tryd.prog) rfl _ _ w.heap.size 26 #[.int .i64 y.k, .int .i64 y.n, .string y.s, .slice c2 y.l.length cp2] (0, 0) _ rfl (setRow_heap _ _ _ _ _ _ (unhide R10)) Tryd.underlying26 rfl szE) rfl ?_
    exact ⟨y, c2, cp2, rfl, unhide SY, ((unhide Y10).row _ (Nat.lt_succ_self _)).lower (Nat.le_succ _), (unhide B10).grown (grownBy_row _) (unhide B10).size (fun k e => by cases e; exact Nat.le_refl _)⟩
end Go.Proofs.YtkolflcjkofleaaDoor

namespace Go.Proofs.YtkolflcjkofleaaDoor
open Go.ChangeShapes Go.WideShapes Go.ChangeAt Go.RowKit
set_option linter.unusedVariables false
set_option maxRecDepth 8000
set_option linter.unusedSimpArgs false

set_option maxHeartbeats 1000000 in
theorem atL_any (a : Option Addr) (len cap i : Nat) (xs : List UInt8) (w : World) (hl : xs.length = len) (hm : len ≤ 1048576) (hi : i ≤ 1048576) (hr : Rd w a xs) : Calls Tryd.prog 13 #[.slice a len cap, .int .i64 (i : Nat)] w fun r w' => (∃ n : Nat, n ≤ 255 ∧ r = .returned (.int .i64 (n : Nat))) ∧ w' = w := by
  by_cases h : i < len
  · rcases hr with rfl | ⟨b, off, rfl, hb, hc⟩
    · simp at hl; omega
    have hcx := hc i (by omega)
    have h1 : (i : Int) < (len : Int) := by omega
    have h2 : ¬ ((len : Int) ≤ (i : Int)) := by omega
    obtain ⟨n, hn, hn2⟩ : ∃ n : Nat, bAt xs i = (n : Int) ∧ n ≤ 255 := by
      unfold bAt
      exact ⟨_, rfl, by have := (xs.getD i 0).toNat_lt; omega⟩
    rw [hn] at hcx
    clear hc
    go_enter Tryd.func13, Tryd.ntmps13
    go_wp2
    (first | go_ret2 | go_ret | skip)
    exact ⟨⟨n, hn2, by first | rfl | (congr 2; omega)⟩, rfl⟩
  · have h1 : ¬ ((i : Int) < (len : Int)) := by omega
    have h2 : (len : Int) ≤ (i : Int) := by omega
    go_enter Tryd.func13, Tryd.ntmps13
    go_wp2
    (first | go_ret2 | go_ret | skip)
    have e : (((i * 31 + len * 7) % 256 : Nat) : Int) = ((i : Int) * 31 + (len : Int) * 7) % 256 := by omega
    exact ⟨⟨(i * 31 + len * 7) % 256, by omega, by rw [e]; rfl⟩, rfl⟩
theorem foldA_ok (e : Ex) : okF 6 false (foldA e) = okF 6 false e := by
  unfold foldA
  split
  · rename_i h; rw [h]; exact fold_ok 6 e h
  · rfl
theorem foldA_twice (e : Ex) : foldA (foldA e) = foldA e := by
  by_cases h : okF 6 false e = true
  · have e1 : foldA e = foldX e := by unfold foldA; rw [if_pos h]
    rw [e1]
    unfold foldA
    rw [if_pos (fold_ok 6 e h)]
    exact fold_twice h
  · have e1 : foldA e = e := by unfold foldA; rw [if_neg h]
    rw [e1, e1]
theorem foldA_worth (bs : List Int) (L : List ByteArray) (vs : List Int) (e : Ex) {v : Int} (h : worthA bs L vs e = some v) : worthA bs L vs (foldA e) = some v := by
  unfold worthA at h ⊢
  by_cases ho : okF 6 false e = true
  · rw [if_pos ho] at h
    have e1 : foldA e = foldX e := by unfold foldA; rw [if_pos ho]
    rw [e1, if_pos (fold_ok 6 e ho)]
    exact fold_worth (seW_in bs) (glW_in L vs) 6 e v ho h
  · rw [if_neg ho] at h
    cases h
theorem known_worth (bs : List Int) (L : List ByteArray) (vs : List Int) (e : Ex) {n v : Int} (hk : knownA e = some n) (hw : worthA bs L vs e = some v) : v = n := by
  unfold knownA at hk
  by_cases h : okF 6 false e = true ∧ (foldX e).k = 1
  · rw [if_pos h] at hk
    unfold worthA at hw
    rw [if_pos h.1] at hw
    have hw2 := fold_worth (seW_in bs) (glW_in L vs) 6 e v h.1 hw
    obtain ⟨m, _, e1⟩ := ok_k1 (fold_ok 6 e h.1) h.2
    rw [e1] at hw2 hk
    rw [worth_num] at hw2
    cases hk
    cases hw2
    rfl
  · rw [if_neg h] at hk
    cases hk
theorem foldA_sz (e : Ex) (h : e.sz ≤ 1000) : (foldA e).sz ≤ 1000 := by
  unfold foldA
  split
  · rename_i ho
    have : ∀ (d : Nat) (x : Ex), okF d false x = true → x.sz ≤ (2 ^ d - 1) * 8 := by
      intro d
      induction d with
      | zero => intro x h; cases h
      | succ d ih =>
        intro x h
        have hE : (E0 : ByteArray).size = 0 := rfl
        have hp : 2 ^ (d + 1) = 2 * 2 ^ d := by rw [Nat.pow_succ]; omega
        have h1 : 1 ≤ 2 ^ d := Nat.one_le_two_pow
        rcases ok_sev h with ⟨n, hn, rfl⟩ | ⟨s, hs, rfl⟩ | rfl | ⟨n, hn, rfl⟩ | ⟨s, hs, rfl⟩ | ⟨a, ha, rfl⟩ | ⟨k, a, b, hk, ha, hb, rfl⟩
        · rw [sz_leaf, hE]; omega
        · rw [sz_leaf]; have := name_szF hs; omega
        · rw [sz_leaf, hE]; omega
        · rw [sz_leaf, hE]; omega
        · rw [sz_leaf]; have := name_szF hs; omega
        · rw [show E0 = (⟨#[]⟩ : ByteArray) from rfl, sz_one]; have := ih a ha; omega
        · rw [show E0 = (⟨#[]⟩ : ByteArray) from rfl, sz_two]; have := ih a ha; have := ih b hb; omega
    have h2 := this 6 (foldX e) (fold_ok 6 e ho)
    have : (2 ^ 6 - 1) * 8 = 504 := by decide
    omega
  · exact h
theorem rdu_lit (w : World) : RdU (w.alloc (.cells #[.string ⟨#[103]⟩, .string ⟨#[104]⟩] 9)) (some ⟨w.heap.size, 0, none⟩) [⟨#[103]⟩, ⟨#[104]⟩] := by
  have h : (w.alloc (.cells #[.string ⟨#[103]⟩, .string ⟨#[104]⟩] 9)).heap[w.heap.size]? = some (.cells #[.string ⟨#[103]⟩, .string ⟨#[104]⟩] 9 (0, 0)) := Array.getElem?_push_size
  refine .inr ⟨w.heap.size, 0, rfl, (Array.getElem?_eq_some_iff.1 h).1, fun i hi => ?_⟩
  have hi : i < 2 := hi
  have : i = 0 ∨ i = 1 := by omega
  rcases this with rfl | rfl
  · exact Lib.cell_of_heap h _
  · exact Lib.cell_of_heap h _
end Go.Proofs.YtkolflcjkofleaaDoor

namespace Go.Proofs.YtkolflcjkofleaaDoor
open Go.ChangeShapes Go.WideShapes Go.ChangeAt Go.RowKit
set_option linter.unusedVariables false
set_option maxRecDepth 8000

/-- What is known of a list of texts that came in. -/
structure IsU (W : World) (a : Option Addr) (len : Nat) (L : List ByteArray) : Prop where
  hlen : L.length = len
  max : len ≤ 9223372036854775807
  each : ∀ i, i < len → (tAtS L i).size ≤ 9223372036854775807
  rd : RdU W a L
section
variable {H : Type} {enc : TypeId × Value → H} {W : World} {b0 base : Nat} {spare : TypeId → Bool} {held : Bool}
theorem open_strs {r : Reach} {v : Value} {d : DataW H} {p : List MemPlace} (hv : Value.okWide Tryd.prog W r b0 31 v) (h : DataW.Trod enc Tryd.prog W base spare held 31 v d p) : ∃ a len cap L, v = .slice a len cap ∧ IsU W a len L := by
  obtain ⟨a, len, cap, rfl⟩ := okWide_slice Tryd.underlying31 hv
  obtain ⟨fuel, hf⟩ := h
  rcases open_strings Tryd.underlying31 Tryd.underlying9 (by kernel_rfl) hf with ⟨hcs, _⟩ | ⟨x, l, c, ss, hcs, _, hl, hm, hz, _, hcell, hsz⟩
  · simp [Value.cells] at hcs
    obtain ⟨rfl, rfl, rfl⟩ := hcs
    exact ⟨none, 0, 0, [], rfl, rfl, by omega, fun i hi => by omega, .inl rfl⟩
  · simp [Value.cells] at hcs
    obtain ⟨rfl, rfl, rfl⟩ := hcs
    have hlz : len ≤ ss.length := by rw [hz]; split <;> omega
    have hL : (ss.take len).length = len := by simp; omega
    have hat : ∀ i, i < len → tAtS (ss.take len) i = ss.getD i ByteArray.empty := fun i hi => by
      unfold tAtS
      rw [List.getD_eq_getElem?_getD, List.getElem?_take_of_lt hi, List.getElem?_eq_getElem (by omega), List.getD_eq_getElem?_getD, List.getElem?_eq_getElem (by omega)]
      rfl
    have hmem : ∀ i, i < len → (ss.getD i ByteArray.empty).size ≤ maxLen := fun i hi => by
      rw [List.getD_eq_getElem?_getD, List.getElem?_eq_getElem (by omega)]
      exact hsz _ (List.getElem_mem _)
    refine ⟨some x, len, cap, ss.take len, rfl, hL, by unfold maxLen at hm; omega, fun i hi => by rw [hat i hi]; have := hmem i hi; unfold maxLen at this; omega, ?_⟩
    by_cases h0 : len = 0
    · subst h0; exact .inl (by simp)
    · right
      obtain ⟨b, off, spot⟩ := x
      have h00 := hcell 0 (by omega)
      have hspot : spot = none := by simpa [Addr.add] using World.cell?_spot h00
      subst hspot
      have hadd : ∀ j, (⟨b, off, none⟩ : Addr).add j = ⟨b, off + j, none⟩ := fun j => by
        unfold Addr.add
        by_cases hj : j = 0
        · subst hj; simp
        · simp [hj]
      refine ⟨b, off, rfl, World.block_lt_of_cell? W _ h00, fun i hi => ?_⟩
      rw [hL] at hi
      rw [hat i hi]
      have h3 := hcell i (by omega)
      rw [hadd] at h3
      exact h3
theorem open_exs {r : Reach} {v : Value} {d : DataW H} {p : List MemPlace} (hv : Value.okWide Tryd.prog W r b0 42 v) (h : DataW.Trod enc Tryd.prog W base spare held 42 v d p) : ∃ (e : Ex) (b : Option Addr) (cap : Nat), v = .slice b e.l.length cap ∧ RdX W 0 e b ∧ Fit e := by
  obtain ⟨a0, len, cap, rfl⟩ := okWide_slice Tryd.underlying42 hv
  obtain ⟨fuel, hf⟩ := h
  have hc : Tryd.prog.cellsOf 44 = 4 := by kernel_rfl
  rcases DataW.trod_slice Tryd.underlying42 hf with ⟨hcs, _⟩ | ⟨a, l0, c0, elems, rest, q, hq, hcs, _, hb, hl, hm, hel, hx, _, _⟩
  · simp [Value.cells] at hcs
    obtain ⟨rfl, rfl, rfl⟩ := hcs
    exact ⟨⟨0, 0, E0, []⟩, none, 0, rfl, (RdX_eq _ _ _ _).2 (.inl rfl), (Fit_eq _).2 ⟨by decide, by simp, fun i hi => by simp at hi⟩⟩
  · simp [Value.cells] at hcs
    obtain ⟨rfl, rfl, rfl⟩ := hcs
    have each : ∀ i, i < len → ∃ t : Ex, (W.cell? (a.add (i * 4)) = some (.int .i64 t.k) ∧ W.cell? (a.add (i * 4 + 1)) = some (.int .i64 t.n) ∧ W.cell? (a.add (i * 4 + 2)) = some (.string t.s) ∧ ∃ c cap, W.cell? (a.add (i * 4 + 3)) = some (.slice c t.l.length cap) ∧ RdX W 0 t c) ∧ Fit t := fun i hi => by
      have h4 := hx i hi
      rw [List.getElem?_eq_getElem (by omega), Option.bind_eq_some_iff] at h4
      obtain ⟨cs', p1, p2⟩ := h4
      rw [hc] at p1
      obtain ⟨_, hlen', hcell⟩ := World.cells?_some p1
      obtain ⟨t, c, cap', hcs', hrd, hft⟩ := trod_ex _ cs' _ p2
      refine ⟨t, ⟨?_, ?_, ?_, c, cap', ?_, hrd⟩, hft⟩
      · have e := hcell 0 (by omega); rw [_root_.Go.Deep.add_add, hcs'] at e; simpa using e
      · have e := hcell 1 (by omega); rw [_root_.Go.Deep.add_add, hcs'] at e; simpa using e
      · have e := hcell 2 (by omega); rw [_root_.Go.Deep.add_add, hcs'] at e; simpa using e
      · have e := hcell 3 (by omega); rw [_root_.Go.Deep.add_add, hcs'] at e; simpa using e
    obtain ⟨T, hT⟩ := @_root_.Go.Deep.choose_lt Ex ⟨X0⟩ _ _ each
    have hL : ((List.range len).map T).length = len := by simp
    have hat : ∀ i, i < len → xAt ((List.range len).map T) i = T i := fun i hi => by
      unfold xAt
      rw [List.getD_eq_getElem?_getD, List.getElem?_map, List.getElem?_range hi]
      rfl
    refine ⟨⟨0, 0, E0, (List.range len).map T⟩, some a, cap, by simp [hL], (RdX_eq _ _ _ _).2 ?_, (Fit_eq _).2 ⟨show E0.size ≤ 9223372036854775807 by decide, ?_, fun i hi => ?_⟩⟩
    · by_cases h0 : len = 0
      · subst h0; exact .inl rfl
      · right
        obtain ⟨b, off, spot⟩ := a
        have h00 := (hT 0 (by omega)).1.1
        have hspot : spot = none := by simpa [Addr.add] using World.cell?_spot h00
        subst hspot
        have hadd : ∀ j, (⟨b, off, none⟩ : Addr).add j = ⟨b, off + j, none⟩ := fun j => by
          unfold Addr.add
          by_cases hj : j = 0
          · subst hj; simp
          · simp [hj]
        refine ⟨b, off, rfl, Nat.zero_le _, World.block_lt_of_cell? W _ h00, fun i hi => ?_⟩
        have hi : i < len := by simpa using hi
        show OneX W 0 b (off + i * 4) (xAt ((List.range len).map T) i)
        rw [hat i hi]
        have h3 := (hT i hi).1
        rw [hadd, hadd, hadd, hadd] at h3
        exact h3
    · show ((List.range len).map T).length ≤ _
      rw [hL]; unfold maxLen at hm; omega
    · have hi : i < len := by simpa using hi
      show Fit (xAt ((List.range len).map T) i)
      rw [hat i hi]
      exact (hT i hi).2
end
end Go.Proofs.YtkolflcjkofleaaDoor

namespace Go.Proofs.YtkolflcjkofleaaDoor
open Go.ChangeShapes Go.WideShapes Go.ChangeAt Go.RowKit
set_option linter.unusedVariables false
set_option maxRecDepth 8000

theorem rdn_of_row {w : World} {a : Option Addr} {len cap : Nat} {zs : List Int} (h : IsRow .i64 w a len cap zs) : ∃ xs : List Int, xs.length = len ∧ len ≤ 9223372036854775807 ∧ RdN w a xs := by
  rcases h with ⟨rfl, rfl, rfl, rfl⟩ | ⟨x, rfl, hl, hm, hz, hc, hw⟩
  · exact ⟨[], rfl, by omega, .inl rfl⟩
  · have hL : (zs.take len).length = len := by simp; omega
    refine ⟨zs.take len, hL, by unfold maxLen at hm; omega, ?_⟩
    by_cases h0 : len = 0
    · subst h0; exact .inl (by simp)
    · right
      obtain ⟨b, off, spot⟩ := x
      have h00 := hc 0 (by omega)
      have hspot : spot = none := by simpa [Addr.add] using World.cell?_spot h00
      subst hspot
      have hadd : ∀ j, (⟨b, off, none⟩ : Addr).add j = ⟨b, off + j, none⟩ := fun j => by
        unfold Addr.add
        by_cases hj : j = 0
        · subst hj; simp
        · simp [hj]
      refine ⟨b, off, rfl, World.block_lt_of_cell? w _ h00, fun i hi => ?_⟩
      rw [hL] at hi
      have h3 := hc i (by omega)
      rw [hadd] at h3
      rw [h3]
      unfold nAt
      rw [List.getD_eq_getElem?_getD, List.getD_eq_getElem?_getD, List.getElem?_take_of_lt hi]
theorem rdu_of_own {w : World} {B g cap : Nat} {L : List ByteArray} (h : OwnS w B (.slice (some ⟨g, 0, none⟩) L.length cap) L) : RdU w (some ⟨g, 0, none⟩) L := by
  by_cases h0 : L = []
  · exact .inl h0
  · refine .inr ⟨g, 0, rfl, (World.ownsRow.lt h g rfl).2, fun i hi => ?_⟩
    have := h.cells i hi
    rw [Nat.zero_add]
    exact this
theorem own_n {w : World} {B g n cap : Nat} {xs : List Int} (h : OwnN w B (.slice (some ⟨g, 0, none⟩) n cap) xs) : g < w.heap.size ∧ ∀ i, i < xs.length → w.cell? ⟨g, i, none⟩ = some (.int .i64 (nAt xs i)) := by
  refine ⟨(h.lt (g := g) rfl).2, fun i hi => ?_⟩
  rcases h.rd1 with rfl | ⟨b, off, e, hb, hc⟩
  · simp at hi
  · cases e
    have := hc i hi
    rw [Nat.zero_add] at this
    exact this
theorem ev_of {w : World} {B1 B2 B3 gb gn gv n1 c1 c2 n3 c3 : Nat} {bs vs : List Int} {L : List ByteArray} (h1 : OwnN w B1 (.slice (some ⟨gb, 0, none⟩) n1 c1) bs) (h2 : OwnS w B2 (.slice (some ⟨gn, 0, none⟩) L.length c2) L) (h3 : OwnN w B3 (.slice (some ⟨gv, 0, none⟩) n3 c3) vs) : Ev w gb gn gv bs L vs :=
  ⟨(own_n h1).2, h2.cells, (own_n h3).2, (own_n h1).1, (World.ownsRow.lt h2 gn rfl).2, (own_n h3).1⟩
theorem OwnS.later {w w' : World} {B g n cap : Nat} {L : List ByteArray} (h : OwnS w B (.slice (some ⟨g, 0, none⟩) n cap) L) (hb : Below w.heap.size w w') : OwnS w' B (.slice (some ⟨g, 0, none⟩) n cap) L := by
  obtain ⟨h1, h2⟩ := h
  refine ⟨h1, ?_⟩
  rcases h2 with h2 | ⟨g', cap', cur, e, q1, q2, q3⟩
  · exact .inl h2
  · cases e
    exact .inr ⟨g, cap, cur, rfl, q1, (hb.block _ (Array.getElem?_eq_some_iff.1 q2).1).trans q2, q3⟩
end Go.Proofs.YtkolflcjkofleaaDoor
