/- A drawn term, bent or not; over this seat's translation; conditions stand as hypotheses of each. -/
import Derived.Test.YthgbpofcfmnpdaaDoorDxB
namespace Go.Proofs.YthgbpofcfmnpdaaDoor
open Go.ChangeShapes Go.WideShapes Go.ChangeAt Go.RowKit
set_option linter.unusedVariables false
set_option maxRecDepth 8000
set_option linter.unusedSimpArgs false

/-- While a term is drawn and bent: the answer's block, the term's box, its parts, the cursor. -/
structure Ey (w wr : World) (cb g : Nat) (a : Option Addr) (len cap : Nat) (xs : List UInt8) (e : Ex) (c : Option Addr) (cp : Nat) : Prop where
  res : wr.heap[w.heap.size]? = some (.cells E0x 37 (0, 0))
  box : wr.heap[g]? = some (.cells (e.cs c cp) 37 (0, 0))
  dz : Dz w wr cb a len cap xs
  lt : w.heap.size < g
  own : ∃ F, OwX wr e c F ∧ F.Nodup ∧ ∀ b ∈ F, w.heap.size + 1 ≤ b ∧ b ≠ g
section
variable {w wr w' : World} {cb g : Nat} {a : Option Addr} {len cap : Nat} {xs : List UInt8} {e : Ex} {c : Option Addr} {cp : Nat}
theorem Ey.draw (h : Ey w wr cb g a len cap xs e c cp) (hc : Cur w' cb a len cap xs) (hg : wr.grownBy w' (some cb)) : Ey w w' cb g a len cap xs e c cp := by
  have hl := h.dz.lt
  refine ⟨h.dz.blk hg h.res (Nat.le_refl _), h.dz.blk hg h.box (Nat.le_of_lt h.lt), h.dz.draw hc hg, h.lt, ?_⟩
  obtain ⟨F, h1, h2, h3⟩ := h.own
  exact ⟨F, OwX.keep e c F (fun b hF => hg.block b (OwX.lt e c F h1 b hF) (fun e => by have := (h3 b hF).1; simp at e; omega)) h1, h2, h3⟩
theorem Ey.cells (h : Ey w wr cb g a len cap xs e c cp) : wr.cell? ⟨g, 0, none⟩ = some (.int .i64 e.k) ∧ wr.cell? ⟨g, 1, none⟩ = some (.int .i64 e.n) ∧ wr.cell? ⟨g, 2, none⟩ = some (.string e.s) ∧ wr.cell? ⟨g, 3, none⟩ = some (.slice c e.l.length cp) := ⟨Lib.cell_of_heap h.box 0, Lib.cell_of_heap h.box 1, Lib.cell_of_heap h.box 2, Lib.cell_of_heap h.box 3⟩
theorem Ey.frz (h : Ey w wr cb g a len cap xs e c cp) (j : Nat) : wr.frozen? ⟨g, j, none⟩ = false := by simp [World.frozen?, h.box]
theorem Ey.dzset (h : Ey w wr cb g a len cap xs e c cp) (j : Nat) (v : Value) : Dz w (wr.setCell ⟨g, j, none⟩ v) cb a len cap xs := h.dz.own (grownBy_set (b := g) (o := j) v) (fun k e => by cases e; exact Nat.le_of_lt h.lt)
theorem Ey.resset (h : Ey w wr cb g a len cap xs e c cp) (j : Nat) (v : Value) : (wr.setCell ⟨g, j, none⟩ v).heap[w.heap.size]? = some (.cells E0x 37 (0, 0)) := (heap_setCell_other wr ⟨g, j, none⟩ _ v (by have := h.lt; simp; omega)).trans h.res
theorem ow_l {w : World} {e f : Ex} {c : Option Addr} {F : List Nat} (h : OwX w e c F) (hl : e.l = f.l) : OwX w f c F := by
  rw [OwX_eq] at h ⊢
  rw [← hl]
  exact h
theorem Ey.ownset (h : Ey w wr cb g a len cap xs e c cp) (j : Nat) (v : Value) (f : Ex) (hl : e.l = f.l) : ∃ F, OwX (wr.setCell ⟨g, j, none⟩ v) f c F ∧ F.Nodup ∧ ∀ b ∈ F, w.heap.size + 1 ≤ b ∧ b ≠ g := by
  obtain ⟨F, h1, h2, h3⟩ := h.own
  exact ⟨F, ow_l (OwX.keep e c F (fun b hF => heap_setCell_other wr ⟨g, j, none⟩ b v (h3 b hF).2) h1) hl, h2, h3⟩
theorem Ey.setK (h : Ey w wr cb g a len cap xs e c cp) (y : Int) : Ey w (wr.setCell ⟨g, 0, none⟩ (.int .i64 y)) cb g a len cap xs ⟨y, e.n, e.s, e.l⟩ c cp :=
  ⟨h.resset _ _, heap_setCell_same wr g 0 _ _ _ h.box, h.dzset _ _, h.lt, h.ownset _ _ _ rfl⟩
theorem Ey.setN (h : Ey w wr cb g a len cap xs e c cp) (y : Int) : Ey w (wr.setCell ⟨g, 1, none⟩ (.int .i64 y)) cb g a len cap xs ⟨e.k, y, e.s, e.l⟩ c cp :=
  ⟨h.resset _ _, heap_setCell_same wr g 1 _ _ _ h.box, h.dzset _ _, h.lt, h.ownset _ _ _ rfl⟩
theorem Ey.setS (h : Ey w wr cb g a len cap xs e c cp) (y : ByteArray) : Ey w (wr.setCell ⟨g, 2, none⟩ (.string y)) cb g a len cap xs ⟨e.k, e.n, y, e.l⟩ c cp :=
  ⟨h.resset _ _, heap_setCell_same wr g 2 _ _ _ h.box, h.dzset _ _, h.lt, h.ownset _ _ _ rfl⟩
theorem Ey.later (h : Ey w wr cb g a len cap xs e c cp) (hb : Below wr.heap.size wr w') : Ey w w' cb g a len cap xs e c cp := h.draw (h.dz.cur.later hb) (grownBy_below hb)
/-- The term becomes a part of a new one. -/
theorem Ey.wrap (h : Ey w wr cb g a len cap xs e c cp) : Ey w ((wr.alloc (.cells #[.int .i64 e.k, .int .i64 e.n, .string e.s, .slice c e.l.length cp] 37)).setRow g #[.int .i64 4, .int .i64 0, .string ⟨#[]⟩, .slice (some ⟨wr.heap.size, 0, none⟩) 1 1]) cb g a len cap xs ⟨4, 0, ⟨#[]⟩, [e]⟩ (some ⟨wr.heap.size, 0, none⟩) 1 := by
  have hb := below_new wr (.cells #[.int .i64 e.k, .int .i64 e.n, .string e.s, .slice c e.l.length cp] 37)
  have h' := h.later hb
  have hlt := (Array.getElem?_eq_some_iff.1 h.box).1
  have hl := h.lt
  refine ⟨(setRow_other _ _ _ _ (by omega)).trans h'.res, setRow_heap _ _ _ _ _ _ h'.box, h'.dz.own (grownBy_row _) (fun k e => by cases e; omega), hl, ?_⟩
  obtain ⟨F, h1, h2, h3⟩ := h.own
  have hF := OwX.lt e c F h1
  refine ⟨wr.heap.size :: F, ?_, List.nodup_cons.2 ⟨fun h => by have := hF _ h; omega, h2⟩, fun b hb => ?_⟩
  · refine (OwX_eq _ _ _ _).2 (.inr ⟨wr.heap.size, #[.int .i64 e.k, .int .i64 e.n, .string e.s, .slice c e.l.length cp], 37, [F], rfl, (setRow_other _ _ _ _ (by omega)).trans Array.getElem?_push_size, by simp, rfl, by simp, fun i hi => ?_⟩)
    have hi : i < 1 := hi
    obtain rfl : i = 0 := by omega
    exact ⟨rfl, rfl, rfl, c, cp, rfl, OwX.keep e c F (fun b hb => setRow_other _ _ _ _ (h3 b hb).2) (OwX.later h1 hb)⟩
  · rcases List.mem_cons.1 hb with rfl | hb
    · omega
    · exact h3 b hb
theorem Ey.new (h : Ey w wr cb g a len cap xs e c cp) (cs : Array Value) : NewX (wr.setRow w.heap.size cs) w.heap.size e c := by
  obtain ⟨F, h1, h2, h3⟩ := h.own
  exact ⟨F, OwX.keep e c F (fun b hb => setRow_other _ _ _ _ (by have := (h3 b hb).1; omega)) h1, h2, fun b hb => Nat.le_of_succ_le (h3 b hb).1⟩
theorem Ey.start (hd : Dz w wr cb a len cap xs) (hr : wr.heap[w.heap.size]? = some (.cells E0x 37 (0, 0))) (hn : NewX wr (w.heap.size + 1) e c) : Ey w (wr.alloc (.cells (e.cs c cp) 37)) cb wr.heap.size a len cap xs e c cp := by
  have hb := below_new wr (.cells (e.cs c cp) 37)
  obtain ⟨F, h1, h2, h3⟩ := hn
  exact ⟨(hb.block _ (Array.getElem?_eq_some_iff.1 hr).1).trans hr, Array.getElem?_push_size, hd.later hb, (Array.getElem?_eq_some_iff.1 hr).1, F, OwX.later h1 hb, h2, fun b hb => ⟨h3 b hb, by have := OwX.lt e c F h1 b hb; omega⟩⟩
end
theorem sz_k (e : Ex) (y z : Int) : (Ex.mk y z e.s e.l).sz = e.sz := by obtain ⟨k, n, s, l⟩ := e; simp only [Ex.sz_eq]
theorem sz_s (e : Ex) (y : ByteArray) : (Ex.mk e.k e.n y e.l).sz ≤ y.size + e.sz := by obtain ⟨k, n, s, l⟩ := e; simp only [Ex.sz_eq]; omega
def L10c : List ByteArray := [⟨#[]⟩, ⟨#[97]⟩, ⟨#[109, 111, 118]⟩, ⟨#[65]⟩]
theorem sz10c : ∀ j : Fin 4, (L10c.getD j.val E0).size ≤ 3 := by decide +kernel
set_option maxHeartbeats 8000000 in
theorem anyD (cb : Nat) (a : Option Addr) (len cap : Nat) (xs : List UInt8) (w : World) (hc : Cur w cb a len cap xs) : Calls Tryd.prog 68 #[.pointer (some ⟨cb, 0, none⟩)] w (DrX 31 cb a len cap xs w) := by
  have D0 := hide ((dz_new hc).later (below_new w (.cells E0x 37)))
  have R0 := hide (heap_alloc_new w (.cells E0x 37))
  have hZ0 : w.heap.size < (w.alloc (.cells E0x 37)).heap.size := by simp
  unfold DrX
  unfold E0x at D0 R0 hZ0
  clear hc
  go_enter Tryd.func68, Tryd.ntmps68
  go_wp2_with fail
  generalize w.alloc (Obj.cells #[.int .i64 0, .int .i64 0, .string ⟨#[]⟩, .slice none 0 0] 37) = W at *
  refine (once_any cb a len cap xs 2 W (by omega) (unhide D0).cur).mono ?_
  rintro e w1 ⟨q, rfl, hc1, hg1⟩
  have D1 := hide ((unhide D0).draw hc1 hg1)
  have R1 := hide ((unhide D0).blk hg1 (unhide R0) (Nat.le_refl _))
  have hZ1 : w.heap.size < w1.heap.size := Nat.lt_of_lt_of_le hZ0 hg1.size
  have DX := hide (drawX3 3 rfl q cb a len cap xs w1 hc1)
  clear hc1 hg1 D0 R0 hZ0
  go_wp2_with fail
  refine (unhide DX).mono ?_
  rintro e w2 ⟨x, c, cp, rfl, hsx, hnx, hc2, hg2⟩
  have hsx : x.sz ≤ 22 := hsx
  have EY0 := hide (Ey.start (cp := cp) ((unhide D1).draw hc2 hg2) ((unhide D1).blk hg2 (unhide R1) (Nat.le_refl _)) (hnx.lower hZ1))
  obtain ⟨g, hg⟩ : ∃ g, w2.heap.size = g := ⟨_, rfl⟩
  clear hnx hc2 hg2 D1 R1 DX
  unfold Ex.cs
  unfold Ex.cs at EY0
  obtain ⟨W3, hW3⟩ : ∃ W3, w2.alloc (.cells #[.int .i64 x.k, .int .i64 x.n, .string x.s, .slice c x.l.length cp] 37) = W3 := ⟨_, rfl⟩
  rw [hW3] at EY0
  rw [hg] at EY0
  go_wp2_with fail
  refine (below_any cb a len cap xs 14 W3 (by omega) (unhide EY0).dz.cur).mono ?_
  rintro e w4 ⟨i, hx0, hx1, rfl, hc4, hg4⟩
  obtain ⟨hx2, hx3⟩ := hx0 (by omega)
  have EY := hide ((unhide EY0).draw hc4 hg4)
  clear hx0 hx1 hc4 hg4 EY0 hW3
  have h5 : i = 0 ∨ i = 1 ∨ i = 2 ∨ i = 3 ∨ 4 ≤ i := by omega
  have hcl := (unhide EY).dz.cur.lt
  rcases h5 with rfl | rfl | rfl | rfl | h5
  · have BL := hide (below_any cb a len cap xs 14 w4 (by omega) (unhide EY).dz.cur)
    go_wp2_with fail
    refine (unhide BL).mono ?_
    rintro e w5 ⟨y, _, _, rfl, hc5, hg5⟩
    have EX := hide ((unhide EY).draw hc5 hg5)
    have EZ := hide ((unhide EX).setK y)
    have f0 := (unhide EX).frz 0
    obtain ⟨x0, x1, x2, x3⟩ := (unhide EX).cells
    clear hc5 hg5 BL EY
    have RR := hide ((unhide EZ).res)
    unfold E0x at RR
    have hlg := (unhide EZ).lt
    have HSZ := hide (show Ex.sz ⟨y, x.n, x.s, x.l⟩ ≤ 31 from by rw [sz_k]; omega)
    go_wp2_with (refine wpList_store_row rfl 37 _ _ rfl w.heap.size #[.int .i64 y, .int .i64 x.n, .string x.s, .slice c x.l.length cp] rfl rfl 37 _ (unhide RR) szE rfl (ex_one _ _ _ _ _ _) ?_)
    refine bodyPost_ret (results_cell_row (P := Tryd.prog) rfl _ _ w.heap.size 37 #[.int .i64 y, .int .i64 x.n, .string x.s, .slice c x.l.length cp] (0, 0) _ rfl (setRow_heap _ _ _ _ _ _ (unhide RR)) Tryd.underlying37 rfl szE) rfl ?_
    exact ⟨⟨y, x.n, x.s, x.l⟩, c, cp, rfl, unhide HSZ, (unhide EZ).new _, ((unhide EZ).dz.row _).cur, ((unhide EZ).dz.row _).gr⟩
  · have I1 := hide (int_any cb a len cap xs (some ⟨w4.heap.size, 0, none⟩) 3 3 [-1, 1, 65536] (w4.alloc (.cells ([-1, 1, 65536].map (Value.int .i64)).toArray 3)) ((unhide EY).dz.cur.later ((Below.refl _ _).alloc (Nat.le_refl _) _)) (RdN_lit w4 _) (fun ad e => by cases e; show w4.heap.size ≠ cb; omega) rfl (by omega) (by omega))
    have G1 := hide (World.grownBy_alloc w4 (.cells ([-1, 1, 65536].map (Value.int .i64)).toArray 3) (some cb))
    go_wp2_with fail
    refine (unhide I1).mono ?_
    rintro e w5 ⟨j, hj, rfl, hc5, hg5⟩
    have EX := hide ((unhide EY).draw hc5 (grownBy_trans (unhide G1) hg5))
    generalize nAt [-1, 1, 65536] j = y at *
    have EZ := hide ((unhide EX).setN y)
    have f0 := (unhide EX).frz 1
    obtain ⟨x0, x1, x2, x3⟩ := (unhide EX).cells
    clear hc5 hg5 I1 G1 EY
    have RR := hide ((unhide EZ).res)
    unfold E0x at RR
    have hlg := (unhide EZ).lt
    have HSZ := hide (show Ex.sz ⟨x.k, y, x.s, x.l⟩ ≤ 31 from by rw [sz_k]; omega)
    go_wp2_with (refine wpList_store_row rfl 37 _ _ rfl w.heap.size #[.int .i64 x.k, .int .i64 y, .string x.s, .slice c x.l.length cp] rfl rfl 37 _ (unhide RR) szE rfl (ex_one _ _ _ _ _ _) ?_)
    refine bodyPost_ret (results_cell_row (P := Tryd.prog) rfl _ _ w.heap.size 37 #[.int .i64 x.k, .int .i64 y, .string x.s, .slice c x.l.length cp] (0, 0) _ rfl (setRow_heap _ _ _ _ _ _ (unhide RR)) Tryd.underlying37 rfl szE) rfl ?_
    exact ⟨⟨x.k, y, x.s, x.l⟩, c, cp, rfl, unhide HSZ, (unhide EZ).new _, ((unhide EZ).dz.row _).cur, ((unhide EZ).dz.row _).gr⟩
  · have S1 := hide (strD L10c 4 cb a len cap xs w4 rfl (by omega) (by omega) (unhide EY).dz.cur)
    go_wp2_with fail
    refine (unhide S1).mono ?_
    rintro e w5 ⟨j, hj, rfl, hc5, hg5⟩
    have EX := hide ((unhide EY).draw hc5 hg5)
    have OK := hide (sz10c ⟨j, hj⟩)
    simp only at OK
    generalize L10c.getD j E0 = y at *
    have EZ := hide ((unhide EX).setS y)
    have f0 := (unhide EX).frz 2
    obtain ⟨x0, x1, x2, x3⟩ := (unhide EX).cells
    clear hc5 hg5 S1 EY
    have RR := hide ((unhide EZ).res)
    unfold E0x at RR
    have hlg := (unhide EZ).lt
    have HSZ := hide (show Ex.sz ⟨x.k, x.n, y, x.l⟩ ≤ 31 from by have := sz_s x y; have := unhide OK; omega)
    go_wp2_with (refine wpList_store_row rfl 37 _ _ rfl w.heap.size #[.int .i64 x.k, .int .i64 x.n, .string y, .slice c x.l.length cp] rfl rfl 37 _ (unhide RR) szE rfl (ex_one _ _ _ _ _ _) ?_)
    refine bodyPost_ret (results_cell_row (P := Tryd.prog) rfl _ _ w.heap.size 37 #[.int .i64 x.k, .int .i64 x.n, .string y, .slice c x.l.length cp] (0, 0) _ rfl (setRow_heap _ _ _ _ _ _ (unhide RR)) Tryd.underlying37 rfl szE) rfl ?_
    exact ⟨⟨x.k, x.n, y, x.l⟩, c, cp, rfl, unhide HSZ, (unhide EZ).new _, ((unhide EZ).dz.row _).cur, ((unhide EZ).dz.row _).gr⟩
  · have BL := hide (below_any cb a len cap xs 7 w4 (by omega) (unhide EY).dz.cur)
    go_wp2_with fail
    refine (unhide BL).mono ?_
    rintro e w5 ⟨y, hy0, _, rfl, hc5, hg5⟩
    obtain ⟨hy2, hy3⟩ := hy0 (by omega)
    obtain ⟨j, rfl⟩ := Int.eq_ofNat_of_zero_le hy2
    have EX := hide ((unhide EY).draw hc5 hg5)
    have hj : j ≤ 6 := by omega
    have hxj : x.sz + j ≤ 28 := by omega
    clear hc5 hg5 BL EY hy0 hy2 hy3
    go_wp2
    go_loopw [4] (fun i wr => ∃ (m : Nat) (e : Ex) (c : Option Addr) (cp : Nat), i = .int .i64 m ∧ e.sz + m ≤ 28 ∧ Ey w wr cb g a len cap xs e c cp) (fun i _ => (intOf i).toNat)
    case atStart => exact ⟨j, x, c, cp, rfl, hxj, unhide EX⟩
    case round =>
      clear EX hj hxj hsx
      obtain ⟨m, v, d, dp, rfl, hm, hy⟩ := hrel
      have EZ := hide hy
      obtain ⟨x0, x1, x2, x3⟩ := hy.cells
      clear hy
      by_cases h0 : 0 < m
      · have hp : (0 : Int) < (m : Int) := by omega
        have EB := hide ((unhide EZ).later (below_new wr (.cells #[.int .i64 v.k, .int .i64 v.n, .string v.s, .slice d v.l.length dp] 37))).box
        have EW := hide (unhide EZ).wrap
        unfold Ex.cs at EB
        have hlg := (unhide EZ).lt
        go_wp2_with (refine wpList_store_row rfl 37 _ _ rfl g #[.int .i64 4, .int .i64 0, .string ⟨#[]⟩, .slice (some ⟨wr.heap.size, 0, none⟩) 1 1] rfl rfl 37 _ (unhide EB) szE rfl (ex_one _ _ _ _ _ _) ?_)
        go_roundw
        case rel => exact ⟨m - 1, _, _, _, by go_num, by rw [sz_one]; omega, unhide EW⟩
        case measure => simp [intOf]; omega
      · obtain rfl : m = 0 := by omega
        have RR := hide ((unhide EZ).res)
        unfold E0x at RR
        have hlg := (unhide EZ).lt
        have HSZ := hide (show Ex.sz v ≤ 31 from by omega)
        go_wp2_with (refine wpList_store_row rfl 37 _ _ rfl w.heap.size #[.int .i64 v.k, .int .i64 v.n, .string v.s, .slice d v.l.length dp] rfl rfl 37 _ (unhide RR) szE rfl (ex_one _ _ _ _ _ _) ?_)
        refine bodyPost_ret (results_cell_row (P := Tryd.prog) rfl _ _ w.heap.size 37 #[.int .i64 v.k, .int .i64 v.n, .string v.s, .slice d v.l.length dp] (0, 0) _ rfl (setRow_heap _ _ _ _ _ _ (unhide RR)) Tryd.underlying37 rfl szE) rfl ?_
        exact ⟨v, d, dp, rfl, unhide HSZ, (unhide EZ).new _, ((unhide EZ).dz.row _).cur, ((unhide EZ).dz.row _).gr⟩
  · have h0 : ¬ i = 0 := by omega
    have h1 : ¬ i = 1 := by omega
    have h2 : ¬ i = 2 := by omega
    have h3 : ¬ i = 3 := by omega
    have EZ := hide (unhide EY)
    obtain ⟨x0, x1, x2, x3⟩ := (unhide EZ).cells
    clear EY
    have RR := hide ((unhide EZ).res)
    unfold E0x at RR
    have hlg := (unhide EZ).lt
    have HSZ := hide (show Ex.sz x ≤ 31 from by omega)
    go_wp2_with (refine wpList_store_row rfl 37 _ _ rfl w.heap.size #[.int .i64 x.k, .int .i64 x.n, .string x.s, .slice c x.l.length cp] rfl rfl 37 _ (unhide RR) szE rfl (ex_one _ _ _ _ _ _) ?_)
    refine bodyPost_ret (results_cell_row (P := Tryd.prog) rfl _ _ w.heap.size 37 #[.int .i64 x.k, .int .i64 x.n, .string x.s, .slice c x.l.length cp] (0, 0) _ rfl (setRow_heap _ _ _ _ _ _ (unhide RR)) Tryd.underlying37 rfl szE) rfl ?_
    exact ⟨x, c, cp, rfl, unhide HSZ, (unhide EZ).new _, ((unhide EZ).dz.row _).cur, ((unhide EZ).dz.row _).gr⟩
set_option maxHeartbeats 2000000 in
theorem drawExprOk_any (a : Option Addr) (len cap : Nat) (xs : List UInt8) (w : World) (hl : xs.length = len) (hm : len ≤ 1048576) (hr : Rd w a xs) :
    Calls Tryd.prog 20 #[.slice a len cap] w fun r w' => ∃ (e : Ex) (c : Option Addr) (cp : Nat), r = .returned (.agg (e.cs c cp)) ∧ e.sz ≤ 31 ∧ NewX w' w.heap.size e c ∧ Below w.heap.size w w' := by
  have B0 := hide (below_new w (.cells E0x 37))
  have R0 := hide (heap_alloc_new w (.cells E0x 37))
  have hZ0 : (w.alloc (.cells E0x 37)).heap.size = w.heap.size + 1 := by simp
  have N0 := hide (new_any a len cap xs (w.alloc (.cells E0x 37)) hl hm (hr.later (unhide B0)))
  unfold E0x at B0 R0 N0 hZ0
  have HZ := hide hZ0
  clear hr hZ0
  go_enter Tryd.func20, Tryd.ntmps20
  go_wp2_with fail
  generalize w.alloc (Obj.cells #[.int .i64 0, .int .i64 0, .string ⟨#[]⟩, .slice none 0 0] 37) = W at *
  refine (unhide N0).mono ?_
  rintro e w1 ⟨rfl, hc1, hb1⟩
  have R1 := hide ((hb1.block _ (Array.getElem?_eq_some_iff.1 (unhide R0)).1).trans (unhide R0))
  have B1 := hide ((unhide B0).trans (hb1.mono (unhide B0).size))
  have o1 : w.heap.size < W.heap.size := by have := unhide HZ; omega
  have hs1 := hb1.size
  have AD := hide (anyD W.heap.size a len cap xs w1 hc1)
  unfold DrX at AD
  generalize W.heap.size = cb at *
  clear hc1 hb1 N0 R0 B0 HZ
  go_wp2_with fail
  refine (unhide AD).mono ?_
  rintro e w2 ⟨x, c, cp, rfl, hsx, hnx, hc2, hg2⟩
  have B2 := hide ((unhide B1).grown hg2 (unhide B1).size (fun k e => by cases e; omega))
  have R2 := hide ((hg2.block _ (Array.getElem?_eq_some_iff.1 (unhide R1)).1 (fun e => by simp at e; omega)).trans (unhide R1))
  have X2 := hide (hnx.lower (show w.heap.size + 1 ≤ w1.heap.size by omega))
  unfold Ex.cs
  clear hnx hc2 hg2 B1 R1 AD
  go_wp2_with (refine wpList_store_row rfl 37 _ _ rfl w.heap.size #[.int .i64 x.k, .int .i64 x.n, .string x.s, .slice c x.l.length cp] rfl rfl 37 _ (unhide R2) szE rfl (ex_one _ _ _ _ _ _) ?_)
  refine bodyPost_ret (results_cell_row (P := Tryd.prog) rfl _ _ w.heap.size 37 #[.int .i64 x.k, .int .i64 x.n, .string x.s, .slice c x.l.length cp] (0, 0) _ rfl (setRow_heap _ _ _ _ _ _ (unhide R2)) Tryd.underlying37 rfl szE) rfl ?_
  exact ⟨x, c, cp, rfl, hsx, ((unhide X2).row _ (Nat.lt_succ_self _)).lower (Nat.le_succ _), (unhide B2).grown (grownBy_row _) (unhide B2).size (fun k e => by cases e; exact Nat.le_refl _)⟩
end Go.Proofs.YthgbpofcfmnpdaaDoor
