/- Draws of texts, words and tokens; over this seat's translation; conditions stand as hypotheses of each. -/
import Derived.Test.YthgbpofcfmnpdaaDoorLyB
import Derived.Test.YthgbpofcfmnpdaaDoorDrwT
import Derived.Deep.RegionWith
namespace Go.Proofs.YthgbpofcfmnpdaaDoor
open Go.ChangeShapes Go.WideShapes Go.ChangeAt Go.RowKit
set_option linter.unusedVariables false
set_option maxRecDepth 8000
set_option linter.unusedSimpArgs false

/-- The cursor, while draws go on that began at w. -/
structure Dz (w wr : World) (cb : Nat) (a : Option Addr) (len cap : Nat) (xs : List UInt8) : Prop where
  cur : Cur wr cb a len cap xs
  gr : w.grownBy wr (some cb)
  lt : cb < w.heap.size
  cd : xs = [] ∨ ∀ ad, a = some ad → ad.block < w.heap.size
section
variable {w wr w' : World} {cb : Nat} {a : Option Addr} {len cap : Nat} {xs : List UInt8}
theorem dz_new (hc : Cur w cb a len cap xs) : Dz w w cb a len cap xs := ⟨hc, grownBy_below (Below.refl _ _), hc.lt, hc.code⟩
theorem Dz.size (h : Dz w wr cb a len cap xs) : w.heap.size ≤ wr.heap.size := h.gr.size
theorem Dz.draw (h : Dz w wr cb a len cap xs) (hc : Cur w' cb a len cap xs) (hg : wr.grownBy w' (some cb)) : Dz w w' cb a len cap xs := ⟨hc, grownBy_trans h.gr hg, h.lt, h.cd⟩
theorem Dz.later (h : Dz w wr cb a len cap xs) (hb : Below wr.heap.size wr w') : Dz w w' cb a len cap xs := h.draw (h.cur.later hb) (grownBy_below hb)
theorem Dz.own {row : Option Nat} (h : Dz w wr cb a len cap xs) (hg : wr.grownBy w' row) (hr : ∀ g, row = some g → w.heap.size ≤ g) : Dz w w' cb a len cap xs := ⟨h.cur.past hg h.lt h.cd hr, grownBy_own h.gr hg hr, h.lt, h.cd⟩
theorem grownBy_row {W : World} {g : Nat} (cs : Array Value) : W.grownBy (W.setRow g cs) (some g) := ⟨rfl, rfl, rfl, by simp [World.setRow], fun k _ hk => setRow_other _ _ _ _ (fun e => hk (by rw [e]))⟩
theorem Dz.row (h : Dz w wr cb a len cap xs) (cs : Array Value) : Dz w (wr.setRow w.heap.size cs) cb a len cap xs := h.own (grownBy_row cs) (fun g e => by cases e; exact Nat.le_refl _)
/-- A block of the call's own stays while draws go on. -/
theorem Dz.blk {W : World} {g : Nat} {o : Obj} (h : Dz w wr cb a len cap xs) (hg : wr.grownBy W (some cb)) (hb : wr.heap[g]? = some o) (hge : w.heap.size ≤ g) : W.heap[g]? = some o :=
  (hg.block g (Array.getElem?_eq_some_iff.1 hb).1 (fun e => by have := h.lt; simp at e; omega)).trans hb
end
theorem lit_cell (L : List ByteArray) (W : World) (j : Nat) (h : j < L.length) : (W.alloc (.cells (L.map Value.string).toArray 9)).cell? ⟨W.heap.size, j, none⟩ = some (.string (L.getD j E0)) := by
  rw [World.cell?_alloc_at _ _ _ _ rfl, List.getElem?_toArray, List.getElem?_map, List.getElem?_eq_getElem h, List.getD_eq_getElem?_getD, List.getElem?_eq_getElem h]
  rfl
set_option maxHeartbeats 400000 in
theorem strD (L : List ByteArray) (n : Nat) (cb : Nat) (a : Option Addr) (len cap : Nat) (xs : List UInt8) (w0 : World) (hn : L.length = n) (h0 : 0 < n) (hm : n ≤ 1000) (hc : Cur w0 cb a len cap xs) :
    Calls Tryd.prog 51 #[.pointer (some ⟨cb, 0, none⟩), .slice (some ⟨w0.heap.size, 0, none⟩) n n] (w0.alloc (.cells (L.map Value.string).toArray 9)) fun e w' => ∃ j, j < n ∧ e = .returned (.string (L.getD j E0)) ∧ Cur w' cb a len cap xs ∧ w0.grownBy w' (some cb) := by
  have hlt := hc.lt
  have HC := hide (hc.later ((Below.refl _ _).alloc (Nat.le_refl _) (.cells (L.map Value.string).toArray 9)))
  have HT := hide (fun j (hj : j < n) => lit_cell L w0 j (by omega))
  have HZ : w0.heap.size < (w0.alloc (.cells (L.map Value.string).toArray 9)).heap.size := by simp
  have HG := hide (World.grownBy_alloc w0 (.cells (L.map Value.string).toArray 9) (some cb))
  clear hc
  generalize w0.alloc (.cells (L.map Value.string).toArray 9) = w at *
  go_enter Tryd.func51, Tryd.ntmps51
  go_wp2_with fail
  refine (below_any cb a len cap xs n w (by omega) (unhide HC)).mono ?_
  rintro e w1 ⟨x, hx0, hx1, rfl, hc1, hg1⟩
  obtain ⟨hx2, hx3⟩ := hx0 (by omega)
  obtain ⟨j, rfl⟩ := Int.eq_ofNat_of_zero_le hx2
  have hj : j < n := by omega
  have hcx : w1.cell? ⟨w0.heap.size, j, none⟩ = some (.string (L.getD j E0)) := (World.cell?_of_block (w := w) (hg1.block w0.heap.size HZ (by simp; omega))).trans (unhide HT j hj)
  obtain ⟨s, hs⟩ : ∃ s, L.getD j E0 = s := ⟨_, rfl⟩
  have HS := hide hs
  rw [hs] at hcx
  clear hx0 hx1 hs HT
  go_wp2
  go_ret
  exact ⟨j, hj, by rw [unhide HS]; rfl, hc1, grownBy_trans (unhide HG) hg1⟩
set_option maxHeartbeats 400000 in
theorem wordD (cb : Nat) (a : Option Addr) (len cap : Nat) (xs : List UInt8) (w : World) (hc : Cur w cb a len cap xs) :
    Calls Tryd.prog 91 #[.pointer (some ⟨cb, 0, none⟩)] w fun e w' => ∃ x : Int, 0 ≤ x ∧ x ≤ 65535 ∧ e = .returned (.int .i64 x) ∧ Cur w' cb a len cap xs ∧ w.grownBy w' (some cb) := by
  have D0 := hide (dz_new hc)
  go_enter Tryd.func91, Tryd.ntmps91
  go_wp2_with fail
  refine (below_any cb a len cap xs 65536 w (by omega) hc).mono ?_
  rintro e w1 ⟨x, hx0, hx1, rfl, hc1, hg1⟩
  obtain ⟨hx2, hx3⟩ := hx0 (by omega)
  have D1 := hide ((unhide D0).draw hc1 hg1)
  have hlt := hc1.lt
  have I1 := hide (int_any cb a len cap xs (some ⟨w1.heap.size, 0, none⟩) 11 11 [0, 1, 2, 3, 5, 8, 255, 32767, 32768, 65535, x] (w1.alloc (.cells ([0, 1, 2, 3, 5, 8, 255, 32767, 32768, 65535, x].map (Value.int .i64)).toArray 3)) (hc1.later ((Below.refl _ _).alloc (Nat.le_refl _) _)) (RdN_lit w1 _) (fun ad e => by cases e; show w1.heap.size ≠ cb; omega) rfl (by omega) (by omega))
  have G1 := hide (World.grownBy_alloc w1 (.cells ([0, 1, 2, 3, 5, 8, 255, 32767, 32768, 65535, x].map (Value.int .i64)).toArray 3) (some cb))
  have BD := hide (show ∀ j, j < 11 → 0 ≤ nAt [0, 1, 2, 3, 5, 8, 255, 32767, 32768, 65535, x] j ∧ nAt [0, 1, 2, 3, 5, 8, 255, 32767, 32768, 65535, x] j ≤ 65535 from fun j hj => by
    have hk : j = 0 ∨ j = 1 ∨ j = 2 ∨ j = 3 ∨ j = 4 ∨ j = 5 ∨ j = 6 ∨ j = 7 ∨ j = 8 ∨ j = 9 ∨ j = 10 := by omega
    rcases hk with rfl | rfl | rfl | rfl | rfl | rfl | rfl | rfl | rfl | rfl | rfl <;> simp [nAt] <;> omega)
  clear hc1 hg1 hx0 hx1 D0
  go_wp2_with fail
  refine (unhide I1).mono ?_
  rintro e w2 ⟨j, hj, rfl, hc2, hg2⟩
  have D2 := hide ((unhide D1).draw hc2 (grownBy_trans (unhide G1) hg2))
  obtain ⟨b0, b1⟩ := unhide BD j hj
  generalize nAt [0, 1, 2, 3, 5, 8, 255, 32767, 32768, 65535, x] j = y at *
  clear hc2 hg2 I1 G1 BD D1
  go_wp2
  go_ret
  exact ⟨y, b0, b1, rfl, (unhide D2).cur, (unhide D2).gr⟩
def L9a : List ByteArray := [⟨#[97]⟩, ⟨#[115, 116, 97, 114, 116]⟩, ⟨#[120, 49]⟩, ⟨#[114, 54]⟩]
def L9b : List ByteArray := [⟨#[46, 119, 111, 114, 100]⟩, ⟨#[46, 109, 97, 99, 114, 111]⟩, ⟨#[46, 120]⟩]
def L9c : List ByteArray := [⟨#[109, 111, 118]⟩, ⟨#[114, 48]⟩, ⟨#[104, 97, 108, 116]⟩]
def L9d : List ByteArray := [⟨#[58]⟩, ⟨#[44]⟩, ⟨#[40]⟩, ⟨#[41]⟩, ⟨#[46]⟩, ⟨#[60]⟩, ⟨#[64]⟩]
theorem ok9a : ∀ j : Fin 4, (Tk.mk 1 0 (L9a.getD j.val E0)).ok = true := by decide +kernel
theorem ok9b : ∀ j : Fin 3, (Tk.mk 3 0 (L9b.getD j.val E0)).ok = true := by decide +kernel
theorem ok9c : ∀ j : Fin 3, (Tk.mk 5 0 (L9c.getD j.val E0)).ok = true := by decide +kernel
theorem ok9d : ∀ j : Fin 7, (Tk.mk 4 0 (L9d.getD j.val E0)).ok = true := by decide +kernel
theorem ok9n (x : Int) (h0 : 0 ≤ x) (h1 : x ≤ 65535) : (Tk.mk 2 x ⟨#[]⟩).ok = true := by
  unfold Tk.ok
  simp only
  rw [if_pos (by decide), inB_t _ _ _ h0 h1]
  rfl
set_option maxHeartbeats 2000000 in
theorem drawT (cb : Nat) (a : Option Addr) (len cap : Nat) (xs : List UInt8) (w : World) (hc : Cur w cb a len cap xs) :
    Calls Tryd.prog 54 #[.pointer (some ⟨cb, 0, none⟩)] w fun e w' => ∃ T : Tk, T.ok = true ∧ e = .returned T.v ∧ Cur w' cb a len cap xs ∧ w.grownBy w' (some cb) := by
  have D0 := hide ((dz_new hc).later (below_new w (.cells T0c 31)))
  have R0 := hide (heap_alloc_new w (.cells T0c 31))
  unfold T0c at D0 R0
  clear hc
  go_enter Tryd.func54, Tryd.ntmps54
  go_wp2_with fail
  generalize w.alloc (Obj.cells #[.int .i64 0, .int .i64 0, .string ⟨#[]⟩] 31) = W at *
  refine (below_any cb a len cap xs 5 W (by omega) (unhide D0).cur).mono ?_
  rintro e w1 ⟨x, hx0, hx1, rfl, hc1, hg1⟩
  obtain ⟨hx2, hx3⟩ := hx0 (by omega)
  have D1 := hide ((unhide D0).draw hc1 hg1)
  have R1 := hide ((unhide D0).blk hg1 (unhide R0) (Nat.le_refl _))
  clear hx0 hx1 hc1 hg1 D0 R0
  have h5 : x = 0 ∨ x = 1 ∨ x = 2 ∨ x = 3 ∨ x = 4 := by omega
  clear hx2 hx3
  rcases h5 with rfl | rfl | rfl | rfl | rfl
  · have S1 := hide (strD L9a 4 cb a len cap xs w1 rfl (by omega) (by omega) (unhide D1).cur)
    go_wp2_with (first | (go_at_call 51; refine (unhide S1).mono ?_; rintro e w2 ⟨j, hj, rfl, hc2, hg2⟩; have D2 := hide ((unhide D1).draw hc2 hg2); have R2 := hide ((unhide D1).blk hg2 (unhide R1) (Nat.le_refl _)); have OK := hide (ok9a ⟨j, hj⟩); clear hc2 hg2; simp only at OK; generalize L9a.getD j E0 = sx at *) | (refine wpList_store_row rfl 31 _ _ rfl w.heap.size #[.int .i64 1, .int .i64 0, .string sx] rfl rfl 31 _ (unhide R2) szK rfl (tk_one _ _ _) ?_))
    refine bodyPost_ret (results_cell_row (P := Tryd.prog) rfl _ _ w.heap.size 31 #[.int .i64 1, .int .i64 0, .string sx] (0, 0) _ rfl (setRow_heap _ _ _ _ _ _ (unhide R2)) Tryd.underlying31 rfl szK) rfl ?_
    exact ⟨⟨1, 0, sx⟩, unhide OK, rfl, ((unhide D2).row _).cur, ((unhide D2).row _).gr⟩
  · have S1 := hide (wordD cb a len cap xs w1 (unhide D1).cur)
    go_wp2_with (first | (go_at_call 91; refine (unhide S1).mono ?_; rintro e w2 ⟨y, y0, y1, rfl, hc2, hg2⟩; have D2 := hide ((unhide D1).draw hc2 hg2); have R2 := hide ((unhide D1).blk hg2 (unhide R1) (Nat.le_refl _)); have OK := hide (ok9n y y0 y1); clear hc2 hg2) | (refine wpList_store_row rfl 31 _ _ rfl w.heap.size #[.int .i64 2, .int .i64 y, .string ⟨#[]⟩] rfl rfl 31 _ (unhide R2) szK rfl (tk_one _ _ _) ?_))
    refine bodyPost_ret (results_cell_row (P := Tryd.prog) rfl _ _ w.heap.size 31 #[.int .i64 2, .int .i64 y, .string ⟨#[]⟩] (0, 0) _ rfl (setRow_heap _ _ _ _ _ _ (unhide R2)) Tryd.underlying31 rfl szK) rfl ?_
    exact ⟨⟨2, y, ⟨#[]⟩⟩, unhide OK, rfl, ((unhide D2).row _).cur, ((unhide D2).row _).gr⟩
  · have S1 := hide (strD L9b 3 cb a len cap xs w1 rfl (by omega) (by omega) (unhide D1).cur)
    go_wp2_with (first | (go_at_call 51; refine (unhide S1).mono ?_; rintro e w2 ⟨j, hj, rfl, hc2, hg2⟩; have D2 := hide ((unhide D1).draw hc2 hg2); have R2 := hide ((unhide D1).blk hg2 (unhide R1) (Nat.le_refl _)); have OK := hide (ok9b ⟨j, hj⟩); clear hc2 hg2; simp only at OK; generalize L9b.getD j E0 = sx at *) | (refine wpList_store_row rfl 31 _ _ rfl w.heap.size #[.int .i64 3, .int .i64 0, .string sx] rfl rfl 31 _ (unhide R2) szK rfl (tk_one _ _ _) ?_))
    refine bodyPost_ret (results_cell_row (P := Tryd.prog) rfl _ _ w.heap.size 31 #[.int .i64 3, .int .i64 0, .string sx] (0, 0) _ rfl (setRow_heap _ _ _ _ _ _ (unhide R2)) Tryd.underlying31 rfl szK) rfl ?_
    exact ⟨⟨3, 0, sx⟩, unhide OK, rfl, ((unhide D2).row _).cur, ((unhide D2).row _).gr⟩
  · have S1 := hide (strD L9c 3 cb a len cap xs w1 rfl (by omega) (by omega) (unhide D1).cur)
    go_wp2_with (first | (go_at_call 51; refine (unhide S1).mono ?_; rintro e w2 ⟨j, hj, rfl, hc2, hg2⟩; have D2 := hide ((unhide D1).draw hc2 hg2); have R2 := hide ((unhide D1).blk hg2 (unhide R1) (Nat.le_refl _)); have OK := hide (ok9c ⟨j, hj⟩); clear hc2 hg2; simp only at OK; generalize L9c.getD j E0 = sx at *) | (refine wpList_store_row rfl 31 _ _ rfl w.heap.size #[.int .i64 5, .int .i64 0, .string sx] rfl rfl 31 _ (unhide R2) szK rfl (tk_one _ _ _) ?_))
    refine bodyPost_ret (results_cell_row (P := Tryd.prog) rfl _ _ w.heap.size 31 #[.int .i64 5, .int .i64 0, .string sx] (0, 0) _ rfl (setRow_heap _ _ _ _ _ _ (unhide R2)) Tryd.underlying31 rfl szK) rfl ?_
    exact ⟨⟨5, 0, sx⟩, unhide OK, rfl, ((unhide D2).row _).cur, ((unhide D2).row _).gr⟩
  · have S1 := hide (strD L9d 7 cb a len cap xs w1 rfl (by omega) (by omega) (unhide D1).cur)
    go_wp2_with (first | (go_at_call 51; refine (unhide S1).mono ?_; rintro e w2 ⟨j, hj, rfl, hc2, hg2⟩; have D2 := hide ((unhide D1).draw hc2 hg2); have R2 := hide ((unhide D1).blk hg2 (unhide R1) (Nat.le_refl _)); have OK := hide (ok9d ⟨j, hj⟩); clear hc2 hg2; simp only at OK; generalize L9d.getD j E0 = sx at *) | (refine wpList_store_row rfl 31 _ _ rfl w.heap.size #[.int .i64 4, .int .i64 0, .string sx] rfl rfl 31 _ (unhide R2) szK rfl (tk_one _ _ _) ?_))
    refine bodyPost_ret (results_cell_row (P := Tryd.prog) rfl _ _ w.heap.size 31 #[.int .i64 4, .int .i64 0, .string sx] (0, 0) _ rfl (setRow_heap _ _ _ _ _ _ (unhide R2)) Tryd.underlying31 rfl szK) rfl ?_
    exact ⟨⟨4, 0, sx⟩, unhide OK, rfl, ((unhide D2).row _).cur, ((unhide D2).row _).gr⟩
end Go.Proofs.YthgbpofcfmnpdaaDoor
