/- Draws of terms without parts; over this seat's translation; conditions stand as hypotheses of each. -/
import Derived.Test.YthgbpofcfmnpdaaDoorLyC
import Derived.Test.YthgbpofcfmnpdaaDoorOxT
import Derived.Test.YthgbpofcfmnpdaaDoorOxH
import Derived.Deep.RegionWith
namespace Go.Proofs.YthgbpofcfmnpdaaDoor
open Go.ChangeShapes Go.WideShapes Go.ChangeAt Go.RowKit
set_option linter.unusedVariables false
set_option maxRecDepth 8000
set_option linter.unusedSimpArgs false

theorem szE : (Tryd.prog.info? 37).map (·.size) = some 4 := by kernel_rfl
theorem ex_one (k n : Int) (x : ByteArray) (b : Option Addr) (i j : Nat) : (#[Value.int .i64 k, .int .i64 n, .string x, .slice b i j] : Array Value).all (·.oneCell') = true := by simp [Value.oneCell']
def E0x : Array Value := #[.int .i64 0, .int .i64 0, .string ⟨#[]⟩, .slice none 0 0]
theorem NewX.drawn {wr w' : World} {cb B : Nat} {e : Ex} {c : Option Addr} (h : NewX wr B e c) (hg : wr.grownBy w' (some cb)) (hB : cb < B) : NewX w' B e c := by
  obtain ⟨F, h1, h2, h3⟩ := h
  exact ⟨F, OwX.keep e c F (fun b hF => hg.block b (OwX.lt e c F h1 b hF) (fun e => by have := h3 b hF; simp at e; omega)) h1, h2, h3⟩
theorem NewX.row {wr : World} {B g : Nat} {e : Ex} {c : Option Addr} (h : NewX wr B e c) (cs : Array Value) (hg : g < B) : NewX (wr.setRow g cs) B e c := by
  obtain ⟨F, h1, h2, h3⟩ := h
  exact ⟨F, OwX.keep e c F (fun b hF => setRow_other _ _ _ _ (by have := h3 b hF; omega)) h1, h2, h3⟩
set_option maxHeartbeats 1000000 in
theorem numY (n y : Int) (hy : n % 65536 = y) (w : World) : Calls Tryd.prog 115 #[.int .i64 n] w fun e w' => e = .returned (.agg #[.int .i64 1, .int .i64 y, .string ⟨#[]⟩, .slice none 0 0]) ∧ Below w.heap.size w w' := by
  have B0 := hide (below_new w (.cells E0x 37))
  have R0 := hide (heap_alloc_new w (.cells E0x 37))
  unfold E0x at B0 R0
  go_enter Tryd.func115, Tryd.ntmps115
  go_wp2_with fail
  generalize w.alloc (Obj.cells #[.int .i64 0, .int .i64 0, .string ⟨#[]⟩, .slice none 0 0] 37) = W at *
  refine (wrapS_any n W).mono ?_
  rintro e w1 ⟨rfl, rfl⟩
  rw [hy]
  clear hy
  go_wp2_with (refine wpList_store_row rfl 37 _ _ rfl w.heap.size #[.int .i64 1, .int .i64 y, .string ⟨#[]⟩, .slice none 0 0] rfl rfl 37 _ (unhide R0) szE rfl (ex_one _ _ _ _ _ _) ?_)
  refine bodyPost_ret (results_cell_row (P := Tryd.prog) rfl _ _ w.heap.size 37 #[.int .i64 1, .int .i64 y, .string ⟨#[]⟩, .slice none 0 0] (0, 0) _ rfl (setRow_heap _ _ _ _ _ _ (unhide R0)) Tryd.underlying37 rfl szE) rfl ?_
  exact ⟨rfl, (unhide B0).grown (grownBy_row _) (unhide B0).size (fun k e => by cases e; exact Nat.le_refl _)⟩

theorem numD (n : Int) (w : World) : Calls Tryd.prog 115 #[.int .i64 n] w fun e w' => e = .returned (.agg #[.int .i64 1, .int .i64 (n % 65536), .string ⟨#[]⟩, .slice none 0 0]) ∧ Below w.heap.size w w' := numY n _ rfl w
def L10a : List ByteArray := [⟨#[97]⟩, ⟨#[98]⟩, ⟨#[99]⟩]
def L10b : List ByteArray := [⟨#[103]⟩, ⟨#[104]⟩]
theorem sz10a : ∀ j : Fin 3, (L10a.getD j.val E0).size ≤ 1 := by decide +kernel
theorem sz10b : ∀ j : Fin 2, (L10b.getD j.val E0).size ≤ 1 := by decide +kernel
set_option maxHeartbeats 4000000 in
theorem leafD (p : Bool) (cb : Nat) (a : Option Addr) (len cap : Nat) (xs : List UInt8) (w : World) (hc : Cur w cb a len cap xs) :
    Calls Tryd.prog 107 #[.pointer (some ⟨cb, 0, none⟩), .bool p] w fun e w' => ∃ (k n : Int) (s : ByteArray), s.size ≤ 1 ∧ e = .returned (.agg #[.int .i64 k, .int .i64 n, .string s, .slice none 0 0]) ∧ Cur w' cb a len cap xs ∧ w.grownBy w' (some cb) := by
  have D0 := hide ((dz_new hc).later (below_new w (.cells E0x 37)))
  have R0 := hide (heap_alloc_new w (.cells E0x 37))
  have ZE : (⟨#[]⟩ : ByteArray).size ≤ 1 := by decide
  unfold E0x at D0 R0
  clear hc
  go_enter Tryd.func107, Tryd.ntmps107
  go_wp2_with fail
  generalize w.alloc (Obj.cells #[.int .i64 0, .int .i64 0, .string ⟨#[]⟩, .slice none 0 0] 37) = W at *
  refine (below_any cb a len cap xs 7 W (by omega) (unhide D0).cur).mono ?_
  rintro e w1 ⟨x, hx0, hx1, rfl, hc1, hg1⟩
  obtain ⟨hx2, hx3⟩ := hx0 (by omega)
  have D1 := hide ((unhide D0).draw hc1 hg1)
  have R1 := hide ((unhide D0).blk hg1 (unhide R0) (Nat.le_refl _))
  have hlt := (unhide D1).lt
  have hcl := hc1.lt
  clear hx0 hx1 hc1 hg1 D0 R0
  have h5 : x = 0 ∨ x = 1 ∨ x = 2 ∨ x = 3 ∨ x = 4 ∨ (x = 5 ∨ x = 6) := by omega
  clear hx2 hx3
  rcases h5 with rfl | rfl | rfl | rfl | rfl | h5
  · have I1 := hide (int_any cb a len cap xs (some ⟨w1.heap.size, 0, none⟩) 7 7 [0, 1, 2, 5, 8, 100, 65535] (w1.alloc (.cells ([0, 1, 2, 5, 8, 100, 65535].map (Value.int .i64)).toArray 3)) ((unhide D1).cur.later ((Below.refl _ _).alloc (Nat.le_refl _) _)) (RdN_lit w1 _) (fun ad e => by cases e; show w1.heap.size ≠ cb; omega) rfl (by omega) (by omega))
    have G1 := hide (World.grownBy_alloc w1 (.cells ([0, 1, 2, 5, 8, 100, 65535].map (Value.int .i64)).toArray 3) (some cb))
    go_wp2_with fail
    refine (unhide I1).mono ?_
    rintro e w2 ⟨j, hj, rfl, hc2, hg2⟩
    have D2 := hide ((unhide D1).draw hc2 (grownBy_trans (unhide G1) hg2))
    have R2 := hide ((unhide D1).blk (grownBy_trans (unhide G1) hg2) (unhide R1) (Nat.le_refl _))
    generalize nAt [0, 1, 2, 5, 8, 100, 65535] j = y at *
    have N2 := hide (numD y w2)
    clear hc2 hg2 I1 G1 D1 R1
    go_wp2_with fail
    refine (unhide N2).mono ?_
    rintro e w3 ⟨rfl, hb3⟩
    have D3 := hide ((unhide D2).later hb3)
    have R3 := hide ((hb3.block _ (Array.getElem?_eq_some_iff.1 (unhide R2)).1).trans (unhide R2))
    generalize y % 65536 = z at *
    clear hb3 D2 R2 N2
    go_wp2_with (refine wpList_store_row rfl 37 _ _ rfl w.heap.size #[.int .i64 1, .int .i64 z, .string ⟨#[]⟩, .slice none 0 0] rfl rfl 37 _ (unhide R3) szE rfl (ex_one _ _ _ _ _ _) ?_)
    refine bodyPost_ret (results_cell_row (P := Tryd.prog) rfl _ _ w.heap.size 37 #[.int .i64 1, .int .i64 z, .string ⟨#[]⟩, .slice none 0 0] (0, 0) _ rfl (setRow_heap _ _ _ _ _ _ (unhide R3)) Tryd.underlying37 rfl szE) rfl ?_
    exact ⟨1, z, ⟨#[]⟩, ZE, rfl, ((unhide D3).row _).cur, ((unhide D3).row _).gr⟩
  · have I1 := hide (int_any cb a len cap xs (some ⟨w1.heap.size, 0, none⟩) 7 7 [0, 1, 2, 5, 8, 100, 65535] (w1.alloc (.cells ([0, 1, 2, 5, 8, 100, 65535].map (Value.int .i64)).toArray 3)) ((unhide D1).cur.later ((Below.refl _ _).alloc (Nat.le_refl _) _)) (RdN_lit w1 _) (fun ad e => by cases e; show w1.heap.size ≠ cb; omega) rfl (by omega) (by omega))
    have G1 := hide (World.grownBy_alloc w1 (.cells ([0, 1, 2, 5, 8, 100, 65535].map (Value.int .i64)).toArray 3) (some cb))
    go_wp2_with fail
    refine (unhide I1).mono ?_
    rintro e w2 ⟨j, hj, rfl, hc2, hg2⟩
    have D2 := hide ((unhide D1).draw hc2 (grownBy_trans (unhide G1) hg2))
    have R2 := hide ((unhide D1).blk (grownBy_trans (unhide G1) hg2) (unhide R1) (Nat.le_refl _))
    generalize nAt [0, 1, 2, 5, 8, 100, 65535] j = y at *
    have N2 := hide (numD y w2)
    clear hc2 hg2 I1 G1 D1 R1
    go_wp2_with fail
    refine (unhide N2).mono ?_
    rintro e w3 ⟨rfl, hb3⟩
    have D3 := hide ((unhide D2).later hb3)
    have R3 := hide ((hb3.block _ (Array.getElem?_eq_some_iff.1 (unhide R2)).1).trans (unhide R2))
    generalize y % 65536 = z at *
    clear hb3 D2 R2 N2
    go_wp2_with (refine wpList_store_row rfl 37 _ _ rfl w.heap.size #[.int .i64 1, .int .i64 z, .string ⟨#[]⟩, .slice none 0 0] rfl rfl 37 _ (unhide R3) szE rfl (ex_one _ _ _ _ _ _) ?_)
    refine bodyPost_ret (results_cell_row (P := Tryd.prog) rfl _ _ w.heap.size 37 #[.int .i64 1, .int .i64 z, .string ⟨#[]⟩, .slice none 0 0] (0, 0) _ rfl (setRow_heap _ _ _ _ _ _ (unhide R3)) Tryd.underlying37 rfl szE) rfl ?_
    exact ⟨1, z, ⟨#[]⟩, ZE, rfl, ((unhide D3).row _).cur, ((unhide D3).row _).gr⟩
  · have S1 := hide (strD L10a 3 cb a len cap xs w1 rfl (by omega) (by omega) (unhide D1).cur)
    go_wp2_with (first | (go_at_call 51; refine (unhide S1).mono ?_; rintro e w7 ⟨j, hj, rfl, hc2, hg2⟩; have D7 := hide ((unhide D1).draw hc2 hg2); have R7 := hide ((unhide D1).blk hg2 (unhide R1) (Nat.le_refl _)); have OK := hide (sz10a ⟨j, hj⟩); clear hc2 hg2; simp only at OK; generalize L10a.getD j E0 = sx at *) | (refine wpList_store_row rfl 37 _ _ rfl w.heap.size #[.int .i64 2, .int .i64 0, .string sx, .slice none 0 0] rfl rfl 37 _ (unhide R7) szE rfl (ex_one _ _ _ _ _ _) ?_))
    refine bodyPost_ret (results_cell_row (P := Tryd.prog) rfl _ _ w.heap.size 37 #[.int .i64 2, .int .i64 0, .string sx, .slice none 0 0] (0, 0) _ rfl (setRow_heap _ _ _ _ _ _ (unhide R7)) Tryd.underlying37 rfl szE) rfl ?_
    exact ⟨2, 0, sx, unhide OK, rfl, ((unhide D7).row _).cur, ((unhide D7).row _).gr⟩
  · have S1 := hide (strD L10a 3 cb a len cap xs w1 rfl (by omega) (by omega) (unhide D1).cur)
    go_wp2_with (first | (go_at_call 51; refine (unhide S1).mono ?_; rintro e w7 ⟨j, hj, rfl, hc2, hg2⟩; have D7 := hide ((unhide D1).draw hc2 hg2); have R7 := hide ((unhide D1).blk hg2 (unhide R1) (Nat.le_refl _)); have OK := hide (sz10a ⟨j, hj⟩); clear hc2 hg2; simp only at OK; generalize L10a.getD j E0 = sx at *) | (refine wpList_store_row rfl 37 _ _ rfl w.heap.size #[.int .i64 2, .int .i64 0, .string sx, .slice none 0 0] rfl rfl 37 _ (unhide R7) szE rfl (ex_one _ _ _ _ _ _) ?_))
    refine bodyPost_ret (results_cell_row (P := Tryd.prog) rfl _ _ w.heap.size 37 #[.int .i64 2, .int .i64 0, .string sx, .slice none 0 0] (0, 0) _ rfl (setRow_heap _ _ _ _ _ _ (unhide R7)) Tryd.underlying37 rfl szE) rfl ?_
    exact ⟨2, 0, sx, unhide OK, rfl, ((unhide D7).row _).cur, ((unhide D7).row _).gr⟩
  · go_wp2_with (refine wpList_store_row rfl 37 _ _ rfl w.heap.size #[.int .i64 3, .int .i64 0, .string ⟨#[]⟩, .slice none 0 0] rfl rfl 37 _ (unhide R1) szE rfl (ex_one _ _ _ _ _ _) ?_)
    refine bodyPost_ret (results_cell_row (P := Tryd.prog) rfl _ _ w.heap.size 37 #[.int .i64 3, .int .i64 0, .string ⟨#[]⟩, .slice none 0 0] (0, 0) _ rfl (setRow_heap _ _ _ _ _ _ (unhide R1)) Tryd.underlying37 rfl szE) rfl ?_
    exact ⟨3, 0, ⟨#[]⟩, ZE, rfl, ((unhide D1).row _).cur, ((unhide D1).row _).gr⟩
  · have h0 : ¬ x = 0 := by omega
    have h1 : ¬ x = 1 := by omega
    have h2 : ¬ x = 2 := by omega
    have h3 : ¬ x = 3 := by omega
    have h4 : ¬ x = 4 := by omega
    clear h5
    have WD := hide (wordD cb a len cap xs w1 (unhide D1).cur)
    have ON := hide (once_any cb a len cap xs 2 w1 (by omega) (unhide D1).cur)
    cases p
    · clear WD
      go_wp2_with fail
      refine (unhide ON).mono ?_
      rintro e w2 ⟨q, rfl, hc2, hg2⟩
      have D2 := hide ((unhide D1).draw hc2 hg2)
      have R2 := hide ((unhide D1).blk hg2 (unhide R1) (Nat.le_refl _))
      clear hc2 hg2 ON D1 R1
      cases q
      · have S1 := hide (strD L10b 2 cb a len cap xs w2 rfl (by omega) (by omega) (unhide D2).cur)
        go_wp2_with (first | (go_at_call 51; refine (unhide S1).mono ?_; rintro e w7 ⟨j, hj, rfl, hc2, hg2⟩; have D7 := hide ((unhide D2).draw hc2 hg2); have R7 := hide ((unhide D2).blk hg2 (unhide R2) (Nat.le_refl _)); have OK := hide (sz10b ⟨j, hj⟩); clear hc2 hg2; simp only at OK; generalize L10b.getD j E0 = sx at *) | (refine wpList_store_row rfl 37 _ _ rfl w.heap.size #[.int .i64 12, .int .i64 0, .string sx, .slice none 0 0] rfl rfl 37 _ (unhide R7) szE rfl (ex_one _ _ _ _ _ _) ?_))
        refine bodyPost_ret (results_cell_row (P := Tryd.prog) rfl _ _ w.heap.size 37 #[.int .i64 12, .int .i64 0, .string sx, .slice none 0 0] (0, 0) _ rfl (setRow_heap _ _ _ _ _ _ (unhide R7)) Tryd.underlying37 rfl szE) rfl ?_
        exact ⟨12, 0, sx, unhide OK, rfl, ((unhide D7).row _).cur, ((unhide D7).row _).gr⟩
      · have BL := hide (below_any cb a len cap xs 3 w2 (by omega) (unhide D2).cur)
        go_wp2_with (first | (go_at_call 50; refine (unhide BL).mono ?_; rintro e w7 ⟨y, _, _, rfl, hc2, hg2⟩; have D7 := hide ((unhide D2).draw hc2 hg2); have R7 := hide ((unhide D2).blk hg2 (unhide R2) (Nat.le_refl _)); clear hc2 hg2) | (refine wpList_store_row rfl 37 _ _ rfl w.heap.size #[.int .i64 11, .int .i64 y, .string ⟨#[]⟩, .slice none 0 0] rfl rfl 37 _ (unhide R7) szE rfl (ex_one _ _ _ _ _ _) ?_))
        refine bodyPost_ret (results_cell_row (P := Tryd.prog) rfl _ _ w.heap.size 37 #[.int .i64 11, .int .i64 y, .string ⟨#[]⟩, .slice none 0 0] (0, 0) _ rfl (setRow_heap _ _ _ _ _ _ (unhide R7)) Tryd.underlying37 rfl szE) rfl ?_
        exact ⟨11, y, ⟨#[]⟩, ZE, rfl, ((unhide D7).row _).cur, ((unhide D7).row _).gr⟩
    · clear ON
      go_wp2_with fail
      refine (unhide WD).mono ?_
      rintro e w2 ⟨y, _, _, rfl, hc2, hg2⟩
      have D2 := hide ((unhide D1).draw hc2 hg2)
      have R2 := hide ((unhide D1).blk hg2 (unhide R1) (Nat.le_refl _))
      have N2 := hide (numD y w2)
      clear hc2 hg2 WD D1 R1
      go_wp2_with fail
      refine (unhide N2).mono ?_
      rintro e w3 ⟨rfl, hb3⟩
      have D3 := hide ((unhide D2).later hb3)
      have R3 := hide ((hb3.block _ (Array.getElem?_eq_some_iff.1 (unhide R2)).1).trans (unhide R2))
      generalize y % 65536 = z at *
      clear hb3 D2 R2 N2
      go_wp2_with (refine wpList_store_row rfl 37 _ _ rfl w.heap.size #[.int .i64 1, .int .i64 z, .string ⟨#[]⟩, .slice none 0 0] rfl rfl 37 _ (unhide R3) szE rfl (ex_one _ _ _ _ _ _) ?_)
      refine bodyPost_ret (results_cell_row (P := Tryd.prog) rfl _ _ w.heap.size 37 #[.int .i64 1, .int .i64 z, .string ⟨#[]⟩, .slice none 0 0] (0, 0) _ rfl (setRow_heap _ _ _ _ _ _ (unhide R3)) Tryd.underlying37 rfl szE) rfl ?_
      exact ⟨1, z, ⟨#[]⟩, ZE, rfl, ((unhide D3).row _).cur, ((unhide D3).row _).gr⟩
end Go.Proofs.YthgbpofcfmnpdaaDoor
