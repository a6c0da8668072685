/- Contracts over this seat's translation, laid together; conditions stand as hypotheses of each. -/
import Derived.Test.YthgbpofcfmnpdaaGreatDoorTyC
import Derived.Test.YthgbpofcfmnpdaaGreatDoorTyD
import Derived.Test.YthgbpofcfmnpdaaGreatDoorTyE
import Derived.Test.YthgbpofcfmnpdaaGreatDoorTyF
import Derived.Deep.RegionWith

namespace Go.Proofs.YthgbpofcfmnpdaaGreatDoor
open Go.ChangeShapes Go.WideShapes Go.ChangeAt Go.RowKit
set_option linter.unusedVariables false
set_option maxRecDepth 8000
set_option linter.unusedSimpArgs false

theorem szE : (Tryz.prog.info? 26).map (·.size) = some 4 := by kernel_rfl
theorem ex_one (k n : Int) (x : ByteArray) (b : Option Addr) (i j : Nat) : (#[Value.int .i64 k, .int .i64 n, .string x, .slice b i j] : Array Value).all (·.oneCell') = true := by simp [Value.oneCell']
def E0x : Array Value := #[.int .i64 0, .int .i64 0, .string ⟨#[]⟩, .slice none 0 0]
theorem NewX.drawn {wr w' : World} {cb B : Nat} {e : Ex} {c : Option Addr} (h : NewX wr B e c) (hg : wr.grownBy w' (some cb)) (hB : cb < B) : NewX w' B e c := by
  obtain ⟨F, h1, h2, h3⟩ := h
  exact ⟨F, OwX.keep e c F (fun b hF => hg.block b (OwX.lt e c F h1 b hF) (fun e => by have := h3 b hF; simp at e; omega)) h1, h2, h3⟩
theorem NewX.row {wr : World} {B g : Nat} {e : Ex} {c : Option Addr} (h : NewX wr B e c) (cs : Array Value) (hg : g < B) : NewX (wr.setRow g cs) B e c := by
  obtain ⟨F, h1, h2, h3⟩ := h
  exact ⟨F, OwX.keep e c F (fun b hF => setRow_other _ _ _ _ (by have := h3 b hF; omega)) h1, h2, h3⟩
set_option maxHeartbeats 1000000 in
theorem numY (n y : Int) (hy : n % 65536 = y) (w : World) : Calls Tryz.prog 81 #[.int .i64 n] w fun e w' => e = .returned (.agg #[.int .i64 1, .int .i64 y, .string ⟨#[]⟩, .slice none 0 0]) ∧ Below w.heap.size w w' := by
  have B0 := hide (below_new w (.cells E0x 26))
  have R0 := hide (heap_alloc_new w (.cells E0x 26))
  unfold E0x at B0 R0
  go_enter Tryz.func81, Tryz.ntmps81
  go_wp2_with fail
  generalize w.alloc (Obj.cells #[.int .i64 0, .int .i64 0, .string ⟨#[]⟩, .slice none 0 0] 26) = W at *
  refine (wrapS_any n W).mono ?_
  rintro e w1 ⟨rfl, rfl⟩
  rw [hy]
  clear hy
  go_wp2_with (refine wpList_store_row rfl 26 _ _ rfl w.heap.size #[.int .i64 1, .int .i64 y, .string ⟨#[]⟩, .slice none 0 0] rfl rfl 26 _ (unhide R0) szE rfl (ex_one _ _ _ _ _ _) ?_)
  refine bodyPost_ret (results_cell_row (P := Tryz.prog) rfl _ _ w.heap.size 26 #[.int .i64 1, .int .i64 y, .string ⟨#[]⟩, .slice none 0 0] (0, 0) _ rfl (setRow_heap _ _ _ _ _ _ (unhide R0)) Tryz.underlying26 rfl szE) rfl ?_
  exact ⟨rfl, (unhide B0).grown (grownBy_row _) (unhide B0).size (fun k e => by cases e; exact Nat.le_refl _)⟩

theorem numD (n : Int) (w : World) : Calls Tryz.prog 81 #[.int .i64 n] w fun e w' => e = .returned (.agg #[.int .i64 1, .int .i64 (n % 65536), .string ⟨#[]⟩, .slice none 0 0]) ∧ Below w.heap.size w w' := numY n _ rfl w
def L10a : List ByteArray := [⟨#[97]⟩, ⟨#[98]⟩, ⟨#[99]⟩]
def L10b : List ByteArray := [⟨#[103]⟩, ⟨#[104]⟩]
theorem sz10a : ∀ j : Fin 3, (L10a.getD j.val E0).size ≤ 1 := by decide +kernel
theorem sz10b : ∀ j : Fin 2, (L10b.getD j.val E0).size ≤ 1 := by decide +kernel
set_option maxHeartbeats 4000000 in
theorem leafD (p : Bool) (cb : Nat) (a : Option Addr) (len cap : Nat) (xs : List UInt8) (w : World) (hc : Cur w cb a len cap xs) :
    Calls Tryz.prog 58 #[.pointer (some ⟨cb, 0, none⟩), .bool p] w fun e w' => ∃ (k n : Int) (s : ByteArray), s.size ≤ 1 ∧ e = .returned (.agg #[.int .i64 k, .int .i64 n, .string s, .slice none 0 0]) ∧ Cur w' cb a len cap xs ∧ w.grownBy w' (some cb) := by
  have D0 := hide ((dz_new hc).later (below_new w (.cells E0x 26)))
  have R0 := hide (heap_alloc_new w (.cells E0x 26))
  have ZE : (⟨#[]⟩ : ByteArray).size ≤ 1 := by decide
  unfold E0x at D0 R0
  clear hc
  go_enter Tryz.func58, Tryz.ntmps58
  go_wp2_with fail
  generalize w.alloc (Obj.cells #[.int .i64 0, .int .i64 0, .string ⟨#[]⟩, .slice none 0 0] 26) = W at *
  refine (below_any cb a len cap xs 7 W (by omega) (unhide D0).cur).mono ?_
  rintro e w1 ⟨x, hx0, hx1, rfl, hc1, hg1⟩
  obtain ⟨hx2, hx3⟩ := hx0 (by omega)
  have D1 := hide ((unhide D0).draw hc1 hg1)
  have R1 := hide ((unhide D0).blk hg1 (unhide R0) (Nat.le_refl _))
  have hlt := (unhide D1).lt
  have hcl := hc1.lt
  clear hx0 hx1 hc1 hg1 D0 R0
  have h5 : x = 0 ∨ x = 1 ∨ x = 2 ∨ x = 3 ∨ x = 4 ∨ (x = 5 ∨ x = 6) := by omega
  clear hx2 hx3
  rcases h5 with rfl | rfl | rfl | rfl | rfl | h5
  · have I1 := hide (int_any cb a len cap xs (some ⟨w1.heap.size, 0, none⟩) 7 7 [0, 1, 2, 5, 8, 100, 65535] (w1.alloc (.cells ([0, 1, 2, 5, 8, 100, 65535].map (Value.int .i64)).toArray 3)) ((unhide D1).cur.later ((Below.refl _ _).alloc (Nat.le_refl _) _)) (RdN_lit w1 _) (fun ad e => by cases e; show w1.heap.size ≠ cb; omega) rfl (by omega) (by omega))
    have G1 := hide (World.grownBy_alloc w1 (.cells ([0, 1, 2, 5, 8, 100, 65535].map (Value.int .i64)).toArray 3) (some cb))
    go_wp2_with fail
    refine (unhide I1).mono ?_
    rintro e w2 ⟨j, hj, rfl, hc2, hg2⟩
    have D2 := hide ((unhide D1).draw hc2 (grownBy_trans (unhide G1) hg2))
    have R2 := hide ((unhide D1).blk (grownBy_trans (unhide G1) hg2) (unhide R1) (Nat.le_refl _))
    generalize nAt [0, 1, 2, 5, 8, 100, 65535] j = y at *
    have N2 := hide (numD y w2)
    clear hc2 hg2 I1 G1 D1 R1
    go_wp2_with fail
    refine (unhide N2).mono ?_
    rintro e w3 ⟨rfl, hb3⟩
    have D3 := hide ((unhide D2).later hb3)
    have R3 := hide ((hb3.block _ (Array.getElem?_eq_some_iff.1 (unhide R2)).1).trans (unhide R2))
    generalize y % 65536 = z at *
    clear hb3 D2 R2 N2
    go_wp2_with (refine wpList_store_row rfl 26 _ _ rfl w.heap.size #[.int .i64 1, .int .i64 z, .string ⟨#[]⟩, .slice none 0 0] rfl rfl 26 _ (unhide R3) szE rfl (ex_one _ _ _ _ _ _) ?_)
    refine bodyPost_ret (results_cell_row (P := Tryz.prog) rfl _ _ w.heap.size 26 #[.int .i64 1, .int .i64 z, .string ⟨#[]⟩, .slice none 0 0] (0, 0) _ rfl (setRow_heap _ _ _ _ _ _ (unhide R3)) Tryz.underlying26 rfl szE) rfl ?_
    exact ⟨1, z, ⟨#[]⟩, ZE, rfl, ((unhide D3).row _).cur, ((unhide D3).row _).gr⟩
  · have I1 := hide (int_any cb a len cap xs (some ⟨w1.heap.size, 0, none⟩) 7 7 [0, 1, 2, 5, 8, 100, 65535] (w1.alloc (.cells ([0, 1, 2, 5, 8, 100, 65535].map (Value.int .i64)).toArray 3)) ((unhide D1).cur.later ((Below.refl _ _).alloc (Nat.le_refl _) _)) (RdN_lit w1 _) (fun ad e => by cases e; show w1.heap.size ≠ cb; omega) rfl (by omega) (by omega))
    have G1 := hide (World.grownBy_alloc w1 (.cells ([0, 1, 2, 5, 8, 100, 65535].map (Value.int .i64)).toArray 3) (some cb))
    go_wp2_with fail
    refine (unhide I1).mono ?_
    rintro e w2 ⟨j, hj, rfl, hc2, hg2⟩
    have D2 := hide ((unhide D1).draw hc2 (grownBy_trans (unhide G1) hg2))
    have R2 := hide ((unhide D1).blk (grownBy_trans (unhide G1) hg2) (unhide R1) (Nat.le_refl _))
    generalize nAt [0, 1, 2, 5, 8, 100, 65535] j = y at *
    have N2 := hide (numD y w2)
    clear hc2 hg2 I1 G1 D1 R1
    go_wp2_with fail
    refine (unhide N2).mono ?_
    rintro e w3 ⟨rfl, hb3⟩
    have D3 := hide ((unhide D2).later hb3)
    have R3 := hide ((hb3.block _ (Array.getElem?_eq_some_iff.1 (unhide R2)).1).trans (unhide R2))
    generalize y % 65536 = z at *
    clear hb3 D2 R2 N2
    go_wp2_with (refine wpList_store_row rfl 26 _ _ rfl w.heap.size #[.int .i64 1, .int .i64 z, .string ⟨#[]⟩, .slice none 0 0] rfl rfl 26 _ (unhide R3) szE rfl (ex_one _ _ _ _ _ _) ?_)
    refine bodyPost_ret (results_cell_row (P := Tryz.prog) rfl _ _ w.heap.size 26 #[.int .i64 1, .int .i64 z, .string ⟨#[]⟩, .slice none 0 0] (0, 0) _ rfl (setRow_heap _ _ _ _ _ _ (unhide R3)) Tryz.underlying26 rfl szE) rfl ?_
    exact ⟨1, z, ⟨#[]⟩, ZE, rfl, ((unhide D3).row _).cur, ((unhide D3).row _).gr⟩
  · have S1 := hide (strD L10a 3 cb a len cap xs w1 rfl (by omega) (by omega) (unhide D1).cur)
    go_wp2_with (first | (go_at_call 29; refine (unhide S1).mono ?_; rintro e w7 ⟨j, hj, rfl, hc2, hg2⟩; have D7 := hide ((unhide D1).draw hc2 hg2); have R7 := hide ((unhide D1).blk hg2 (unhide R1) (Nat.le_refl _)); have OK := hide (sz10a ⟨j, hj⟩); clear hc2 hg2; simp only at OK; generalize L10a.getD j E0 = sx at *) | (refine wpList_store_row rfl 26 _ _ rfl w.heap.size #[.int .i64 2, .int .i64 0, .string sx, .slice none 0 0] rfl rfl 26 _ (unhide R7) szE rfl (ex_one _ _ _ _ _ _) ?_))
    refine bodyPost_ret (results_cell_row (P := Tryz.prog) rfl _ _ w.heap.size 26 #[.int .i64 2, .int .i64 0, .string sx, .slice none 0 0] (0, 0) _ rfl (setRow_heap _ _ _ _ _ _ (unhide R7)) Tryz.underlying26 rfl szE) rfl ?_
    exact ⟨2, 0, sx, unhide OK, rfl, ((unhide D7).row _).cur, ((unhide D7).row _).gr⟩
  · have S1 := hide (strD L10a 3 cb a len cap xs w1 rfl (by omega) (by omega) (unhide D1).cur)
    go_wp2_with (first | (go_at_call 29; refine (unhide S1).mono ?_; rintro e w7 ⟨j, hj, rfl, hc2, hg2⟩; have D7 := hide ((unhide D1).draw hc2 hg2); have R7 := hide ((unhide D1).blk hg2 (unhide R1) (Nat.le_refl _)); have OK := hide (sz10a ⟨j, hj⟩); clear hc2 hg2; simp only at OK; generalize L10a.getD j E0 = sx at *) | (refine wpList_store_row rfl 26 _ _ rfl w.heap.size #[.int .i64 2, .int .i64 0, .string sx, .slice none 0 0] rfl rfl 26 _ (unhide R7) szE rfl (ex_one _ _ _ _ _ _) ?_))
    refine bodyPost_ret (results_cell_row (P := Tryz.prog) rfl _ _ w.heap.size 26 #[.int .i64 2, .int .i64 0, .string sx, .slice none 0 0] (0, 0) _ rfl (setRow_heap _ _ _ _ _ _ (unhide R7)) Tryz.underlying26 rfl szE) rfl ?_
    exact ⟨2, 0, sx, unhide OK, rfl, ((unhide D7).row _).cur, ((unhide D7).row _).gr⟩
  · go_wp2_with (refine wpList_store_row rfl 26 _ _ rfl w.heap.size #[.int .i64 3, .int .i64 0, .string ⟨#[]⟩, .slice none 0 0] rfl rfl 26 _ (unhide R1) szE rfl (ex_one _ _ _ _ _ _) ?_)
    refine bodyPost_ret (results_cell_row (P := Tryz.prog) rfl _ _ w.heap.size 26 #[.int .i64 3, .int .i64 0, .string ⟨#[]⟩, .slice none 0 0] (0, 0) _ rfl (setRow_heap _ _ _ _ _ _ (unhide R1)) Tryz.underlying26 rfl szE) rfl ?_
    exact ⟨3, 0, ⟨#[]⟩, ZE, rfl, ((unhide D1).row _).cur, ((unhide D1).row _).gr⟩
  · have h0 : ¬ x = 0 := by omega
    have h1 : ¬ x = 1 := by omega
    have h2 : ¬ x = 2 := by omega
    have h3 : ¬ x = 3 := by omega
    have h4 : ¬ x = 4 := by omega
    clear h5
    have WD := hide (wordD cb a len cap xs w1 (unhide D1).cur)
    have ON := hide (once_any cb a len cap xs 2 w1 (by omega) (unhide D1).cur)
    cases p
    · clear WD
      go_wp2_with fail
      refine (unhide ON).mono ?_
      rintro e w2 ⟨q, rfl, hc2, hg2⟩
      have D2 := hide ((unhide D1).draw hc2 hg2)
      have R2 := hide ((unhide D1).blk hg2 (unhide R1) (Nat.le_refl _))
      clear hc2 hg2 ON D1 R1
      cases q
      · have S1 := hide (strD L10b 2 cb a len cap xs w2 rfl (by omega) (by omega) (unhide D2).cur)
        go_wp2_with (first | (go_at_call 29; refine (unhide S1).mono ?_; rintro e w7 ⟨j, hj, rfl, hc2, hg2⟩; have D7 := hide ((unhide D2).draw hc2 hg2); have R7 := hide ((unhide D2).blk hg2 (unhide R2) (Nat.le_refl _)); have OK := hide (sz10b ⟨j, hj⟩); clear hc2 hg2; simp only at OK; generalize L10b.getD j E0 = sx at *) | (refine wpList_store_row rfl 26 _ _ rfl w.heap.size #[.int .i64 12, .int .i64 0, .string sx, .slice none 0 0] rfl rfl 26 _ (unhide R7) szE rfl (ex_one _ _ _ _ _ _) ?_))
        refine bodyPost_ret (results_cell_row (P := Tryz.prog) rfl _ _ w.heap.size 26 #[.int .i64 12, .int .i64 0, .string sx, .slice none 0 0] (0, 0) _ rfl (setRow_heap _ _ _ _ _ _ (unhide R7)) Tryz.underlying26 rfl szE) rfl ?_
        exact ⟨12, 0, sx, unhide OK, rfl, ((unhide D7).row _).cur, ((unhide D7).row _).gr⟩
      · have BL := hide (below_any cb a len cap xs 3 w2 (by omega) (unhide D2).cur)
        go_wp2_with (first | (go_at_call 28; refine (unhide BL).mono ?_; rintro e w7 ⟨y, _, _, rfl, hc2, hg2⟩; have D7 := hide ((unhide D2).draw hc2 hg2); have R7 := hide ((unhide D2).blk hg2 (unhide R2) (Nat.le_refl _)); clear hc2 hg2) | (refine wpList_store_row rfl 26 _ _ rfl w.heap.size #[.int .i64 11, .int .i64 y, .string ⟨#[]⟩, .slice none 0 0] rfl rfl 26 _ (unhide R7) szE rfl (ex_one _ _ _ _ _ _) ?_))
        refine bodyPost_ret (results_cell_row (P := Tryz.prog) rfl _ _ w.heap.size 26 #[.int .i64 11, .int .i64 y, .string ⟨#[]⟩, .slice none 0 0] (0, 0) _ rfl (setRow_heap _ _ _ _ _ _ (unhide R7)) Tryz.underlying26 rfl szE) rfl ?_
        exact ⟨11, y, ⟨#[]⟩, ZE, rfl, ((unhide D7).row _).cur, ((unhide D7).row _).gr⟩
    · clear ON
      go_wp2_with fail
      refine (unhide WD).mono ?_
      rintro e w2 ⟨y, _, _, rfl, hc2, hg2⟩
      have D2 := hide ((unhide D1).draw hc2 hg2)
      have R2 := hide ((unhide D1).blk hg2 (unhide R1) (Nat.le_refl _))
      have N2 := hide (numD y w2)
      clear hc2 hg2 WD D1 R1
      go_wp2_with fail
      refine (unhide N2).mono ?_
      rintro e w3 ⟨rfl, hb3⟩
      have D3 := hide ((unhide D2).later hb3)
      have R3 := hide ((hb3.block _ (Array.getElem?_eq_some_iff.1 (unhide R2)).1).trans (unhide R2))
      generalize y % 65536 = z at *
      clear hb3 D2 R2 N2
      go_wp2_with (refine wpList_store_row rfl 26 _ _ rfl w.heap.size #[.int .i64 1, .int .i64 z, .string ⟨#[]⟩, .slice none 0 0] rfl rfl 26 _ (unhide R3) szE rfl (ex_one _ _ _ _ _ _) ?_)
      refine bodyPost_ret (results_cell_row (P := Tryz.prog) rfl _ _ w.heap.size 26 #[.int .i64 1, .int .i64 z, .string ⟨#[]⟩, .slice none 0 0] (0, 0) _ rfl (setRow_heap _ _ _ _ _ _ (unhide R3)) Tryz.underlying26 rfl szE) rfl ?_
      exact ⟨1, z, ⟨#[]⟩, ZE, rfl, ((unhide D3).row _).cur, ((unhide D3).row _).gr⟩
end Go.Proofs.YthgbpofcfmnpdaaGreatDoor

namespace Go.Proofs.YthgbpofcfmnpdaaGreatDoor
open Go.ChangeShapes Go.WideShapes Go.ChangeAt Go.RowKit
set_option linter.unusedVariables false
set_option maxRecDepth 8000
set_option linter.unusedSimpArgs false

/-- The parts of a term in blocks of its own from B on, all below C. -/
def HalfX (w : World) (B C : Nat) (e : Ex) (a : Option Addr) : Prop := ∃ F, OwX w e a F ∧ F.Nodup ∧ ∀ b ∈ F, B ≤ b ∧ b < C
theorem NewX.half {w : World} {B : Nat} {e : Ex} {a : Option Addr} (h : NewX w B e a) : HalfX w B w.heap.size e a := by
  obtain ⟨F, h1, h2, h3⟩ := h
  exact ⟨F, h1, h2, fun b hb => ⟨h3 b hb, OwX.lt e a F h1 b hb⟩⟩
theorem HalfX.upto {w : World} {B C D : Nat} {e : Ex} {a : Option Addr} (h : HalfX w B C e a) (hD : C ≤ D) : HalfX w B D e a := by
  obtain ⟨F, h1, h2, h3⟩ := h
  exact ⟨F, h1, h2, fun b hb => ⟨(h3 b hb).1, Nat.lt_of_lt_of_le (h3 b hb).2 hD⟩⟩
theorem HalfX.later {w w' : World} {B C : Nat} {e : Ex} {a : Option Addr} (h : HalfX w B C e a) (hb : Below w.heap.size w w') : HalfX w' B C e a := by
  obtain ⟨F, h1, h2, h3⟩ := h
  exact ⟨F, h1.later hb, h2, h3⟩
theorem HalfX.drawn {w w' : World} {B C cb : Nat} {e : Ex} {a : Option Addr} (h : HalfX w B C e a) (hg : w.grownBy w' (some cb)) (hB : cb < B) : HalfX w' B C e a := by
  obtain ⟨F, h1, h2, h3⟩ := h
  exact ⟨F, OwX.keep e a F (fun b hF => hg.block b (OwX.lt e a F h1 b hF) (fun e => by have := (h3 b hF).1; simp at e; omega)) h1, h2, h3⟩
theorem HalfX.new {w : World} {B C : Nat} {e : Ex} {a : Option Addr} (h : HalfX w B C e a) : NewX w B e a := by
  obtain ⟨F, h1, h2, h3⟩ := h
  exact ⟨F, h1, h2, fun b hb => (h3 b hb).1⟩
theorem NewX.one {w : World} {B : Nat} {x : Ex} {c : Option Addr} {cp : Nat} (h : NewX w B x c) (hB : B ≤ w.heap.size) (k n : Int) (s : ByteArray) (t : TypeId) : NewX (w.alloc (.cells #[.int .i64 x.k, .int .i64 x.n, .string x.s, .slice c x.l.length cp] t)) B ⟨k, n, s, [x]⟩ (some ⟨w.heap.size, 0, none⟩) := by
  obtain ⟨F, h1, h2, h3⟩ := h
  have hl := OwX.lt x c F h1
  refine ⟨w.heap.size :: F, (OwX_eq _ _ _ _).2 (.inr ⟨w.heap.size, _, t, [F], rfl, Array.getElem?_push_size, by simp, rfl, by simp, fun i hi => ?_⟩), List.nodup_cons.2 ⟨fun h => by have := hl _ h; omega, h2⟩, fun b hb => ?_⟩
  · have hi : i < 1 := hi
    obtain rfl : i = 0 := by omega
    exact ⟨rfl, rfl, rfl, c, cp, rfl, OwX.later h1 ((Below.refl _ _).alloc (Nat.le_refl _) _)⟩
  · rcases List.mem_cons.1 hb with rfl | hb
    · exact hB
    · exact h3 b hb
theorem HalfX.two {w : World} {B C : Nat} {x y : Ex} {c d : Option Addr} {cp dp : Nat} (h : HalfX w B C x c) (k : NewX w C y d) (hB : B ≤ C) (hC : C ≤ w.heap.size) (k' n : Int) (s : ByteArray) (t : TypeId) : NewX (w.alloc (.cells #[.int .i64 x.k, .int .i64 x.n, .string x.s, .slice c x.l.length cp, .int .i64 y.k, .int .i64 y.n, .string y.s, .slice d y.l.length dp] t)) B ⟨k', n, s, [x, y]⟩ (some ⟨w.heap.size, 0, none⟩) := by
  obtain ⟨F, h1, h2, h3⟩ := h
  obtain ⟨G, k1, k2, k3⟩ := k
  have hl := OwX.lt x c F h1
  have kl := OwX.lt y d G k1
  refine ⟨w.heap.size :: (F ++ G), (OwX_eq _ _ _ _).2 (.inr ⟨w.heap.size, _, t, [F, G], rfl, Array.getElem?_push_size, by simp, rfl, by simp, fun i hi => ?_⟩), List.nodup_cons.2 ⟨fun h => ?_, List.nodup_append.2 ⟨h2, k2, fun a ha b hb e => ?_⟩⟩, fun b hb => ?_⟩
  · have hi : i < 2 := hi
    have hb := (Below.refl w.heap.size w).alloc (Nat.le_refl _) (.cells #[.int .i64 x.k, .int .i64 x.n, .string x.s, .slice c x.l.length cp, .int .i64 y.k, .int .i64 y.n, .string y.s, .slice d y.l.length dp] t)
    have hi2 : i = 0 ∨ i = 1 := by omega
    rcases hi2 with rfl | rfl
    · exact ⟨rfl, rfl, rfl, c, cp, rfl, OwX.later h1 hb⟩
    · exact ⟨rfl, rfl, rfl, d, dp, rfl, OwX.later k1 hb⟩
  · rcases List.mem_append.1 h with h | h
    · have := hl _ h; omega
    · have := kl _ h; omega
  · subst e
    have := (h3 _ ha).2
    have := k3 _ hb
    omega
  · rcases List.mem_cons.1 hb with rfl | hb
    · omega
    · rcases List.mem_append.1 hb with hb | hb
      · exact (h3 b hb).1
      · have := k3 b hb; omega
theorem sz_one (k n : Int) (x : Ex) : (Ex.mk k n ⟨#[]⟩ [x]).sz = 1 + x.sz := by
  rw [Ex.sz_eq]
  show 0 + 1 + (x.sz + 0) = _
  omega
theorem sz_two (k n : Int) (x y : Ex) : (Ex.mk k n ⟨#[]⟩ [x, y]).sz = 2 + x.sz + y.sz := by
  rw [Ex.sz_eq]
  show 0 + 2 + (x.sz + (y.sz + 0)) = _
  omega
theorem sz_leaf (k n : Int) (s : ByteArray) : (Ex.mk k n s []).sz = s.size := by
  rw [Ex.sz_eq]
  rfl
/-- How large a drawn term can be. -/
def szD : Nat → Nat
  | 0 => 1
  | d + 1 => 2 + 2 * szD d
def DrX (n : Nat) (cb : Nat) (a : Option Addr) (len cap : Nat) (xs : List UInt8) (w : World) (r : Ending) (w' : World) : Prop :=
  ∃ (e : Ex) (c : Option Addr) (cp : Nat), r = .returned (.agg (e.cs c cp)) ∧ e.sz ≤ n ∧ NewX w' w.heap.size e c ∧ Cur w' cb a len cap xs ∧ w.grownBy w' (some cb)
def DrP (d : Nat) : Prop := ∀ (m : Int) (hm : m = (d : Int)) (p : Bool) (cb : Nat) (a : Option Addr) (len cap : Nat) (xs : List UInt8) (w : World), Cur w cb a len cap xs → Calls Tryz.prog 27 #[.pointer (some ⟨cb, 0, none⟩), .int .i64 m, .bool p] w (DrX (szD d) cb a len cap xs w)
theorem szD_pos (d : Nat) : 1 ≤ szD d := by cases d <;> unfold szD <;> omega
set_option maxHeartbeats 2000000 in
theorem drawX0 : DrP 0 := by
  rintro m rfl p cb a len cap xs w hc
  have D0 := hide ((dz_new hc).later (below_new w (.cells E0x 26)))
  have R0 := hide (heap_alloc_new w (.cells E0x 26))
  unfold E0x at D0 R0
  have LF := hide (leafD p cb a len cap xs _ (unhide D0).cur)
  clear hc
  go_enter Tryz.func27, Tryz.ntmps27
  go_wp2_with fail
  generalize w.alloc (Obj.cells #[.int .i64 0, .int .i64 0, .string ⟨#[]⟩, .slice none 0 0] 26) = W at *
  refine (unhide LF).mono ?_
  rintro e w1 ⟨k, n, s, hs, rfl, hc1, hg1⟩
  have D1 := hide ((unhide D0).draw hc1 hg1)
  have R1 := hide ((unhide D0).blk hg1 (unhide R0) (Nat.le_refl _))
  clear hc1 hg1 D0 R0 LF
  go_wp2_with (refine wpList_store_row rfl 26 _ _ rfl w.heap.size #[.int .i64 k, .int .i64 n, .string s, .slice none 0 0] rfl rfl 26 _ (unhide R1) szE rfl (ex_one _ _ _ _ _ _) ?_)
  refine bodyPost_ret (results_cell_row (P := Tryz.prog) rfl _ _ w.heap.size 26 #[.int .i64 k, .int .i64 n, .string s, .slice none 0 0] (0, 0) _ rfl (setRow_heap _ _ _ _ _ _ (unhide R1)) Tryz.underlying26 rfl szE) rfl ?_
  exact ⟨⟨k, n, s, []⟩, none, 0, rfl, by rw [sz_leaf]; exact hs, NewX.nil _ _ _ _ _ _, ((unhide D1).row _).cur, ((unhide D1).row _).gr⟩
set_option maxHeartbeats 8000000 in
theorem drawXS (d : Nat) (hd : d ≤ 2) (ih : DrP d) : DrP (d + 1) := by
  rintro m hm p cb a len cap xs w hc
  have hm0 : ¬ m = 0 := by omega
  have hm1 : 0 < m := by omega
  have hm2 : m ≤ 3 := by omega
  have hmd : m - 1 = (d : Int) := by omega
  have D0 := hide ((dz_new hc).later (below_new w (.cells E0x 26)))
  have R0 := hide (heap_alloc_new w (.cells E0x 26))
  have hZ0 : w.heap.size < (w.alloc (.cells E0x 26)).heap.size := by simp
  have IH := hide (fun wr (h : Cur wr cb a len cap xs) => ih (m - 1) hmd p cb a len cap xs wr h)
  have hsz : szD (d + 1) = 2 + 2 * szD d := by rw [szD]
  have hsp := szD_pos d
  unfold DrX
  unfold DrX at IH
  rw [hsz]
  generalize szD d = z at *
  unfold E0x at D0 R0 hZ0
  clear hc ih hmd hm
  go_enter Tryz.func27, Tryz.ntmps27
  go_wp2_with fail
  generalize w.alloc (Obj.cells #[.int .i64 0, .int .i64 0, .string ⟨#[]⟩, .slice none 0 0] 26) = W at *
  refine (once_any cb a len cap xs 3 W (by omega) (unhide D0).cur).mono ?_
  rintro e w1 ⟨q, rfl, hc1, hg1⟩
  have D1 := hide ((unhide D0).draw hc1 hg1)
  have R1 := hide ((unhide D0).blk hg1 (unhide R0) (Nat.le_refl _))
  have hlt := (unhide D1).lt
  have hcl := hc1.lt
  have hZ1 : w.heap.size < w1.heap.size := Nat.lt_of_lt_of_le hZ0 hg1.size
  clear hc1 hg1 D0 R0 hZ0
  cases q
  case true =>
    have LF := hide (leafD p cb a len cap xs _ (unhide D1).cur)
    clear IH
    go_wp2_with fail
    refine (unhide LF).mono ?_
    rintro e w2 ⟨k, n, s, hs, rfl, hc2, hg2⟩
    have D2 := hide ((unhide D1).draw hc2 hg2)
    have R2 := hide ((unhide D1).blk hg2 (unhide R1) (Nat.le_refl _))
    clear hc2 hg2 D1 R1 LF
    go_wp2_with (refine wpList_store_row rfl 26 _ _ rfl w.heap.size #[.int .i64 k, .int .i64 n, .string s, .slice none 0 0] rfl rfl 26 _ (unhide R2) szE rfl (ex_one _ _ _ _ _ _) ?_)
    refine bodyPost_ret (results_cell_row (P := Tryz.prog) rfl _ _ w.heap.size 26 #[.int .i64 k, .int .i64 n, .string s, .slice none 0 0] (0, 0) _ rfl (setRow_heap _ _ _ _ _ _ (unhide R2)) Tryz.underlying26 rfl szE) rfl ?_
    exact ⟨⟨k, n, s, []⟩, none, 0, rfl, by rw [sz_leaf]; omega, NewX.nil _ _ _ _ _ _, ((unhide D2).row _).cur, ((unhide D2).row _).gr⟩
  case false =>
    have I1 := hide (int_any cb a len cap xs (some ⟨w1.heap.size, 0, none⟩) 10 10 [5, 5, 5, 6, 6, 4, 7, 8, 9, 10] (w1.alloc (.cells ([5, 5, 5, 6, 6, 4, 7, 8, 9, 10].map (Value.int .i64)).toArray 3)) ((unhide D1).cur.later ((Below.refl _ _).alloc (Nat.le_refl _) _)) (RdN_lit w1 _) (fun ad e => by cases e; show w1.heap.size ≠ cb; omega) rfl (by omega) (by omega))
    have G1 := hide (World.grownBy_alloc w1 (.cells ([5, 5, 5, 6, 6, 4, 7, 8, 9, 10].map (Value.int .i64)).toArray 3) (some cb))
    go_wp2_with fail
    refine (unhide I1).mono ?_
    rintro e w2 ⟨j, hj, rfl, hc2, hg2⟩
    have D2 := hide ((unhide D1).draw hc2 (grownBy_trans (unhide G1) hg2))
    have R2 := hide ((unhide D1).blk (grownBy_trans (unhide G1) hg2) (unhide R1) (Nat.le_refl _))
    have hZ2 : w.heap.size < w2.heap.size := Nat.lt_of_lt_of_le hZ1 (Nat.le_trans (unhide G1).size hg2.size)
    generalize nAt [5, 5, 5, 6, 6, 4, 7, 8, 9, 10] j = k at *
    have N2 := hide (unhide IH w2 (unhide D2).cur)
    clear hc2 hg2 I1 G1 D1 R1 hj
    go_wp2_with fail
    refine (unhide N2).mono ?_
    rintro e w3 ⟨x, c, cp, rfl, hsx, hnx, hc3, hg3⟩
    have D3 := hide ((unhide D2).draw hc3 hg3)
    have R3 := hide ((unhide D2).blk hg3 (unhide R2) (Nat.le_refl _))
    have hZ3 : w.heap.size < w3.heap.size := Nat.lt_of_lt_of_le hZ2 hg3.size
    have hb4 := below_new w3 (.cells #[.int .i64 x.k, .int .i64 x.n, .string x.s, .slice c x.l.length cp] 26)
    have hg4 : (w3.alloc (.cells #[.int .i64 x.k, .int .i64 x.n, .string x.s, .slice c x.l.length cp] 26)).heap[w3.heap.size]? = some (.cells #[.int .i64 x.k, .int .i64 x.n, .string x.s, .slice c x.l.length cp] 26 (0, 0)) := Array.getElem?_push_size
    have hz4 : (w3.alloc (.cells #[.int .i64 x.k, .int .i64 x.n, .string x.s, .slice c x.l.length cp] 26)).heap.size = w3.heap.size + 1 := by simp
    have X3 := hide ((hnx.lower (show w.heap.size + 1 ≤ w2.heap.size by omega)).half)
    unfold Ex.cs
    clear hnx hc3 hg3 N2 D2 R2
    obtain ⟨w4, hw4⟩ : ∃ w4, w3.alloc (.cells #[.int .i64 x.k, .int .i64 x.n, .string x.s, .slice c x.l.length cp] 26) = w4 := ⟨_, rfl⟩
    rw [hw4] at hb4 hg4 hz4
    have D4 := hide ((unhide D3).later hb4)
    have R4 := hide ((hb4.block _ (Array.getElem?_eq_some_iff.1 (unhide R3)).1).trans (unhide R3))
    have X4 := hide (((unhide X3).later hb4).upto (show w3.heap.size ≤ w4.heap.size by omega))
    have G4 := hide hg4
    have y0 := Lib.cell_of_heap hg4 0
    have y1 := Lib.cell_of_heap hg4 1
    have y2 := Lib.cell_of_heap hg4 2
    have y3 := Lib.cell_of_heap hg4 3
    have HZ4 := hide hz4
    clear hb4 hg4 hz4 D3 R3 X3
    by_cases h4 : k = 4
    · subst h4
      have N4 := hide (NewX.one (cp := cp) (unhide X4).new (by have := unhide HZ4; omega) 4 0 ⟨#[]⟩ 26)
      have hb5 := below_new w4 (.cells #[.int .i64 x.k, .int .i64 x.n, .string x.s, .slice c x.l.length cp] 26)
      have D5 := hide ((unhide D4).later hb5)
      have R5 := hide ((hb5.block _ (Array.getElem?_eq_some_iff.1 (unhide R4)).1).trans (unhide R4))
      clear hb5 D4 R4 X4 IH
      go_wp2_with (refine wpList_store_row rfl 26 _ _ rfl w.heap.size #[.int .i64 4, .int .i64 0, .string ⟨#[]⟩, .slice (some ⟨w4.heap.size, 0, none⟩) 1 1] rfl rfl 26 _ (unhide R5) szE rfl (ex_one _ _ _ _ _ _) ?_)
      refine bodyPost_ret (results_cell_row (P := Tryz.prog) rfl _ _ w.heap.size 26 #[.int .i64 4, .int .i64 0, .string ⟨#[]⟩, .slice (some ⟨w4.heap.size, 0, none⟩) 1 1] (0, 0) _ rfl (setRow_heap _ _ _ _ _ _ (unhide R5)) Tryz.underlying26 rfl szE) rfl ?_
      exact ⟨⟨4, 0, ⟨#[]⟩, [x]⟩, _, _, rfl, by rw [sz_one]; omega, ((unhide N4).row _ (Nat.lt_succ_self _)).lower (Nat.le_succ _), ((unhide D5).row _).cur, ((unhide D5).row _).gr⟩
    · have N4 := hide (unhide IH w4 (unhide D4).cur)
      go_wp2_with fail
      refine (unhide N4).mono ?_
      rintro e w5 ⟨y, c2, cp2, rfl, hsy, hny, hc5, hg5⟩
      have D5 := hide ((unhide D4).draw hc5 hg5)
      have R5 := hide ((unhide D4).blk hg5 (unhide R4) (Nat.le_refl _))
      have G5 := hide ((unhide D4).blk hg5 (unhide G4) (Nat.le_of_lt hZ3))
      have X5 := hide ((unhide X4).drawn hg5 (Nat.lt_succ_of_lt hlt))
      have hz5 := hg5.size
      have hb6 := below_new w5 (.cells #[.int .i64 y.k, .int .i64 y.n, .string y.s, .slice c2 y.l.length cp2] 26)
      have hg6 : (w5.alloc (.cells #[.int .i64 y.k, .int .i64 y.n, .string y.s, .slice c2 y.l.length cp2] 26)).heap[w5.heap.size]? = some (.cells #[.int .i64 y.k, .int .i64 y.n, .string y.s, .slice c2 y.l.length cp2] 26 (0, 0)) := Array.getElem?_push_size
      have hz6 : (w5.alloc (.cells #[.int .i64 y.k, .int .i64 y.n, .string y.s, .slice c2 y.l.length cp2] 26)).heap.size = w5.heap.size + 1 := by simp
      have Y5 := hide hny
      unfold Ex.cs
      clear hny hc5 hg5 N4 D4 R4 G4 X4 IH y0 y1 y2 y3 hw4
      obtain ⟨w6, hw6⟩ : ∃ w6, w5.alloc (.cells #[.int .i64 y.k, .int .i64 y.n, .string y.s, .slice c2 y.l.length cp2] 26) = w6 := ⟨_, rfl⟩
      rw [hw6] at hb6 hg6 hz6
      have D6 := hide ((unhide D5).later hb6)
      have R6 := hide ((hb6.block _ (Array.getElem?_eq_some_iff.1 (unhide R5)).1).trans (unhide R5))
      have G6 := hide ((hb6.block _ (Array.getElem?_eq_some_iff.1 (unhide G5)).1).trans (unhide G5))
      have X6 := hide ((unhide X5).later hb6)
      have Y6 := hide ((unhide Y5).later hb6)
      have HZ6 := hide hz6
      clear hz6
      have N6 := hide (HalfX.two (cp := cp) (dp := cp2) (unhide X6) (unhide Y6) (by have := unhide HZ4; omega) (by have := unhide HZ4; have := unhide HZ6; omega) k 0 ⟨#[]⟩ 26)
      have y0 := Lib.cell_of_heap (unhide G6) 0
      have y1 := Lib.cell_of_heap (unhide G6) 1
      have y2 := Lib.cell_of_heap (unhide G6) 2
      have y3 := Lib.cell_of_heap (unhide G6) 3
      have z0 := Lib.cell_of_heap hg6 0
      have z1 := Lib.cell_of_heap hg6 1
      have z2 := Lib.cell_of_heap hg6 2
      have z3 := Lib.cell_of_heap hg6 3
      have hb7 := below_new w6 (.cells #[.int .i64 x.k, .int .i64 x.n, .string x.s, .slice c x.l.length cp, .int .i64 y.k, .int .i64 y.n, .string y.s, .slice c2 y.l.length cp2] 26)
      have D7 := hide ((unhide D6).later hb7)
      have R7 := hide ((hb7.block _ (Array.getElem?_eq_some_iff.1 (unhide R6)).1).trans (unhide R6))
      clear hb6 hb7 hg6 D5 R5 G5 X5 Y5 D6 R6 X6 Y6
      go_wp2_with (refine wpList_store_row rfl 26 _ _ rfl w.heap.size #[.int .i64 k, .int .i64 0, .string ⟨#[]⟩, .slice (some ⟨w6.heap.size, 0, none⟩) 2 2] rfl rfl 26 _ (unhide R7) szE rfl (ex_one _ _ _ _ _ _) ?_)
      refine bodyPost_ret (results_cell_row (P := Tryz.prog) rfl _ _ w.heap.size 26 #[.int .i64 k, .int .i64 0, .string ⟨#[]⟩, .slice (some ⟨w6.heap.size, 0, none⟩) 2 2] (0, 0) _ rfl (setRow_heap _ _ _ _ _ _ (unhide R7)) Tryz.underlying26 rfl szE) rfl ?_
      exact ⟨⟨k, 0, ⟨#[]⟩, [x, y]⟩, _, _, rfl, by rw [sz_two]; omega, ((unhide N6).row _ (Nat.lt_succ_self _)).lower (Nat.le_succ _), ((unhide D7).row _).cur, ((unhide D7).row _).gr⟩
theorem drawX3 : DrP 3 := drawXS 2 (by omega) (drawXS 1 (by omega) (drawXS 0 (by omega) drawX0))
end Go.Proofs.YthgbpofcfmnpdaaGreatDoor

namespace Go.Proofs.YthgbpofcfmnpdaaGreatDoor
open Go.ChangeShapes Go.WideShapes Go.ChangeAt Go.RowKit
set_option linter.unusedVariables false
set_option maxRecDepth 8000
set_option linter.unusedSimpArgs false

def RdR (o : Option (Ex × List Tk)) (rb : Nat) (la : Option Addr) (cap : Nat) (ts : List Tk) (bad : Bool) (w : World) (r : Ending) (w' : World) : Prop :=
  ∃ (e : Ex) (c : Option Addr) (cp k' : Nat) (bad' : Bool), r = .returned (.agg (e.cs c cp)) ∧ NewX w' w.heap.size e c ∧ Rz w' rb la cap ts k' bad' ∧ w.grownBy w' (some rb) ∧ OutO o ts bad e k' bad'
def RdP (d : Nat) : Prop := ∀ (m : Int), m = 7 - (d : Int) → ∀ (rb : Nat) (la : Option Addr) (cap : Nat) (ts : List Tk) (k : Nat) (bad : Bool) (w : World), ts.length ≤ 1048576 → Rz w rb la cap ts k bad →
  Calls Tryz.prog 33 #[.pointer (some ⟨rb, 0, none⟩), .int .i64 m] w (RdR (readF d (ts.drop k)) rb la cap ts bad w)
theorem nextS_any (rb : Nat) (la : Option Addr) (cap : Nat) (ts : List Tk) (k : Nat) (bad : Bool) (w : World) (hm : ts.length ≤ 1048576) (h : Rz w rb la cap ts k bad) :
    Calls Tryz.prog 63 #[.pointer (some ⟨rb, 0, none⟩)] w fun r w' => r = .returned (nextT ts k bad).v ∧ Rz w' rb la cap ts (nextK ts k bad) (!nextB ts k bad) ∧ w.grownBy w' (some rb) := by
  unfold nextT nextK
  cases hq : nextB ts k bad with
  | false =>
    refine (nextS_no rb la cap ts k bad w hm h hq).mono ?_
    rintro r w' ⟨rfl, h1, h2⟩
    exact ⟨rfl, h1, h2⟩
  | true =>
    unfold nextB at hq
    cases bad with
    | true => cases hq
    | false =>
      have hk : k < ts.length := by simpa using hq
      refine (nextS_yes rb la cap ts k w hm h hk).mono ?_
      rintro r w' ⟨rfl, h1, h2⟩
      exact ⟨rfl, h1, h2⟩
theorem fieldS (a b : Int) (s : ByteArray) (w : World) : (Instr.field 62 (.agg #[.int .i64 a, .int .i64 b, .string s]) 2).run Tryz.prog w = .ok (.string s) w := by
  kernel_rfl
/-- None of the signs before i is s. -/
def NotB (s : ByteArray) (i : Nat) : Prop := ∀ j : Nat, 5 ≤ j → j < i → eqS (mkS (sgnC (j : Int))) s = false
theorem notB_all {s : ByteArray} (h : NotB s 11) : sgnK s = none := by
  cases hk : sgnK s with
  | none => rfl
  | some k =>
    obtain ⟨⟨h1, h2⟩, h3⟩ := sgnK_some hk
    obtain ⟨j, rfl⟩ := Int.eq_ofNat_of_zero_le (show 0 ≤ k by omega)
    have := h j (by omega) (by omega)
    rw [h3, (eqS_iff _ _).2 rfl] at this
    cases this
set_option maxHeartbeats 8000000 in
theorem twoS_of (d : Nat) (hd : d ≤ 5) (ih : RdP d) (m : Int) (hm : m = 6 - (d : Int)) (rb : Nat) (la : Option Addr) (cap : Nat) (ts : List Tk) (k : Nat) (bad : Bool) (w : World) (hl : ts.length ≤ 1048576) (h : Rz w rb la cap ts k bad) :
    Calls Tryz.prog 64 #[.pointer (some ⟨rb, 0, none⟩), .int .i64 m] w (RdR (twoF d (ts.drop k)) rb la cap ts bad w) := by
  have B0 := below_new w (.cells E0x 26)
  have R0 := hide (heap_alloc_new w (.cells E0x 26))
  have hZ0 : w.heap.size < (w.alloc (.cells E0x 26)).heap.size := by simp
  have H0 := hide (h.start.later B0)
  have hlt := h.lt
  have hm0 : 1 ≤ m := by omega
  have hm1 : m ≤ 6 := by omega
  have hmd : m + 1 = 7 - (d : Int) := by omega
  have IH := hide (fun k bad wr (hr : Rz wr rb la cap ts k bad) => ih (m + 1) hmd rb la cap ts k bad wr hl hr)
  unfold RdR at IH
  unfold RdR
  unfold E0x at R0 H0 hZ0
  clear h B0 ih hmd hm
  go_enter Tryz.func64, Tryz.ntmps64
  go_wp2_with fail
  generalize w.alloc (Obj.cells #[.int .i64 0, .int .i64 0, .string ⟨#[]⟩, .slice none 0 0] 26) = W at *
  refine (unhide IH k bad W (unhide H0).rz).mono ?_
  rintro r w1 ⟨x, c, cp, k1, b1, rfl, hnx, hr1, hg1, ho1⟩
  have H1 := hide ((unhide H0).next hr1 hg1)
  have R1 := hide ((unhide H0).blk hg1 (unhide R0) (Nat.le_refl _))
  have hZ1 : w.heap.size < w1.heap.size := Nat.lt_of_lt_of_le hZ0 hg1.size
  have X1 := hide ((hnx.lower (show w.heap.size + 1 ≤ W.heap.size by omega)).half)
  have O1 := hide ho1
  unfold Ex.cs
  clear hnx hr1 hg1 ho1 H0 R0
  have hb2 := below_new w1 (.cells #[.int .i64 x.k, .int .i64 x.n, .string x.s, .slice c x.l.length cp] 26)
  have hg2 : (w1.alloc (.cells #[.int .i64 x.k, .int .i64 x.n, .string x.s, .slice c x.l.length cp] 26)).heap[w1.heap.size]? = some (.cells #[.int .i64 x.k, .int .i64 x.n, .string x.s, .slice c x.l.length cp] 26 (0, 0)) := Array.getElem?_push_size
  have hz2 : (w1.alloc (.cells #[.int .i64 x.k, .int .i64 x.n, .string x.s, .slice c x.l.length cp] 26)).heap.size = w1.heap.size + 1 := by simp
  obtain ⟨w2, hw2⟩ : ∃ w2, w1.alloc (.cells #[.int .i64 x.k, .int .i64 x.n, .string x.s, .slice c x.l.length cp] 26) = w2 := ⟨_, rfl⟩
  rw [hw2] at hb2 hg2 hz2
  have H2 := hide ((unhide H1).later hb2)
  have R2 := hide (row_keep (unhide R1) hb2)
  have G2 := hide hg2
  have X2 := hide (((unhide X1).later hb2).upto (show w1.heap.size ≤ w2.heap.size by omega))
  have hZ2 : w.heap.size < w2.heap.size := by omega
  have HZ2 := hide hz2
  have N2 := hide (nextS_any rb la cap ts k1 b1 w2 hl (unhide H2).rz)
  clear hb2 hg2 hz2 H1 R1 X1
  unfold Tk.v Tk.cs at N2
  generalize hTT : nextT ts k1 b1 = TT at *
  have fS := fieldS
  obtain ⟨g, hgg⟩ : ∃ g, w1.heap.size = g := ⟨_, rfl⟩
  rw [hgg] at G2
  have HG2 := hide (show w.heap.size < g from hgg ▸ hZ1)
  go_wp2_with fail
  refine (unhide N2).mono ?_
  rintro r w3 ⟨rfl, hr3, hg3⟩
  have H3 := hide ((unhide H2).next hr3 hg3)
  have R3 := hide ((unhide H2).blk hg3 (unhide R2) (Nat.le_refl _))
  have G3 := hide ((unhide H2).blk hg3 (unhide G2) (Nat.le_of_lt (unhide HG2)))
  have X3 := hide ((((unhide X2).drawn hg3 (Nat.lt_succ_of_lt hlt))).upto hg3.size)
  have hZ3 : w.heap.size < w3.heap.size := Nat.lt_of_lt_of_le hZ2 hg3.size
  clear hr3 hg3 H2 R2 G2 X2 N2 hw2
  go_wp2_with fail
  refine (unhide IH _ _ w3 (unhide H3).rz).mono ?_
  rintro r w4 ⟨y, d2, dp, k3, b3, rfl, hny, hr4, hg4, ho4⟩
  have H4 := hide ((unhide H3).next hr4 hg4)
  have R4 := hide ((unhide H3).blk hg4 (unhide R3) (Nat.le_refl _))
  have G4 := hide ((unhide H3).blk hg4 (unhide G3) (Nat.le_of_lt (unhide HG2)))
  have X4 := hide ((unhide X3).drawn hg4 (Nat.lt_succ_of_lt hlt))
  have Y4 := hide hny
  have TW := hide (two_yes (unhide O1) ho4)
  have hZ4 : w3.heap.size ≤ w4.heap.size := hg4.size
  unfold Ex.cs
  rw [hTT] at TW
  clear hny hr4 hg4 ho4 H3 R3 G3 X3 O1 IH
  have hb5 := below_new w4 (.cells #[.int .i64 y.k, .int .i64 y.n, .string y.s, .slice d2 y.l.length dp] 26)
  have hg5 : (w4.alloc (.cells #[.int .i64 y.k, .int .i64 y.n, .string y.s, .slice d2 y.l.length dp] 26)).heap[w4.heap.size]? = some (.cells #[.int .i64 y.k, .int .i64 y.n, .string y.s, .slice d2 y.l.length dp] 26 (0, 0)) := Array.getElem?_push_size
  have hz5 : (w4.alloc (.cells #[.int .i64 y.k, .int .i64 y.n, .string y.s, .slice d2 y.l.length dp] 26)).heap.size = w4.heap.size + 1 := by simp
  obtain ⟨w5, hw5⟩ : ∃ w5, w4.alloc (.cells #[.int .i64 y.k, .int .i64 y.n, .string y.s, .slice d2 y.l.length dp] 26) = w5 := ⟨_, rfl⟩
  rw [hw5] at hb5 hg5 hz5
  have H5 := hide ((unhide H4).later hb5)
  have R5 := hide (row_keep (unhide R4) hb5)
  have G5 := hide (row_keep (unhide G4) hb5)
  have X5 := hide ((unhide X4).later hb5)
  have Y5 := hide ((unhide Y4).later hb5)
  have M5 := hide (mustS_any rb la cap ts k3 b3 (mkS 62) w5 hl (unhide H5).rz)
  unfold mkS at M5
  obtain ⟨f, hff⟩ : ∃ f, w4.heap.size = f := ⟨_, rfl⟩
  rw [hff] at hg5
  have F5 := hide hg5
  have HF5 := hide (show w.heap.size < f by omega)
  clear hb5 hg5 hz5 H4 R4 G4 X4 Y4
  go_wp2_with fail
  refine (unhide M5).mono ?_
  rintro r w6 ⟨rfl, hr6, hg6⟩
  have H6 := hide ((unhide H5).next hr6 hg6)
  have R6 := hide ((unhide H5).blk hg6 (unhide R5) (Nat.le_refl _))
  have G6 := hide ((unhide H5).blk hg6 (unhide G5) (Nat.le_of_lt (unhide HG2)))
  have F6 := hide ((unhide H5).blk hg6 (unhide F5) (Nat.le_of_lt (unhide HF5)))
  have X6 := hide ((unhide X5).drawn hg6 (Nat.lt_succ_of_lt hlt))
  have Y6 := hide ((unhide Y5).drawn hg6 (show rb < w3.heap.size by omega))
  have hZ6 : w3.heap.size ≤ w6.heap.size := Nat.le_trans (show w3.heap.size ≤ w5.heap.size by rw [← hw5]; simp; omega) hg6.size
  have TW6 : (∀ kk, sgnK TT.s = some kk → OutO (twoF d (ts.drop k)) ts bad ⟨kk, 0, E0, [x, y]⟩ (if seeB ts k3 b3 ⟨#[62]⟩ = true then k3 + 1 else k3) (!seeB ts k3 b3 ⟨#[62]⟩)) ∧ (sgnK TT.s = none → ∀ e j, OutO (twoF d (ts.drop k)) ts bad e j true) := unhide TW
  have TW7 := hide TW6
  clear TW6 TW hr6 hg6 H5 R5 G5 F5 X5 Y5 M5 hw5
  generalize (if seeB ts k3 b3 ⟨#[62]⟩ = true then k3 + 1 else k3) = k4 at *
  generalize (!seeB ts k3 b3 ⟨#[62]⟩) = b4 at *
  generalize TT.s = S1 at *
  go_wp2
  go_loopw [8] (fun i wr => ∃ j : Nat, i = .int .i64 j ∧ 5 ≤ j ∧ j ≤ 11 ∧ NotB S1 j ∧ wr = w6) (fun i _ => 11 - (intOf i).toNat)
  case atStart => exact ⟨5, rfl, by omega, by omega, fun j h1 h2 => by omega, rfl⟩
  case round =>
    obtain ⟨j, rfl, hj5, hj11, hnb, rfl⟩ := hrel
    by_cases hj : j ≤ 10
    · have hp : (j : Int) ≤ 10 := by omega
      have SG := hide (signS_any (j : Int) (by omega) wr)
      have SB := hide (sgn_back (k := (j : Int)) (by omega))
      have NB := hide hnb
      clear hnb
      have HE := hide (eqS_iff (mkS (sgnC (j : Int))) S1)
      have NX := hide (show eqS (mkS (sgnC (j : Int))) S1 = false → NotB S1 (j + 1) from fun hf i h1 h2 => by
        by_cases hi : i < j
        · exact unhide NB i h1 hi
        · obtain rfl : i = j := by omega
          exact hf)
      generalize mkS (sgnC (j : Int)) = sg at *
      unfold eqS at HE NX
      by_cases hq : (sg.toList == S1.toList) = true
      · have hs : sg = S1 := (unhide HE).1 hq
        have KK := hide (show sgnK S1 = some (j : Int) from hs ▸ unhide SB)
        have y0 := Lib.cell_of_heap (unhide G6) 0
        have y1 := Lib.cell_of_heap (unhide G6) 1
        have y2 := Lib.cell_of_heap (unhide G6) 2
        have y3 := Lib.cell_of_heap (unhide G6) 3
        have z0 := Lib.cell_of_heap (unhide F6) 0
        have z1 := Lib.cell_of_heap (unhide F6) 1
        have z2 := Lib.cell_of_heap (unhide F6) 2
        have z3 := Lib.cell_of_heap (unhide F6) 3
        have N6 := hide (HalfX.two (cp := cp) (dp := dp) (unhide X6) (unhide Y6) (by omega) hZ6 (j : Int) 0 E0 26)
        have hb7 := below_new wr (.cells #[.int .i64 x.k, .int .i64 x.n, .string x.s, .slice c x.l.length cp, .int .i64 y.k, .int .i64 y.n, .string y.s, .slice d2 y.l.length dp] 26)
        have H7 := hide ((unhide H6).later hb7)
        have R7 := hide (row_keep (unhide R6) hb7)
        clear hb7 hs NX HE
        go_wp2_with (first | (go_at_call 80; refine (unhide SG).mono ?_; rintro e w' ⟨rfl, hw'⟩; rw [hw']; clear hw' w') | (refine wpList_store_row rfl 26 _ _ rfl w.heap.size #[.int .i64 j, .int .i64 0, .string ⟨#[]⟩, .slice (some ⟨wr.heap.size, 0, none⟩) 2 2] rfl rfl 26 _ (unhide R7) szE rfl (ex_one _ _ _ _ _ _) ?_))
        refine bodyPost_ret (results_cell_row (P := Tryz.prog) rfl _ _ w.heap.size 26 #[.int .i64 j, .int .i64 0, .string ⟨#[]⟩, .slice (some ⟨wr.heap.size, 0, none⟩) 2 2] (0, 0) _ rfl (setRow_heap _ _ _ _ _ _ (unhide R7)) Tryz.underlying26 rfl szE) rfl ?_
        exact ⟨⟨j, 0, E0, [x, y]⟩, _, _, k4, b4, rfl, ((unhide N6).row _ (Nat.lt_succ_self _)).lower (Nat.le_succ _), ((unhide H7).row _).rz, ((unhide H7).row _).gr, (unhide TW7).1 _ (unhide KK)⟩
      · have hq : (sg.toList == S1.toList) = false := by simpa using hq
        have NN := hide (unhide NX hq)
        clear NX HE SB
        go_wp2_with (first | (go_at_call 80; refine (unhide SG).mono ?_; rintro e w' ⟨rfl, hw'⟩; rw [hw']; clear hw' w'))
        go_roundw
        case rel => first | exact ⟨j + 1, by go_num, by omega, by omega, unhide NN, trivial⟩ | exact ⟨j + 1, by go_num, by omega, by omega, unhide NN, rfl⟩
        case measure => simp [intOf]; omega
    · obtain rfl : j = 11 := by omega
      have NO := hide (notB_all hnb)
      obtain ⟨c0, c1, c2⟩ := (unhide H6).rz.cells
      have f2 := (unhide H6).rz.frz 2
      have H7 := hide ((unhide H6).next (unhide H6).rz.setBad (grownBy_set _))
      have R7 := hide ((unhide H6).blk (grownBy_set (w := wr) (b := rb) (o := 2) (.bool true)) (unhide R6) (Nat.le_refl _))
      clear hnb
      go_wp2_with (refine wpList_store_row rfl 26 _ _ rfl w.heap.size #[.int .i64 0, .int .i64 0, .string ⟨#[]⟩, .slice none 0 0] rfl rfl 26 _ (unhide R7) szE rfl (ex_one _ _ _ _ _ _) ?_)
      refine bodyPost_ret (results_cell_row (P := Tryz.prog) rfl _ _ w.heap.size 26 #[.int .i64 0, .int .i64 0, .string ⟨#[]⟩, .slice none 0 0] (0, 0) _ rfl (setRow_heap _ _ _ _ _ _ (unhide R7)) Tryz.underlying26 rfl szE) rfl ?_
      exact ⟨⟨0, 0, E0, []⟩, none, 0, k4, true, rfl, NewX.nil _ _ _ _ _ _, ((unhide H7).row _).rz, ((unhide H7).row _).gr, (unhide TW7).2 (unhide NO) _ _⟩
end Go.Proofs.YthgbpofcfmnpdaaGreatDoor

namespace Go.Proofs.YthgbpofcfmnpdaaGreatDoor
open Go.ChangeShapes Go.WideShapes Go.ChangeAt Go.RowKit
set_option linter.unusedVariables false
set_option linter.unusedSimpArgs false
set_option maxHeartbeats 1000000 in
theorem eqTok (k n j m : Int) (s r : ByteArray) (w : World) : (binOp .eql 62 (.agg #[.int .i64 k, .int .i64 n, .string s]) (.agg #[.int .i64 j, .int .i64 m, .string r])).run Tryz.prog w = .ok (.bool (k == j && (n == m && s.toList == r.toList))) w := by
  go_simp
  by_cases h1 : k = j <;> by_cases h2 : n = m <;> by_cases h3 : s.toList = r.toList <;> simp [h1, h2, h3]
/-- A right token is a mark where its text is the mark's. -/
theorem mark_same {t : Tk} (h : t.ok = true) {c : UInt8} (hc : smB (c.toNat : Int) = false) : (t.k == 4 && (t.n == 0 && t.s.toList == (mkS c).toList)) = eqS t.s (mkS c) := by
  rw [Bool.eq_iff_iff]
  constructor
  · intro hh
    simp only [Bool.and_eq_true] at hh
    exact hh.2.2
  · intro hh
    have e := one_mark h ((eqS_iff _ _).1 hh) hc
    rw [e]
    show ((4 : Int) == 4 && ((0 : Int) == 0 && eqS (mkS c) (mkS c))) = true
    rw [(eqS_iff _ _).2 rfl]
    rfl
end Go.Proofs.YthgbpofcfmnpdaaGreatDoor

namespace Go.Proofs.YthgbpofcfmnpdaaGreatDoor
open Go.ChangeShapes Go.WideShapes Go.ChangeAt Go.RowKit
set_option linter.unusedVariables false
set_option maxRecDepth 8000
set_option linter.unusedSimpArgs false

theorem TabG.at {w : World} (h : TabG w) (j : Nat) (h5 : 5 ≤ j) (h10 : j ≤ 10) : w.cell? ⟨0, j, none⟩ = some (.string (mkS (sgnC (j : Int)))) := by
  obtain ⟨t, fr, h⟩ := h
  have : j = 5 ∨ j = 6 ∨ j = 7 ∨ j = 8 ∨ j = 9 ∨ j = 10 := by omega
  rcases this with rfl | rfl | rfl | rfl | rfl | rfl <;> exact (Lib.cell_of_heap h _).trans rfl
set_option maxHeartbeats 4000000 in
theorem kindP_any (t : Tk) (hok : t.ok = true) (w : World) (ht : TabG w) : Calls Tryz.prog 83 #[t.v] w fun r w' => r = .returned (.int .i64 ((sgnK t.s).getD 0)) ∧ Below w.heap.size w w' := by
  have B0 := hide (below_new w (.cells t.cs 62))
  have R0 := hide (heap_alloc_new w (.cells t.cs 62))
  have TG := hide (ht.later (below_new w (.cells t.cs 62)) ht.lt)
  have OM := hide (fun (c : UInt8) (hc : smB (c.toNat : Int) = false) (h : t.s = mkS c) => one_mark hok h hc)
  obtain ⟨tk, tn, tx⟩ := t
  unfold Tk.v
  unfold Tk.cs at B0 R0 TG ⊢
  simp only at B0 R0 TG OM ⊢
  generalize hK : (sgnK tx).getD 0 = K0 at *
  have HK := hide hK
  clear hK ht hok
  go_enter Tryz.func83, Tryz.ntmps83
  go_wp2
  generalize w.alloc (Obj.cells #[.int .i64 tk, .int .i64 tn, .string tx] 62) = W at *
  go_loopw [3] (fun i wr => ∃ j : Nat, i = .int .i64 j ∧ 5 ≤ j ∧ j ≤ 11 ∧ NotB tx j ∧ Below W.heap.size W wr) (fun i _ => 11 - (intOf i).toNat)
  case atStart => exact ⟨5, rfl, by omega, by omega, fun j h1 h2 => by omega, Below.refl _ _⟩
  case round =>
    obtain ⟨j, rfl, hj5, hj11, hnb, hbw⟩ := hrel
    by_cases hj : j ≤ 10
    · have hp : (j : Int) ≤ 10 := by omega
      have SB := hide (sgn_back (k := (j : Int)) (by omega))
      have SM := hide (sgn_small (k := (j : Int)) (by omega))
      have SC := hide (show wr.drew.cell? ⟨0, j, none⟩ = some (.string (mkS (sgnC (j : Int)))) from (((unhide TG).later hbw (unhide TG).lt).later (below_drew (w := wr)) (Nat.lt_of_lt_of_le (unhide TG).lt hbw.size)).at j hj5 hj)
      have RR := hide (row_keep (unhide R0) hbw)
      have BW := hide ((unhide B0).trans (hbw.mono (unhide B0).size))
      have BX := hide hbw
      have NX := hide (show eqS (mkS (sgnC (j : Int))) tx = false → NotB tx (j + 1) from fun hf i h1 h2 => by
        by_cases hi : i < j
        · exact hnb i h1 hi
        · obtain rfl : i = j := by omega
          exact hf)
      clear hnb hbw
      by_cases hq : tx = mkS (sgnC (j : Int))
      · have e := unhide OM _ (unhide SM) hq
        have KK := hide (show (j : Int) = K0 by have := unhide HK; rw [hq, unhide SB] at this; exact this)
        unfold mkT at e
        clear NX SB SM OM HK hq
        generalize mkS (sgnC (j : Int)) = sg at *
        injection e with e1 e2 e3
        subst e1 e2 e3
        have D0 := hide (show (fun v : World => v.heap[w.heap.size]? = some (.cells #[.int .i64 4, .int .i64 0, .string tx] 62 (0, 0)) ∧ v.cell? ⟨0, j, none⟩ = some (.string tx)) wr.drew from ⟨row_keep (unhide RR) below_drew, unhide SC⟩)
        have hp2 : (j : Int) < 11 := by omega
        have hp3 : ¬ (11 : Int) ≤ (j : Int) := by omega
        have hp4 : j < 11 := by omega
        go_wp2_with fail
        refine wp_region_held_drew (S := fun v => v.heap[w.heap.size]? = some (.cells #[.int .i64 4, .int .i64 0, .string tx] 62 (0, 0)) ∧ v.cell? ⟨0, j, none⟩ = some (.string tx)) (by kernel_rfl) (unhide D0) (fun hS => ?_)
        have HS := hide hS
        clear hS
        refine wpAnyH_take (i := 0) (v := .agg #[.int .i64 4, .int .i64 0, .string tx]) rfl (by kernel_rfl) (by kernel_rfl) (by kernel_rfl) (fun _ _ _ h => h) (yields_loadG (by rfl) 62 _ rfl w.heap.size rfl 62 #[.int .i64 4, .int .i64 0, .string tx] _ (fun w h => h.1) Tryz.underlying62 rfl (by kernel_rfl)) (unhide HS) ?_
        go_simp
        refine wpAnyH_take (i := 1) (v := .int .i64 j) rfl (by kernel_rfl) (by kernel_rfl) (by kernel_rfl) (fun _ _ _ h => h) (Or.inl ⟨by rfl, fun w hc => ?_⟩) (unhide HS) ?_
        · clear hc; go_simp
        go_simp
        refine wpAnyH_take (i := 2) (v := .pointer (some ⟨0, j, none⟩)) rfl (by kernel_rfl) (by kernel_rfl) (by kernel_rfl) (fun _ _ _ h => h) (Or.inl ⟨by rfl, fun w hc => ?_⟩) (unhide HS) ?_
        · clear hc; go_simp
        go_simp
        refine wpAnyH_take (i := 3) (v := .string tx) rfl (by kernel_rfl) (by kernel_rfl) (by kernel_rfl) (fun _ _ _ h => h) (Or.inl ⟨by rfl, fun w hc => ?_⟩) (unhide HS) ?_
        · have hc2 := hc.2; clear hc; go_simp
        go_simp
        refine wpAnyH_ready (rs := [4]) (by kernel_rfl) (by simp) ?_
        refine AllReadyH.cons rfl (fun K2 hK => ?_) AllReadyH.nil
        go_simp
        refine (markI_any tx _).mono ?_
        rintro r w3 ⟨rfl, hb3⟩
        refine hK.out _ _ (⟨row_keep (unhide D0).1 hb3, (hb3.cell (p := ⟨0, j, none⟩) (World.block_lt_of_cell? _ _ (unhide D0).2)).trans (unhide D0).2⟩) (fun hS => ?_)
        clear HS
        have HS := hide hS
        clear hS hK K2
        unfold Tk.v Tk.cs
        have B3 := hide ((unhide BW).trans ((below_drew (w := wr)).mono (unhide BW).size |>.trans (hb3.mono (unhide BW).size)))
        have BZ := hide (show Below W.heap.size wr w3 from (below_drew (w := wr)).mono (unhide BX).size |>.trans (hb3.mono (unhide BX).size))
        clear hb3 D0
        refine wpAnyH_take (i := 5) (v := .bool true) rfl (by kernel_rfl) (by kernel_rfl) (by kernel_rfl) (fun _ _ _ h => h) (Or.inl ⟨by rfl, fun w hc => ?_⟩) (unhide HS) ?_
        · clear hc; go_simp
        go_simp
        refine wpAnyH_done (by kernel_rfl) ?_ _
        go_wp2
        go_ret
        exact ⟨by rw [← unhide KK]; rfl, unhide B3⟩
      · have NN := hide (unhide NX (by
          cases hb : eqS (mkS (sgnC (j : Int))) tx with
          | false => rfl
          | true => exact absurd ((eqS_iff _ _).1 hb).symm hq))
        have hne : ¬ tx.toList = (mkS (sgnC (j : Int))).toList := fun h => hq ((eqS_iff _ _).1 (by unfold eqS; rw [h]; exact beq_self_eq_true _))
        clear NX SB SM OM hq
        generalize mkS (sgnC (j : Int)) = sg at *
        have D0 := hide (show (fun v : World => v.heap[w.heap.size]? = some (.cells #[.int .i64 tk, .int .i64 tn, .string tx] 62 (0, 0)) ∧ v.cell? ⟨0, j, none⟩ = some (.string sg)) wr.drew from ⟨row_keep (unhide RR) below_drew, unhide SC⟩)
        have hp2 : (j : Int) < 11 := by omega
        have hp3 : ¬ (11 : Int) ≤ (j : Int) := by omega
        have hp4 : j < 11 := by omega
        go_wp2_with fail
        refine wp_region_held_drew (S := fun v => v.heap[w.heap.size]? = some (.cells #[.int .i64 tk, .int .i64 tn, .string tx] 62 (0, 0)) ∧ v.cell? ⟨0, j, none⟩ = some (.string sg)) (by kernel_rfl) (unhide D0) (fun hS => ?_)
        have HS := hide hS
        clear hS
        refine wpAnyH_take (i := 0) (v := .agg #[.int .i64 tk, .int .i64 tn, .string tx]) rfl (by kernel_rfl) (by kernel_rfl) (by kernel_rfl) (fun _ _ _ h => h) (yields_loadG (by rfl) 62 _ rfl w.heap.size rfl 62 #[.int .i64 tk, .int .i64 tn, .string tx] _ (fun w h => h.1) Tryz.underlying62 rfl (by kernel_rfl)) (unhide HS) ?_
        go_simp
        refine wpAnyH_take (i := 1) (v := .int .i64 j) rfl (by kernel_rfl) (by kernel_rfl) (by kernel_rfl) (fun _ _ _ h => h) (Or.inl ⟨by rfl, fun w hc => ?_⟩) (unhide HS) ?_
        · clear hc; go_simp
        go_simp
        refine wpAnyH_take (i := 2) (v := .pointer (some ⟨0, j, none⟩)) rfl (by kernel_rfl) (by kernel_rfl) (by kernel_rfl) (fun _ _ _ h => h) (Or.inl ⟨by rfl, fun w hc => ?_⟩) (unhide HS) ?_
        · clear hc; go_simp
        go_simp
        refine wpAnyH_take (i := 3) (v := .string sg) rfl (by kernel_rfl) (by kernel_rfl) (by kernel_rfl) (fun _ _ _ h => h) (Or.inl ⟨by rfl, fun w hc => ?_⟩) (unhide HS) ?_
        · have hc2 := hc.2; clear hc; go_simp
        go_simp
        refine wpAnyH_ready (rs := [4]) (by kernel_rfl) (by simp) ?_
        refine AllReadyH.cons rfl (fun K2 hK => ?_) AllReadyH.nil
        go_simp
        refine (markI_any sg _).mono ?_
        rintro r w3 ⟨rfl, hb3⟩
        refine hK.out _ _ (⟨row_keep (unhide D0).1 hb3, (hb3.cell (p := ⟨0, j, none⟩) (World.block_lt_of_cell? _ _ (unhide D0).2)).trans (unhide D0).2⟩) (fun hS => ?_)
        clear HS
        have HS := hide hS
        clear hS hK K2
        unfold Tk.v Tk.cs
        have B3 := hide ((unhide BW).trans ((below_drew (w := wr)).mono (unhide BW).size |>.trans (hb3.mono (unhide BW).size)))
        have BZ := hide (show Below W.heap.size wr w3 from (below_drew (w := wr)).mono (unhide BX).size |>.trans (hb3.mono (unhide BX).size))
        clear hb3 D0
        refine wpAnyH_take (i := 5) (v := .bool false) rfl (by kernel_rfl) (by kernel_rfl) (by kernel_rfl) (fun _ _ _ h => h) (Or.inl ⟨by rfl, fun w hc => ?_⟩) (unhide HS) ?_
        · clear hc; go_simp
        go_simp
        refine wpAnyH_done (by kernel_rfl) ?_ _
        have BY := hide (show Below W.heap.size W w3 from (unhide BX).trans (unhide BZ))
        go_wp2
        go_roundw
        case rel => exact ⟨j + 1, by go_num, by omega, by omega, unhide NN, unhide BY⟩
        case measure => simp [intOf]; omega
    · obtain rfl : j = 11 := by omega
      have NO := hide (show (0 : Int) = K0 by have := unhide HK; rw [notB_all hnb] at this; exact this)
      have B9 := hide ((unhide B0).trans (hbw.mono (unhide B0).size))
      clear hnb hbw
      go_wp2
      go_ret
      exact ⟨by rw [← unhide NO]; rfl, unhide B9⟩
end Go.Proofs.YthgbpofcfmnpdaaGreatDoor

namespace Go.Proofs.YthgbpofcfmnpdaaGreatDoor
open Go.ChangeShapes Go.WideShapes Go.ChangeAt Go.RowKit
set_option linter.unusedVariables false
set_option maxRecDepth 8000
set_option linter.unusedSimpArgs false

/-- A slice of tokens, with what it holds to. -/
structure Sl (w : World) (a : Option Addr) (n cap : Nat) (ts : List Tk) : Prop where
  ln : ts.length = n
  cp : n ≤ cap
  mx : cap ≤ maxLen
  rd : RdT w a ts
  ok : AllOk ts
  sm : n ≤ 1048576
theorem Sl.later {w w' : World} {a : Option Addr} {n cap : Nat} {ts : List Tk} (h : Sl w a n cap ts) (hb : Below w.heap.size w w') : Sl w' a n cap ts := { h with rd := h.rd.later hb }
theorem Sl.tail {w : World} {b off n cap : Nat} {t : Tk} {q : List Tk} (h : Sl w (some ⟨b, off, none⟩) n cap (t :: q)) : Sl w (some ⟨b, off + 3, none⟩) (n - 1) (cap - 1) q := by
  have hl := h.ln
  simp at hl
  refine ⟨by omega, by have := h.cp; omega, by have := h.mx; omega, ?_, h.ok.head.2, by have := h.sm; omega⟩
  rcases h.rd with h0 | ⟨b', off', ha, hlt, hc⟩
  · cases h0
  · cases ha
    refine .inr ⟨b, off + 3, rfl, hlt, fun i hi => ?_⟩
    have := hc (i + 1) (by simp; omega)
    have e : tAt (t :: q) (i + 1) = tAt q i := by unfold tAt; simp
    rw [e] at this
    rw [show off + 3 + i * 3 = off + (i + 1) * 3 by omega]
    exact this
theorem Sl.head {w : World} {a : Option Addr} {n cap : Nat} {t : Tk} {q : List Tk} (h : Sl w a n cap (t :: q)) : ∃ b off, a = some ⟨b, off, none⟩ ∧ b < w.heap.size ∧ w.cell? ⟨b, off, none⟩ = some (.int .i64 t.k) ∧ w.cell? ⟨b, off + 1, none⟩ = some (.int .i64 t.n) ∧ w.cell? ⟨b, off + 2, none⟩ = some (.string t.s) := by
  rcases h.rd with h0 | ⟨b, off, ha, hlt, hc⟩
  · cases h0
  · have := hc 0 (by simp)
    simp only [Nat.zero_mul, Nat.add_zero] at this
    exact ⟨b, off, ha, hlt, this⟩
/-- A value that an interface holds. -/
def Ifv (v : Value) : Prop := v = .nilIface ∨ ∃ t x, v = .iface t x
def TrR (o : Option (Ex × List Tk)) (w : World) (r : Ending) (w' : World) : Prop :=
  Below w.heap.size w w' ∧ match o with
  | none => ∃ v x, Ifv v ∧ r = .returned (.tuple #[v, x, .bool false])
  | some (e, q) => ∃ a n cap, r = .returned (.tuple #[tv e, .slice a n cap, .bool true]) ∧ Sl w' a n cap q
def TrP (d : Nat) : Prop := ∀ (a : Option Addr) (n cap : Nat) (ts : List Tk) (w : World), Sl w a n cap ts → TabG w → Calls Tryz.prog 30 #[.slice a n cap, .int .i64 d] w (TrR (readF d ts) w)
set_option maxHeartbeats 2000000 in
theorem readI_0 : TrP 0 := by
  intro a n cap ts w h ht
  unfold TrR
  clear h ht
  go_enter Tryz.func30, Tryz.ntmps30
  go_wp2
  refine bodyPost_ret (results_tmp3 rfl _ _ _) rfl ?_
  exact ⟨Below.refl _ _, _, _, .inl rfl, rfl⟩
set_option maxHeartbeats 2000000 in
theorem readI_nil (d : Nat) (hd : d ≤ 5) (a : Option Addr) (n cap : Nat) (w : World) (h : Sl w a n cap []) : Calls Tryz.prog 30 #[.slice a n cap, .int .i64 (d + 1 : Nat)] w (TrR (readF (d + 1) []) w) := by
  obtain rfl : n = 0 := by have := h.ln; simpa using this.symm
  have hd0 : ¬ ((d : Int) + 1) = 0 := by omega
  show Calls _ _ _ _ fun r w' => Below w.heap.size w w' ∧ ∃ v x, Ifv v ∧ r = .returned (.tuple #[v, x, .bool false])
  clear h
  go_enter Tryz.func30, Tryz.ntmps30
  go_wp2
  refine bodyPost_ret (results_tmp3 rfl _ _ _) rfl ?_
  exact ⟨Below.refl _ _, _, _, .inl rfl, rfl⟩
end Go.Proofs.YthgbpofcfmnpdaaGreatDoor

namespace Go.Proofs.YthgbpofcfmnpdaaGreatDoor
open Go.ChangeShapes Go.WideShapes Go.ChangeAt Go.RowKit
set_option linter.unusedVariables false
set_option maxRecDepth 8000
set_option linter.unusedSimpArgs false

theorem readF_cons (d : Nat) (t : Tk) (r : List Tk) : readF (d + 1) (t :: r) = (if t.k = 2 then some (⟨1, t.n, E0, []⟩, r) else if t.k = 1 then some (⟨2, 0, t.s, []⟩, r)
    else if eqS t.s (mkS 46) = true then some (⟨3, 0, E0, []⟩, r)
    else if eqS t.s (mkS 45) = true then (match readF d r with | none => none | some (a, q) => some (⟨4, 0, E0, [a]⟩, q))
    else if eqS t.s (mkS 60) = true then twoF d r else none) := rfl
theorem neg_out {d : Nat} {r ts : List Tk} {x : Ex} {k3 : Nat} {b3 : Bool} (h : OutO (readF d r) ts false x k3 b3) : OutO (match readF d r with | none => none | some (a, q) => some (⟨4, 0, E0, [a]⟩, q)) ts false ⟨4, 0, E0, [x]⟩ k3 b3 := by
  refine ⟨fun h => (by cases h), fun _ => ?_⟩
  have := h.2 rfl
  cases hq : readF d r with
  | none => rw [hq] at this; exact this
  | some p =>
    obtain ⟨a, q⟩ := p
    rw [hq] at this
    obtain ⟨e1, e2, e3⟩ := this
    exact ⟨e1, by rw [e2], e3⟩
theorem eq46 (s : ByteArray) : eqS s (mkS 46) = (s.toList == [46]) := by unfold eqS; rw [show (mkS 46).toList = [46] by rw [ByteArray.toList_eq]; rfl]
theorem eq45 (s : ByteArray) : eqS s (mkS 45) = (s.toList == [45]) := by unfold eqS; rw [show (mkS 45).toList = [45] by rw [ByteArray.toList_eq]; rfl]
theorem eq60 (s : ByteArray) : eqS s (mkS 60) = (s.toList == [60]) := by unfold eqS; rw [show (mkS 60).toList = [60] by rw [ByteArray.toList_eq]; rfl]
set_option maxHeartbeats 2000000 in
theorem readS_0 : RdP 0 := by
  rintro m rfl rb la cap ts k bad w hl h
  have B0 := below_new w (.cells E0x 26)
  have R0 := hide (heap_alloc_new w (.cells E0x 26))
  have H0 := hide (h.start.later B0)
  unfold RdR
  unfold E0x at R0 H0
  clear h B0
  go_enter Tryz.func33, Tryz.ntmps33
  obtain ⟨W, hW⟩ : ∃ W, w.alloc (Obj.cells #[.int .i64 0, .int .i64 0, .string ⟨#[]⟩, .slice none 0 0] 26) = W := ⟨_, rfl⟩
  rw [hW] at R0 H0
  obtain ⟨c0, c1, c2⟩ := (unhide H0).rz.cells
  have f2 := (unhide H0).rz.frz 2
  have H7 := hide ((unhide H0).next (unhide H0).rz.setBad (grownBy_set _))
  have R7 := hide ((unhide H0).blk (grownBy_set (w := W) (b := rb) (o := 2) (.bool true)) (unhide R0) (Nat.le_refl _))
  go_wp2_with (refine wpList_store_row rfl 26 _ _ rfl w.heap.size #[.int .i64 0, .int .i64 0, .string ⟨#[]⟩, .slice none 0 0] rfl rfl 26 _ (unhide R7) szE rfl (ex_one _ _ _ _ _ _) ?_)
  refine bodyPost_ret (results_cell_row (P := Tryz.prog) rfl _ _ w.heap.size 26 #[.int .i64 0, .int .i64 0, .string ⟨#[]⟩, .slice none 0 0] (0, 0) _ rfl (setRow_heap _ _ _ _ _ _ (unhide R7)) Tryz.underlying26 rfl szE) rfl ?_
  exact ⟨⟨0, 0, E0, []⟩, none, 0, k, true, rfl, NewX.nil _ _ _ _ _ _, ((unhide H7).row _).rz, ((unhide H7).row _).gr, OutO.bad _ _ (fun _ => rfl)⟩
set_option maxHeartbeats 8000000 in
theorem readS_s (d : Nat) (hd : d ≤ 5) (ih : RdP d) : RdP (d + 1) := by
  rintro m hm rb la cap ts k bad w hl h
  have B0 := below_new w (.cells E0x 26)
  have R0 := hide (heap_alloc_new w (.cells E0x 26))
  have hZ0 : w.heap.size < (w.alloc (.cells E0x 26)).heap.size := by simp
  have H0 := hide (h.start.later B0)
  have hlt := h.lt
  have hm0 : 1 ≤ m := by omega
  have hm1 : m ≤ 6 := by omega
  have hm2 : ¬ 6 < m := by omega
  have hmd : m + 1 = 7 - (d : Int) := by omega
  have IH := hide (fun k bad wr (hr : Rz wr rb la cap ts k bad) => ih (m + 1) hmd rb la cap ts k bad wr hl hr)
  have TW := hide (fun k bad wr (hr : Rz wr rb la cap ts k bad) => twoS_of d hd ih m (by omega) rb la cap ts k bad wr hl hr)
  unfold RdR at IH TW
  unfold RdR
  unfold E0x at R0 hZ0
  clear h B0 ih hmd hm
  cases hn : nextB ts k bad
  case false =>
    have N0 := hide (nextS_no rb la cap ts k bad _ hl (unhide H0).rz hn)
    have ND2 := hide (show OutO (readF (d + 1) (ts.drop k)) ts bad ⟨0, 0, E0, []⟩ k true from OutO.bad _ _ (fun hb => by
      subst hb
      have : ts.length ≤ k := by
        unfold nextB at hn
        simpa using hn
      rw [List.drop_eq_nil_of_le this]
      rfl))
    obtain ⟨tx, htx⟩ : ∃ tx : ByteArray, (⟨#[]⟩ : ByteArray) = tx := ⟨_, rfl⟩
    rw [htx] at N0
    have h46 : (tx.toList == [46]) = false := by rw [← htx, ByteArray.toList_eq]; rfl
    have h45 : (tx.toList == [45]) = false := by rw [← htx, ByteArray.toList_eq]; rfl
    have h60 : (tx.toList == [60]) = false := by rw [← htx, ByteArray.toList_eq]; rfl
    clear IH TW hn htx
    unfold E0x at H0 N0
    go_enter Tryz.func33, Tryz.ntmps33
    go_wp2_with fail
    generalize w.alloc (Obj.cells #[.int .i64 0, .int .i64 0, .string ⟨#[]⟩, .slice none 0 0] 26) = W at *
    refine (unhide N0).mono ?_
    rintro r w1 ⟨rfl, hr1, hg1⟩
    have H1 := hide ((unhide H0).next hr1 hg1)
    have R1 := hide ((unhide H0).blk hg1 (unhide R0) (Nat.le_refl _))
    have hZ1 : w.heap.size < w1.heap.size := Nat.lt_of_lt_of_le hZ0 hg1.size
    clear hr1 hg1 H0 R0 N0
    have hb2 := below_new w1 (.cells #[.int .i64 0, .int .i64 0, .string tx] 62)
    have hg2 : (w1.alloc (.cells #[.int .i64 0, .int .i64 0, .string tx] 62)).heap[w1.heap.size]? = some (.cells #[.int .i64 0, .int .i64 0, .string tx] 62 (0, 0)) := Array.getElem?_push_size
    obtain ⟨w2, hw2⟩ : ∃ w2, w1.alloc (.cells #[.int .i64 0, .int .i64 0, .string tx] 62) = w2 := ⟨_, rfl⟩
    rw [hw2] at hb2 hg2
    have H2 := hide ((unhide H1).later hb2)
    have R2 := hide (row_keep (unhide R1) hb2)
    have t0 := Lib.cell_of_heap hg2 0
    have t1 := Lib.cell_of_heap hg2 1
    have t2 := Lib.cell_of_heap hg2 2
    have hZ2 : w.heap.size < w2.heap.size := Nat.lt_of_lt_of_le hZ1 hb2.size
    obtain ⟨c0, c1, c2⟩ := (unhide H2).rz.cells
    have f2 := (unhide H2).rz.frz 2
    have H7 := hide ((unhide H2).next (unhide H2).rz.setBad (grownBy_set _))
    have R7 := hide ((unhide H2).blk (grownBy_set (w := w2) (b := rb) (o := 2) (.bool true)) (unhide R2) (Nat.le_refl _))
    clear hb2 hg2 H1 R1
    go_wp2_with (refine wpList_store_row rfl 26 _ _ rfl w.heap.size #[.int .i64 0, .int .i64 0, .string ⟨#[]⟩, .slice none 0 0] rfl rfl 26 _ (unhide R7) szE rfl (ex_one _ _ _ _ _ _) ?_)
    refine bodyPost_ret (results_cell_row (P := Tryz.prog) rfl _ _ w.heap.size 26 #[.int .i64 0, .int .i64 0, .string ⟨#[]⟩, .slice none 0 0] (0, 0) _ rfl (setRow_heap _ _ _ _ _ _ (unhide R7)) Tryz.underlying26 rfl szE) rfl ?_
    exact ⟨⟨0, 0, E0, []⟩, none, 0, k, true, rfl, NewX.nil _ _ _ _ _ _, ((unhide H7).row _).rz, ((unhide H7).row _).gr, unhide ND2⟩
  case true =>
    obtain ⟨rfl, hk⟩ : bad = false ∧ k < ts.length := by
      unfold nextB at hn
      cases bad with
      | true => cases hn
      | false => exact ⟨rfl, by simpa using hn⟩
    have N0 := hide (nextS_yes rb la cap ts k _ hl (unhide H0).rz hk)
    have RE := hide (show readF (d + 1) (ts.drop k) = _ from (congrArg (readF (d + 1)) (drop_at hk)).trans (readF_cons d (tAt ts k) (ts.drop (k + 1))))
    rw [eq46, eq45, eq60] at RE
    unfold E0x at H0 N0
    unfold Tk.v Tk.cs at N0
    clear hn
    generalize (tAt ts k).k = tk at *
    generalize (tAt ts k).n = tn at *
    generalize (tAt ts k).s = tx at *
    generalize readF (d + 1) (ts.drop k) = RO at *
    go_enter Tryz.func33, Tryz.ntmps33
    go_wp2_with fail
    generalize w.alloc (Obj.cells #[.int .i64 0, .int .i64 0, .string ⟨#[]⟩, .slice none 0 0] 26) = W at *
    refine (unhide N0).mono ?_
    rintro r w1 ⟨rfl, hr1, hg1⟩
    have H1 := hide ((unhide H0).next hr1 hg1)
    have R1 := hide ((unhide H0).blk hg1 (unhide R0) (Nat.le_refl _))
    have hZ1 : w.heap.size < w1.heap.size := Nat.lt_of_lt_of_le hZ0 hg1.size
    clear hr1 hg1 H0 R0 N0
    have hb2 := below_new w1 (.cells #[.int .i64 tk, .int .i64 tn, .string tx] 62)
    have hg2 : (w1.alloc (.cells #[.int .i64 tk, .int .i64 tn, .string tx] 62)).heap[w1.heap.size]? = some (.cells #[.int .i64 tk, .int .i64 tn, .string tx] 62 (0, 0)) := Array.getElem?_push_size
    obtain ⟨w2, hw2⟩ : ∃ w2, w1.alloc (.cells #[.int .i64 tk, .int .i64 tn, .string tx] 62) = w2 := ⟨_, rfl⟩
    rw [hw2] at hb2 hg2
    have H2 := hide ((unhide H1).later hb2)
    have R2 := hide (row_keep (unhide R1) hb2)
    have t0 := Lib.cell_of_heap hg2 0
    have t1 := Lib.cell_of_heap hg2 1
    have t2 := Lib.cell_of_heap hg2 2
    have hZ2 : w.heap.size < w2.heap.size := Nat.lt_of_lt_of_le hZ1 hb2.size
    obtain ⟨c0, c1, c2⟩ := (unhide H2).rz.cells
    have f2 := (unhide H2).rz.frz 2
    have H7 := hide ((unhide H2).next (unhide H2).rz.setBad (grownBy_set _))
    have R7 := hide ((unhide H2).blk (grownBy_set (w := w2) (b := rb) (o := 2) (.bool true)) (unhide R2) (Nat.le_refl _))
    clear hb2 hg2 H1 R1
    by_cases h2 : tk = 2
    · subst h2
      have O := hide (show RO = some (⟨1, tn, E0, []⟩, ts.drop (k + 1)) from unhide RE)
      clear IH TW RE H7 R7
      go_wp2_with (refine wpList_store_row rfl 26 _ _ rfl w.heap.size #[.int .i64 1, .int .i64 tn, .string ⟨#[]⟩, .slice none 0 0] rfl rfl 26 _ (unhide R2) szE rfl (ex_one _ _ _ _ _ _) ?_)
      refine bodyPost_ret (results_cell_row (P := Tryz.prog) rfl _ _ w.heap.size 26 #[.int .i64 1, .int .i64 tn, .string ⟨#[]⟩, .slice none 0 0] (0, 0) _ rfl (setRow_heap _ _ _ _ _ _ (unhide R2)) Tryz.underlying26 rfl szE) rfl ?_
      exact ⟨⟨1, tn, E0, []⟩, none, 0, k + 1, false, rfl, NewX.nil _ _ _ _ _ _, ((unhide H2).row _).rz, ((unhide H2).row _).gr, ⟨fun h => (by cases h), fun _ => by rw [unhide O]; exact ⟨rfl, rfl, rfl⟩⟩⟩
    by_cases h1 : tk = 1
    · subst h1
      have O := hide (show RO = some (⟨2, 0, tx, []⟩, ts.drop (k + 1)) from unhide RE)
      clear IH TW RE H7 R7 h2
      go_wp2_with (refine wpList_store_row rfl 26 _ _ rfl w.heap.size #[.int .i64 2, .int .i64 0, .string tx, .slice none 0 0] rfl rfl 26 _ (unhide R2) szE rfl (ex_one _ _ _ _ _ _) ?_)
      refine bodyPost_ret (results_cell_row (P := Tryz.prog) rfl _ _ w.heap.size 26 #[.int .i64 2, .int .i64 0, .string tx, .slice none 0 0] (0, 0) _ rfl (setRow_heap _ _ _ _ _ _ (unhide R2)) Tryz.underlying26 rfl szE) rfl ?_
      exact ⟨⟨2, 0, tx, []⟩, none, 0, k + 1, false, rfl, NewX.nil _ _ _ _ _ _, ((unhide H2).row _).rz, ((unhide H2).row _).gr, ⟨fun h => (by cases h), fun _ => by rw [unhide O]; exact ⟨rfl, rfl, rfl⟩⟩⟩
    by_cases h46 : (tx.toList == [46]) = true
    · have O := hide (show RO = some (⟨3, 0, E0, []⟩, ts.drop (k + 1)) by rw [unhide RE, if_neg h2, if_neg h1, if_pos h46])
      clear IH TW RE H7 R7
      go_wp2_with (refine wpList_store_row rfl 26 _ _ rfl w.heap.size #[.int .i64 3, .int .i64 0, .string ⟨#[]⟩, .slice none 0 0] rfl rfl 26 _ (unhide R2) szE rfl (ex_one _ _ _ _ _ _) ?_)
      refine bodyPost_ret (results_cell_row (P := Tryz.prog) rfl _ _ w.heap.size 26 #[.int .i64 3, .int .i64 0, .string ⟨#[]⟩, .slice none 0 0] (0, 0) _ rfl (setRow_heap _ _ _ _ _ _ (unhide R2)) Tryz.underlying26 rfl szE) rfl ?_
      exact ⟨⟨3, 0, E0, []⟩, none, 0, k + 1, false, rfl, NewX.nil _ _ _ _ _ _, ((unhide H2).row _).rz, ((unhide H2).row _).gr, ⟨fun h => (by cases h), fun _ => by rw [unhide O]; exact ⟨rfl, rfl, rfl⟩⟩⟩
    have h46 : (tx.toList == [46]) = false := by simpa using h46
    by_cases h45 : (tx.toList == [45]) = true
    · have O := hide (show RO = (match readF d (ts.drop (k + 1)) with | none => none | some (a, q) => some (⟨4, 0, E0, [a]⟩, q)) by rw [unhide RE, if_neg h2, if_neg h1, if_neg (by rw [h46]; decide), if_pos h45])
      have IH2 := hide (unhide IH (k + 1) false w2 (unhide H2).rz)
      clear IH TW RE H7 R7 c0 c1 c2 f2
      go_wp2_with fail
      refine (unhide IH2).mono ?_
      rintro r w3 ⟨x, c, cp, k3, b3, rfl, hnx, hr3, hg3, ho3⟩
      have H3 := hide ((unhide H2).next hr3 hg3)
      have R3 := hide ((unhide H2).blk hg3 (unhide R2) (Nat.le_refl _))
      have X3 := hide (hnx.lower (show w.heap.size + 1 ≤ w2.heap.size by omega))
      have hZ3 : w.heap.size < w3.heap.size := Nat.lt_of_lt_of_le hZ2 hg3.size
      have O3 := hide (show OutO RO ts false ⟨4, 0, E0, [x]⟩ k3 b3 from (unhide O).symm ▸ neg_out ho3)
      unfold Ex.cs
      clear hnx hr3 hg3 ho3 H2 R2 O IH2 t0 t1 t2
      have hb4 := below_new w3 (.cells #[.int .i64 x.k, .int .i64 x.n, .string x.s, .slice c x.l.length cp] 26)
      have hg4 : (w3.alloc (.cells #[.int .i64 x.k, .int .i64 x.n, .string x.s, .slice c x.l.length cp] 26)).heap[w3.heap.size]? = some (.cells #[.int .i64 x.k, .int .i64 x.n, .string x.s, .slice c x.l.length cp] 26 (0, 0)) := Array.getElem?_push_size
      obtain ⟨w4, hw4⟩ : ∃ w4, w3.alloc (.cells #[.int .i64 x.k, .int .i64 x.n, .string x.s, .slice c x.l.length cp] 26) = w4 := ⟨_, rfl⟩
      rw [hw4] at hb4 hg4
      have H4 := hide ((unhide H3).later hb4)
      have R4 := hide (row_keep (unhide R3) hb4)
      have X4 := hide ((unhide X3).later hb4)
      have hZ4 : w.heap.size < w4.heap.size := Nat.lt_of_lt_of_le hZ3 hb4.size
      have N4 := hide (NewX.one (cp := cp) (unhide X4) (by omega) 4 0 E0 26)
      have y0 := Lib.cell_of_heap hg4 0
      have y1 := Lib.cell_of_heap hg4 1
      have y2 := Lib.cell_of_heap hg4 2
      have y3 := Lib.cell_of_heap hg4 3
      have hb5 := below_new w4 (.cells #[.int .i64 x.k, .int .i64 x.n, .string x.s, .slice c x.l.length cp] 26)
      have H5 := hide ((unhide H4).later hb5)
      have R5 := hide (row_keep (unhide R4) hb5)
      clear hb4 hg4 hb5 H3 R3 X3 H4 R4 X4
      go_wp2_with (refine wpList_store_row rfl 26 _ _ rfl w.heap.size #[.int .i64 4, .int .i64 0, .string ⟨#[]⟩, .slice (some ⟨w4.heap.size, 0, none⟩) 1 1] rfl rfl 26 _ (unhide R5) szE rfl (ex_one _ _ _ _ _ _) ?_)
      refine bodyPost_ret (results_cell_row (P := Tryz.prog) rfl _ _ w.heap.size 26 #[.int .i64 4, .int .i64 0, .string ⟨#[]⟩, .slice (some ⟨w4.heap.size, 0, none⟩) 1 1] (0, 0) _ rfl (setRow_heap _ _ _ _ _ _ (unhide R5)) Tryz.underlying26 rfl szE) rfl ?_
      exact ⟨⟨4, 0, E0, [x]⟩, _, _, k3, b3, rfl, ((unhide N4).row _ (Nat.lt_succ_self _)).lower (Nat.le_succ _), ((unhide H5).row _).rz, ((unhide H5).row _).gr, unhide O3⟩
    have h45 : (tx.toList == [45]) = false := by simpa using h45
    by_cases h60 : (tx.toList == [60]) = true
    · have O := hide (show RO = twoF d (ts.drop (k + 1)) by rw [unhide RE, if_neg h2, if_neg h1, if_neg (by rw [h46]; decide), if_neg (by rw [h45]; decide), if_pos h60])
      have TW2 := hide (unhide TW (k + 1) false w2 (unhide H2).rz)
      rw [← unhide O] at TW2
      clear IH TW RE H7 R7 c0 c1 c2 f2 O
      go_wp2_with fail
      refine (unhide TW2).mono ?_
      rintro r w3 ⟨x, c, cp, k3, b3, rfl, hnx, hr3, hg3, ho3⟩
      have H3 := hide ((unhide H2).next hr3 hg3)
      have R3 := hide ((unhide H2).blk hg3 (unhide R2) (Nat.le_refl _))
      have X3 := hide (hnx.lower (show w.heap.size + 1 ≤ w2.heap.size by omega))
      have O3 := hide ho3
      unfold Ex.cs
      clear hnx hr3 hg3 ho3 H2 R2 TW2 t0 t1 t2
      go_wp2_with (refine wpList_store_row rfl 26 _ _ rfl w.heap.size #[.int .i64 x.k, .int .i64 x.n, .string x.s, .slice c x.l.length cp] rfl rfl 26 _ (unhide R3) szE rfl (ex_one _ _ _ _ _ _) ?_)
      refine bodyPost_ret (results_cell_row (P := Tryz.prog) rfl _ _ w.heap.size 26 #[.int .i64 x.k, .int .i64 x.n, .string x.s, .slice c x.l.length cp] (0, 0) _ rfl (setRow_heap _ _ _ _ _ _ (unhide R3)) Tryz.underlying26 rfl szE) rfl ?_
      exact ⟨x, c, cp, k3, b3, rfl, ((unhide X3).row _ (Nat.lt_succ_self _)).lower (Nat.le_succ _), ((unhide H3).row _).rz, ((unhide H3).row _).gr, unhide O3⟩
    have h60 : (tx.toList == [60]) = false := by simpa using h60
    have O := hide (show RO = none by rw [unhide RE, if_neg h2, if_neg h1, if_neg (by rw [h46]; decide), if_neg (by rw [h45]; decide), if_neg (by rw [h60]; decide)])
    clear IH TW RE
    go_wp2_with (refine wpList_store_row rfl 26 _ _ rfl w.heap.size #[.int .i64 0, .int .i64 0, .string ⟨#[]⟩, .slice none 0 0] rfl rfl 26 _ (unhide R7) szE rfl (ex_one _ _ _ _ _ _) ?_)
    refine bodyPost_ret (results_cell_row (P := Tryz.prog) rfl _ _ w.heap.size 26 #[.int .i64 0, .int .i64 0, .string ⟨#[]⟩, .slice none 0 0] (0, 0) _ rfl (setRow_heap _ _ _ _ _ _ (unhide R7)) Tryz.underlying26 rfl szE) rfl ?_
    exact ⟨⟨0, 0, E0, []⟩, none, 0, k + 1, true, rfl, NewX.nil _ _ _ _ _ _, ((unhide H7).row _).rz, ((unhide H7).row _).gr, OutO.bad _ _ (fun _ => unhide O)⟩
theorem readS_6 : RdP 6 := readS_s 5 (by omega) (readS_s 4 (by omega) (readS_s 3 (by omega) (readS_s 2 (by omega) (readS_s 1 (by omega) (readS_s 0 (by omega) readS_0)))))
end Go.Proofs.YthgbpofcfmnpdaaGreatDoor

namespace Go.Proofs.YthgbpofcfmnpdaaGreatDoor
open Go.ChangeShapes Go.WideShapes Go.ChangeAt Go.RowKit
set_option linter.unusedVariables false
set_option maxRecDepth 8000
set_option linter.unusedSimpArgs false

def TwP (d : Nat) : Prop := ∀ (a : Option Addr) (n cap : Nat) (ts : List Tk) (w : World), Sl w a n cap ts → TabG w → Calls Tryz.prog 60 #[.slice a n cap, .int .i64 d] w (TrR (twoF d ts) w)
set_option maxHeartbeats 8000000 in
theorem readI_one (d : Nat) (hd : d ≤ 5) (ih : TrP d) (it : TwP d) (b off n cap : Nat) (t : Tk) (q : List Tk) (w : World) (h : Sl w (some ⟨b, off, none⟩) n cap (t :: q)) (hc : cap = 1) (ht : TabG w) : Calls Tryz.prog 30 #[.slice (some ⟨b, off, none⟩) n cap, .int .i64 (d + 1 : Nat)] w (TrR (readF (d + 1) (t :: q)) w) := by
  obtain ⟨b', off', hbo, hbl, t0, t1, t2⟩ := h.head
  cases hbo
  have hn : 0 < n := by have := h.ln; simp at this; omega
  have hcap := h.cp
  have hmax := h.mx
  have hsm := h.sm
  subst hc
  obtain rfl : n = 1 := by omega
  have hq : q = [] := by have := h.ln; simpa using this
  have SL := hide (show Sl w (some ⟨b, off, none⟩) 0 0 q from by rw [hq]; exact ⟨rfl, Nat.le_refl _, by unfold maxLen; omega, .inl rfl, allOk_nil, by omega⟩)
  clear hq
  have hd0 : ((d : Int) + 1 == 0) = false := by rw [beq_eq_false_iff_ne]; omega
  have RE := hide (readF_cons d t q)
  rw [eq46, eq45, eq60] at RE
  have M1 := hide (mark_same h.ok.head.1 (c := 46) (by decide))
  have M2 := hide (mark_same h.ok.head.1 (c := 45) (by decide))
  have M3 := hide (mark_same h.ok.head.1 (c := 60) (by decide))
  rw [eq46] at M1
  rw [eq45] at M2
  rw [eq60] at M3
  have hB := below_new w (.cells #[.int .i64 t.k, .int .i64 t.n, .string t.s] 62)
  have BD := hide (hB.trans ((below_drew (w := w.alloc (.cells #[.int .i64 t.k, .int .i64 t.n, .string t.s] 62))).mono hB.size))
  have TG := hide (ht.later (unhide BD) ht.lt)
  have SD := hide ((unhide SL).later (unhide BD))
  clear hB h ht
  obtain ⟨tk, tn, tx⟩ := t
  simp only at *
  generalize readF (d + 1) (⟨tk, tn, tx⟩ :: q) = RO at *
  by_cases h2 : tk = 2
  · subst h2
    have O := hide (show RO = some (⟨1, tn, E0, []⟩, q) from unhide RE)
    clear M1 M2 M3 RE ih it
    go_enter Tryz.func30, Tryz.ntmps30
    go_wp2
    go_region
    go_wp2
    refine bodyPost_ret (results_tmp3 rfl _ _ _) rfl ?_
    exact ⟨unhide BD, by rw [unhide O]; exact ⟨_, _, _, by rw [tv_num]; rfl, unhide SD⟩⟩
  by_cases h1 : tk = 1
  · subst h1
    have O := hide (show RO = some (⟨2, 0, tx, []⟩, q) from unhide RE)
    clear M1 M2 M3 RE ih it h2
    go_enter Tryz.func30, Tryz.ntmps30
    go_wp2
    go_region
    go_wp2
    refine bodyPost_ret (results_tmp3 rfl _ _ _) rfl ?_
    exact ⟨unhide BD, by rw [unhide O]; exact ⟨_, _, _, by rw [tv_sym]; rfl, unhide SD⟩⟩
  by_cases h46 : (tx.toList == [46]) = true
  · obtain ⟨rfl, rfl⟩ : tk = 4 ∧ tn = 0 := by have := unhide M1; rw [h46] at this; simp only [Bool.and_eq_true, beq_iff_eq] at this; exact ⟨this.1, this.2.1⟩
    have O := hide (show RO = some (⟨3, 0, E0, []⟩, q) by rw [unhide RE, if_neg h2, if_neg h1, if_pos h46])
    have e46 : tx.toList = [46] := by simpa using h46
    clear M1 M2 M3 RE ih it
    go_enter Tryz.func30, Tryz.ntmps30
    go_wp2
    go_region
    go_wp2_with fail
    generalize (w.alloc (Obj.cells #[.int .i64 4, .int .i64 0, .string tx] 62)).drew = W at *
    have BD0 := hide (unhide BD)
    have TG0 := hide (unhide TG)
    have SD0 := hide (unhide SD)
    clear BD TG SD
    refine (markI_any ⟨#[46]⟩ W).mono ?_
    rintro r w3 ⟨rfl, hb⟩
    unfold Tk.v Tk.cs
    have BD1 := hide ((unhide BD0).trans (hb.mono (unhide BD0).size))
    have TG1 := hide ((unhide TG0).later hb (unhide TG0).lt)
    have SD1 := hide ((unhide SD0).later hb)
    clear hb BD0 TG0 SD0
    go_wp2
    refine bodyPost_ret (results_tmp3 rfl _ _ _) rfl ?_
    exact ⟨unhide BD1, by rw [unhide O]; exact ⟨_, _, _, by rw [tv_here]; rfl, unhide SD1⟩⟩
  have n46 : ¬ tx.toList = [46] := by simpa using h46
  by_cases h45 : (tx.toList == [45]) = true
  · obtain ⟨rfl, rfl⟩ : tk = 4 ∧ tn = 0 := by have := unhide M2; rw [h45] at this; simp only [Bool.and_eq_true, beq_iff_eq] at this; exact ⟨this.1, this.2.1⟩
    have O := hide (show RO = (match readF d q with | none => none | some (a, q) => some (⟨4, 0, E0, [a]⟩, q)) by have e := unhide RE; rw [if_neg h2, if_neg h1, if_neg h46, if_pos h45] at e; exact e)
    have e45 : tx.toList = [45] := by simpa using h45
    have IH := hide (fun wr (h1 : Sl wr (some ⟨b, off, none⟩) 0 0 q) h2 => ih _ _ _ q wr h1 h2)
    clear M1 M2 M3 RE ih it h46 h45 n46
    go_enter Tryz.func30, Tryz.ntmps30
    go_wp2
    go_region
    go_wp2_with fail
    generalize (w.alloc (Obj.cells #[.int .i64 4, .int .i64 0, .string tx] 62)).drew = W at *
    have BD0 := hide (unhide BD)
    have TG0 := hide (unhide TG)
    have SD0 := hide (unhide SD)
    clear BD TG SD
    refine (markI_any ⟨#[46]⟩ W).mono ?_
    rintro r w3 ⟨rfl, hb⟩
    unfold Tk.v Tk.cs
    have BD1 := hide ((unhide BD0).trans (hb.mono (unhide BD0).size))
    have TG1 := hide ((unhide TG0).later hb (unhide TG0).lt)
    have SD1 := hide ((unhide SD0).later hb)
    clear hb BD0 TG0 SD0
    go_wp2_with fail
    refine (markI_any ⟨#[45]⟩ w3).mono ?_
    rintro r w4 ⟨rfl, hb⟩
    unfold Tk.v Tk.cs
    have BD2 := hide ((unhide BD1).trans (hb.mono (unhide BD1).size))
    have TG2 := hide ((unhide TG1).later hb (unhide TG1).lt)
    have SD2 := hide ((unhide SD1).later hb)
    clear hb BD1 TG1 SD1
    have IH2 := hide (unhide IH w4 (unhide SD2) (unhide TG2))
    clear IH
    unfold TrR at IH2
    cases hr : readF d q with
    | none =>
      rw [hr] at IH2 O
      go_wp2_with fail
      refine (unhide IH2).mono ?_
      rintro r w5 ⟨hb5, v, xx, hv, rfl⟩
      have B5 := hide ((unhide BD2).trans (hb5.mono (unhide BD2).size))
      clear hb5
      rcases hv with rfl | ⟨ty, vv, rfl⟩
      · go_wp2
        refine bodyPost_ret (results_tmp3 rfl _ _ _) rfl ?_
        exact ⟨unhide B5, by rw [unhide O]; exact ⟨_, _, .inr ⟨_, _, rfl⟩, rfl⟩⟩
      · go_wp2
        refine bodyPost_ret (results_tmp3 rfl _ _ _) rfl ?_
        exact ⟨unhide B5, by rw [unhide O]; exact ⟨_, _, .inr ⟨_, _, rfl⟩, rfl⟩⟩
    | some p =>
      obtain ⟨e, q2⟩ := p
      rw [hr] at IH2 O
      go_wp2_with fail
      refine (unhide IH2).mono ?_
      rintro r w5 ⟨hb5, a5, n5, c5, rfl, hs5⟩
      have B5 := hide ((unhide BD2).trans (hb5.mono (unhide BD2).size))
      have S5 := hide hs5
      have TN := hide (tv_neg 0 E0 e)
      obtain ⟨ty, vv, hty⟩ := tv_if e
      rw [hty] at TN ⊢
      clear hb5 hs5 hty
      go_wp2
      refine bodyPost_ret (results_tmp3 rfl _ _ _) rfl ?_
      exact ⟨unhide B5, by rw [unhide O]; exact ⟨_, _, _, by rw [unhide TN]; rfl, unhide S5⟩⟩
  have n45 : ¬ tx.toList = [45] := by simpa using h45
  by_cases h60 : (tx.toList == [60]) = true
  · obtain ⟨rfl, rfl⟩ : tk = 4 ∧ tn = 0 := by have := unhide M3; rw [h60] at this; simp only [Bool.and_eq_true, beq_iff_eq] at this; exact ⟨this.1, this.2.1⟩
    have O := hide (show RO = twoF d q by have e := unhide RE; rw [if_neg h2, if_neg h1, if_neg h46, if_neg h45, if_pos h60] at e; exact e)
    have e60 : tx.toList = [60] := by simpa using h60
    have IH := hide (fun wr (h1 : Sl wr (some ⟨b, off, none⟩) 0 0 q) h2 => it _ _ _ q wr h1 h2)
    clear M1 M2 M3 RE ih it h46 h45 h60 n46 n45
    go_enter Tryz.func30, Tryz.ntmps30
    go_wp2
    go_region
    go_wp2_with fail
    generalize (w.alloc (Obj.cells #[.int .i64 4, .int .i64 0, .string tx] 62)).drew = W at *
    have BD0 := hide (unhide BD)
    have TG0 := hide (unhide TG)
    have SD0 := hide (unhide SD)
    clear BD TG SD
    refine (markI_any ⟨#[46]⟩ W).mono ?_
    rintro r w3 ⟨rfl, hb⟩
    unfold Tk.v Tk.cs
    have BD1 := hide ((unhide BD0).trans (hb.mono (unhide BD0).size))
    have TG1 := hide ((unhide TG0).later hb (unhide TG0).lt)
    have SD1 := hide ((unhide SD0).later hb)
    clear hb BD0 TG0 SD0
    go_wp2_with fail
    refine (markI_any ⟨#[45]⟩ w3).mono ?_
    rintro r w4 ⟨rfl, hb⟩
    unfold Tk.v Tk.cs
    have BD2 := hide ((unhide BD1).trans (hb.mono (unhide BD1).size))
    have TG2 := hide ((unhide TG1).later hb (unhide TG1).lt)
    have SD2 := hide ((unhide SD1).later hb)
    clear hb BD1 TG1 SD1
    go_wp2_with fail
    refine (markI_any ⟨#[60]⟩ w4).mono ?_
    rintro r w5 ⟨rfl, hb⟩
    unfold Tk.v Tk.cs
    have BD3 := hide ((unhide BD2).trans (hb.mono (unhide BD2).size))
    have TG3 := hide ((unhide TG2).later hb (unhide TG2).lt)
    have SD3 := hide ((unhide SD2).later hb)
    clear hb BD2 TG2 SD2
    have IH2 := hide (unhide IH w5 (unhide SD3) (unhide TG3))
    clear IH
    rw [← unhide O] at IH2
    unfold TrR at IH2
    clear O
    cases RO with
    | none =>
      go_wp2_with fail
      refine (unhide IH2).mono ?_
      rintro r w6 ⟨hb6, v, xx, hv, rfl⟩
      have B6 := hide ((unhide BD3).trans (hb6.mono (unhide BD3).size))
      have HV := hide hv
      clear hb6 hv
      go_wp2
      refine bodyPost_ret (results_tmp3 rfl _ _ _) rfl ?_
      exact ⟨unhide B6, _, _, unhide HV, rfl⟩
    | some p =>
      obtain ⟨e, q2⟩ := p
      go_wp2_with fail
      refine (unhide IH2).mono ?_
      rintro r w6 ⟨hb6, a6, n6, c6, rfl, hs6⟩
      have B6 := hide ((unhide BD3).trans (hb6.mono (unhide BD3).size))
      have S6 := hide hs6
      clear hb6 hs6
      go_wp2
      refine bodyPost_ret (results_tmp3 rfl _ _ _) rfl ?_
      exact ⟨unhide B6, _, _, _, rfl, unhide S6⟩
  have n60 : ¬ tx.toList = [60] := by simpa using h60
  have O := hide (show RO = none by have e := unhide RE; rw [if_neg h2, if_neg h1, if_neg h46, if_neg h45, if_neg h60] at e; exact e)
  clear M1 M2 M3 RE ih it h46 h45 h60
  go_enter Tryz.func30, Tryz.ntmps30
  go_wp2
  go_region
  go_wp2_with fail
  generalize (w.alloc (Obj.cells #[.int .i64 tk, .int .i64 tn, .string tx] 62)).drew = W at *
  have BD0 := hide (unhide BD)
  have TG0 := hide (unhide TG)
  have SD0 := hide (unhide SD)
  clear BD TG SD
  refine (markI_any ⟨#[46]⟩ W).mono ?_
  rintro r w3 ⟨rfl, hb⟩
  unfold Tk.v Tk.cs
  have BD1 := hide ((unhide BD0).trans (hb.mono (unhide BD0).size))
  have TG1 := hide ((unhide TG0).later hb (unhide TG0).lt)
  have SD1 := hide ((unhide SD0).later hb)
  clear hb BD0 TG0 SD0
  go_wp2_with fail
  refine (markI_any ⟨#[45]⟩ w3).mono ?_
  rintro r w4 ⟨rfl, hb⟩
  unfold Tk.v Tk.cs
  have BD2 := hide ((unhide BD1).trans (hb.mono (unhide BD1).size))
  have TG2 := hide ((unhide TG1).later hb (unhide TG1).lt)
  have SD2 := hide ((unhide SD1).later hb)
  clear hb BD1 TG1 SD1
  go_wp2_with fail
  refine (markI_any ⟨#[60]⟩ w4).mono ?_
  rintro r w5 ⟨rfl, hb⟩
  unfold Tk.v Tk.cs
  have BD3 := hide ((unhide BD2).trans (hb.mono (unhide BD2).size))
  have TG3 := hide ((unhide TG2).later hb (unhide TG2).lt)
  have SD3 := hide ((unhide SD2).later hb)
  clear hb BD2 TG2 SD2
  go_wp2
  refine bodyPost_ret (results_tmp3 rfl _ _ _) rfl ?_
  exact ⟨unhide BD3, by rw [unhide O]; exact ⟨_, _, .inl rfl, rfl⟩⟩
set_option maxHeartbeats 8000000 in
theorem readI_more (d : Nat) (hd : d ≤ 5) (ih : TrP d) (it : TwP d) (b off n cap : Nat) (t : Tk) (q : List Tk) (w : World) (h : Sl w (some ⟨b, off, none⟩) n cap (t :: q)) (hc : ¬ cap = 1) (ht : TabG w) : Calls Tryz.prog 30 #[.slice (some ⟨b, off, none⟩) n cap, .int .i64 (d + 1 : Nat)] w (TrR (readF (d + 1) (t :: q)) w) := by
  obtain ⟨b', off', hbo, hbl, t0, t1, t2⟩ := h.head
  cases hbo
  have hn : 0 < n := by have := h.ln; simp at this; omega
  have hcap := h.cp
  have hmax := h.mx
  have hsm := h.sm
  have hc2 : ¬ cap ≤ 1 := by omega
  have SL := hide h.tail
  have hd0 : ((d : Int) + 1 == 0) = false := by rw [beq_eq_false_iff_ne]; omega
  have RE := hide (readF_cons d t q)
  rw [eq46, eq45, eq60] at RE
  have M1 := hide (mark_same h.ok.head.1 (c := 46) (by decide))
  have M2 := hide (mark_same h.ok.head.1 (c := 45) (by decide))
  have M3 := hide (mark_same h.ok.head.1 (c := 60) (by decide))
  rw [eq46] at M1
  rw [eq45] at M2
  rw [eq60] at M3
  have hB := below_new w (.cells #[.int .i64 t.k, .int .i64 t.n, .string t.s] 62)
  have BD := hide (hB.trans ((below_drew (w := w.alloc (.cells #[.int .i64 t.k, .int .i64 t.n, .string t.s] 62))).mono hB.size))
  have TG := hide (ht.later (unhide BD) ht.lt)
  have SD := hide ((unhide SL).later (unhide BD))
  clear hB h ht
  obtain ⟨tk, tn, tx⟩ := t
  simp only at *
  generalize readF (d + 1) (⟨tk, tn, tx⟩ :: q) = RO at *
  by_cases h2 : tk = 2
  · subst h2
    have O := hide (show RO = some (⟨1, tn, E0, []⟩, q) from unhide RE)
    clear M1 M2 M3 RE ih it
    go_enter Tryz.func30, Tryz.ntmps30
    go_wp2
    go_region
    go_wp2
    refine bodyPost_ret (results_tmp3 rfl _ _ _) rfl ?_
    exact ⟨unhide BD, by rw [unhide O]; exact ⟨_, _, _, by rw [tv_num]; rfl, unhide SD⟩⟩
  by_cases h1 : tk = 1
  · subst h1
    have O := hide (show RO = some (⟨2, 0, tx, []⟩, q) from unhide RE)
    clear M1 M2 M3 RE ih it h2
    go_enter Tryz.func30, Tryz.ntmps30
    go_wp2
    go_region
    go_wp2
    refine bodyPost_ret (results_tmp3 rfl _ _ _) rfl ?_
    exact ⟨unhide BD, by rw [unhide O]; exact ⟨_, _, _, by rw [tv_sym]; rfl, unhide SD⟩⟩
  by_cases h46 : (tx.toList == [46]) = true
  · obtain ⟨rfl, rfl⟩ : tk = 4 ∧ tn = 0 := by have := unhide M1; rw [h46] at this; simp only [Bool.and_eq_true, beq_iff_eq] at this; exact ⟨this.1, this.2.1⟩
    have O := hide (show RO = some (⟨3, 0, E0, []⟩, q) by rw [unhide RE, if_neg h2, if_neg h1, if_pos h46])
    have e46 : tx.toList = [46] := by simpa using h46
    clear M1 M2 M3 RE ih it
    go_enter Tryz.func30, Tryz.ntmps30
    go_wp2
    go_region
    go_wp2_with fail
    generalize (w.alloc (Obj.cells #[.int .i64 4, .int .i64 0, .string tx] 62)).drew = W at *
    have BD0 := hide (unhide BD)
    have TG0 := hide (unhide TG)
    have SD0 := hide (unhide SD)
    clear BD TG SD
    refine (markI_any ⟨#[46]⟩ W).mono ?_
    rintro r w3 ⟨rfl, hb⟩
    unfold Tk.v Tk.cs
    have BD1 := hide ((unhide BD0).trans (hb.mono (unhide BD0).size))
    have TG1 := hide ((unhide TG0).later hb (unhide TG0).lt)
    have SD1 := hide ((unhide SD0).later hb)
    clear hb BD0 TG0 SD0
    go_wp2
    refine bodyPost_ret (results_tmp3 rfl _ _ _) rfl ?_
    exact ⟨unhide BD1, by rw [unhide O]; exact ⟨_, _, _, by rw [tv_here]; rfl, unhide SD1⟩⟩
  have n46 : ¬ tx.toList = [46] := by simpa using h46
  by_cases h45 : (tx.toList == [45]) = true
  · obtain ⟨rfl, rfl⟩ : tk = 4 ∧ tn = 0 := by have := unhide M2; rw [h45] at this; simp only [Bool.and_eq_true, beq_iff_eq] at this; exact ⟨this.1, this.2.1⟩
    have O := hide (show RO = (match readF d q with | none => none | some (a, q) => some (⟨4, 0, E0, [a]⟩, q)) by have e := unhide RE; rw [if_neg h2, if_neg h1, if_neg h46, if_pos h45] at e; exact e)
    have e45 : tx.toList = [45] := by simpa using h45
    have IH := hide (fun wr (h1 : Sl wr (some ⟨b, off + 3, none⟩) (n - 1) (cap - 1) q) h2 => ih _ _ _ q wr h1 h2)
    clear M1 M2 M3 RE ih it h46 h45 n46
    go_enter Tryz.func30, Tryz.ntmps30
    go_wp2
    go_region
    go_wp2_with fail
    generalize (w.alloc (Obj.cells #[.int .i64 4, .int .i64 0, .string tx] 62)).drew = W at *
    have BD0 := hide (unhide BD)
    have TG0 := hide (unhide TG)
    have SD0 := hide (unhide SD)
    clear BD TG SD
    refine (markI_any ⟨#[46]⟩ W).mono ?_
    rintro r w3 ⟨rfl, hb⟩
    unfold Tk.v Tk.cs
    have BD1 := hide ((unhide BD0).trans (hb.mono (unhide BD0).size))
    have TG1 := hide ((unhide TG0).later hb (unhide TG0).lt)
    have SD1 := hide ((unhide SD0).later hb)
    clear hb BD0 TG0 SD0
    go_wp2_with fail
    refine (markI_any ⟨#[45]⟩ w3).mono ?_
    rintro r w4 ⟨rfl, hb⟩
    unfold Tk.v Tk.cs
    have BD2 := hide ((unhide BD1).trans (hb.mono (unhide BD1).size))
    have TG2 := hide ((unhide TG1).later hb (unhide TG1).lt)
    have SD2 := hide ((unhide SD1).later hb)
    clear hb BD1 TG1 SD1
    have IH2 := hide (unhide IH w4 (unhide SD2) (unhide TG2))
    clear IH
    unfold TrR at IH2
    cases hr : readF d q with
    | none =>
      rw [hr] at IH2 O
      go_wp2_with fail
      refine (unhide IH2).mono ?_
      rintro r w5 ⟨hb5, v, xx, hv, rfl⟩
      have B5 := hide ((unhide BD2).trans (hb5.mono (unhide BD2).size))
      clear hb5
      rcases hv with rfl | ⟨ty, vv, rfl⟩
      · go_wp2
        refine bodyPost_ret (results_tmp3 rfl _ _ _) rfl ?_
        exact ⟨unhide B5, by rw [unhide O]; exact ⟨_, _, .inr ⟨_, _, rfl⟩, rfl⟩⟩
      · go_wp2
        refine bodyPost_ret (results_tmp3 rfl _ _ _) rfl ?_
        exact ⟨unhide B5, by rw [unhide O]; exact ⟨_, _, .inr ⟨_, _, rfl⟩, rfl⟩⟩
    | some p =>
      obtain ⟨e, q2⟩ := p
      rw [hr] at IH2 O
      go_wp2_with fail
      refine (unhide IH2).mono ?_
      rintro r w5 ⟨hb5, a5, n5, c5, rfl, hs5⟩
      have B5 := hide ((unhide BD2).trans (hb5.mono (unhide BD2).size))
      have S5 := hide hs5
      have TN := hide (tv_neg 0 E0 e)
      obtain ⟨ty, vv, hty⟩ := tv_if e
      rw [hty] at TN ⊢
      clear hb5 hs5 hty
      go_wp2
      refine bodyPost_ret (results_tmp3 rfl _ _ _) rfl ?_
      exact ⟨unhide B5, by rw [unhide O]; exact ⟨_, _, _, by rw [unhide TN]; rfl, unhide S5⟩⟩
  have n45 : ¬ tx.toList = [45] := by simpa using h45
  by_cases h60 : (tx.toList == [60]) = true
  · obtain ⟨rfl, rfl⟩ : tk = 4 ∧ tn = 0 := by have := unhide M3; rw [h60] at this; simp only [Bool.and_eq_true, beq_iff_eq] at this; exact ⟨this.1, this.2.1⟩
    have O := hide (show RO = twoF d q by have e := unhide RE; rw [if_neg h2, if_neg h1, if_neg h46, if_neg h45, if_pos h60] at e; exact e)
    have e60 : tx.toList = [60] := by simpa using h60
    have IH := hide (fun wr (h1 : Sl wr (some ⟨b, off + 3, none⟩) (n - 1) (cap - 1) q) h2 => it _ _ _ q wr h1 h2)
    clear M1 M2 M3 RE ih it h46 h45 h60 n46 n45
    go_enter Tryz.func30, Tryz.ntmps30
    go_wp2
    go_region
    go_wp2_with fail
    generalize (w.alloc (Obj.cells #[.int .i64 4, .int .i64 0, .string tx] 62)).drew = W at *
    have BD0 := hide (unhide BD)
    have TG0 := hide (unhide TG)
    have SD0 := hide (unhide SD)
    clear BD TG SD
    refine (markI_any ⟨#[46]⟩ W).mono ?_
    rintro r w3 ⟨rfl, hb⟩
    unfold Tk.v Tk.cs
    have BD1 := hide ((unhide BD0).trans (hb.mono (unhide BD0).size))
    have TG1 := hide ((unhide TG0).later hb (unhide TG0).lt)
    have SD1 := hide ((unhide SD0).later hb)
    clear hb BD0 TG0 SD0
    go_wp2_with fail
    refine (markI_any ⟨#[45]⟩ w3).mono ?_
    rintro r w4 ⟨rfl, hb⟩
    unfold Tk.v Tk.cs
    have BD2 := hide ((unhide BD1).trans (hb.mono (unhide BD1).size))
    have TG2 := hide ((unhide TG1).later hb (unhide TG1).lt)
    have SD2 := hide ((unhide SD1).later hb)
    clear hb BD1 TG1 SD1
    go_wp2_with fail
    refine (markI_any ⟨#[60]⟩ w4).mono ?_
    rintro r w5 ⟨rfl, hb⟩
    unfold Tk.v Tk.cs
    have BD3 := hide ((unhide BD2).trans (hb.mono (unhide BD2).size))
    have TG3 := hide ((unhide TG2).later hb (unhide TG2).lt)
    have SD3 := hide ((unhide SD2).later hb)
    clear hb BD2 TG2 SD2
    have IH2 := hide (unhide IH w5 (unhide SD3) (unhide TG3))
    clear IH
    rw [← unhide O] at IH2
    unfold TrR at IH2
    clear O
    cases RO with
    | none =>
      go_wp2_with fail
      refine (unhide IH2).mono ?_
      rintro r w6 ⟨hb6, v, xx, hv, rfl⟩
      have B6 := hide ((unhide BD3).trans (hb6.mono (unhide BD3).size))
      have HV := hide hv
      clear hb6 hv
      go_wp2
      refine bodyPost_ret (results_tmp3 rfl _ _ _) rfl ?_
      exact ⟨unhide B6, _, _, unhide HV, rfl⟩
    | some p =>
      obtain ⟨e, q2⟩ := p
      go_wp2_with fail
      refine (unhide IH2).mono ?_
      rintro r w6 ⟨hb6, a6, n6, c6, rfl, hs6⟩
      have B6 := hide ((unhide BD3).trans (hb6.mono (unhide BD3).size))
      have S6 := hide hs6
      clear hb6 hs6
      go_wp2
      refine bodyPost_ret (results_tmp3 rfl _ _ _) rfl ?_
      exact ⟨unhide B6, _, _, _, rfl, unhide S6⟩
  have n60 : ¬ tx.toList = [60] := by simpa using h60
  have O := hide (show RO = none by have e := unhide RE; rw [if_neg h2, if_neg h1, if_neg h46, if_neg h45, if_neg h60] at e; exact e)
  clear M1 M2 M3 RE ih it h46 h45 h60
  go_enter Tryz.func30, Tryz.ntmps30
  go_wp2
  go_region
  go_wp2_with fail
  generalize (w.alloc (Obj.cells #[.int .i64 tk, .int .i64 tn, .string tx] 62)).drew = W at *
  have BD0 := hide (unhide BD)
  have TG0 := hide (unhide TG)
  have SD0 := hide (unhide SD)
  clear BD TG SD
  refine (markI_any ⟨#[46]⟩ W).mono ?_
  rintro r w3 ⟨rfl, hb⟩
  unfold Tk.v Tk.cs
  have BD1 := hide ((unhide BD0).trans (hb.mono (unhide BD0).size))
  have TG1 := hide ((unhide TG0).later hb (unhide TG0).lt)
  have SD1 := hide ((unhide SD0).later hb)
  clear hb BD0 TG0 SD0
  go_wp2_with fail
  refine (markI_any ⟨#[45]⟩ w3).mono ?_
  rintro r w4 ⟨rfl, hb⟩
  unfold Tk.v Tk.cs
  have BD2 := hide ((unhide BD1).trans (hb.mono (unhide BD1).size))
  have TG2 := hide ((unhide TG1).later hb (unhide TG1).lt)
  have SD2 := hide ((unhide SD1).later hb)
  clear hb BD1 TG1 SD1
  go_wp2_with fail
  refine (markI_any ⟨#[60]⟩ w4).mono ?_
  rintro r w5 ⟨rfl, hb⟩
  unfold Tk.v Tk.cs
  have BD3 := hide ((unhide BD2).trans (hb.mono (unhide BD2).size))
  have TG3 := hide ((unhide TG2).later hb (unhide TG2).lt)
  have SD3 := hide ((unhide SD2).later hb)
  clear hb BD2 TG2 SD2
  go_wp2
  refine bodyPost_ret (results_tmp3 rfl _ _ _) rfl ?_
  exact ⟨unhide BD3, by rw [unhide O]; exact ⟨_, _, .inl rfl, rfl⟩⟩
theorem readI_s (d : Nat) (hd : d ≤ 5) (ih : TrP d) (it : TwP d) : TrP (d + 1) := by
  intro a n cap ts w h ht
  cases ts with
  | nil => exact readI_nil d hd a n cap w h
  | cons t q =>
    obtain ⟨b, off, rfl, _⟩ := h.head
    by_cases hc : cap = 1
    · exact readI_one d hd ih it b off n cap t q w h hc ht
    · exact readI_more d hd ih it b off n cap t q w h hc ht
end Go.Proofs.YthgbpofcfmnpdaaGreatDoor
