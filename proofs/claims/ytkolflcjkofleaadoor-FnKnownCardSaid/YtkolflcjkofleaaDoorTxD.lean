/- Contracts over this seat's translation, laid together; conditions stand as hypotheses of each. -/
import Derived.Test.YtkolflcjkofleaaDoorTxA
import Derived.Test.YtkolflcjkofleaaDoorTxB
import Derived.Test.YtkolflcjkofleaaDoorTxC
import Derived.Deep.RegionWith
import Derived.Laws.AppendOwn
import Derived.Deep.RegionHeld
import Derived.Laws.Rows
import Derived.Laws.StructEq
import Derived.LoopN

namespace Go.Proofs.YtkolflcjkofleaaDoor
open Go.ChangeShapes Go.WideShapes Go.ChangeAt Go.RowKit
set_option linter.unusedVariables false
set_option maxRecDepth 8000
set_option linter.unusedSimpArgs false

theorem szE : (Tryd.prog.info? 26).map (·.size) = some 4 := by kernel_rfl
theorem ex_one (k n : Int) (x : ByteArray) (b : Option Addr) (i j : Nat) : (#[Value.int .i64 k, .int .i64 n, .string x, .slice b i j] : Array Value).all (·.oneCell') = true := by simp [Value.oneCell']
def E0x : Array Value := #[.int .i64 0, .int .i64 0, .string ⟨#[]⟩, .slice none 0 0]
theorem NewX.drawn {wr w' : World} {cb B : Nat} {e : Ex} {c : Option Addr} (h : NewX wr B e c) (hg : wr.grownBy w' (some cb)) (hB : cb < B) : NewX w' B e c := by
  obtain ⟨F, h1, h2, h3⟩ := h
  exact ⟨F, OwX.keep e c F (fun b hF => hg.block b (OwX.lt e c F h1 b hF) (fun e => by have := h3 b hF; simp at e; omega)) h1, h2, h3⟩
theorem NewX.row {wr : World} {B g : Nat} {e : Ex} {c : Option Addr} (h : NewX wr B e c) (cs : Array Value) (hg : g < B) : NewX (wr.setRow g cs) B e c := by
  obtain ⟨F, h1, h2, h3⟩ := h
  exact ⟨F, OwX.keep e c F (fun b hF => setRow_other _ _ _ _ (by have := h3 b hF; omega)) h1, h2, h3⟩
set_option maxHeartbeats 1000000 in
theorem numY (n y : Int) (hy : n % 65536 = y) (w : World) : Calls Tryd.prog 56 #[.int .i64 n] w fun e w' => e = .returned (.agg #[.int .i64 1, .int .i64 y, .string ⟨#[]⟩, .slice none 0 0]) ∧ Below w.heap.size w w' := by
  have B0 := hide (below_new w (.cells E0x 26))
  have R0 := hide (heap_alloc_new w (.cells E0x 26))
  unfold E0x at B0 R0
  go_enter Tryd.func56, Tryd.ntmps56
  go_wp2_with fail
  generalize w.alloc (Obj.cells #[.int .i64 0, .int .i64 0, .string ⟨#[]⟩, .slice none 0 0] 26) = W at *
  refine (wrapS_any n W).mono ?_
  rintro e w1 ⟨rfl, rfl⟩
  rw [hy]
  clear hy
  go_wp2_with (refine wpList_store_row rfl 26 _ _ rfl w.heap.size #[.int .i64 1, .int .i64 y, .string ⟨#[]⟩, .slice none 0 0] rfl rfl 26 _ (unhide R0) szE rfl (ex_one _ _ _ _ _ _) ?_)
  refine bodyPost_ret (results_cell_row (P := Tryd.prog) rfl _ _ w.heap.size 26 #[.int .i64 1, .int .i64 y, .string ⟨#[]⟩, .slice none 0 0] (0, 0) _ rfl (setRow_heap _ _ _ _ _ _ (unhide R0)) Tryd.underlying26 rfl szE) rfl ?_
  exact ⟨rfl, (unhide B0).grown (grownBy_row _) (unhide B0).size (fun k e => by cases e; exact Nat.le_refl _)⟩

theorem numD (n : Int) (w : World) : Calls Tryd.prog 56 #[.int .i64 n] w fun e w' => e = .returned (.agg #[.int .i64 1, .int .i64 (n % 65536), .string ⟨#[]⟩, .slice none 0 0]) ∧ Below w.heap.size w w' := numY n _ rfl w
def L10a : List ByteArray := [⟨#[97]⟩, ⟨#[98]⟩, ⟨#[99]⟩]
def L10b : List ByteArray := [⟨#[103]⟩, ⟨#[104]⟩]
theorem sz10a : ∀ j : Fin 3, (L10a.getD j.val E0).size ≤ 1 := by decide +kernel
theorem sz10b : ∀ j : Fin 2, (L10b.getD j.val E0).size ≤ 1 := by decide +kernel
set_option maxHeartbeats 4000000 in
theorem leafD (p : Bool) (cb : Nat) (a : Option Addr) (len cap : Nat) (xs : List UInt8) (w : World) (hc : Cur w cb a len cap xs) :
    Calls Tryd.prog 82 #[.pointer (some ⟨cb, 0, none⟩), .bool p] w fun e w' => ∃ (k n : Int) (s : ByteArray), s.size ≤ 1 ∧ e = .returned (.agg #[.int .i64 k, .int .i64 n, .string s, .slice none 0 0]) ∧ Cur w' cb a len cap xs ∧ w.grownBy w' (some cb) := by
  have D0 := hide ((dz_new hc).later (below_new w (.cells E0x 26)))
  have R0 := hide (heap_alloc_new w (.cells E0x 26))
  have ZE : (⟨#[]⟩ : ByteArray).size ≤ 1 := by decide
  unfold E0x at D0 R0
  clear hc
  go_enter Tryd.func82, Tryd.ntmps82
  go_wp2_with fail
  generalize w.alloc (Obj.cells #[.int .i64 0, .int .i64 0, .string ⟨#[]⟩, .slice none 0 0] 26) = W at *
  refine (below_any cb a len cap xs 7 W (by omega) (unhide D0).cur).mono ?_
  rintro e w1 ⟨x, hx0, hx1, rfl, hc1, hg1⟩
  obtain ⟨hx2, hx3⟩ := hx0 (by omega)
  have D1 := hide ((unhide D0).draw hc1 hg1)
  have R1 := hide ((unhide D0).blk hg1 (unhide R0) (Nat.le_refl _))
  have hlt := (unhide D1).lt
  have hcl := hc1.lt
  clear hx0 hx1 hc1 hg1 D0 R0
  have h5 : x = 0 ∨ x = 1 ∨ x = 2 ∨ x = 3 ∨ x = 4 ∨ (x = 5 ∨ x = 6) := by omega
  clear hx2 hx3
  rcases h5 with rfl | rfl | rfl | rfl | rfl | h5
  · have I1 := hide (int_any cb a len cap xs (some ⟨w1.heap.size, 0, none⟩) 7 7 [0, 1, 2, 5, 8, 100, 65535] (w1.alloc (.cells ([0, 1, 2, 5, 8, 100, 65535].map (Value.int .i64)).toArray 3)) ((unhide D1).cur.later ((Below.refl _ _).alloc (Nat.le_refl _) _)) (RdN_lit w1 _) (fun ad e => by cases e; show w1.heap.size ≠ cb; omega) rfl (by omega) (by omega))
    have G1 := hide (World.grownBy_alloc w1 (.cells ([0, 1, 2, 5, 8, 100, 65535].map (Value.int .i64)).toArray 3) (some cb))
    go_wp2_with fail
    refine (unhide I1).mono ?_
    rintro e w2 ⟨j, hj, rfl, hc2, hg2⟩
    have D2 := hide ((unhide D1).draw hc2 (grownBy_trans (unhide G1) hg2))
    have R2 := hide ((unhide D1).blk (grownBy_trans (unhide G1) hg2) (unhide R1) (Nat.le_refl _))
    generalize nAt [0, 1, 2, 5, 8, 100, 65535] j = y at *
    have N2 := hide (numD y w2)
    clear hc2 hg2 I1 G1 D1 R1
    go_wp2_with fail
    refine (unhide N2).mono ?_
    rintro e w3 ⟨rfl, hb3⟩
    have D3 := hide ((unhide D2).later hb3)
    have R3 := hide ((hb3.block _ (Array.getElem?_eq_some_iff.1 (unhide R2)).1).trans (unhide R2))
    generalize y % 65536 = z at *
    clear hb3 D2 R2 N2
    go_wp2_with (refine wpList_store_row rfl 26 _ _ rfl w.heap.size #[.int .i64 1, .int .i64 z, .string ⟨#[]⟩, .slice none 0 0] rfl rfl 26 _ (unhide R3) szE rfl (ex_one _ _ _ _ _ _) ?_)
    refine bodyPost_ret (results_cell_row (P := Tryd.prog) rfl _ _ w.heap.size 26 #[.int .i64 1, .int .i64 z, .string ⟨#[]⟩, .slice none 0 0] (0, 0) _ rfl (setRow_heap _ _ _ _ _ _ (unhide R3)) Tryd.underlying26 rfl szE) rfl ?_
    exact ⟨1, z, ⟨#[]⟩, ZE, rfl, ((unhide D3).row _).cur, ((unhide D3).row _).gr⟩
  · have I1 := hide (int_any cb a len cap xs (some ⟨w1.heap.size, 0, none⟩) 7 7 [0, 1, 2, 5, 8, 100, 65535] (w1.alloc (.cells ([0, 1, 2, 5, 8, 100, 65535].map (Value.int .i64)).toArray 3)) ((unhide D1).cur.later ((Below.refl _ _).alloc (Nat.le_refl _) _)) (RdN_lit w1 _) (fun ad e => by cases e; show w1.heap.size ≠ cb; omega) rfl (by omega) (by omega))
    have G1 := hide (World.grownBy_alloc w1 (.cells ([0, 1, 2, 5, 8, 100, 65535].map (Value.int .i64)).toArray 3) (some cb))
    go_wp2_with fail
    refine (unhide I1).mono ?_
    rintro e w2 ⟨j, hj, rfl, hc2, hg2⟩
    have D2 := hide ((unhide D1).draw hc2 (grownBy_trans (unhide G1) hg2))
    have R2 := hide ((unhide D1).blk (grownBy_trans (unhide G1) hg2) (unhide R1) (Nat.le_refl _))
    generalize nAt [0, 1, 2, 5, 8, 100, 65535] j = y at *
    have N2 := hide (numD y w2)
    clear hc2 hg2 I1 G1 D1 R1
    go_wp2_with fail
    refine (unhide N2).mono ?_
    rintro e w3 ⟨rfl, hb3⟩
    have D3 := hide ((unhide D2).later hb3)
    have R3 := hide ((hb3.block _ (Array.getElem?_eq_some_iff.1 (unhide R2)).1).trans (unhide R2))
    generalize y % 65536 = z at *
    clear hb3 D2 R2 N2
    go_wp2_with (refine wpList_store_row rfl 26 _ _ rfl w.heap.size #[.int .i64 1, .int .i64 z, .string ⟨#[]⟩, .slice none 0 0] rfl rfl 26 _ (unhide R3) szE rfl (ex_one _ _ _ _ _ _) ?_)
    refine bodyPost_ret (results_cell_row (P := Tryd.prog) rfl _ _ w.heap.size 26 #[.int .i64 1, .int .i64 z, .string ⟨#[]⟩, .slice none 0 0] (0, 0) _ rfl (setRow_heap _ _ _ _ _ _ (unhide R3)) Tryd.underlying26 rfl szE) rfl ?_
    exact ⟨1, z, ⟨#[]⟩, ZE, rfl, ((unhide D3).row _).cur, ((unhide D3).row _).gr⟩
  · have S1 := hide (strD L10a 3 cb a len cap xs w1 rfl (by omega) (by omega) (unhide D1).cur)
    go_wp2_with (first | (go_at_call 66; refine (unhide S1).mono ?_; rintro e w7 ⟨j, hj, rfl, hc2, hg2⟩; have D7 := hide ((unhide D1).draw hc2 hg2); have R7 := hide ((unhide D1).blk hg2 (unhide R1) (Nat.le_refl _)); have OK := hide (sz10a ⟨j, hj⟩); clear hc2 hg2; simp only at OK; generalize L10a.getD j E0 = sx at *) | (refine wpList_store_row rfl 26 _ _ rfl w.heap.size #[.int .i64 2, .int .i64 0, .string sx, .slice none 0 0] rfl rfl 26 _ (unhide R7) szE rfl (ex_one _ _ _ _ _ _) ?_))
    refine bodyPost_ret (results_cell_row (P := Tryd.prog) rfl _ _ w.heap.size 26 #[.int .i64 2, .int .i64 0, .string sx, .slice none 0 0] (0, 0) _ rfl (setRow_heap _ _ _ _ _ _ (unhide R7)) Tryd.underlying26 rfl szE) rfl ?_
    exact ⟨2, 0, sx, unhide OK, rfl, ((unhide D7).row _).cur, ((unhide D7).row _).gr⟩
  · have S1 := hide (strD L10a 3 cb a len cap xs w1 rfl (by omega) (by omega) (unhide D1).cur)
    go_wp2_with (first | (go_at_call 66; refine (unhide S1).mono ?_; rintro e w7 ⟨j, hj, rfl, hc2, hg2⟩; have D7 := hide ((unhide D1).draw hc2 hg2); have R7 := hide ((unhide D1).blk hg2 (unhide R1) (Nat.le_refl _)); have OK := hide (sz10a ⟨j, hj⟩); clear hc2 hg2; simp only at OK; generalize L10a.getD j E0 = sx at *) | (refine wpList_store_row rfl 26 _ _ rfl w.heap.size #[.int .i64 2, .int .i64 0, .string sx, .slice none 0 0] rfl rfl 26 _ (unhide R7) szE rfl (ex_one _ _ _ _ _ _) ?_))
    refine bodyPost_ret (results_cell_row (P := Tryd.prog) rfl _ _ w.heap.size 26 #[.int .i64 2, .int .i64 0, .string sx, .slice none 0 0] (0, 0) _ rfl (setRow_heap _ _ _ _ _ _ (unhide R7)) Tryd.underlying26 rfl szE) rfl ?_
    exact ⟨2, 0, sx, unhide OK, rfl, ((unhide D7).row _).cur, ((unhide D7).row _).gr⟩
  · go_wp2_with (refine wpList_store_row rfl 26 _ _ rfl w.heap.size #[.int .i64 3, .int .i64 0, .string ⟨#[]⟩, .slice none 0 0] rfl rfl 26 _ (unhide R1) szE rfl (ex_one _ _ _ _ _ _) ?_)
    refine bodyPost_ret (results_cell_row (P := Tryd.prog) rfl _ _ w.heap.size 26 #[.int .i64 3, .int .i64 0, .string ⟨#[]⟩, .slice none 0 0] (0, 0) _ rfl (setRow_heap _ _ _ _ _ _ (unhide R1)) Tryd.underlying26 rfl szE) rfl ?_
    exact ⟨3, 0, ⟨#[]⟩, ZE, rfl, ((unhide D1).row _).cur, ((unhide D1).row _).gr⟩
  · have h0 : ¬ x = 0 := by omega
    have h1 : ¬ x = 1 := by omega
    have h2 : ¬ x = 2 := by omega
    have h3 : ¬ x = 3 := by omega
    have h4 : ¬ x = 4 := by omega
    clear h5
    have WD := hide (wordD cb a len cap xs w1 (unhide D1).cur)
    have ON := hide (once_any cb a len cap xs 2 w1 (by omega) (unhide D1).cur)
    cases p
    · clear WD
      go_wp2_with fail
      refine (unhide ON).mono ?_
      rintro e w2 ⟨q, rfl, hc2, hg2⟩
      have D2 := hide ((unhide D1).draw hc2 hg2)
      have R2 := hide ((unhide D1).blk hg2 (unhide R1) (Nat.le_refl _))
      clear hc2 hg2 ON D1 R1
      cases q
      · have S1 := hide (strD L10b 2 cb a len cap xs w2 rfl (by omega) (by omega) (unhide D2).cur)
        go_wp2_with (first | (go_at_call 66; refine (unhide S1).mono ?_; rintro e w7 ⟨j, hj, rfl, hc2, hg2⟩; have D7 := hide ((unhide D2).draw hc2 hg2); have R7 := hide ((unhide D2).blk hg2 (unhide R2) (Nat.le_refl _)); have OK := hide (sz10b ⟨j, hj⟩); clear hc2 hg2; simp only at OK; generalize L10b.getD j E0 = sx at *) | (refine wpList_store_row rfl 26 _ _ rfl w.heap.size #[.int .i64 12, .int .i64 0, .string sx, .slice none 0 0] rfl rfl 26 _ (unhide R7) szE rfl (ex_one _ _ _ _ _ _) ?_))
        refine bodyPost_ret (results_cell_row (P := Tryd.prog) rfl _ _ w.heap.size 26 #[.int .i64 12, .int .i64 0, .string sx, .slice none 0 0] (0, 0) _ rfl (setRow_heap _ _ _ _ _ _ (unhide R7)) Tryd.underlying26 rfl szE) rfl ?_
        exact ⟨12, 0, sx, unhide OK, rfl, ((unhide D7).row _).cur, ((unhide D7).row _).gr⟩
      · have BL := hide (below_any cb a len cap xs 3 w2 (by omega) (unhide D2).cur)
        go_wp2_with (first | (go_at_call 57; refine (unhide BL).mono ?_; rintro e w7 ⟨y, _, _, rfl, hc2, hg2⟩; have D7 := hide ((unhide D2).draw hc2 hg2); have R7 := hide ((unhide D2).blk hg2 (unhide R2) (Nat.le_refl _)); clear hc2 hg2) | (refine wpList_store_row rfl 26 _ _ rfl w.heap.size #[.int .i64 11, .int .i64 y, .string ⟨#[]⟩, .slice none 0 0] rfl rfl 26 _ (unhide R7) szE rfl (ex_one _ _ _ _ _ _) ?_))
        refine bodyPost_ret (results_cell_row (P := Tryd.prog) rfl _ _ w.heap.size 26 #[.int .i64 11, .int .i64 y, .string ⟨#[]⟩, .slice none 0 0] (0, 0) _ rfl (setRow_heap _ _ _ _ _ _ (unhide R7)) Tryd.underlying26 rfl szE) rfl ?_
        exact ⟨11, y, ⟨#[]⟩, ZE, rfl, ((unhide D7).row _).cur, ((unhide D7).row _).gr⟩
    · clear ON
      go_wp2_with fail
      refine (unhide WD).mono ?_
      rintro e w2 ⟨y, _, _, rfl, hc2, hg2⟩
      have D2 := hide ((unhide D1).draw hc2 hg2)
      have R2 := hide ((unhide D1).blk hg2 (unhide R1) (Nat.le_refl _))
      have N2 := hide (numD y w2)
      clear hc2 hg2 WD D1 R1
      go_wp2_with fail
      refine (unhide N2).mono ?_
      rintro e w3 ⟨rfl, hb3⟩
      have D3 := hide ((unhide D2).later hb3)
      have R3 := hide ((hb3.block _ (Array.getElem?_eq_some_iff.1 (unhide R2)).1).trans (unhide R2))
      generalize y % 65536 = z at *
      clear hb3 D2 R2 N2
      go_wp2_with (refine wpList_store_row rfl 26 _ _ rfl w.heap.size #[.int .i64 1, .int .i64 z, .string ⟨#[]⟩, .slice none 0 0] rfl rfl 26 _ (unhide R3) szE rfl (ex_one _ _ _ _ _ _) ?_)
      refine bodyPost_ret (results_cell_row (P := Tryd.prog) rfl _ _ w.heap.size 26 #[.int .i64 1, .int .i64 z, .string ⟨#[]⟩, .slice none 0 0] (0, 0) _ rfl (setRow_heap _ _ _ _ _ _ (unhide R3)) Tryd.underlying26 rfl szE) rfl ?_
      exact ⟨1, z, ⟨#[]⟩, ZE, rfl, ((unhide D3).row _).cur, ((unhide D3).row _).gr⟩
end Go.Proofs.YtkolflcjkofleaaDoor

namespace Go.Proofs.YtkolflcjkofleaaDoor
open Go.ChangeShapes Go.WideShapes Go.ChangeAt Go.RowKit
set_option linter.unusedVariables false
set_option maxRecDepth 8000
set_option linter.unusedSimpArgs false

/-- The parts of a term in blocks of its own from B on, all below C. -/
def HalfX (w : World) (B C : Nat) (e : Ex) (a : Option Addr) : Prop := ∃ F, OwX w e a F ∧ F.Nodup ∧ ∀ b ∈ F, B ≤ b ∧ b < C
theorem NewX.half {w : World} {B : Nat} {e : Ex} {a : Option Addr} (h : NewX w B e a) : HalfX w B w.heap.size e a := by
  obtain ⟨F, h1, h2, h3⟩ := h
  exact ⟨F, h1, h2, fun b hb => ⟨h3 b hb, OwX.lt e a F h1 b hb⟩⟩
theorem HalfX.upto {w : World} {B C D : Nat} {e : Ex} {a : Option Addr} (h : HalfX w B C e a) (hD : C ≤ D) : HalfX w B D e a := by
  obtain ⟨F, h1, h2, h3⟩ := h
  exact ⟨F, h1, h2, fun b hb => ⟨(h3 b hb).1, Nat.lt_of_lt_of_le (h3 b hb).2 hD⟩⟩
theorem HalfX.later {w w' : World} {B C : Nat} {e : Ex} {a : Option Addr} (h : HalfX w B C e a) (hb : Below w.heap.size w w') : HalfX w' B C e a := by
  obtain ⟨F, h1, h2, h3⟩ := h
  exact ⟨F, h1.later hb, h2, h3⟩
theorem HalfX.drawn {w w' : World} {B C cb : Nat} {e : Ex} {a : Option Addr} (h : HalfX w B C e a) (hg : w.grownBy w' (some cb)) (hB : cb < B) : HalfX w' B C e a := by
  obtain ⟨F, h1, h2, h3⟩ := h
  exact ⟨F, OwX.keep e a F (fun b hF => hg.block b (OwX.lt e a F h1 b hF) (fun e => by have := (h3 b hF).1; simp at e; omega)) h1, h2, h3⟩
theorem HalfX.new {w : World} {B C : Nat} {e : Ex} {a : Option Addr} (h : HalfX w B C e a) : NewX w B e a := by
  obtain ⟨F, h1, h2, h3⟩ := h
  exact ⟨F, h1, h2, fun b hb => (h3 b hb).1⟩
theorem NewX.one {w : World} {B : Nat} {x : Ex} {c : Option Addr} {cp : Nat} (h : NewX w B x c) (hB : B ≤ w.heap.size) (k n : Int) (s : ByteArray) (t : TypeId) : NewX (w.alloc (.cells #[.int .i64 x.k, .int .i64 x.n, .string x.s, .slice c x.l.length cp] t)) B ⟨k, n, s, [x]⟩ (some ⟨w.heap.size, 0, none⟩) := by
  obtain ⟨F, h1, h2, h3⟩ := h
  have hl := OwX.lt x c F h1
  refine ⟨w.heap.size :: F, (OwX_eq _ _ _ _).2 (.inr ⟨w.heap.size, _, t, [F], rfl, Array.getElem?_push_size, by simp, rfl, by simp, fun i hi => ?_⟩), List.nodup_cons.2 ⟨fun h => by have := hl _ h; omega, h2⟩, fun b hb => ?_⟩
  · have hi : i < 1 := hi
    obtain rfl : i = 0 := by omega
    exact ⟨rfl, rfl, rfl, c, cp, rfl, OwX.later h1 ((Below.refl _ _).alloc (Nat.le_refl _) _)⟩
  · rcases List.mem_cons.1 hb with rfl | hb
    · exact hB
    · exact h3 b hb
theorem HalfX.two {w : World} {B C : Nat} {x y : Ex} {c d : Option Addr} {cp dp : Nat} (h : HalfX w B C x c) (k : NewX w C y d) (hB : B ≤ C) (hC : C ≤ w.heap.size) (k' n : Int) (s : ByteArray) (t : TypeId) : NewX (w.alloc (.cells #[.int .i64 x.k, .int .i64 x.n, .string x.s, .slice c x.l.length cp, .int .i64 y.k, .int .i64 y.n, .string y.s, .slice d y.l.length dp] t)) B ⟨k', n, s, [x, y]⟩ (some ⟨w.heap.size, 0, none⟩) := by
  obtain ⟨F, h1, h2, h3⟩ := h
  obtain ⟨G, k1, k2, k3⟩ := k
  have hl := OwX.lt x c F h1
  have kl := OwX.lt y d G k1
  refine ⟨w.heap.size :: (F ++ G), (OwX_eq _ _ _ _).2 (.inr ⟨w.heap.size, _, t, [F, G], rfl, Array.getElem?_push_size, by simp, rfl, by simp, fun i hi => ?_⟩), List.nodup_cons.2 ⟨fun h => ?_, List.nodup_append.2 ⟨h2, k2, fun a ha b hb e => ?_⟩⟩, fun b hb => ?_⟩
  · have hi : i < 2 := hi
    have hb := (Below.refl w.heap.size w).alloc (Nat.le_refl _) (.cells #[.int .i64 x.k, .int .i64 x.n, .string x.s, .slice c x.l.length cp, .int .i64 y.k, .int .i64 y.n, .string y.s, .slice d y.l.length dp] t)
    have hi2 : i = 0 ∨ i = 1 := by omega
    rcases hi2 with rfl | rfl
    · exact ⟨rfl, rfl, rfl, c, cp, rfl, OwX.later h1 hb⟩
    · exact ⟨rfl, rfl, rfl, d, dp, rfl, OwX.later k1 hb⟩
  · rcases List.mem_append.1 h with h | h
    · have := hl _ h; omega
    · have := kl _ h; omega
  · subst e
    have := (h3 _ ha).2
    have := k3 _ hb
    omega
  · rcases List.mem_cons.1 hb with rfl | hb
    · omega
    · rcases List.mem_append.1 hb with hb | hb
      · exact (h3 b hb).1
      · have := k3 b hb; omega
theorem sz_one (k n : Int) (x : Ex) : (Ex.mk k n ⟨#[]⟩ [x]).sz = 1 + x.sz := by
  rw [Ex.sz_eq]
  show 0 + 1 + (x.sz + 0) = _
  omega
theorem sz_two (k n : Int) (x y : Ex) : (Ex.mk k n ⟨#[]⟩ [x, y]).sz = 2 + x.sz + y.sz := by
  rw [Ex.sz_eq]
  show 0 + 2 + (x.sz + (y.sz + 0)) = _
  omega
theorem sz_leaf (k n : Int) (s : ByteArray) : (Ex.mk k n s []).sz = s.size := by
  rw [Ex.sz_eq]
  rfl
/-- How large a drawn term can be. -/
def szD : Nat → Nat
  | 0 => 1
  | d + 1 => 2 + 2 * szD d
def DrX (n : Nat) (cb : Nat) (a : Option Addr) (len cap : Nat) (xs : List UInt8) (w : World) (r : Ending) (w' : World) : Prop :=
  ∃ (e : Ex) (c : Option Addr) (cp : Nat), r = .returned (.agg (e.cs c cp)) ∧ e.sz ≤ n ∧ NewX w' w.heap.size e c ∧ Cur w' cb a len cap xs ∧ w.grownBy w' (some cb)
def DrP (d : Nat) : Prop := ∀ (m : Int) (hm : m = (d : Int)) (p : Bool) (cb : Nat) (a : Option Addr) (len cap : Nat) (xs : List UInt8) (w : World), Cur w cb a len cap xs → Calls Tryd.prog 55 #[.pointer (some ⟨cb, 0, none⟩), .int .i64 m, .bool p] w (DrX (szD d) cb a len cap xs w)
theorem szD_pos (d : Nat) : 1 ≤ szD d := by cases d <;> unfold szD <;> omega
set_option maxHeartbeats 2000000 in
theorem drawX0 : DrP 0 := by
  rintro m rfl p cb a len cap xs w hc
  have D0 := hide ((dz_new hc).later (below_new w (.cells E0x 26)))
  have R0 := hide (heap_alloc_new w (.cells E0x 26))
  unfold E0x at D0 R0
  have LF := hide (leafD p cb a len cap xs _ (unhide D0).cur)
  clear hc
  go_enter Tryd.func55, Tryd.ntmps55
  go_wp2_with fail
  generalize w.alloc (Obj.cells #[.int .i64 0, .int .i64 0, .string ⟨#[]⟩, .slice none 0 0] 26) = W at *
  refine (unhide LF).mono ?_
  rintro e w1 ⟨k, n, s, hs, rfl, hc1, hg1⟩
  have D1 := hide ((unhide D0).draw hc1 hg1)
  have R1 := hide ((unhide D0).blk hg1 (unhide R0) (Nat.le_refl _))
  clear hc1 hg1 D0 R0 LF
  go_wp2_with (refine wpList_store_row rfl 26 _ _ rfl w.heap.size #[.int .i64 k, .int .i64 n, .string s, .slice none 0 0] rfl rfl 26 _ (unhide R1) szE rfl (ex_one _ _ _ _ _ _) ?_)
  refine bodyPost_ret (results_cell_row (P := Tryd.prog) rfl _ _ w.heap.size 26 #[.int .i64 k, .int .i64 n, .string s, .slice none 0 0] (0, 0) _ rfl (setRow_heap _ _ _ _ _ _ (unhide R1)) Tryd.underlying26 rfl szE) rfl ?_
  exact ⟨⟨k, n, s, []⟩, none, 0, rfl, by rw [sz_leaf]; exact hs, NewX.nil _ _ _ _ _ _, ((unhide D1).row _).cur, ((unhide D1).row _).gr⟩
set_option maxHeartbeats 8000000 in
theorem drawXS (d : Nat) (hd : d ≤ 3) (ih : DrP d) : DrP (d + 1) := by
  rintro m hm p cb a len cap xs w hc
  have hm0 : ¬ m = 0 := by omega
  have hm1 : 0 < m := by omega
  have hm2 : m ≤ 4 := by omega
  have hmd : m - 1 = (d : Int) := by omega
  have D0 := hide ((dz_new hc).later (below_new w (.cells E0x 26)))
  have R0 := hide (heap_alloc_new w (.cells E0x 26))
  have hZ0 : w.heap.size < (w.alloc (.cells E0x 26)).heap.size := by simp
  have IH := hide (fun wr (h : Cur wr cb a len cap xs) => ih (m - 1) hmd p cb a len cap xs wr h)
  have hsz : szD (d + 1) = 2 + 2 * szD d := by rw [szD]
  have hsp := szD_pos d
  unfold DrX
  unfold DrX at IH
  rw [hsz]
  generalize szD d = z at *
  unfold E0x at D0 R0 hZ0
  clear hc ih hmd hm
  go_enter Tryd.func55, Tryd.ntmps55
  go_wp2_with fail
  generalize w.alloc (Obj.cells #[.int .i64 0, .int .i64 0, .string ⟨#[]⟩, .slice none 0 0] 26) = W at *
  refine (once_any cb a len cap xs 3 W (by omega) (unhide D0).cur).mono ?_
  rintro e w1 ⟨q, rfl, hc1, hg1⟩
  have D1 := hide ((unhide D0).draw hc1 hg1)
  have R1 := hide ((unhide D0).blk hg1 (unhide R0) (Nat.le_refl _))
  have hlt := (unhide D1).lt
  have hcl := hc1.lt
  have hZ1 : w.heap.size < w1.heap.size := Nat.lt_of_lt_of_le hZ0 hg1.size
  clear hc1 hg1 D0 R0 hZ0
  cases q
  case true =>
    have LF := hide (leafD p cb a len cap xs _ (unhide D1).cur)
    clear IH
    go_wp2_with fail
    refine (unhide LF).mono ?_
    rintro e w2 ⟨k, n, s, hs, rfl, hc2, hg2⟩
    have D2 := hide ((unhide D1).draw hc2 hg2)
    have R2 := hide ((unhide D1).blk hg2 (unhide R1) (Nat.le_refl _))
    clear hc2 hg2 D1 R1 LF
    go_wp2_with (refine wpList_store_row rfl 26 _ _ rfl w.heap.size #[.int .i64 k, .int .i64 n, .string s, .slice none 0 0] rfl rfl 26 _ (unhide R2) szE rfl (ex_one _ _ _ _ _ _) ?_)
    refine bodyPost_ret (results_cell_row (P := Tryd.prog) rfl _ _ w.heap.size 26 #[.int .i64 k, .int .i64 n, .string s, .slice none 0 0] (0, 0) _ rfl (setRow_heap _ _ _ _ _ _ (unhide R2)) Tryd.underlying26 rfl szE) rfl ?_
    exact ⟨⟨k, n, s, []⟩, none, 0, rfl, by rw [sz_leaf]; omega, NewX.nil _ _ _ _ _ _, ((unhide D2).row _).cur, ((unhide D2).row _).gr⟩
  case false =>
    have I1 := hide (int_any cb a len cap xs (some ⟨w1.heap.size, 0, none⟩) 10 10 [5, 5, 5, 6, 6, 4, 7, 8, 9, 10] (w1.alloc (.cells ([5, 5, 5, 6, 6, 4, 7, 8, 9, 10].map (Value.int .i64)).toArray 3)) ((unhide D1).cur.later ((Below.refl _ _).alloc (Nat.le_refl _) _)) (RdN_lit w1 _) (fun ad e => by cases e; show w1.heap.size ≠ cb; omega) rfl (by omega) (by omega))
    have G1 := hide (World.grownBy_alloc w1 (.cells ([5, 5, 5, 6, 6, 4, 7, 8, 9, 10].map (Value.int .i64)).toArray 3) (some cb))
    go_wp2_with fail
    refine (unhide I1).mono ?_
    rintro e w2 ⟨j, hj, rfl, hc2, hg2⟩
    have D2 := hide ((unhide D1).draw hc2 (grownBy_trans (unhide G1) hg2))
    have R2 := hide ((unhide D1).blk (grownBy_trans (unhide G1) hg2) (unhide R1) (Nat.le_refl _))
    have hZ2 : w.heap.size < w2.heap.size := Nat.lt_of_lt_of_le hZ1 (Nat.le_trans (unhide G1).size hg2.size)
    generalize nAt [5, 5, 5, 6, 6, 4, 7, 8, 9, 10] j = k at *
    have N2 := hide (unhide IH w2 (unhide D2).cur)
    clear hc2 hg2 I1 G1 D1 R1 hj
    go_wp2_with fail
    refine (unhide N2).mono ?_
    rintro e w3 ⟨x, c, cp, rfl, hsx, hnx, hc3, hg3⟩
    have D3 := hide ((unhide D2).draw hc3 hg3)
    have R3 := hide ((unhide D2).blk hg3 (unhide R2) (Nat.le_refl _))
    have hZ3 : w.heap.size < w3.heap.size := Nat.lt_of_lt_of_le hZ2 hg3.size
    have hb4 := below_new w3 (.cells #[.int .i64 x.k, .int .i64 x.n, .string x.s, .slice c x.l.length cp] 26)
    have hg4 : (w3.alloc (.cells #[.int .i64 x.k, .int .i64 x.n, .string x.s, .slice c x.l.length cp] 26)).heap[w3.heap.size]? = some (.cells #[.int .i64 x.k, .int .i64 x.n, .string x.s, .slice c x.l.length cp] 26 (0, 0)) := Array.getElem?_push_size
    have hz4 : (w3.alloc (.cells #[.int .i64 x.k, .int .i64 x.n, .string x.s, .slice c x.l.length cp] 26)).heap.size = w3.heap.size + 1 := by simp
    have X3 := hide ((hnx.lower (show w.heap.size + 1 ≤ w2.heap.size by omega)).half)
    unfold Ex.cs
    clear hnx hc3 hg3 N2 D2 R2
    obtain ⟨w4, hw4⟩ : ∃ w4, w3.alloc (.cells #[.int .i64 x.k, .int .i64 x.n, .string x.s, .slice c x.l.length cp] 26) = w4 := ⟨_, rfl⟩
    rw [hw4] at hb4 hg4 hz4
    have D4 := hide ((unhide D3).later hb4)
    have R4 := hide ((hb4.block _ (Array.getElem?_eq_some_iff.1 (unhide R3)).1).trans (unhide R3))
    have X4 := hide (((unhide X3).later hb4).upto (show w3.heap.size ≤ w4.heap.size by omega))
    have G4 := hide hg4
    have y0 := Lib.cell_of_heap hg4 0
    have y1 := Lib.cell_of_heap hg4 1
    have y2 := Lib.cell_of_heap hg4 2
    have y3 := Lib.cell_of_heap hg4 3
    have HZ4 := hide hz4
    clear hb4 hg4 hz4 D3 R3 X3
    by_cases h4 : k = 4
    · subst h4
      have N4 := hide (NewX.one (cp := cp) (unhide X4).new (by have := unhide HZ4; omega) 4 0 ⟨#[]⟩ 26)
      have hb5 := below_new w4 (.cells #[.int .i64 x.k, .int .i64 x.n, .string x.s, .slice c x.l.length cp] 26)
      have D5 := hide ((unhide D4).later hb5)
      have R5 := hide ((hb5.block _ (Array.getElem?_eq_some_iff.1 (unhide R4)).1).trans (unhide R4))
      clear hb5 D4 R4 X4 IH
      go_wp2_with (refine wpList_store_row rfl 26 _ _ rfl w.heap.size #[.int .i64 4, .int .i64 0, .string ⟨#[]⟩, .slice (some ⟨w4.heap.size, 0, none⟩) 1 1] rfl rfl 26 _ (unhide R5) szE rfl (ex_one _ _ _ _ _ _) ?_)
      refine bodyPost_ret (results_cell_row (P := Tryd.prog) rfl _ _ w.heap.size 26 #[.int .i64 4, .int .i64 0, .string ⟨#[]⟩, .slice (some ⟨w4.heap.size, 0, none⟩) 1 1] (0, 0) _ rfl (setRow_heap _ _ _ _ _ _ (unhide R5)) Tryd.underlying26 rfl szE) rfl ?_
      exact ⟨⟨4, 0, ⟨#[]⟩, [x]⟩, _, _, rfl, by rw [sz_one]; omega, ((unhide N4).row _ (Nat.lt_succ_self _)).lower (Nat.le_succ _), ((unhide D5).row _).cur, ((unhide D5).row _).gr⟩
    · have N4 := hide (unhide IH w4 (unhide D4).cur)
      go_wp2_with fail
      refine (unhide N4).mono ?_
      rintro e w5 ⟨y, c2, cp2, rfl, hsy, hny, hc5, hg5⟩
      have D5 := hide ((unhide D4).draw hc5 hg5)
      have R5 := hide ((unhide D4).blk hg5 (unhide R4) (Nat.le_refl _))
      have G5 := hide ((unhide D4).blk hg5 (unhide G4) (Nat.le_of_lt hZ3))
      have X5 := hide ((unhide X4).drawn hg5 (Nat.lt_succ_of_lt hlt))
      have hz5 := hg5.size
      have hb6 := below_new w5 (.cells #[.int .i64 y.k, .int .i64 y.n, .string y.s, .slice c2 y.l.length cp2] 26)
      have hg6 : (w5.alloc (.cells #[.int .i64 y.k, .int .i64 y.n, .string y.s, .slice c2 y.l.length cp2] 26)).heap[w5.heap.size]? = some (.cells #[.int .i64 y.k, .int .i64 y.n, .string y.s, .slice c2 y.l.length cp2] 26 (0, 0)) := Array.getElem?_push_size
      have hz6 : (w5.alloc (.cells #[.int .i64 y.k, .int .i64 y.n, .string y.s, .slice c2 y.l.length cp2] 26)).heap.size = w5.heap.size + 1 := by simp
      have Y5 := hide hny
      unfold Ex.cs
      clear hny hc5 hg5 N4 D4 R4 G4 X4 IH y0 y1 y2 y3 hw4
      obtain ⟨w6, hw6⟩ : ∃ w6, w5.alloc (.cells #[.int .i64 y.k, .int .i64 y.n, .string y.s, .slice c2 y.l.length cp2] 26) = w6 := ⟨_, rfl⟩
      rw [hw6] at hb6 hg6 hz6
      have D6 := hide ((unhide D5).later hb6)
      have R6 := hide ((hb6.block _ (Array.getElem?_eq_some_iff.1 (unhide R5)).1).trans (unhide R5))
      have G6 := hide ((hb6.block _ (Array.getElem?_eq_some_iff.1 (unhide G5)).1).trans (unhide G5))
      have X6 := hide ((unhide X5).later hb6)
      have Y6 := hide ((unhide Y5).later hb6)
      have HZ6 := hide hz6
      clear hz6
      have N6 := hide (HalfX.two (cp := cp) (dp := cp2) (unhide X6) (unhide Y6) (by have := unhide HZ4; omega) (by have := unhide HZ4; have := unhide HZ6; omega) k 0 ⟨#[]⟩ 26)
      have y0 := Lib.cell_of_heap (unhide G6) 0
      have y1 := Lib.cell_of_heap (unhide G6) 1
      have y2 := Lib.cell_of_heap (unhide G6) 2
      have y3 := Lib.cell_of_heap (unhide G6) 3
      have z0 := Lib.cell_of_heap hg6 0
      have z1 := Lib.cell_of_heap hg6 1
      have z2 := Lib.cell_of_heap hg6 2
      have z3 := Lib.cell_of_heap hg6 3
      have hb7 := below_new w6 (.cells #[.int .i64 x.k, .int .i64 x.n, .string x.s, .slice c x.l.length cp, .int .i64 y.k, .int .i64 y.n, .string y.s, .slice c2 y.l.length cp2] 26)
      have D7 := hide ((unhide D6).later hb7)
      have R7 := hide ((hb7.block _ (Array.getElem?_eq_some_iff.1 (unhide R6)).1).trans (unhide R6))
      clear hb6 hb7 hg6 D5 R5 G5 X5 Y5 D6 R6 X6 Y6
      go_wp2_with (refine wpList_store_row rfl 26 _ _ rfl w.heap.size #[.int .i64 k, .int .i64 0, .string ⟨#[]⟩, .slice (some ⟨w6.heap.size, 0, none⟩) 2 2] rfl rfl 26 _ (unhide R7) szE rfl (ex_one _ _ _ _ _ _) ?_)
      refine bodyPost_ret (results_cell_row (P := Tryd.prog) rfl _ _ w.heap.size 26 #[.int .i64 k, .int .i64 0, .string ⟨#[]⟩, .slice (some ⟨w6.heap.size, 0, none⟩) 2 2] (0, 0) _ rfl (setRow_heap _ _ _ _ _ _ (unhide R7)) Tryd.underlying26 rfl szE) rfl ?_
      exact ⟨⟨k, 0, ⟨#[]⟩, [x, y]⟩, _, _, rfl, by rw [sz_two]; omega, ((unhide N6).row _ (Nat.lt_succ_self _)).lower (Nat.le_succ _), ((unhide D7).row _).cur, ((unhide D7).row _).gr⟩
theorem drawX3 : DrP 3 := drawXS 2 (by omega) (drawXS 1 (by omega) (drawXS 0 (by omega) drawX0))
theorem drawX4 : DrP 4 := drawXS 3 (by omega) drawX3
end Go.Proofs.YtkolflcjkofleaaDoor

namespace Go.Proofs.YtkolflcjkofleaaDoor
open Go.ChangeShapes Go.WideShapes Go.ChangeAt Go.RowKit
set_option linter.unusedVariables false
set_option linter.unusedSimpArgs false

section
variable {P : Program} {w : World}
/-- What an append leaves lies where it lay, or behind all there was. -/
theorem append_to (base : Nat) (t ty e : TypeId) (i : TypeInfo) (z : Value) (size bytes : Nat) (ht : P.underlying t = some (.slice e)) (hi : P.info? e = some i) (hz : i.zero = some z)
    (hsize : i.size = size) (hby : i.bytes = bytes) (hzs : z.cells.size = size) (hsz : 0 < size)
    (v : Value) (n : Nat) (xs : List Value) (hown : w.ownsRow base e size v n xs)
    (a : Addr) (m c : Nat) (news : List Value) (hl : news.length = m * size) (hnews : ∀ j u, news[j]? = some u → w.cell? (a.add j) = some u) (h1 : ∀ u ∈ news, u.oneCell' = true)
    (h63 : n + m ≤ maxLen) (hbytes : (n + m) * bytes ≤ 140737488355328) (hbase : base ≤ w.heap.size) (hm : 0 < m) :
    ∃ v' w', (Builtin.append_ #[t, t] ty #[v, .slice (some a) m c]).run P w = .ok v' w' ∧ w'.ownsRow base e size v' (n + m) (xs ++ news) ∧ w.grownBy w' v.ownBlock ∧ (∃ g cap, v' = .slice (some ⟨g, 0, none⟩) (n + m) cap ∧ (v.ownBlock = some g ∨ g = w.heap.size)) := by
  obtain ⟨v', w', hr, h2, h3, _⟩ := run_append_own (P := P) w base t ty e i z size bytes ht hi hz hsize hby hzs hsz v n xs hown a m c news hl hnews h1 h63 hbytes hbase
  refine ⟨v', w', hr, h2, h3, ?_⟩
  subst hsize
  subst hby
  have hs : n + m ≤ 9223372036854775807 := by simp only [maxLen] at h63; omega
  rcases hown.2 with ⟨rfl, rfl⟩ | ⟨g, cap, cur, rfl, hbg, hg, hnc, hcm, hcs, htake⟩
  · have k := run_append_nil (P := P) w t ty e i z ht hi hz a m c news hl hnews hm (by omega) (by have hb := hbytes; simp only [Nat.zero_add] at hb; omega)
    rw [hr] at k
    injection k with k1 k2
    exact ⟨_, _, by rw [k1, Nat.zero_add], .inr rfl⟩
  · by_cases hroom : n + m ≤ cap
    · have hfit : n * i.size + news.length ≤ cur.size := by rw [hl, hcs, ← Nat.add_mul]; exact Nat.mul_le_mul_right _ hroom
      have k := run_append_room (P := P) w t ty e i ht hi g n cap cur hg a m c news hl hnews h1 hroom hfit
      rw [hr] at k
      injection k with k1 k2
      exact ⟨_, _, k1, .inl rfl⟩
    · have k := run_append_grow (P := P) w t ty e i z ht hi hz ⟨g, 0, none⟩ n cap xs hown.1 (hown.cells (g := g) rfl) a m c news hl hnews (by omega) (by omega) (growslice_fits (by omega) hbytes)
      rw [hr] at k
      injection k with k1 k2
      exact ⟨_, _, k1, .inr rfl⟩
theorem wp_append_to {o : Oper} {a : Act} {K : Act → World → Prop} {Q : Exit → Act → World → Prop} (s x : Operand) (t : TypeId)
    (ho : o.op = .call { callee := .builtin .append, args := #[s, x], argTypes := #[t, t] })
    (base : Nat) (e : TypeId) (i : TypeInfo) (z : Value) (size bytes : Nat) (ht : P.underlying t = some (.slice e)) (hi : P.info? e = some i) (hz : i.zero = some z)
    (hsize : i.size = size) (hby : i.bytes = bytes) (hzs : z.cells.size = size) (hsz : 0 < size)
    (v : Value) (n : Nat) (xs : List Value) (hs : a.eval s = v) (hown : w.ownsRow base e size v n xs)
    (ad : Addr) (m c : Nat) (news : List Value) (hx : a.eval x = .slice (some ad) m c) (hl : news.length = m * size) (hnews : ∀ j u, news[j]? = some u → w.cell? (ad.add j) = some u) (h1 : ∀ u ∈ news, u.oneCell' = true)
    (h63 : n + m ≤ maxLen) (hbytes : (n + m) * bytes ≤ 140737488355328) (hbase : base ≤ w.heap.size) (hm : 0 < m)
    (h : ∀ g cap w', w'.ownsRow base e size (.slice (some ⟨g, 0, none⟩) (n + m) cap) (n + m) (xs ++ news) → w.grownBy w' v.ownBlock → (v.ownBlock = some g ∨ g = w.heap.size) → K (a.put o.dst (.slice (some ⟨g, 0, none⟩) (n + m : Nat) cap)) w') : o.wp P a w K Q := by
  obtain ⟨v', w', hr, h2, h3, g, cap, rfl, h4⟩ := append_to (P := P) (w := w) base t o.type e i z size bytes ht hi hz hsize hby hzs hsz v n xs hown ad m c news hl hnews h1 h63 hbytes hbase hm
  unfold Oper.wp execOp
  simp only [ho, resolve, invoke, builtin, Sem.run_bind, Sem.run_pure, Result.andThen_ok, List.map_toArray, List.map_cons, List.map_nil, hs, hx, hr]
  exact h g cap w' h2 h3 h4
theorem wpList_append_to {ops : Array Oper} {rest : List Oper} {o : Oper} {a : Act} {Q : Exit → Act → World → Prop} (hgd : o.guard = none) (s x : Operand) (t : TypeId)
    (ho : o.op = .call { callee := .builtin .append, args := #[s, x], argTypes := #[t, t] })
    (base : Nat) (e : TypeId) (i : TypeInfo) (z : Value) (size bytes : Nat) (ht : P.underlying t = some (.slice e)) (hi : P.info? e = some i) (hz : i.zero = some z)
    (hsize : i.size = size) (hby : i.bytes = bytes) (hzs : z.cells.size = size) (hsz : 0 < size)
    (v : Value) (n : Nat) (xs : List Value) (hs : a.eval s = v) (hown : w.ownsRow base e size v n xs)
    (ad : Addr) (m c : Nat) (news : List Value) (hx : a.eval x = .slice (some ad) m c) (hl : news.length = m * size) (hnews : ∀ j u, news[j]? = some u → w.cell? (ad.add j) = some u) (h1 : ∀ u ∈ news, u.oneCell' = true)
    (h63 : n + m ≤ maxLen) (hbytes : (n + m) * bytes ≤ 140737488355328) (hbase : base ≤ w.heap.size) (hm : 0 < m)
    (h : ∀ g cap w', w'.ownsRow base e size (.slice (some ⟨g, 0, none⟩) (n + m) cap) (n + m) (xs ++ news) → w.grownBy w' v.ownBlock → (v.ownBlock = some g ∨ g = w.heap.size) → wpList P ops Q rest (a.put o.dst (.slice (some ⟨g, 0, none⟩) (n + m : Nat) cap)) w') : wpList P ops Q (o :: rest) a w :=
  wpList_plain hgd fun _ hK => wp_append_to s x t ho base e i z size bytes ht hi hz hsize hby hzs hsz v n xs hs hown ad m c news hx hl hnews h1 h63 hbytes hbase hm fun g cap w' h2 h3 h4 => hK _ _ (h g cap w' h2 h3 h4)
end
/-- The cells of a term's own row. -/
def exL (x : Ex) (c : Option Addr) (cp : Nat) : List Value := [.int .i64 x.k, .int .i64 x.n, .string x.s, .slice c x.l.length cp]
theorem HalfX.beyond {w w' : World} {B C cb : Nat} {e : Ex} {a : Option Addr} (h : HalfX w B C e a) (hg : w.grownBy w' (some cb)) (hB : C ≤ cb) : HalfX w' B C e a := by
  obtain ⟨F, h1, h2, h3⟩ := h
  exact ⟨F, OwX.keep e a F (fun b hF => hg.block b (OwX.lt e a F h1 b hF) (fun e => by have := (h3 b hF).2; simp at e; omega)) h1, h2, h3⟩
theorem row_take {w : World} {B g n cap : Nat} {t : TypeId} {cs : List Value} (h : w.ownsRow B t 4 (.slice (some ⟨g, 0, none⟩) n cap) n cs) : ∃ cur : Array Value, w.heap[g]? = some (.cells cur t (0, 0)) ∧ n * 4 ≤ cur.size ∧ B ≤ g ∧ ∀ j, j < n * 4 → cur[j]? = cs[j]? := by
  obtain ⟨hl, h | ⟨g', cap', cur, he, hB, hh, hc, hm, hz, ht⟩⟩ := h
  · cases h.1
  · cases he
    refine ⟨cur, hh, by rw [hz]; exact Nat.mul_le_mul_right _ hc, hB, fun j hj => ?_⟩
    rw [← ht, List.getElem?_take_of_lt hj]
    simp
theorem HalfX.row1 {w : World} {B M : Nat} {x : Ex} {c : Option Addr} {cp g cap : Nat} {t : TypeId} (h : HalfX w B M x c) (ho : w.ownsRow M t 4 (.slice (some ⟨g, 0, none⟩) 1 cap) 1 (exL x c cp)) (hB : B ≤ M) (k n : Int) (s : ByteArray) : NewX w B ⟨k, n, s, [x]⟩ (some ⟨g, 0, none⟩) := by
  obtain ⟨F, h1, h2, h3⟩ := h
  obtain ⟨cur, hh, hz, hg, hc⟩ := row_take ho
  refine ⟨g :: F, (OwX_eq _ _ _ _).2 (.inr ⟨g, cur, t, [F], rfl, hh, hz, rfl, by simp, fun i hi => ?_⟩), List.nodup_cons.2 ⟨fun h => by have := (h3 _ h).2; omega, h2⟩, fun b hb => ?_⟩
  · have hi : i < 1 := hi
    obtain rfl : i = 0 := by omega
    exact ⟨(hc 0 (by omega)).trans rfl, (hc 1 (by omega)).trans rfl, (hc 2 (by omega)).trans rfl, c, cp, (hc 3 (by omega)).trans rfl, h1⟩
  · rcases List.mem_cons.1 hb with rfl | hb
    · omega
    · exact (h3 b hb).1
theorem HalfX.row2 {w : World} {B M C D : Nat} {x y : Ex} {c d : Option Addr} {cp dp g cap : Nat} {t : TypeId} (h : HalfX w B M x c) (k : HalfX w C D y d) (ho : w.ownsRow M t 4 (.slice (some ⟨g, 0, none⟩) 2 cap) 2 (exL x c cp ++ exL y d dp)) (hB : B ≤ M) (hM : M ≤ C) (hg : g < C ∨ D ≤ g) (k' n : Int) (s : ByteArray) : NewX w B ⟨k', n, s, [x, y]⟩ (some ⟨g, 0, none⟩) := by
  obtain ⟨F, h1, h2, h3⟩ := h
  obtain ⟨G, k1, k2, k3⟩ := k
  obtain ⟨cur, hh, hz, hgM, hc⟩ := row_take ho
  refine ⟨g :: (F ++ G), (OwX_eq _ _ _ _).2 (.inr ⟨g, cur, t, [F, G], rfl, hh, hz, rfl, by simp, fun i hi => ?_⟩), List.nodup_cons.2 ⟨fun h => ?_, List.nodup_append.2 ⟨h2, k2, fun a ha b hb e => ?_⟩⟩, fun b hb => ?_⟩
  · have hi : i < 2 := hi
    have hi2 : i = 0 ∨ i = 1 := by omega
    rcases hi2 with rfl | rfl
    · exact ⟨(hc 0 (by omega)).trans rfl, (hc 1 (by omega)).trans rfl, (hc 2 (by omega)).trans rfl, c, cp, (hc 3 (by omega)).trans rfl, h1⟩
    · exact ⟨(hc 4 (by omega)).trans rfl, (hc 5 (by omega)).trans rfl, (hc 6 (by omega)).trans rfl, d, dp, (hc 7 (by omega)).trans rfl, k1⟩
  · rcases List.mem_append.1 h with h | h
    · have := (h3 _ h).2; omega
    · have := k3 _ h; omega
  · subst e
    have := (h3 _ ha).2
    have := (k3 _ hb).1
    omega
  · rcases List.mem_cons.1 hb with rfl | hb
    · omega
    · rcases List.mem_append.1 hb with hb | hb
      · exact (h3 b hb).1
      · have := (k3 b hb).1; omega
end Go.Proofs.YtkolflcjkofleaaDoor

namespace Go.Proofs.YtkolflcjkofleaaDoor
open Go.ChangeShapes Go.WideShapes Go.ChangeAt Go.RowKit
set_option linter.unusedVariables false
set_option linter.unusedSimpArgs false

theorem below_drew {w : World} : Below w.heap.size w w.drew := ⟨rfl, rfl, rfl, Nat.le_refl _, fun _ _ => rfl⟩
theorem row_keep {w w' : World} {g : Nat} {o : Obj} (h : w.heap[g]? = some o) (hb : Below w.heap.size w w') : w'.heap[g]? = some o := (hb.block g (Array.getElem?_eq_some_iff.1 h).1).trans h
/-- A load of a whole row in a guarded place. -/
theorem yields_loadG {P : Program} {ops : Array Oper} {S : World → Prop} {o : Oper} {a : Act} (hw : Region.wanted o (yielded ops a.tmps) = true) (ty : TypeId) (x : Operand) (ho : o.op = .load ty x) (g : Nat) (hx : a.eval x = .pointer (some ⟨g, 0, none⟩)) (t : TypeId) (cs : Array Value) (d : TypeDesc)
    (hS : ∀ w, S w → w.heap[g]? = some (.cells cs t (0, 0))) (hu : P.underlying ty = some d) (hd : (match d with | .struct _ | .array _ _ => true | _ => false) = true) (hi : (P.info? ty).map (·.size) = some cs.size) : YieldsIf P ops S o (.agg cs) a := by
  refine .inl ⟨hw, fun w hw => ?_⟩
  simp only [execOp, ho, hx, Instr.loadAt, Instr.sureAddr, Sem.run_bind, Sem.run_pure, Result.andThen_ok, run_loadVar_row w g t ty cs (0, 0) d (hS w hw) hu hd hi]
end Go.Proofs.YtkolflcjkofleaaDoor

namespace Go.Proofs.YtkolflcjkofleaaDoor
open Go.ChangeShapes Go.WideShapes Go.ChangeAt Go.RowKit
set_option linter.unusedVariables false
set_option maxRecDepth 8000
set_option linter.unusedSimpArgs false

/-- The parts of a term lie at a, no two blocks the same, each as P says. -/
def PX (w : World) (P : Nat → Prop) (e : Ex) (a : Option Addr) : Prop := ∃ F, OwX w e a F ∧ F.Nodup ∧ ∀ b ∈ F, P b
section
variable {w w' : World} {P Q R : Nat → Prop} {e : Ex} {a : Option Addr}
theorem PX.of {B : Nat} (h : NewX w B e a) : PX w (B ≤ ·) e a := h
theorem PX.new {B : Nat} (h : PX w P e a) (hP : ∀ b, P b → B ≤ b) : NewX w B e a := by obtain ⟨F, h1, h2, h3⟩ := h; exact ⟨F, h1, h2, fun b hb => hP b (h3 b hb)⟩
theorem PX.later (h : PX w P e a) (hb : Below w.heap.size w w') : PX w' P e a := by obtain ⟨F, h1, h2, h3⟩ := h; exact ⟨F, h1.later hb, h2, h3⟩
theorem PX.low (h : PX w P e a) : PX w (fun b => P b ∧ b < w.heap.size) e a := by obtain ⟨F, h1, h2, h3⟩ := h; exact ⟨F, h1, h2, fun b hb => ⟨h3 b hb, OwX.lt e a F h1 b hb⟩⟩
theorem PX.mono (h : PX w P e a) (hP : ∀ b, P b → Q b) : PX w Q e a := by obtain ⟨F, h1, h2, h3⟩ := h; exact ⟨F, h1, h2, fun b hb => hP b (h3 b hb)⟩
theorem PX.row {g : Nat} (h : PX w P e a) (cs : Array Value) (hg : ¬ P g) : PX (w.setRow g cs) P e a := by
  obtain ⟨F, h1, h2, h3⟩ := h
  exact ⟨F, OwX.keep e a F (fun b hb => setRow_other _ _ _ _ (fun e => hg (by rw [← e]; exact h3 b hb))) h1, h2, h3⟩
theorem PX.rd (h : PX w P e a) : RdX w 0 e a := by obtain ⟨F, h1, h2, h3⟩ := h; exact OwX.rd e a F (fun _ _ => Nat.zero_le _) h1
theorem PX.leaf (w : World) (P : Nat → Prop) (k n : Int) (s : ByteArray) (a : Option Addr) : PX w P ⟨k, n, s, []⟩ a := ⟨[], (OwX_eq _ _ _ _).2 (.inl ⟨rfl, rfl⟩), List.nodup_nil, fun b hb => by cases hb⟩
end
/-- The cells of a term. -/
def xR (x : Ex) (c : Option Addr) (cp : Nat) : Array Value := #[.int .i64 x.k, .int .i64 x.n, .string x.s, .slice c x.l.length cp]
def xR2 (x : Ex) (c : Option Addr) (cp : Nat) (y : Ex) (d : Option Addr) (dp : Nat) : Array Value := #[.int .i64 x.k, .int .i64 x.n, .string x.s, .slice c x.l.length cp, .int .i64 y.k, .int .i64 y.n, .string y.s, .slice d y.l.length dp]
theorem PX.one {w : World} {P : Nat → Prop} {x : Ex} {c : Option Addr} {cp : Nat} (h : PX w P x c) (hP : P w.heap.size) (k n : Int) (s : ByteArray) (t : TypeId) : PX (w.alloc (.cells (xR x c cp) t)) P ⟨k, n, s, [x]⟩ (some ⟨w.heap.size, 0, none⟩) := by
  obtain ⟨F, h1, h2, h3⟩ := h
  have hl := OwX.lt x c F h1
  refine ⟨w.heap.size :: F, (OwX_eq _ _ _ _).2 (.inr ⟨w.heap.size, _, t, [F], rfl, Array.getElem?_push_size, by simp [xR], rfl, by simp, fun i hi => ?_⟩), List.nodup_cons.2 ⟨fun h => by have := hl _ h; omega, h2⟩, fun b hb => ?_⟩
  · have hi : i < 1 := hi
    obtain rfl : i = 0 := by omega
    exact ⟨rfl, rfl, rfl, c, cp, rfl, OwX.later h1 ((Below.refl _ _).alloc (Nat.le_refl _) _)⟩
  · rcases List.mem_cons.1 hb with rfl | hb
    · exact hP
    · exact h3 b hb
theorem PX.two {w : World} {P Q R : Nat → Prop} {x y : Ex} {c d : Option Addr} {cp dp : Nat} (h : PX w P x c) (k : PX w Q y d) (hPQ : ∀ b, P b → ¬ Q b) (hP : ∀ b, P b → R b) (hQ : ∀ b, Q b → R b) (hR : R w.heap.size) (k' n : Int) (s : ByteArray) (t : TypeId) : PX (w.alloc (.cells (xR2 x c cp y d dp) t)) R ⟨k', n, s, [x, y]⟩ (some ⟨w.heap.size, 0, none⟩) := by
  obtain ⟨F, h1, h2, h3⟩ := h
  obtain ⟨G, k1, k2, k3⟩ := k
  have hl := OwX.lt x c F h1
  have kl := OwX.lt y d G k1
  refine ⟨w.heap.size :: (F ++ G), (OwX_eq _ _ _ _).2 (.inr ⟨w.heap.size, _, t, [F, G], rfl, Array.getElem?_push_size, by simp [xR2], rfl, by simp, fun i hi => ?_⟩), List.nodup_cons.2 ⟨fun h => ?_, List.nodup_append.2 ⟨h2, k2, fun a ha b hb e => ?_⟩⟩, fun b hb => ?_⟩
  · have hi : i < 2 := hi
    have hb := (Below.refl w.heap.size w).alloc (Nat.le_refl _) (.cells (xR2 x c cp y d dp) t)
    have hi2 : i = 0 ∨ i = 1 := by omega
    rcases hi2 with rfl | rfl
    · exact ⟨rfl, rfl, rfl, c, cp, rfl, OwX.later h1 hb⟩
    · exact ⟨rfl, rfl, rfl, d, dp, rfl, OwX.later k1 hb⟩
  · rcases List.mem_append.1 h with h | h
    · have := hl _ h; omega
    · have := kl _ h; omega
  · subst e
    exact hPQ _ (h3 _ ha) (k3 _ hb)
  · rcases List.mem_cons.1 hb with rfl | hb
    · exact hR
    · rcases List.mem_append.1 hb with hb | hb
      · exact hP b (h3 b hb)
      · exact hQ b (k3 b hb)
/-- Of a term of two: its row, and its parts. -/
theorem PX.parts {w : World} {P : Nat → Prop} {k n : Int} {s : ByteArray} {x y : Ex} {a : Option Addr} (h : PX w P ⟨k, n, s, [x, y]⟩ a) : ∃ b c cp d dp, a = some ⟨b, 0, none⟩ ∧ b < w.heap.size ∧ (w.cell? ⟨b, 0, none⟩ = some (.int .i64 x.k) ∧ w.cell? ⟨b, 1, none⟩ = some (.int .i64 x.n) ∧ w.cell? ⟨b, 2, none⟩ = some (.string x.s) ∧ w.cell? ⟨b, 3, none⟩ = some (.slice c x.l.length cp)) ∧ (w.cell? ⟨b, 4, none⟩ = some (.int .i64 y.k) ∧ w.cell? ⟨b, 5, none⟩ = some (.int .i64 y.n) ∧ w.cell? ⟨b, 6, none⟩ = some (.string y.s) ∧ w.cell? ⟨b, 7, none⟩ = some (.slice d y.l.length dp)) ∧ PX w P x c ∧ PX w P y d := by
  obtain ⟨F, h1, h2, h3⟩ := h
  rcases (OwX_eq _ _ _ _).1 h1 with ⟨h0, _⟩ | ⟨b, cs, t, Fs, ha, hh, hz, hF, rfl, hc⟩
  · cases h0
  · obtain ⟨a0, a1, a2, c, cp, a3, oc⟩ := hc 0 (by simp)
    obtain ⟨b0, b1, b2, d, dp, b3, od⟩ := hc 1 (by simp)
    have hF : Fs.length = 2 := hF
    match Fs, hF with
    | [F0, F1], _ =>
      have hn := (List.nodup_cons.1 h2).2
      simp only [List.flatten_cons, List.flatten_nil, List.append_nil] at hn
      obtain ⟨n0, n1, _⟩ := List.nodup_append.1 hn
      refine ⟨b, c, cp, d, dp, ha, (Array.getElem?_eq_some_iff.1 hh).1, ⟨(Lib.cell_of_heap hh _).trans a0, (Lib.cell_of_heap hh _).trans a1, (Lib.cell_of_heap hh _).trans a2, (Lib.cell_of_heap hh _).trans a3⟩, ⟨(Lib.cell_of_heap hh _).trans b0, (Lib.cell_of_heap hh _).trans b1, (Lib.cell_of_heap hh _).trans b2, (Lib.cell_of_heap hh _).trans b3⟩, ⟨F0, oc, n0, fun q hq => h3 q ?_⟩, ⟨F1, od, n1, fun q hq => h3 q ?_⟩⟩
      · exact List.mem_cons_of_mem _ (by simp [hq])
      · exact List.mem_cons_of_mem _ (by simp [hq])
/-- A term answered, its blocks as P says. -/
def GiR (e : Ex) (P : Nat → Prop) (w : World) (r : Ending) (w' : World) : Prop := ∃ (c : Option Addr) (cp : Nat), r = .returned (.agg (e.cs c cp)) ∧ PX w' P e c ∧ Below w.heap.size w w'
end Go.Proofs.YtkolflcjkofleaaDoor

namespace Go.Proofs.YtkolflcjkofleaaDoor
open Go.ChangeShapes Go.WideShapes Go.ChangeAt Go.RowKit
set_option linter.unusedVariables false
set_option maxRecDepth 8000
set_option linter.unusedSimpArgs false

def TwoR (k a b : Int) (w : World) (r : Ending) (w' : World) : Prop := w' = w ∧ r = .returned (.tuple #[.int .i64 ((two11 k a b).getD 0), .bool (two11 k a b).isSome])
set_option maxHeartbeats 2000000 in
theorem twoS_any (k a b : Int) (hk : 5 ≤ k ∧ k ≤ 10) (ha : 0 ≤ a ∧ a ≤ 65535) (hb : 0 ≤ b ∧ b ≤ 65535) (w : World) : Calls Tryd.prog 78 #[.int .i64 k, .int .i64 a, .int .i64 b] w (TwoR k a b w) := by
  have hm0 : 0 ≤ a * b := Int.mul_nonneg ha.1 hb.1
  have hm1 : a * b ≤ 65535 * 65535 := Int.mul_le_mul ha.2 hb.2 hb.1 (by decide)
  have hm2 : a * b ≤ 4294836225 := by omega
  have hn1 : -9223372036854775808 ≤ a * b := by omega
  have hn2 : a * b ≤ 9223372036854775807 := by omega
  unfold TwoR
  have : k = 5 ∨ k = 6 ∨ k = 7 ∨ k = 8 ∨ k = 9 ∨ k = 10 := by omega
  clear hk
  rcases this with rfl | rfl | rfl | rfl | rfl | rfl
  · have E := hide (show two11 5 a b = some ((a + b) % 65536) from rfl)
    rw [unhide E]
    go_enter Tryd.func78, Tryd.ntmps78
    go_wp2_with (go_at_call 83; refine (wrapS_any _ _).mono ?_; rintro e w' ⟨rfl, hw'⟩; rw [hw']; clear hw' w')
    go_ret2
    exact ⟨rfl, rfl⟩
  · have E := hide (show two11 6 a b = some ((a - b) % 65536) from rfl)
    rw [unhide E]
    go_enter Tryd.func78, Tryd.ntmps78
    go_wp2_with (go_at_call 83; refine (wrapS_any _ _).mono ?_; rintro e w' ⟨rfl, hw'⟩; rw [hw']; clear hw' w')
    go_ret2
    exact ⟨rfl, rfl⟩
  · have E := hide (show two11 7 a b = some ((a * b) % 65536) from rfl)
    rw [unhide E]
    go_enter Tryd.func78, Tryd.ntmps78
    go_wp2_with (go_at_call 83; refine (wrapS_any _ _).mono ?_; rintro e w' ⟨rfl, hw'⟩; rw [hw']; clear hw' w')
    go_ret2
    exact ⟨rfl, rfl⟩
  · by_cases h0 : b = 0
    · subst h0
      rw [show two11 8 a 0 = none from rfl]
      go_enter Tryd.func78, Tryd.ntmps78
      go_wp2
      go_ret2
      exact ⟨rfl, rfl⟩
    · have g0 : (b == 0) = false := beq_eq_false_iff_ne.2 h0
      have E := hide (show two11 8 a b = some (a / b) by unfold two11; rw [if_neg (by decide), if_neg (by decide), if_neg (by decide), if_neg (by decide), if_neg (by decide), if_neg h0])
      rw [unhide E]
      go_enter Tryd.func78, Tryd.ntmps78
      go_wp2
      go_ret2
      exact ⟨rfl, rfl⟩
  · have E := hide (show two11 9 a b = some (bits .and .i64 a b) from rfl)
    rw [unhide E]
    go_enter Tryd.func78, Tryd.ntmps78
    go_wp2
    go_ret2
    exact ⟨rfl, rfl⟩
  · have E := hide (show two11 10 a b = some (bits .or .i64 a b) from rfl)
    rw [unhide E]
    go_enter Tryd.func78, Tryd.ntmps78
    go_wp2
    go_ret2
    exact ⟨rfl, rfl⟩
/-- The rows of a function of one term: the argument, and what is answered. -/
structure Bx (w wr : World) (pr : Array Value) : Prop where
  bel : Below w.heap.size w wr
  lt : w.heap.size + 2 ≤ wr.heap.size
  box : wr.heap[w.heap.size]? = some (.cells pr 26 (0, 0))
  res : wr.heap[w.heap.size + 1]? = some (.cells #[.int .i64 0, .int .i64 0, .string ⟨#[]⟩, .slice none 0 0] 26 (0, 0))
theorem Bx.later {w wr w' : World} {pr : Array Value} (h : Bx w wr pr) (hb : Below wr.heap.size wr w') : Bx w w' pr := ⟨h.bel.trans (hb.mono h.bel.size), Nat.le_trans h.lt hb.size, row_keep h.box hb, row_keep h.res hb⟩
theorem Bx.new (w : World) (pr : Array Value) : Bx w ((w.alloc (.cells pr 26)).alloc (.cells #[.int .i64 0, .int .i64 0, .string ⟨#[]⟩, .slice none 0 0] 26)) pr := by
  have hb := ((Below.refl w.heap.size w).alloc (Nat.le_refl _) (.cells pr 26)).alloc (by simp) (.cells #[.int .i64 0, .int .i64 0, .string ⟨#[]⟩, .slice none 0 0] 26)
  have h1 : (w.alloc (.cells pr 26)).heap.size = w.heap.size + 1 := by simp
  refine ⟨hb, by simp, ?_, ?_⟩
  · exact row_keep (heap_alloc_new w _) (below_new _ _)
  · rw [← h1]; exact Array.getElem?_push_size
/-- Neither of these two rows. -/
def Ow (w : World) (P : Nat → Prop) (b : Nat) : Prop := P b ∧ (b < w.heap.size ∨ w.heap.size + 2 ≤ b)
theorem ow_no (w : World) (P : Nat → Prop) : ¬ Ow w P (w.heap.size + 1) := fun h => by have := h.2; omega
theorem ow_in {w : World} {P : Nat → Prop} (hP : ∀ b, w.heap.size ≤ b → P b) {b : Nat} (h : w.heap.size + 2 ≤ b) : Ow w P b := ⟨hP b (by omega), .inr h⟩
theorem PX.ow {w w' : World} {P : Nat → Prop} {e : Ex} {c : Option Addr} (h : PX w P e c) (hb : Below w.heap.size w w') : PX w' (Ow w P) e c := (h.low.mono (fun b hb => ⟨hb.1, .inl hb.2⟩)).later hb
theorem Bx.end {w wr : World} {pr : Array Value} {P : Nat → Prop} {x : Ex} {c : Option Addr} {cp : Nat} (h : Bx w wr pr) (hx : PX wr (Ow w P) x c) (row : Array Value) : GiR x P w (.returned (.agg #[.int .i64 x.k, .int .i64 x.n, .string x.s, .slice c x.l.length cp])) (wr.setRow (w.heap.size + 1) row) :=
  ⟨c, cp, rfl, (hx.row _ (ow_no w P)).mono (fun b hb => hb.1), h.bel.grown (grownBy_row _) h.bel.size (fun k e => by cases e; omega)⟩
set_option maxHeartbeats 4000000 in
theorem addS_any (a : Ex) (c : Option Addr) (cp : Nat) (n : Int) (P : Nat → Prop) (w : World) (h : PX w P a c) (hP : ∀ b, w.heap.size ≤ b → P b) : Calls Tryd.prog 93 #[.agg (a.cs c cp), .int .i64 n] w (GiR (addX a n) P w) := by
  have X0 := hide (Bx.new w #[.int .i64 a.k, .int .i64 a.n, .string a.s, .slice c a.l.length cp])
  have A0 := hide (h.ow (unhide X0).bel)
  have HP := hide hP
  generalize hX : GiR (addX a n) P w = X
  have HX := hide hX
  unfold Ex.cs
  clear h hP hX
  by_cases hz : n % 65536 = 0
  · have EQ0 := hide (show addX a n = a by unfold addX wr; rw [if_pos hz])
    rw [unhide EQ0] at HX
    go_enter Tryd.func93, Tryd.ntmps93
    go_wp2_with fail
    generalize (w.alloc (.cells #[.int .i64 a.k, .int .i64 a.n, .string a.s, .slice c a.l.length cp] 26)).alloc (.cells #[.int .i64 0, .int .i64 0, .string ⟨#[]⟩, .slice none 0 0] 26) = W at *
    refine (wrapS_any _ _).mono ?_
    rintro e w' ⟨rfl, hw'⟩
    rw [hw', hz]
    clear hw' w'
    go_wp2_with (first | (refine wpList_load_row rfl 26 _ rfl w.heap.size rfl 26 #[.int .i64 a.k, .int .i64 a.n, .string a.s, .slice c a.l.length cp] (0, 0) _ (unhide X0).box Tryd.underlying26 rfl (by kernel_rfl) ?_) | (refine wpList_store_row rfl 26 _ _ rfl (w.heap.size + 1) #[.int .i64 a.k, .int .i64 a.n, .string a.s, .slice c a.l.length cp] rfl rfl 26 _ (unhide X0).res szE rfl (ex_one _ _ _ _ _ _) ?_))
    refine bodyPost_ret (results_cell_row (P := Tryd.prog) rfl _ _ (w.heap.size + 1) 26 #[.int .i64 a.k, .int .i64 a.n, .string a.s, .slice c a.l.length cp] (0, 0) _ rfl (setRow_heap _ _ _ _ _ _ (unhide X0).res) Tryd.underlying26 rfl szE) rfl ?_
    rw [← unhide HX]
    exact (unhide X0).end (unhide A0) _
  · have hzb : (n % 65536 == 0) = false := beq_eq_false_iff_ne.2 hz
    have EQ0 := hide (show addX a n = ⟨5, 0, ⟨#[]⟩, [a, numX n]⟩ by unfold addX; rw [if_neg (show ¬ wr n = 0 from hz)]; rfl)
    rw [unhide EQ0] at HX
    go_enter Tryd.func93, Tryd.ntmps93
    go_wp2_with (go_at_call 83; refine (wrapS_any _ _).mono ?_; rintro e w' ⟨rfl, hw'⟩; rw [hw']; clear hw' w')
    generalize (w.alloc (.cells #[.int .i64 a.k, .int .i64 a.n, .string a.s, .slice c a.l.length cp] 26)).alloc (.cells #[.int .i64 0, .int .i64 0, .string ⟨#[]⟩, .slice none 0 0] 26) = W at *
    have X1 := hide ((unhide X0).later (below_drew (w := W)))
    have A1 := hide ((unhide A0).later (below_drew (w := W)))
    have D1 := hide (unhide X1).box
    clear X0 A0
    refine wp_region_held_drew (S := fun v => v.heap[w.heap.size]? = some (.cells #[.int .i64 a.k, .int .i64 a.n, .string a.s, .slice c a.l.length cp] 26 (0, 0))) (by kernel_rfl) (unhide D1) (fun hS => ?_)
    have HS := hide hS
    clear hS
    generalize W.drew = W1 at *
    refine wpAnyH_take (i := 0) (v := .agg #[.int .i64 a.k, .int .i64 a.n, .string a.s, .slice c a.l.length cp]) rfl (by kernel_rfl) (by kernel_rfl) (by kernel_rfl) (fun _ _ _ h => h) (yields_loadG (by rfl) 26 _ rfl w.heap.size rfl 26 #[.int .i64 a.k, .int .i64 a.n, .string a.s, .slice c a.l.length cp] _ (fun w h => h) Tryd.underlying26 rfl (by kernel_rfl)) (unhide HS) ?_
    go_simp
    refine wpAnyH_take (i := 1) (v := .int .i64 n) rfl (by kernel_rfl) (by kernel_rfl) (by kernel_rfl) (fun _ _ _ h => h) (Or.inl ⟨by rfl, fun w hc => ?_⟩) (unhide HS) ?_
    · clear hc; go_simp
    go_simp
    refine wpAnyH_ready (rs := [2]) (by kernel_rfl) (by simp) ?_
    refine AllReadyH.cons rfl (fun K2 hK => ?_) AllReadyH.nil
    go_simp
    refine (numD n _).mono ?_
    rintro r w2 ⟨rfl, hb2⟩
    have X2 := hide ((unhide X1).later hb2)
    have A2 := hide ((unhide A1).later hb2)
    have D2 := hide (unhide X2).box
    refine hK.out _ _ (unhide D2) (fun hS => ?_)
    clear HS
    have HS := hide hS
    clear hS hK K2
    clear hb2 X1 A1 D1
    refine wpAnyH_ready (rs := [3]) (by kernel_rfl) (by simp) ?_
    refine AllReadyH.cons rfl (fun K2 hK => ?_) AllReadyH.nil
    go_simp
    have hb3 := below_new w2 (.cells #[.int .i64 a.k, .int .i64 a.n, .string a.s, .slice c a.l.length cp, .int .i64 1, .int .i64 (n % 65536), .string ⟨#[]⟩, .slice none 0 0] 26)
    have hP3 := ow_in (unhide HP) (unhide X2).lt
    have A3 := hide (show PX (w2.alloc (.cells #[.int .i64 a.k, .int .i64 a.n, .string a.s, .slice c a.l.length cp, .int .i64 1, .int .i64 (n % 65536), .string ⟨#[]⟩, .slice none 0 0] 26)) (Ow w P) ⟨5, 0, ⟨#[]⟩, [a, numX n]⟩ (some ⟨w2.heap.size, 0, none⟩) from (unhide A2).two (k' := 5) (n := 0) (s := ⟨#[]⟩) (cp := cp) (dp := 0) (t := 26) (PX.leaf w2 (fun _ => False) 1 (wr n) (⟨#[]⟩ : ByteArray) none) (fun _ _ h => h) (fun _ h => h) (fun _ h => h.elim) hP3)
    have X3 := hide ((unhide X2).later hb3)
    have D3 := hide (unhide X3).box
    clear hb3 hP3 X2 A2 D2
    generalize w2.alloc (.cells #[.int .i64 a.k, .int .i64 a.n, .string a.s, .slice c a.l.length cp, .int .i64 1, .int .i64 (n % 65536), .string ⟨#[]⟩, .slice none 0 0] 26) = w3 at *
    generalize w2.heap.size = g2 at *
    refine hK.out _ _ (unhide D3) (fun hS => ?_)
    clear HS
    have HS := hide hS
    clear hS hK K2
    refine wpAnyH_take (i := 4) (v := .agg #[.int .i64 5, .int .i64 0, .string ⟨#[]⟩, .slice (some ⟨g2, 0, none⟩) 2 2]) rfl (by kernel_rfl) (by kernel_rfl) (by kernel_rfl) (fun _ _ _ h => h) (Or.inl ⟨by rfl, fun w hc => ?_⟩) (unhide HS) ?_
    · clear hc; go_simp
    go_simp
    refine wpAnyH_ready (rs := [5]) (by kernel_rfl) (by simp) ?_
    refine AllReadyH.cons rfl (fun K2 hK => ?_) AllReadyH.nil
    rw [if_pos (by rfl)]
    refine wp_store_row 26 _ _ rfl (w.heap.size + 1) #[.int .i64 5, .int .i64 0, .string ⟨#[]⟩, .slice (some ⟨g2, 0, none⟩) 2 2] rfl rfl 26 _ (unhide X3).res szE rfl (ex_one _ _ _ _ _ _) ?_
    refine hK.out _ _ ((setRow_other _ _ _ _ (by omega)).trans (unhide D3)) (fun hS => ?_)
    clear HS
    have HS := hide hS
    clear hS hK K2
    refine wpAnyH_done (by kernel_rfl) ?_ _
    clear HS D3
    go_wp2
    refine bodyPost_ret (results_cell_row (P := Tryd.prog) rfl _ _ (w.heap.size + 1) 26 #[.int .i64 5, .int .i64 0, .string ⟨#[]⟩, .slice (some ⟨g2, 0, none⟩) 2 2] (0, 0) _ rfl (setRow_heap _ _ _ _ _ _ (unhide X3).res) Tryd.underlying26 rfl szE) rfl ?_
    rw [← unhide HX]
    exact (unhide X3).end (unhide A3) _
end Go.Proofs.YtkolflcjkofleaaDoor

namespace Go.Proofs.YtkolflcjkofleaaDoor
open Go.ChangeShapes Go.WideShapes Go.ChangeAt Go.RowKit
set_option linter.unusedVariables false
set_option maxRecDepth 8000
set_option linter.unusedSimpArgs false

set_option maxHeartbeats 2000000 in
theorem twoI_any (k a b : Int) (hk : 5 ≤ k ∧ k ≤ 10) (ha : 0 ≤ a ∧ a ≤ 65535) (hb : 0 ≤ b ∧ b ≤ 65535) (w : World) : Calls Tryd.prog 88 #[.int .i64 k, .int .i64 a, .int .i64 b] w (TwoR k a b w) := by
  have hm0 : 0 ≤ a * b := Int.mul_nonneg ha.1 hb.1
  have hm1 : a * b ≤ 65535 * 65535 := Int.mul_le_mul ha.2 hb.2 hb.1 (by decide)
  have hm2 : a * b ≤ 4294836225 := by omega
  have hn1 : -9223372036854775808 ≤ a * b := by omega
  have hn2 : a * b ≤ 9223372036854775807 := by omega
  unfold TwoR
  have : k = 5 ∨ k = 6 ∨ k = 7 ∨ k = 8 ∨ k = 9 ∨ k = 10 := by omega
  clear hk
  rcases this with rfl | rfl | rfl | rfl | rfl | rfl
  · have E := hide (show two11 5 a b = some ((a + b) % 65536) from rfl)
    rw [unhide E]
    go_enter Tryd.func88, Tryd.ntmps88
    go_wp2_with (go_at_call 75; refine (wrapI_any _ _).mono ?_; rintro e w' ⟨rfl, hw'⟩; rw [hw']; clear hw' w')
    go_ret2
    exact ⟨rfl, rfl⟩
  · have E := hide (show two11 6 a b = some ((a - b) % 65536) from rfl)
    rw [unhide E]
    go_enter Tryd.func88, Tryd.ntmps88
    go_wp2_with (go_at_call 75; refine (wrapI_any _ _).mono ?_; rintro e w' ⟨rfl, hw'⟩; rw [hw']; clear hw' w')
    go_ret2
    exact ⟨rfl, rfl⟩
  · have E := hide (show two11 7 a b = some ((a * b) % 65536) from rfl)
    rw [unhide E]
    go_enter Tryd.func88, Tryd.ntmps88
    go_wp2_with (go_at_call 75; refine (wrapI_any _ _).mono ?_; rintro e w' ⟨rfl, hw'⟩; rw [hw']; clear hw' w')
    go_ret2
    exact ⟨rfl, rfl⟩
  · by_cases h0 : b = 0
    · subst h0
      rw [show two11 8 a 0 = none from rfl]
      go_enter Tryd.func88, Tryd.ntmps88
      go_wp2
      go_ret2
      exact ⟨rfl, rfl⟩
    · have g0 : (b == 0) = false := beq_eq_false_iff_ne.2 h0
      have E := hide (show two11 8 a b = some (a / b) by unfold two11; rw [if_neg (by decide), if_neg (by decide), if_neg (by decide), if_neg (by decide), if_neg (by decide), if_neg h0])
      rw [unhide E]
      go_enter Tryd.func88, Tryd.ntmps88
      go_wp2
      go_ret2
      exact ⟨rfl, rfl⟩
  · have E := hide (show two11 9 a b = some (bits .and .i64 a b) from rfl)
    rw [unhide E]
    go_enter Tryd.func88, Tryd.ntmps88
    go_wp2
    go_ret2
    exact ⟨rfl, rfl⟩
  · have E := hide (show two11 10 a b = some (bits .or .i64 a b) from rfl)
    rw [unhide E]
    go_enter Tryd.func88, Tryd.ntmps88
    go_wp2
    go_ret2
    exact ⟨rfl, rfl⟩
/-- The type of a right term's value is that of its kind. -/
theorem tv_kT {d : Nat} {e : Ex} (h : okF (d + 1) false e = true) : ∃ T x, tv e = .iface T x ∧ (e.k ≠ 1 → T ≠ 88) ∧ (e.k ≠ 11 → T ≠ 115) ∧ (e.k ≠ 5 → T ≠ 134) := by
  rcases ok_cases h with ⟨n, hn, rfl⟩ | ⟨s, hs, rfl⟩ | rfl | ⟨a, ha, rfl⟩ | ⟨k, a, b, hk, ha, hb, rfl⟩ | ⟨n, hn, rfl⟩ | ⟨s, hs, rfl⟩
  · exact ⟨_, _, tv_num _ _, fun h => absurd rfl h, fun _ => by decide, fun _ => by decide⟩
  · exact ⟨_, _, tv_sym _ _, fun _ => by decide, fun _ => by decide, fun _ => by decide⟩
  · exact ⟨_, _, tv_here _ _, fun _ => by decide, fun _ => by decide, fun _ => by decide⟩
  · exact ⟨_, _, tv_neg _ _ _, fun _ => by decide, fun _ => by decide, fun _ => by decide⟩
  · refine ⟨_, _, tv_two hk _ _ _ _, ?_⟩
    have : k = 5 ∨ k = 6 ∨ k = 7 ∨ k = 8 ∨ k = 9 ∨ k = 10 := by omega
    rcases this with rfl | rfl | rfl | rfl | rfl | rfl
    · exact ⟨fun _ => by decide, fun _ => by decide, fun h => absurd rfl h⟩
    all_goals exact ⟨fun _ => by decide, fun _ => by decide, fun _ => by decide⟩
  · exact ⟨_, _, tv_sect _ _, fun _ => by decide, fun h => absurd rfl h, fun _ => by decide⟩
  · exact ⟨_, _, tv_glob _ _, fun _ => by decide, fun _ => by decide, fun _ => by decide⟩
/-- What a function answers, as a value, beside memory of its own. -/
def VaR (v : Value) (w : World) (r : Ending) (w' : World) : Prop := r = .returned v ∧ Below w.heap.size w w'
set_option maxHeartbeats 2000000 in
theorem cutN_no (T : TypeId) (x : Value) (hT : T ≠ 134) (w : World) : Calls Tryd.prog 96 #[.iface T x] w (VaR (.tuple #[.iface T x, .int .i64 0]) w) := by
  have t1 := taN_add T x hT
  have FN := hide (fun r w' (h : r = .returned (.tuple #[.iface T x, .int .i64 0])) (hb : Below w.heap.size w w') => (show VaR _ w r w' from ⟨h, hb⟩))
  generalize VaR (.tuple #[.iface T x, .int .i64 0]) w = R at *
  have B0 := hide (below_new w (.cells #[.nilIface, .nilIface] 134))
  clear hT
  go_enter Tryd.func96, Tryd.ntmps96
  go_wp2
  (first | go_ret2 | go_ret | skip)
  exact unhide FN _ _ rfl (by first | exact unhide B0 | exact Below.refl _ _)
set_option maxHeartbeats 2000000 in
theorem cutN_mis (t u : TypeId) (x y : Value) (hu : u ≠ 88) (w : World) : Calls Tryd.prog 96 #[.iface 134 (.agg #[.iface t x, .iface u y])] w (VaR (.tuple #[.iface 134 (.agg #[.iface t x, .iface u y]), .int .i64 0]) w) := by
  have t1 := taY_add (.agg #[.iface t x, .iface u y])
  have t2 := taN_num u y hu
  have FN := hide (fun r w' (h : r = .returned (.tuple #[.iface 134 (.agg #[.iface t x, .iface u y]), .int .i64 0])) (hb : Below w.heap.size w w') => (show VaR _ w r w' from ⟨h, hb⟩))
  generalize VaR (.tuple #[.iface 134 (.agg #[.iface t x, .iface u y]), .int .i64 0]) w = R at *
  clear hu
  go_enter Tryd.func96, Tryd.ntmps96
  go_wp2
  (first | go_ret2 | go_ret | skip)
  exact unhide FN _ _ rfl (by first | exact Below.refl _ _ | exact (Below.refl _ _).alloc (Nat.le_refl _) _ | exact ((Below.refl _ _).alloc (Nat.le_refl _) _).alloc (by simp) _)
theorem two_resG (w : World) (o o2 : Obj) : Below w.heap.size w ((w.alloc o).alloc o2) ∧ ((w.alloc o).alloc o2).heap[w.heap.size]? = some o ∧ ((w.alloc o).alloc o2).heap[w.heap.size + 1]? = some o2 := by
  have h1 : (w.alloc o).heap.size = w.heap.size + 1 := by simp
  refine ⟨((Below.refl _ _).alloc (Nat.le_refl _) _).alloc (by simp) _, row_keep (heap_alloc_new w _) (below_new _ _), ?_⟩
  rw [← h1]
  exact Array.getElem?_push_size
theorem below_dr {w w' : World} (h : Below w.heap.size w w') : Below w.heap.size w w'.drew := h.trans (below_drew.mono h.size)
set_option maxHeartbeats 2000000 in
theorem cutN_yes (t : TypeId) (x : Value) (n : Int) (w : World) : Calls Tryd.prog 96 #[.iface 134 (.agg #[.iface t x, .iface 88 (.agg #[.int .i64 n])])] w (VaR (.tuple #[.iface t x, .int .i64 n]) w) := by
  have t1 := taY_add (.agg #[.iface t x, .iface 88 (.agg #[.int .i64 n])])
  have t2 := taY_num (.agg #[.int .i64 n])
  have FN := hide (fun r w' (h : r = .returned (.tuple #[.iface t x, .int .i64 n])) (hb : Below w.heap.size w w') => (show VaR _ w r w' from ⟨h, hb⟩))
  generalize VaR (.tuple #[.iface t x, .int .i64 n]) w = R at *
  have T := hide (two_resG w (.cells #[.iface t x, .iface 88 (.agg #[.int .i64 n])] 134) (.cells #[.int .i64 n] 88))
  go_enter Tryd.func96, Tryd.ntmps96
  go_wp2
  generalize (w.alloc (.cells #[.iface t x, .iface 88 (.agg #[.int .i64 n])] 134)).alloc (.cells #[.int .i64 n] 88) = W at *
  have c0 := Lib.cell_of_heap (unhide T).2.1 0
  have c1 := Lib.cell_of_heap (unhide T).2.2 0
  go_region
  go_wp2
  (first | go_ret2 | go_ret | skip)
  exact unhide FN _ _ rfl (below_dr (unhide T).1)
theorem cutI_any {d : Nat} {a : Ex} (h : okF (d + 1) false a = true) (w : World) : Calls Tryd.prog 96 #[tv a] w (VaR (.tuple #[tv (prtX a).1, .int .i64 (prtX a).2]) w) := by
  rcases prt_cases h with ⟨e, hc⟩ | ⟨b, m, hm, rfl, e, hb⟩
  · rw [e]
    by_cases h5 : a.k = 5
    · obtain ⟨k, n, s, l⟩ := a
      rcases ok_cases h with ⟨n', hn, e'⟩ | ⟨s', hs, e'⟩ | e' | ⟨a', ha, e'⟩ | ⟨k', a', b', hk, ha, hb, e'⟩ | ⟨n', hn, e'⟩ | ⟨s', hs, e'⟩
      · rw [e'] at h5; cases h5
      · rw [e'] at h5; cases h5
      · rw [e'] at h5; cases h5
      · rw [e'] at h5; cases h5
      · rw [e'] at h5 hc ⊢
        obtain rfl : k' = 5 := h5
        obtain ⟨c, rfl⟩ := ok_pos hb
        obtain ⟨t, x, e1⟩ := tv_if a'
        obtain ⟨u, y, e2, g1, _, _⟩ := tv_kT hb
        rw [tv_two hk, e1, e2]
        exact cutN_mis t u x y (g1 (fun q => hc ⟨rfl, q⟩)) w
      · rw [e'] at h5; cases h5
      · rw [e'] at h5; cases h5
    · obtain ⟨T, x, e1, _, _, g⟩ := tv_kT h
      rw [e1]
      exact cutN_no T x (g h5) w
  · rw [e, tv_two (by omega), tv_num]
    obtain ⟨t, x, e1⟩ := tv_if b
    rw [e1]
    exact cutN_yes t x m w
theorem prt_inG {d : Nat} {a : Ex} (h : okF (d + 1) false a = true) : 0 ≤ (prtX a).2 ∧ (prtX a).2 ≤ 65535 := by
  rcases prt_cases h with ⟨e, hc⟩ | ⟨b, m, hm, rfl, e, hb⟩
  · rw [e]; exact ⟨Int.le_refl _, by show (0 : Int) ≤ 65535; omega⟩
  · rw [e]; exact hm
set_option maxHeartbeats 2000000 in
theorem addI_any {d : Nat} {a : Ex} (h : okF (d + 1) false a = true) (n : Int) (hn : -65536 ≤ n ∧ n ≤ 65536) (w : World) : Calls Tryd.prog 89 #[tv a, .int .i64 n] w (VaR (tv (sumX a n)) w) := by
  have CU := hide (cutI_any h w)
  have hp := prt_inG h
  obtain ⟨t0, x0, e0⟩ := tv_if a
  obtain ⟨t, x, e1⟩ := tv_if (prtX a).1
  have E0 := hide (show wr (n + (prtX a).2) = 0 → tv (sumX a n) = .iface t x from fun hz => by unfold sumX addX; rw [if_pos (by rw [Int.add_comm]; exact hz), e1])
  have E1 := hide (show wr (n + (prtX a).2) ≠ 0 → tv (sumX a n) = .iface 134 (.agg #[.iface t x, .iface 88 (.agg #[.int .i64 (wr (n + (prtX a).2))])]) from fun hz => by
    unfold sumX addX numX
    rw [if_neg (by rw [Int.add_comm]; exact hz), tv_two (by omega), tv_num, e1, Int.add_comm]
    rfl)
  rw [e1, e0] at CU
  rw [e0]
  unfold wr at E0 E1
  have FN := hide (fun r w' (h : r = .returned (tv (sumX a n))) (hb : Below w.heap.size w w') => (show VaR _ w r w' from ⟨h, hb⟩))
  generalize tv (sumX a n) = V at *
  generalize VaR V w = R at *
  generalize (prtX a).2 = m at *
  unfold VaR at CU
  clear h e0 e1
  by_cases hz : (n + m) % 65536 = 0
  · have E := unhide E0 hz
    subst E
    have hz2 : ((n + m) % 65536 == 0) = true := beq_iff_eq.2 hz
    have hq := hz
    clear E0 E1 hz
    generalize hM : (n + m) % 65536 = M at *
    have HM := hide hM
    subst hq
    clear hM
    go_enter Tryd.func89, Tryd.ntmps89
    go_wp2_with (first | (go_at_call 96; refine (unhide CU).mono ?_; rintro r w1 ⟨rfl, hb1⟩; have B1 := hide hb1; clear hb1) | (go_at_call 75; refine (wrapI_any _ _).mono ?_; rintro e w' ⟨rfl, hw'⟩; rw [hw', unhide HM]; clear hw' w'))
    (first | go_ret2 | go_ret | skip)
    exact unhide FN _ _ rfl (unhide B1)
  · have E := unhide E1 hz
    subst E
    have hz2 : ((n + m) % 65536 == 0) = false := beq_eq_false_iff_ne.2 hz
    clear E0 E1 hz
    generalize hM : (n + m) % 65536 = M at *
    have HM := hide hM
    clear hM
    go_enter Tryd.func89, Tryd.ntmps89
    go_wp2_with (first | (go_at_call 96; refine (unhide CU).mono ?_; rintro r w1 ⟨rfl, hb1⟩; have B1 := hide hb1; clear hb1) | (go_at_call 75; refine (wrapI_any _ _).mono ?_; rintro e w' ⟨rfl, hw'⟩; rw [hw', unhide HM]; clear hw' w'))
    (first | go_ret2 | go_ret | skip)
    exact unhide FN _ _ rfl (unhide B1)
end Go.Proofs.YtkolflcjkofleaaDoor

namespace Go.Proofs.YtkolflcjkofleaaDoor
open Go.ChangeShapes Go.WideShapes Go.ChangeAt Go.RowKit
set_option linter.unusedVariables false
set_option maxRecDepth 8000
set_option linter.unusedSimpArgs false

theorem leaf_eq (d : Nat) (w : World) : (Op.equalIn (d + 1) 86 (.agg #[]) (.agg #[])).run Tryd.prog w = .ok true w := by
  rw [run_equalIn_struct w d 86 _ _ (by kernel_rfl) (by kernel_rfl), show (Tryd.prog.fieldsOf 86).toList = [] by kernel_rfl]
  rfl
theorem sect_eq (n m : Int) (w : World) : (Op.equalIn 10000 115 (.agg #[.int .i64 n]) (.agg #[.int .i64 m])).run Tryd.prog w = .ok (n == m) w := by
  rw [run_equalIn_struct w 9999 115 _ _ (by kernel_rfl) (by kernel_rfl)]
  have hf : (Tryd.prog.fieldsOf 115).toList.map (fun f => (f.name, f.type, f.offset)) = [("leaf", 86, 0), ("n", 3, 0)] := by kernel_rfl
  have hlen := congrArg List.length hf
  rw [List.length_map] at hlen
  generalize (Tryd.prog.fieldsOf 115).toList = fs at *
  match fs, hlen, hf with
  | [f0, f1], _, hf =>
    simp only [List.map_cons, List.map_nil, List.cons.injEq, Prod.mk.injEq] at hf
    obtain ⟨⟨n0, t0, o0⟩, ⟨n1, t1, o1⟩, _⟩ := hf
    have q0 : ∀ n : Int, (part 86 #[.int .i64 n] 0).run Tryd.prog w = .ok (.agg #[]) w := fun n => by kernel_rfl
    have q1 : ∀ n : Int, (part 3 #[.int .i64 n] 0).run Tryd.prog w = .ok (.int .i64 n) w := fun n => by kernel_rfl
    have s0 := leaf_eq 9998 w
    have s1 := run_equalIn_int w 9998 3 .i64 .i64 n m Tryd.underlying3
    simp only [Op.eqFields, n0, n1, t0, t1, o0, o1, Sem.run_bind, Sem.run_ite, q0, q1, Result.andThen_ok, s0, s1]
    cases n == m <;> simp
/-- Whether two count from one section. -/
def sApX (a b : Ex) : Bool := decide ((prtX a).1.k = 11 ∧ (prtX b).1.k = 11 ∧ (prtX a).1.n = (prtX b).1.n)
def ApR (n m : Int) (q : Bool) (w : World) (r : Ending) (w' : World) : Prop := r = .returned (.tuple #[.int .i64 (wr (n - m)), .bool q]) ∧ Below w.heap.size w w'
/-- Whether a value is a section of the program's, and which (0, where it is none). -/
def IsS (v : Value) (z : Int) (q : Bool) : Prop := ∀ w, (Instr.typeAssert v 66 115 true).run Tryd.prog w = .ok (.tuple #[.agg #[.int .i64 z], .bool q]) w
set_option maxHeartbeats 4000000 in
theorem ap_any (va vb : Value) (ta tb : TypeId) (xa xb : Value) (n m z1 z2 : Int) (q1 q2 : Bool) (i1 : IsS (.iface ta xa) z1 q1) (i2 : IsS (.iface tb xb) z2 q2) (hn : 0 ≤ n ∧ n ≤ 65535) (hm : 0 ≤ m ∧ m ≤ 65535) (w : World) (ca : ∀ w, Calls Tryd.prog 96 #[va] w (VaR (.tuple #[.iface ta xa, .int .i64 n]) w)) (cb : ∀ w, Calls Tryd.prog 96 #[vb] w (VaR (.tuple #[.iface tb xb, .int .i64 m]) w)) : Calls Tryd.prog 90 #[.agg #[va, vb]] w (ApR n m (q1 && (q2 && (z1 == z2))) w) := by
  have FN := hide (fun r w' (h : r = .returned (.tuple #[.int .i64 (wr (n - m)), .bool (q1 && (q2 && (z1 == z2)))])) (hb : Below w.heap.size w w') => (show ApR n m (q1 && (q2 && (z1 == z2))) w r w' from ⟨h, hb⟩))
  generalize ApR n m (q1 && (q2 && (z1 == z2))) w = R at *
  have CA := hide ca
  have CB := hide cb
  unfold VaR at CA CB
  unfold wr at FN
  unfold IsS at i1 i2
  have B0 := hide (below_new w (.cells #[va, vb] 107))
  have G0 := hide (show (w.alloc (.cells #[va, vb] 107)).heap[w.heap.size]? = some (.cells #[va, vb] 107 (0, 0)) from Array.getElem?_push_size)
  have eqs := sect_eq z1 z2
  clear ca cb
  cases q1 <;> cases q2
  all_goals
    simp only [Bool.false_and, Bool.true_and] at FN
    go_enter Tryd.func90, Tryd.ntmps90
    go_wp2_with fail
    generalize w.alloc (.cells #[va, vb] 107) = W at *
    refine (unhide CA _).mono ?_
    rintro r w1 ⟨rfl, hb1⟩
    have B1 := hide ((unhide B0).trans (hb1.mono (unhide B0).size))
    have c1 := Lib.cell_of_heap (row_keep (unhide G0) hb1) 1
    clear hb1 B0 G0 CA
    go_wp2_with fail
    clear c1
    refine (unhide CB _).mono ?_
    rintro r w2 ⟨rfl, hb2⟩
    have B2 := hide ((unhide B1).trans (hb2.mono (unhide B1).size))
    clear hb2 B1 CB
    go_wp2_with fail
    have T := two_resG w2 (.cells #[.int .i64 z1] 115) (.cells #[.int .i64 z2] 115)
    have B3 := hide ((unhide B2).trans (T.1.mono (unhide B2).size))
    generalize w2.heap.size = g2 at *
    generalize (w2.alloc (.cells #[.int .i64 z1] 115)).alloc (.cells #[.int .i64 z2] 115) = V at *
    have y0 : ∀ y : Sub V.heap.size V, y.w.cell? ⟨g2, 0, none⟩ = some (.int .i64 z1) := fun y => (y.h.cell (p := ⟨g2, 0, none⟩) (Array.getElem?_eq_some_iff.1 T.2.1).1).trans (Lib.cell_of_heap T.2.1 0)
    have y1 : ∀ y : Sub V.heap.size V, y.w.cell? ⟨g2 + 1, 0, none⟩ = some (.int .i64 z2) := fun y => (y.h.cell (p := ⟨g2 + 1, 0, none⟩) (Array.getElem?_eq_some_iff.1 T.2.2).1).trans (Lib.cell_of_heap T.2.2 0)
    have ne := Sub.ne V.heap.size V
    have HB := hide (fun y : Sub V.heap.size V => (unhide B3).trans (y.h.mono (unhide B3).size))
    clear T B2 B3
    refine wp_region_sub (⟨V, Below.refl _ _⟩ : Sub V.heap.size V) (by kernel_rfl) (by kernel_rfl) ?_
    (repeat (go_big_quiet_step (first | (go_at_call 75; exact Sub.same (wrapI_any _ _)))))
    refine wpQuiet_nil ?_
    intro y
    go_wp2
    (first | go_ret2 | go_ret | skip)
    exact unhide FN _ _ rfl (unhide HB _)
theorem apI_any {d : Nat} {a b : Ex} (ha : okF (d + 1) false a = true) (hb : okF (d + 1) false b = true) (w : World) : Calls Tryd.prog 90 #[.agg #[tv a, tv b]] w (ApR (prtX a).2 (prtX b).2 (sApX a b) w) := by
  have ca := fun w => cutI_any ha w
  have cb := fun w => cutI_any hb w
  obtain ⟨da, oa⟩ := prt_ok ha
  obtain ⟨db, ob⟩ := prt_ok hb
  have ia := prt_inG ha
  have ib := prt_inG hb
  unfold sApX
  generalize (prtX a).2 = n at *
  generalize (prtX b).2 = m at *
  generalize (prtX a).1 = x at *
  generalize (prtX b).1 = y at *
  have IS : ∀ {d : Nat} {x : Ex}, okF (d + 1) false x = true → (x.k = 11 ∧ IsS (tv x) x.n true) ∨ (x.k ≠ 11 ∧ IsS (tv x) 0 false) := by
    intro d x h
    by_cases h1 : x.k = 11
    · obtain ⟨p, hp, rfl⟩ := ok_k11 h h1
      left
      rw [tv_sect]
      exact ⟨rfl, fun w => taY_sect _ w⟩
    · right
      obtain ⟨T, v, e, _, g, _⟩ := tv_kT h
      rw [e]
      exact ⟨h1, fun w => taN_sect T v (g h1) w⟩
  have I1 := IS oa
  have I2 := IS ob
  obtain ⟨ta, xa, e1⟩ := tv_if x
  obtain ⟨tb, xb, e2⟩ := tv_if y
  rw [e1] at ca I1
  rw [e2] at cb I2
  rcases I1 with ⟨h1, i1⟩ | ⟨h1, i1⟩
  · rcases I2 with ⟨h2, i2⟩ | ⟨h2, i2⟩
    · rw [show decide (x.k = 11 ∧ y.k = 11 ∧ x.n = y.n) = (true && (true && (x.n == y.n))) by rw [h1, h2]; simp; rfl]
      exact ap_any _ _ ta tb xa xb n m _ _ true true i1 i2 ia ib w ca cb
    · rw [decide_eq_false (fun h => h2 h.2.1)]
      exact ap_any _ _ ta tb xa xb n m _ _ true false i1 i2 ia ib w ca cb
  · rw [decide_eq_false (fun h => h1 h.1)]
    rcases I2 with ⟨h2, i2⟩ | ⟨h2, i2⟩
    · exact ap_any _ _ ta tb xa xb n m _ _ false true i1 i2 ia ib w ca cb
    · exact ap_any _ _ ta tb xa xb n m _ _ false false i1 i2 ia ib w ca cb
set_option maxHeartbeats 2000000 in
theorem negI_num (n : Int) (hn : 0 ≤ n ∧ n ≤ 65535) (w : World) : Calls Tryd.prog 72 #[.iface 88 (.agg #[.int .i64 n])] w (VaR (.iface 88 (.agg #[.int .i64 (wr (-n))])) w) := by
  have t1 := taY_num (.agg #[.int .i64 n])
  have FN := hide (fun r w' (h : r = .returned (.iface 88 (.agg #[.int .i64 (wr (-n))]))) (hb : Below w.heap.size w w') => (show VaR _ w r w' from ⟨h, hb⟩))
  generalize VaR (.iface 88 (.agg #[.int .i64 (wr (-n))])) w = R at *
  unfold wr at FN
  go_enter Tryd.func72, Tryd.ntmps72
  go_wp2_with (go_at_call 75; refine (wrapI_any _ _).mono ?_; rintro e w0 ⟨rfl, hw0⟩; rw [hw0]; clear hw0 w0)
  (first | go_ret2 | go_ret | skip)
  exact unhide FN _ _ rfl (by first | exact Below.refl _ _ | exact below_new w _ | exact ((Below.refl _ _).alloc (Nat.le_refl _) _).alloc (by simp) _)
set_option maxHeartbeats 2000000 in
theorem negI_oth (t : TypeId) (x : Value) (ht : t ≠ 88) (w : World) : Calls Tryd.prog 72 #[.iface t x] w (VaR (.iface 104 (.agg #[.iface t x])) w) := by
  have t1 := taN_num t x ht
  have FN := hide (fun r w' (h : r = .returned (.iface 104 (.agg #[.iface t x]))) (hb : Below w.heap.size w w') => (show VaR _ w r w' from ⟨h, hb⟩))
  generalize VaR (.iface 104 (.agg #[.iface t x])) w = R at *
  clear ht
  go_enter Tryd.func72, Tryd.ntmps72
  go_wp2
  (first | go_ret2 | go_ret | skip)
  exact unhide FN _ _ rfl (by first | exact Below.refl _ _ | exact below_new w _ | exact ((Below.refl _ _).alloc (Nat.le_refl _) _).alloc (by simp) _)
theorem negI_any {d : Nat} {a : Ex} (h : okF (d + 1) false a = true) (w : World) : Calls Tryd.prog 72 #[tv a] w (VaR (tv (negX a)) w) := by
  unfold negX
  by_cases h1 : a.k = 1
  · obtain ⟨n, hn, rfl⟩ := ok_k1 h h1
    rw [if_pos h1, tv_num]
    unfold numX
    rw [tv_num]
    exact negI_num n hn w
  · obtain ⟨T, x, e, g, _, _⟩ := tv_kT h
    rw [if_neg h1, tv_neg, e]
    exact negI_oth T x (g h1) w
end Go.Proofs.YtkolflcjkofleaaDoor

namespace Go.Proofs.YtkolflcjkofleaaDoor
open Go.ChangeShapes Go.WideShapes Go.ChangeAt Go.RowKit
set_option linter.unusedVariables false
set_option maxRecDepth 8000
set_option linter.unusedSimpArgs false

theorem al1 {w w' : World} {o : Obj} (h : Below (w.alloc o).heap.size (w.alloc o) w') : Below w.heap.size w w' := (below_new w o).trans (h.mono (by simp))
theorem al2 {w w' : World} {o p : Obj} (h : Below ((w.alloc o).alloc p).heap.size ((w.alloc o).alloc p) w') : Below w.heap.size w w' := al1 (al1 h)
theorem al3 {w w' : World} {o p q : Obj} (h : Below (((w.alloc o).alloc p).alloc q).heap.size (((w.alloc o).alloc p).alloc q) w') : Below w.heap.size w w' := al1 (al2 h)
theorem al4 {w w' : World} {o p q s : Obj} (h : Below ((((w.alloc o).alloc p).alloc q).alloc s).heap.size ((((w.alloc o).alloc p).alloc q).alloc s) w') : Below w.heap.size w w' := al1 (al3 h)
/-- Whether a value is a number of the program's, and which (0, where it is none). -/
def IsN (v : Value) (z : Int) (q : Bool) : Prop := ∀ w, (Instr.typeAssert v 66 88 true).run Tryd.prog w = .ok (.tuple #[.agg #[.int .i64 z], .bool q]) w
theorem isN_of {d : Nat} {a : Ex} (h : okF (d + 1) false a = true) : (a.k = 1 ∧ (0 ≤ a.n ∧ a.n ≤ 65535) ∧ IsN (tv a) a.n true) ∨ (a.k ≠ 1 ∧ IsN (tv a) 0 false) := by
  by_cases h1 : a.k = 1
  · obtain ⟨n, hn, rfl⟩ := ok_k1 h h1
    left
    rw [tv_num]
    exact ⟨rfl, hn, fun w => taY_num _ w⟩
  · right
    obtain ⟨T, x, e, g, _, _⟩ := tv_kT h
    rw [e]
    exact ⟨h1, fun w => taN_num T x (g h1) w⟩
set_option maxHeartbeats 4000000 in
theorem fp_two (k : Int) (z1 z2 : Int) (v : Int) (hw : two11 k z1 z2 = some v) (tw : ∀ w, Calls Tryd.prog 88 #[.int .i64 k, .int .i64 z1, .int .i64 z2] w (TwoR k z1 z2 w)) (ta tb : TypeId) (xa xb : Value) (i1 : IsN (.iface ta xa) z1 true) (i2 : IsN (.iface tb xb) z2 true) (w : World) : Calls Tryd.prog 73 #[.int .i64 k, .agg #[.iface ta xa, .iface tb xb]] w (VaR (.iface 88 (.agg #[.int .i64 v])) w) := by
  have FN := hide (fun r w' (h : r = .returned (.iface 88 (.agg #[.int .i64 v]))) (hb : Below w.heap.size w w') => (show VaR _ w r w' from ⟨h, hb⟩))
  generalize VaR (.iface 88 (.agg #[.int .i64 v])) w = R at *
  unfold IsN at i1 i2
  have TW := hide tw
  unfold TwoR at TW
  rw [hw] at TW
  simp only [Option.getD_some, Option.isSome_some] at TW
  clear tw hw
  go_enter Tryd.func73, Tryd.ntmps73
  go_wp2_with (go_at_call 88; refine (unhide TW _).mono ?_; rintro r w0 ⟨hw0, rfl⟩; rw [hw0]; clear hw0 w0)
  (first | go_ret2 | go_ret | skip)
  exact unhide FN _ _ rfl (by first | exact Below.refl _ _ | exact al1 (Below.refl _ _) | exact al2 (Below.refl _ _) | exact al3 (Below.refl _ _) | exact al4 (Below.refl _ _))
set_option maxHeartbeats 4000000 in
theorem fp_none (k : Int) (z1 z2 : Int) (h5 : (k == 5) = false) (h6 : (k == 6) = false) (hw : two11 k z1 z2 = none) (tw : ∀ w, Calls Tryd.prog 88 #[.int .i64 k, .int .i64 z1, .int .i64 z2] w (TwoR k z1 z2 w)) (hk : inB k 5 10 = true) (ta tb : TypeId) (xa xb : Value) (i1 : IsN (.iface ta xa) z1 true) (i2 : IsN (.iface tb xb) z2 true) (w : World) : Calls Tryd.prog 73 #[.int .i64 k, .agg #[.iface ta xa, .iface tb xb]] w (VaR (.iface (pairT k) (.agg #[.iface ta xa, .iface tb xb])) w) := by
  have FN := hide (fun r w' (h : r = .returned (.iface (pairT k) (.agg #[.iface ta xa, .iface tb xb]))) (hb : Below w.heap.size w w') => (show VaR _ w r w' from ⟨h, hb⟩))
  generalize VaR (.iface (pairT k) (.agg #[.iface ta xa, .iface tb xb])) w = R at *
  unfold IsN at i1 i2
  have TW := hide tw
  unfold TwoR at TW
  rw [hw] at TW
  simp only [Option.getD_none, Option.isSome_none] at TW
  have PA := hide (fun w => pair_any k (.iface ta xa) (.iface tb xb) w)
  rw [hk] at PA
  simp only [forall_const] at PA
  clear tw hw hk
  generalize pairT k = pT at *
  go_enter Tryd.func73, Tryd.ntmps73
  go_wp2_with (go_at_call 88; refine (unhide TW _).mono ?_; rintro r w0 ⟨hw0, rfl⟩; rw [hw0]; clear hw0 w0)
  go_wp2_with fail
  refine (unhide PA _).mono ?_
  rintro r w1 ⟨x, rfl, rfl, hb1⟩
  have B1 := hide (show Below w.heap.size w w1 by first | exact hb1 | exact al1 hb1 | exact al2 hb1 | exact al3 hb1 | exact al4 hb1)
  clear hb1
  go_wp2
  (first | go_ret2 | go_ret | skip)
  exact unhide FN _ _ rfl (unhide B1)
set_option maxHeartbeats 4000000 in
theorem fp_oth (k : Int) (h5 : (k == 5) = false) (h6 : (k == 6) = false) (hk : inB k 5 10 = true) (q1 q2 : Bool) (hq : (q1 && q2) = false) (ta tb : TypeId) (xa xb : Value) (z1 z2 : Int) (i1 : IsN (.iface ta xa) z1 q1) (i2 : IsN (.iface tb xb) z2 q2) (w : World) : Calls Tryd.prog 73 #[.int .i64 k, .agg #[.iface ta xa, .iface tb xb]] w (VaR (.iface (pairT k) (.agg #[.iface ta xa, .iface tb xb])) w) := by
  have FN := hide (fun r w' (h : r = .returned (.iface (pairT k) (.agg #[.iface ta xa, .iface tb xb]))) (hb : Below w.heap.size w w') => (show VaR _ w r w' from ⟨h, hb⟩))
  generalize VaR (.iface (pairT k) (.agg #[.iface ta xa, .iface tb xb])) w = R at *
  unfold IsN at i1 i2
  have PA := hide (fun w => pair_any k (.iface ta xa) (.iface tb xb) w)
  rw [hk] at PA
  simp only [forall_const] at PA
  clear hk
  generalize pairT k = pT at *
  cases q1 <;> cases q2 <;> (first | cases hq | skip)
  all_goals
    go_enter Tryd.func73, Tryd.ntmps73
    go_wp2_with fail
    refine (unhide PA _).mono ?_
    rintro r w1 ⟨x, rfl, rfl, hb1⟩
    have B1 := hide (show Below w.heap.size w w1 by first | exact hb1 | exact al1 hb1 | exact al2 hb1 | exact al3 hb1 | exact al4 hb1)
    clear hb1
    go_wp2
    (first | go_ret2 | go_ret | skip)
    exact unhide FN _ _ rfl (unhide B1)
set_option maxHeartbeats 4000000 in
theorem fp_add0  (ta tb : TypeId) (xa xb : Value) (z1 z2 : Int) (i1 : IsN (.iface ta xa) z1 false) (i2 : IsN (.iface tb xb) z2 false) (w : World) : Calls Tryd.prog 73 #[.int .i64 5, .agg #[.iface ta xa, .iface tb xb]] w (VaR (.iface 134 (.agg #[.iface ta xa, .iface tb xb])) w) := by
  have FN := hide (fun r w' (h : r = .returned (.iface 134 (.agg #[.iface ta xa, .iface tb xb]))) (hb : Below w.heap.size w w') => (show VaR _ w r w' from ⟨h, hb⟩))
  generalize VaR (.iface 134 (.agg #[.iface ta xa, .iface tb xb])) w = R at *
  unfold IsN at i1 i2
  have PA := hide (fun w => pair_any 5 (.iface ta xa) (.iface tb xb) w)
  rw [show inB 5 5 10 = true by decide, show pairT 5 = 134 from rfl] at PA
  simp only [forall_const] at PA
  go_enter Tryd.func73, Tryd.ntmps73
  go_wp2_with fail
  refine (unhide PA _).mono ?_
  rintro r w1 ⟨x, rfl, rfl, hb1⟩
  have B1 := hide (show Below w.heap.size w w1 by first | exact hb1 | exact al1 hb1 | exact al2 hb1 | exact al3 hb1 | exact al4 hb1)
  clear hb1
  go_wp2
  (first | go_ret2 | go_ret | skip)
  exact unhide FN _ _ rfl (unhide B1)
set_option maxHeartbeats 4000000 in
theorem fp_add1 (V : Value) (z1 : Int) (tb : TypeId) (xb : Value) (ad : ∀ w, Calls Tryd.prog 89 #[.iface tb xb, .int .i64 z1] w (VaR V w)) (ta : TypeId) (xa : Value) (z2 : Int) (i1 : IsN (.iface ta xa) z1 true) (i2 : IsN (.iface tb xb) z2 false) (w : World) : Calls Tryd.prog 73 #[.int .i64 5, .agg #[.iface ta xa, .iface tb xb]] w (VaR (V) w) := by
  have FN := hide (fun r w' (h : r = .returned (V)) (hb : Below w.heap.size w w') => (show VaR _ w r w' from ⟨h, hb⟩))
  generalize VaR (V) w = R at *
  unfold IsN at i1 i2
  have AD := hide ad
  unfold VaR at AD
  clear ad
  go_enter Tryd.func73, Tryd.ntmps73
  go_wp2_with fail
  refine (unhide AD _).mono ?_
  rintro r w1 ⟨rfl, hb1⟩
  have B1 := hide (show Below w.heap.size w w1 by first | exact hb1 | exact al1 hb1 | exact al2 hb1 | exact al3 hb1 | exact al4 hb1)
  clear hb1
  go_wp2
  (first | go_ret2 | go_ret | skip)
  exact unhide FN _ _ rfl (unhide B1)
set_option maxHeartbeats 4000000 in
theorem fp_add2 (V : Value) (z2 : Int) (ta : TypeId) (xa : Value) (ad : ∀ w, Calls Tryd.prog 89 #[.iface ta xa, .int .i64 z2] w (VaR V w)) (tb : TypeId) (xb : Value) (z1 : Int) (i1 : IsN (.iface ta xa) z1 false) (i2 : IsN (.iface tb xb) z2 true) (w : World) : Calls Tryd.prog 73 #[.int .i64 5, .agg #[.iface ta xa, .iface tb xb]] w (VaR (V) w) := by
  have FN := hide (fun r w' (h : r = .returned (V)) (hb : Below w.heap.size w w') => (show VaR _ w r w' from ⟨h, hb⟩))
  generalize VaR (V) w = R at *
  unfold IsN at i1 i2
  have AD := hide ad
  unfold VaR at AD
  clear ad
  go_enter Tryd.func73, Tryd.ntmps73
  go_wp2_with fail
  refine (unhide AD _).mono ?_
  rintro r w1 ⟨rfl, hb1⟩
  have B1 := hide (show Below w.heap.size w w1 by first | exact hb1 | exact al1 hb1 | exact al2 hb1 | exact al3 hb1 | exact al4 hb1)
  clear hb1
  go_wp2
  (first | go_ret2 | go_ret | skip)
  exact unhide FN _ _ rfl (unhide B1)
set_option maxHeartbeats 4000000 in
theorem fp_sub2 (V : Value) (z2 : Int) (hz : 0 ≤ z2 ∧ z2 ≤ 65535) (ta : TypeId) (xa : Value) (ad : ∀ w, Calls Tryd.prog 89 #[.iface ta xa, .int .i64 (-z2)] w (VaR V w)) (tb : TypeId) (xb : Value) (z1 : Int) (i1 : IsN (.iface ta xa) z1 false) (i2 : IsN (.iface tb xb) z2 true) (w : World) : Calls Tryd.prog 73 #[.int .i64 6, .agg #[.iface ta xa, .iface tb xb]] w (VaR (V) w) := by
  have FN := hide (fun r w' (h : r = .returned (V)) (hb : Below w.heap.size w w') => (show VaR _ w r w' from ⟨h, hb⟩))
  generalize VaR (V) w = R at *
  unfold IsN at i1 i2
  have AD := hide ad
  unfold VaR at AD
  clear ad
  go_enter Tryd.func73, Tryd.ntmps73
  go_wp2_with fail
  refine (unhide AD _).mono ?_
  rintro r w1 ⟨rfl, hb1⟩
  have B1 := hide (show Below w.heap.size w w1 by first | exact hb1 | exact al1 hb1 | exact al2 hb1 | exact al3 hb1 | exact al4 hb1)
  clear hb1
  go_wp2
  (first | go_ret2 | go_ret | skip)
  exact unhide FN _ _ rfl (unhide B1)
set_option maxHeartbeats 4000000 in
theorem fp_sub0 (n m : Int) (ta tb : TypeId) (xa xb : Value) (q1 : Bool) (ap : ∀ w, Calls Tryd.prog 90 #[.agg #[.iface ta xa, .iface tb xb]] w (ApR n m false w)) (z1 z2 : Int) (i1 : IsN (.iface ta xa) z1 q1) (i2 : IsN (.iface tb xb) z2 false) (w : World) : Calls Tryd.prog 73 #[.int .i64 6, .agg #[.iface ta xa, .iface tb xb]] w (VaR (.iface 135 (.agg #[.iface ta xa, .iface tb xb])) w) := by
  have FN := hide (fun r w' (h : r = .returned (.iface 135 (.agg #[.iface ta xa, .iface tb xb]))) (hb : Below w.heap.size w w') => (show VaR _ w r w' from ⟨h, hb⟩))
  generalize VaR (.iface 135 (.agg #[.iface ta xa, .iface tb xb])) w = R at *
  unfold IsN at i1 i2
  have AP := hide ap
  unfold ApR at AP
  clear ap
  generalize wr (n - m) = nm at *
  have G0 := hide (show (w.alloc (.cells #[.iface ta xa, .iface tb xb] 107)).heap[w.heap.size]? = some (.cells #[.iface ta xa, .iface tb xb] 107 (0, 0)) from Array.getElem?_push_size)
  have PA := hide (fun w => pair_any 6 (.iface ta xa) (.iface tb xb) w)
  rw [show inB 6 5 10 = true by decide, show pairT 6 = 135 from rfl] at PA
  simp only [forall_const] at PA
  cases q1
  all_goals
    go_enter Tryd.func73, Tryd.ntmps73
    go_wp2_with fail
    refine (unhide AP _).mono ?_
    rintro r w1 ⟨rfl, hb1⟩
    have G1 : w1.heap[w.heap.size]? = some (.cells #[.iface ta xa, .iface tb xb] 107 (0, 0)) := by first | exact row_keep (unhide G0) hb1 | exact row_keep (unhide G0) (al1 hb1) | exact row_keep (unhide G0) (al2 hb1) | exact row_keep (unhide G0) (al3 hb1)
    have p0 := Lib.cell_of_heap G1 0
    have p1 := Lib.cell_of_heap G1 1
    have B1 := hide (show Below w.heap.size w w1 by first | exact hb1 | exact al1 hb1 | exact al2 hb1 | exact al3 hb1 | exact al4 hb1)
    clear hb1 G1
    go_wp2_with fail
    refine (unhide PA _).mono ?_
    rintro r w2 ⟨x, rfl, rfl, hb2⟩
    have B2 := hide (show Below w.heap.size w w2 from (unhide B1).trans (hb2.mono (unhide B1).size))
    clear hb2
    go_wp2
    (first | go_ret2 | go_ret | skip)
    exact unhide FN _ _ rfl (unhide B2)
set_option maxHeartbeats 4000000 in
theorem fp_sub1 (n m : Int) (ta tb : TypeId) (xa xb : Value) (q1 : Bool) (ap : ∀ w, Calls Tryd.prog 90 #[.agg #[.iface ta xa, .iface tb xb]] w (ApR n m true w)) (z1 z2 : Int) (i1 : IsN (.iface ta xa) z1 q1) (i2 : IsN (.iface tb xb) z2 false) (w : World) : Calls Tryd.prog 73 #[.int .i64 6, .agg #[.iface ta xa, .iface tb xb]] w (VaR (.iface 88 (.agg #[.int .i64 (wr (n - m))])) w) := by
  have FN := hide (fun r w' (h : r = .returned (.iface 88 (.agg #[.int .i64 (wr (n - m))]))) (hb : Below w.heap.size w w') => (show VaR _ w r w' from ⟨h, hb⟩))
  generalize VaR (.iface 88 (.agg #[.int .i64 (wr (n - m))])) w = R at *
  unfold IsN at i1 i2
  have AP := hide ap
  unfold ApR at AP
  clear ap
  generalize wr (n - m) = nm at *
  have G0 := hide (show (w.alloc (.cells #[.iface ta xa, .iface tb xb] 107)).heap[w.heap.size]? = some (.cells #[.iface ta xa, .iface tb xb] 107 (0, 0)) from Array.getElem?_push_size)
  cases q1
  all_goals
    go_enter Tryd.func73, Tryd.ntmps73
    go_wp2_with fail
    refine (unhide AP _).mono ?_
    rintro r w1 ⟨rfl, hb1⟩
    have G1 : w1.heap[w.heap.size]? = some (.cells #[.iface ta xa, .iface tb xb] 107 (0, 0)) := by first | exact row_keep (unhide G0) hb1 | exact row_keep (unhide G0) (al1 hb1) | exact row_keep (unhide G0) (al2 hb1) | exact row_keep (unhide G0) (al3 hb1)
    have p0 := Lib.cell_of_heap G1 0
    have p1 := Lib.cell_of_heap G1 1
    have B1 := hide (show Below w.heap.size w w1 by first | exact hb1 | exact al1 hb1 | exact al2 hb1 | exact al3 hb1 | exact al4 hb1)
    clear hb1 G1
    go_wp2
    (first | go_ret2 | go_ret | skip)
    exact unhide FN _ _ rfl (unhide B1)
theorem foldPI_any {d : Nat} {k : Int} {a b : Ex} (hk : 5 ≤ k ∧ k ≤ 10) (ha : okF (d + 1) false a = true) (hb : okF (d + 1) false b = true) (w : World) : Calls Tryd.prog 73 #[.int .i64 k, .agg #[tv a, tv b]] w (VaR (tv (foldN k a b)) w) := by
  have AA := fun (n : Int) (hn : -65536 ≤ n ∧ n ≤ 65536) w => addI_any ha n hn w
  have AB := fun (n : Int) (hn : -65536 ≤ n ∧ n ≤ 65536) w => addI_any hb n hn w
  have AP := fun w => apI_any ha hb w
  have IA := isN_of ha
  have IB := isN_of hb
  have TT := fun (k' : Int) (hk' : 5 ≤ k' ∧ k' ≤ 10) => tv_two hk' 0 E0 a b
  obtain ⟨ta, xa, ea⟩ := tv_if a
  obtain ⟨tb, xb, eb⟩ := tv_if b
  rw [ea] at IA AA AP TT ⊢
  rw [eb] at IB AB AP TT ⊢
  have hi : inB k 5 10 = true := inB_t _ _ _ hk.1 hk.2
  rcases IA with ⟨a1, an, ia⟩ | ⟨a1, ia⟩
  · rcases IB with ⟨b1, bn, ib⟩ | ⟨b1, ib⟩
    · have TW := fun w => twoI_any k a.n b.n hk an bn w
      have E : foldN k a b = (match two11 k a.n b.n with | some n => numX n | none => mixX k a b) := by unfold foldN; exact if_pos ⟨a1, b1⟩
      rw [E]
      cases hw : two11 k a.n b.n with
      | some v =>
        simp only
        unfold numX
        rw [tv_num, wr_of (two11_in hk an bn hw)]
        exact fp_two k a.n b.n v hw TW ta tb xa xb ia ib w
      | none =>
        simp only
        have k5 : k ≠ 5 := fun h => by obtain ⟨n, hn⟩ := two11_some (k := k) (a := a.n) (b := b.n) (.inl h); rw [hn] at hw; cases hw
        have k6 : k ≠ 6 := fun h => by obtain ⟨n, hn⟩ := two11_some (k := k) (a := a.n) (b := b.n) (.inr h); rw [hn] at hw; cases hw
        unfold mixX
        rw [if_neg k6, if_neg (fun h => k5 h.1), if_neg (fun h => k5 h.1), TT k hk]
        exact fp_none k a.n b.n (beq_eq_false_iff_ne.2 k5) (beq_eq_false_iff_ne.2 k6) hw TW hi ta tb xa xb ia ib w
    · have E : foldN k a b = mixX k a b := by unfold foldN; rw [if_neg (fun h => b1 h.2)]
      rw [E]
      unfold mixX
      by_cases k6 : k = 6
      · subst k6
        rw [if_pos rfl]
        unfold subX
        rw [if_neg b1]
        unfold sApX at AP
        by_cases hs : (prtX a).1.k = 11 ∧ (prtX b).1.k = 11 ∧ (prtX a).1.n = (prtX b).1.n
        · rw [if_pos hs]
          unfold numX
          rw [tv_num]
          rw [decide_eq_true hs] at AP
          exact fp_sub1 _ _ ta tb xa xb true AP _ _ ia ib w
        · rw [if_neg hs, TT 6 (by omega)]
          rw [decide_eq_false hs] at AP
          exact fp_sub0 _ _ ta tb xa xb true AP _ _ ia ib w
      · by_cases k5 : k = 5
        · subst k5
          rw [if_neg k6, if_pos ⟨rfl, a1⟩]
          exact fp_add1 _ a.n tb xb (AB a.n (by omega)) ta xa _ ia ib w
        · rw [if_neg k6, if_neg (fun h => k5 h.1), if_neg (fun h => k5 h.1), TT k hk]
          exact fp_oth k (beq_eq_false_iff_ne.2 k5) (beq_eq_false_iff_ne.2 k6) hi true false rfl ta tb xa xb _ _ ia ib w
  · have E : foldN k a b = mixX k a b := by unfold foldN; rw [if_neg (fun h => a1 h.1)]
    rw [E]
    unfold mixX
    rcases IB with ⟨b1, bn, ib⟩ | ⟨b1, ib⟩
    · by_cases k6 : k = 6
      · subst k6
        rw [if_pos rfl]
        unfold subX
        rw [if_pos b1]
        exact fp_sub2 _ b.n bn ta xa (AA (-b.n) (by omega)) tb xb _ ia ib w
      · by_cases k5 : k = 5
        · subst k5
          rw [if_neg k6, if_neg (fun h => a1 h.2), if_pos ⟨rfl, b1⟩]
          exact fp_add2 _ b.n ta xa (AA b.n (by omega)) tb xb _ ia ib w
        · rw [if_neg k6, if_neg (fun h => k5 h.1), if_neg (fun h => k5 h.1), TT k hk]
          exact fp_oth k (beq_eq_false_iff_ne.2 k5) (beq_eq_false_iff_ne.2 k6) hi false true rfl ta tb xa xb _ _ ia ib w
    · by_cases k6 : k = 6
      · subst k6
        rw [if_pos rfl]
        unfold subX
        rw [if_neg b1]
        unfold sApX at AP
        by_cases hs : (prtX a).1.k = 11 ∧ (prtX b).1.k = 11 ∧ (prtX a).1.n = (prtX b).1.n
        · rw [if_pos hs]
          unfold numX
          rw [tv_num]
          rw [decide_eq_true hs] at AP
          exact fp_sub1 _ _ ta tb xa xb false AP _ _ ia ib w
        · rw [if_neg hs, TT 6 (by omega)]
          rw [decide_eq_false hs] at AP
          exact fp_sub0 _ _ ta tb xa xb false AP _ _ ia ib w
      · by_cases k5 : k = 5
        · subst k5
          rw [if_neg k6, if_neg (fun h => a1 h.2), if_neg (fun h => b1 h.2), TT 5 hk]
          exact fp_add0 ta tb xa xb _ _ ia ib w
        · rw [if_neg k6, if_neg (fun h => k5 h.1), if_neg (fun h => k5 h.1), TT k hk]
          exact fp_oth k (beq_eq_false_iff_ne.2 k5) (beq_eq_false_iff_ne.2 k6) hi false false rfl ta tb xa xb _ _ ia ib w
end Go.Proofs.YtkolflcjkofleaaDoor

namespace Go.Proofs.YtkolflcjkofleaaDoor
open Go.ChangeShapes Go.WideShapes Go.ChangeAt Go.RowKit
set_option linter.unusedVariables false
set_option maxRecDepth 8000
set_option linter.unusedSimpArgs false

def XoR (e : Ex) (w : World) (r : Ending) (w' : World) : Prop := ∃ (c : Option Addr) (cp : Nat), r = .returned (.agg (e.cs c cp)) ∧ NewX w' w.heap.size e c ∧ Below w.heap.size w w'
/-- The two rows of exprOf: what it answers, and the term that it fills. -/
structure Xb (w wr : World) (k n : Int) (s : ByteArray) (v : Value) : Prop where
  bel : Below w.heap.size w wr
  lt : w.heap.size + 2 ≤ wr.heap.size
  res : wr.heap[w.heap.size]? = some (.cells #[.int .i64 0, .int .i64 0, .string ⟨#[]⟩, .slice none 0 0] 26 (0, 0))
  box : wr.heap[w.heap.size + 1]? = some (.cells #[.int .i64 k, .int .i64 n, .string s, v] 26 (0, 0))
section
variable {w wr w' : World} {k n : Int} {s : ByteArray} {v : Value}
theorem Xb.later (h : Xb w wr k n s v) (hb : Below wr.heap.size wr w') : Xb w w' k n s v :=
  ⟨h.bel.trans (hb.mono h.bel.size), Nat.le_trans h.lt hb.size, row_keep h.res hb, row_keep h.box hb⟩
theorem Xb.grown {g : Nat} (h : Xb w wr k n s v) (hg : wr.grownBy w' (some g)) (hl : w.heap.size + 2 ≤ g) : Xb w w' k n s v :=
  ⟨h.bel.grown hg h.bel.size (fun q e => by cases e; omega), Nat.le_trans h.lt hg.size, (hg.block _ (Array.getElem?_eq_some_iff.1 h.res).1 (fun e => by simp at e; omega)).trans h.res, (hg.block _ (Array.getElem?_eq_some_iff.1 h.box).1 (fun e => by simp at e; omega)).trans h.box⟩
theorem Xb.set2 (h : Xb w wr k n s v) (x : ByteArray) : Xb w (wr.setCell ⟨w.heap.size + 1, 2, none⟩ (.string x)) k n x v := by
  refine ⟨h.bel.setCell (p := ⟨w.heap.size + 1, 2, none⟩) (Nat.le_succ _) _, by simp; exact h.lt, (heap_setCell_other wr ⟨w.heap.size + 1, 2, none⟩ w.heap.size _ (fun e => by have e' : w.heap.size = w.heap.size + 1 := e; omega)).trans h.res, ?_⟩
  rw [heap_setCell_same wr (w.heap.size + 1) 2 _ 26 (.string x) h.box]
  rfl
theorem Xb.set3 (h : Xb w wr k n s v) (x : Value) : Xb w (wr.setCell ⟨w.heap.size + 1, 3, none⟩ x) k n s x := by
  refine ⟨h.bel.setCell (p := ⟨w.heap.size + 1, 3, none⟩) (Nat.le_succ _) _, by simp; exact h.lt, (heap_setCell_other wr ⟨w.heap.size + 1, 3, none⟩ w.heap.size _ (fun e => by have e' : w.heap.size = w.heap.size + 1 := e; omega)).trans h.res, ?_⟩
  rw [heap_setCell_same wr (w.heap.size + 1) 3 _ 26 x h.box]
  rfl
theorem Xb.new2 (w : World) (k : Int) : Xb w ((w.alloc (.cells #[.int .i64 0, .int .i64 0, .string ⟨#[]⟩, .slice none 0 0] 26)).alloc (.cells #[.int .i64 k, .int .i64 n, .string s, v] 26)) k n s v := by
  have h1 := two_new w (.cells #[.int .i64 0, .int .i64 0, .string ⟨#[]⟩, .slice none 0 0] 26) (.cells #[.int .i64 k, .int .i64 n, .string s, v] 26)
  refine ⟨h1.2, by simp, ?_, h1.1⟩
  exact row_keep (heap_alloc_new w _) (below_new _ _)
theorem Xb.new3 (w : World) (k : Int) (o : Obj) : Xb w (((w.alloc (.cells #[.int .i64 0, .int .i64 0, .string ⟨#[]⟩, .slice none 0 0] 26)).alloc (.cells #[.int .i64 k, .int .i64 n, .string s, v] 26)).alloc o) k n s v := (Xb.new2 w k).later (below_new _ o)
theorem Xb.end {l : List Ex} {c : Option Addr} {cp : Nat} (h : Xb w wr k n s (.slice c l.length cp)) (hn : NewX wr (w.heap.size + 1) ⟨k, n, s, l⟩ c) (row : Array Value) : XoR ⟨k, n, s, l⟩ w (.returned (.agg #[.int .i64 k, .int .i64 n, .string s, .slice c l.length cp])) (wr.setRow w.heap.size row) :=
  ⟨c, cp, rfl, (hn.row _ (Nat.lt_succ_self _)).lower (Nat.le_succ _), h.bel.grown (grownBy_row _) h.bel.size (fun k e => by cases e; exact Nat.le_refl _)⟩
end
set_option maxHeartbeats 4000000 in
theorem xo_num (n : Int) (w : World) : Calls Tryd.prog 47 #[.iface 88 (.agg #[.int .i64 n])] w (XoR ⟨1, n, E0, []⟩ w) := by
  have KD := hide (fun w => kind_num n E0 0 0 .nilIface .nilIface w)
  have tt := taY_num (.agg #[.int .i64 n])
  have m := me_num (.int .i64 n)
  have X0 := hide (Xb.new3 (n := n) (s := ⟨#[]⟩) (v := .slice none 0 0) w 1 (.cells #[.int .i64 n] 88))
  generalize hX : XoR ⟨1, n, E0, []⟩ w = X
  have HX := hide hX
  clear hX
  go_enter Tryd.func47, Tryd.ntmps47
  go_wp2_with (first | (go_at_call 71; refine (unhide KD _).mono ?_; rintro r w' ⟨rfl, hw'⟩; rw [hw']; clear hw' w'))
  generalize ((w.alloc (.cells #[.int .i64 0, .int .i64 0, .string ⟨#[]⟩, .slice none 0 0] 26)).alloc (.cells #[.int .i64 1, .int .i64 n, .string ⟨#[]⟩, .slice none 0 0] 26)).alloc (.cells #[.int .i64 n] 88) = W at *
  refine (parts0 W).mono ?_
  rintro r w1 ⟨rfl, hb1⟩
  have X1 := hide ((unhide X0).later hb1)
  clear hb1 X0
  go_wp2
  refine wp_loop_rounds 1 ?_
  rw [rounds_succ]
  go_wp2_with (first | (refine wpList_load_row rfl 26 _ rfl (w.heap.size + 1) rfl 26 #[.int .i64 1, .int .i64 n, .string ⟨#[]⟩, .slice none 0 0] (0, 0) _ (unhide X1).box Tryd.underlying26 rfl (by kernel_rfl) ?_) | (refine wpList_store_row rfl 26 _ _ rfl w.heap.size #[.int .i64 1, .int .i64 n, .string ⟨#[]⟩, .slice none 0 0] rfl rfl 26 _ (unhide X1).res szE rfl (ex_one _ _ _ _ _ _) ?_))
  refine bodyPost_ret (results_cell_row (P := Tryd.prog) rfl _ _ w.heap.size 26 #[.int .i64 1, .int .i64 n, .string ⟨#[]⟩, .slice none 0 0] (0, 0) _ rfl (setRow_heap _ _ _ _ _ _ (unhide X1).res) Tryd.underlying26 rfl szE) rfl ?_
  rw [← unhide HX]
  exact Xb.end (l := []) (unhide X1) (NewX.nil _ _ _ _ _ _) _
set_option maxHeartbeats 4000000 in
theorem xo_here (w : World) : Calls Tryd.prog 47 #[.iface 130 (.agg #[])] w (XoR ⟨3, 0, E0, []⟩ w) := by
  have KD := hide (fun w => kind_here 0 E0 0 0 .nilIface .nilIface w)
  have t0 := taN_num 130 (.agg #[]) (by decide)
  have t1 := taN_sect 130 (.agg #[]) (by decide)
  have t2 := taN_sym 130 (.agg #[]) (by decide)
  have t3 := taN_glob 130 (.agg #[]) (by decide)
  have m := me_here
  have X0 := hide (Xb.new2 (n := 0) (s := ⟨#[]⟩) (v := .slice none 0 0) w 3)
  generalize hX : XoR ⟨3, 0, E0, []⟩ w = X
  have HX := hide hX
  clear hX
  go_enter Tryd.func47, Tryd.ntmps47
  go_wp2_with (first | (go_at_call 71; refine (unhide KD _).mono ?_; rintro r w' ⟨rfl, hw'⟩; rw [hw']; clear hw' w'))
  generalize (w.alloc (.cells #[.int .i64 0, .int .i64 0, .string ⟨#[]⟩, .slice none 0 0] 26)).alloc (.cells #[.int .i64 3, .int .i64 0, .string ⟨#[]⟩, .slice none 0 0] 26) = W at *
  refine (parts0 W).mono ?_
  rintro r w1 ⟨rfl, hb1⟩
  have X1 := hide ((unhide X0).later hb1)
  clear hb1 X0
  go_wp2
  refine wp_loop_rounds 1 ?_
  rw [rounds_succ]
  go_wp2_with (first | (refine wpList_load_row rfl 26 _ rfl (w.heap.size + 1) rfl 26 #[.int .i64 3, .int .i64 0, .string ⟨#[]⟩, .slice none 0 0] (0, 0) _ (unhide X1).box Tryd.underlying26 rfl (by kernel_rfl) ?_) | (refine wpList_store_row rfl 26 _ _ rfl w.heap.size #[.int .i64 3, .int .i64 0, .string ⟨#[]⟩, .slice none 0 0] rfl rfl 26 _ (unhide X1).res szE rfl (ex_one _ _ _ _ _ _) ?_))
  refine bodyPost_ret (results_cell_row (P := Tryd.prog) rfl _ _ w.heap.size 26 #[.int .i64 3, .int .i64 0, .string ⟨#[]⟩, .slice none 0 0] (0, 0) _ rfl (setRow_heap _ _ _ _ _ _ (unhide X1).res) Tryd.underlying26 rfl szE) rfl ?_
  rw [← unhide HX]
  exact Xb.end (l := []) (unhide X1) (NewX.nil _ _ _ _ _ _) _
set_option maxHeartbeats 4000000 in
theorem xo_sym (s : ByteArray) (hs : s.size ≤ 1048576) (w : World) : Calls Tryd.prog 47 #[.iface 117 (.agg #[.string s])] w (XoR ⟨2, 0, s, []⟩ w) := by
  have KD := hide (fun w => kind_sym 0 s 0 0 .nilIface .nilIface w)
  have t0 := taN_num 117 (.agg #[.string s]) (by decide)
  have t1 := taN_sect 117 (.agg #[.string s]) (by decide)
  have tt := taY_sym (.agg #[.string s])
  have m := me_sym (.string s)
  have X0 := hide (Xb.new3 (n := 0) (s := ⟨#[]⟩) (v := .slice none 0 0) w 2 (.cells #[.string s] 117))
  generalize hX : XoR ⟨2, 0, s, []⟩ w = X
  have HX := hide hX
  clear hX
  go_enter Tryd.func47, Tryd.ntmps47
  go_wp2_with (first | (go_at_call 71; refine (unhide KD _).mono ?_; rintro r w' ⟨rfl, hw'⟩; rw [hw']; clear hw' w'))
  generalize ((w.alloc (.cells #[.int .i64 0, .int .i64 0, .string ⟨#[]⟩, .slice none 0 0] 26)).alloc (.cells #[.int .i64 2, .int .i64 0, .string ⟨#[]⟩, .slice none 0 0] 26)).alloc (.cells #[.string s] 117) = W at *
  refine (cloneI_any s W (by omega)).mono ?_
  rintro r w1 ⟨rfl, hb1⟩
  have X1 := (unhide X0).later hb1
  have f2 : w1.frozen? ⟨w.heap.size + 1, 2, none⟩ = false := by simp [World.frozen?, X1.box]
  have c2 := Lib.cell_of_heap X1.box 2
  have X2 := hide (X1.set2 s)
  clear hb1 X0 X1
  go_wp2_with fail
  generalize w1.setCell ⟨w.heap.size + 1, 2, none⟩ (.string s) = w2 at *
  clear f2 c2
  refine (parts0 w2).mono ?_
  rintro r w3 ⟨rfl, hb3⟩
  have X3 := hide ((unhide X2).later hb3)
  clear hb3 X2
  go_wp2
  refine wp_loop_rounds 1 ?_
  rw [rounds_succ]
  go_wp2_with (first | (refine wpList_load_row rfl 26 _ rfl (w.heap.size + 1) rfl 26 #[.int .i64 2, .int .i64 0, .string s, .slice none 0 0] (0, 0) _ (unhide X3).box Tryd.underlying26 rfl (by kernel_rfl) ?_) | (refine wpList_store_row rfl 26 _ _ rfl w.heap.size #[.int .i64 2, .int .i64 0, .string s, .slice none 0 0] rfl rfl 26 _ (unhide X3).res szE rfl (ex_one _ _ _ _ _ _) ?_))
  refine bodyPost_ret (results_cell_row (P := Tryd.prog) rfl _ _ w.heap.size 26 #[.int .i64 2, .int .i64 0, .string s, .slice none 0 0] (0, 0) _ rfl (setRow_heap _ _ _ _ _ _ (unhide X3).res) Tryd.underlying26 rfl szE) rfl ?_
  rw [← unhide HX]
  exact Xb.end (l := []) (unhide X3) (NewX.nil _ _ _ _ _ _) _
set_option maxHeartbeats 4000000 in
theorem xo_sect (n : Int) (w : World) : Calls Tryd.prog 47 #[.iface 115 (.agg #[.int .i64 n])] w (XoR ⟨11, n, E0, []⟩ w) := by
  have KD := hide (fun w => kind_sect n E0 0 0 .nilIface .nilIface w)
  have t0 := taN_num 115 (.agg #[.int .i64 n]) (by decide)
  have tt := taY_sect (.agg #[.int .i64 n])
  have m := me_sect (.int .i64 n)
  have X0 := hide (Xb.new3 (n := n) (s := ⟨#[]⟩) (v := .slice none 0 0) w 11 (.cells #[.int .i64 n] 115))
  generalize hX : XoR ⟨11, n, E0, []⟩ w = X
  have HX := hide hX
  clear hX
  go_enter Tryd.func47, Tryd.ntmps47
  go_wp2_with (first | (go_at_call 71; refine (unhide KD _).mono ?_; rintro r w' ⟨rfl, hw'⟩; rw [hw']; clear hw' w'))
  generalize ((w.alloc (.cells #[.int .i64 0, .int .i64 0, .string ⟨#[]⟩, .slice none 0 0] 26)).alloc (.cells #[.int .i64 11, .int .i64 n, .string ⟨#[]⟩, .slice none 0 0] 26)).alloc (.cells #[.int .i64 n] 115) = W at *
  refine (parts0 W).mono ?_
  rintro r w1 ⟨rfl, hb1⟩
  have X1 := hide ((unhide X0).later hb1)
  clear hb1 X0
  go_wp2
  refine wp_loop_rounds 1 ?_
  rw [rounds_succ]
  go_wp2_with (first | (refine wpList_load_row rfl 26 _ rfl (w.heap.size + 1) rfl 26 #[.int .i64 11, .int .i64 n, .string ⟨#[]⟩, .slice none 0 0] (0, 0) _ (unhide X1).box Tryd.underlying26 rfl (by kernel_rfl) ?_) | (refine wpList_store_row rfl 26 _ _ rfl w.heap.size #[.int .i64 11, .int .i64 n, .string ⟨#[]⟩, .slice none 0 0] rfl rfl 26 _ (unhide X1).res szE rfl (ex_one _ _ _ _ _ _) ?_))
  refine bodyPost_ret (results_cell_row (P := Tryd.prog) rfl _ _ w.heap.size 26 #[.int .i64 11, .int .i64 n, .string ⟨#[]⟩, .slice none 0 0] (0, 0) _ rfl (setRow_heap _ _ _ _ _ _ (unhide X1).res) Tryd.underlying26 rfl szE) rfl ?_
  rw [← unhide HX]
  exact Xb.end (l := []) (unhide X1) (NewX.nil _ _ _ _ _ _) _
set_option maxHeartbeats 4000000 in
theorem xo_glob (s : ByteArray) (hs : s.size ≤ 1048576) (w : World) : Calls Tryd.prog 47 #[.iface 118 (.agg #[.string s])] w (XoR ⟨12, 0, s, []⟩ w) := by
  have KD := hide (fun w => kind_glob 0 s 0 0 .nilIface .nilIface w)
  have t0 := taN_num 118 (.agg #[.string s]) (by decide)
  have t1 := taN_sect 118 (.agg #[.string s]) (by decide)
  have t2 := taN_sym 118 (.agg #[.string s]) (by decide)
  have tt := taY_glob (.agg #[.string s])
  have m := me_glob (.string s)
  have X0 := hide (Xb.new3 (n := 0) (s := ⟨#[]⟩) (v := .slice none 0 0) w 12 (.cells #[.string s] 118))
  generalize hX : XoR ⟨12, 0, s, []⟩ w = X
  have HX := hide hX
  clear hX
  go_enter Tryd.func47, Tryd.ntmps47
  go_wp2_with (first | (go_at_call 71; refine (unhide KD _).mono ?_; rintro r w' ⟨rfl, hw'⟩; rw [hw']; clear hw' w'))
  generalize ((w.alloc (.cells #[.int .i64 0, .int .i64 0, .string ⟨#[]⟩, .slice none 0 0] 26)).alloc (.cells #[.int .i64 12, .int .i64 0, .string ⟨#[]⟩, .slice none 0 0] 26)).alloc (.cells #[.string s] 118) = W at *
  refine (cloneI_any s W (by omega)).mono ?_
  rintro r w1 ⟨rfl, hb1⟩
  have X1 := (unhide X0).later hb1
  have f2 : w1.frozen? ⟨w.heap.size + 1, 2, none⟩ = false := by simp [World.frozen?, X1.box]
  have c2 := Lib.cell_of_heap X1.box 2
  have X2 := hide (X1.set2 s)
  clear hb1 X0 X1
  go_wp2_with fail
  generalize w1.setCell ⟨w.heap.size + 1, 2, none⟩ (.string s) = w2 at *
  clear f2 c2
  refine (parts0 w2).mono ?_
  rintro r w3 ⟨rfl, hb3⟩
  have X3 := hide ((unhide X2).later hb3)
  clear hb3 X2
  go_wp2
  refine wp_loop_rounds 1 ?_
  rw [rounds_succ]
  go_wp2_with (first | (refine wpList_load_row rfl 26 _ rfl (w.heap.size + 1) rfl 26 #[.int .i64 12, .int .i64 0, .string s, .slice none 0 0] (0, 0) _ (unhide X3).box Tryd.underlying26 rfl (by kernel_rfl) ?_) | (refine wpList_store_row rfl 26 _ _ rfl w.heap.size #[.int .i64 12, .int .i64 0, .string s, .slice none 0 0] rfl rfl 26 _ (unhide X3).res szE rfl (ex_one _ _ _ _ _ _) ?_))
  refine bodyPost_ret (results_cell_row (P := Tryd.prog) rfl _ _ w.heap.size 26 #[.int .i64 12, .int .i64 0, .string s, .slice none 0 0] (0, 0) _ rfl (setRow_heap _ _ _ _ _ _ (unhide X3).res) Tryd.underlying26 rfl szE) rfl ?_
  rw [← unhide HX]
  exact Xb.end (l := []) (unhide X3) (NewX.nil _ _ _ _ _ _) _
end Go.Proofs.YtkolflcjkofleaaDoor
