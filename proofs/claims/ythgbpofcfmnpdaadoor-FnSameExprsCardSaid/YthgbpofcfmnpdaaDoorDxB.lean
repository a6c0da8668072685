/- Draws of terms; over this seat's translation; conditions stand as hypotheses of each. -/
import Derived.Test.YthgbpofcfmnpdaaDoorDxA
namespace Go.Proofs.YthgbpofcfmnpdaaDoor
open Go.ChangeShapes Go.WideShapes Go.ChangeAt Go.RowKit
set_option linter.unusedVariables false
set_option maxRecDepth 8000
set_option linter.unusedSimpArgs false

/-- The parts of a term in blocks of its own from B on, all below C. -/
def HalfX (w : World) (B C : Nat) (e : Ex) (a : Option Addr) : Prop := ∃ F, OwX w e a F ∧ F.Nodup ∧ ∀ b ∈ F, B ≤ b ∧ b < C
theorem NewX.half {w : World} {B : Nat} {e : Ex} {a : Option Addr} (h : NewX w B e a) : HalfX w B w.heap.size e a := by
  obtain ⟨F, h1, h2, h3⟩ := h
  exact ⟨F, h1, h2, fun b hb => ⟨h3 b hb, OwX.lt e a F h1 b hb⟩⟩
theorem HalfX.upto {w : World} {B C D : Nat} {e : Ex} {a : Option Addr} (h : HalfX w B C e a) (hD : C ≤ D) : HalfX w B D e a := by
  obtain ⟨F, h1, h2, h3⟩ := h
  exact ⟨F, h1, h2, fun b hb => ⟨(h3 b hb).1, Nat.lt_of_lt_of_le (h3 b hb).2 hD⟩⟩
theorem HalfX.later {w w' : World} {B C : Nat} {e : Ex} {a : Option Addr} (h : HalfX w B C e a) (hb : Below w.heap.size w w') : HalfX w' B C e a := by
  obtain ⟨F, h1, h2, h3⟩ := h
  exact ⟨F, h1.later hb, h2, h3⟩
theorem HalfX.drawn {w w' : World} {B C cb : Nat} {e : Ex} {a : Option Addr} (h : HalfX w B C e a) (hg : w.grownBy w' (some cb)) (hB : cb < B) : HalfX w' B C e a := by
  obtain ⟨F, h1, h2, h3⟩ := h
  exact ⟨F, OwX.keep e a F (fun b hF => hg.block b (OwX.lt e a F h1 b hF) (fun e => by have := (h3 b hF).1; simp at e; omega)) h1, h2, h3⟩
theorem HalfX.new {w : World} {B C : Nat} {e : Ex} {a : Option Addr} (h : HalfX w B C e a) : NewX w B e a := by
  obtain ⟨F, h1, h2, h3⟩ := h
  exact ⟨F, h1, h2, fun b hb => (h3 b hb).1⟩
theorem NewX.one {w : World} {B : Nat} {x : Ex} {c : Option Addr} {cp : Nat} (h : NewX w B x c) (hB : B ≤ w.heap.size) (k n : Int) (s : ByteArray) (t : TypeId) : NewX (w.alloc (.cells #[.int .i64 x.k, .int .i64 x.n, .string x.s, .slice c x.l.length cp] t)) B ⟨k, n, s, [x]⟩ (some ⟨w.heap.size, 0, none⟩) := by
  obtain ⟨F, h1, h2, h3⟩ := h
  have hl := OwX.lt x c F h1
  refine ⟨w.heap.size :: F, (OwX_eq _ _ _ _).2 (.inr ⟨w.heap.size, _, t, [F], rfl, Array.getElem?_push_size, by simp, rfl, by simp, fun i hi => ?_⟩), List.nodup_cons.2 ⟨fun h => by have := hl _ h; omega, h2⟩, fun b hb => ?_⟩
  · have hi : i < 1 := hi
    obtain rfl : i = 0 := by omega
    exact ⟨rfl, rfl, rfl, c, cp, rfl, OwX.later h1 ((Below.refl _ _).alloc (Nat.le_refl _) _)⟩
  · rcases List.mem_cons.1 hb with rfl | hb
    · exact hB
    · exact h3 b hb
theorem HalfX.two {w : World} {B C : Nat} {x y : Ex} {c d : Option Addr} {cp dp : Nat} (h : HalfX w B C x c) (k : NewX w C y d) (hB : B ≤ C) (hC : C ≤ w.heap.size) (k' n : Int) (s : ByteArray) (t : TypeId) : NewX (w.alloc (.cells #[.int .i64 x.k, .int .i64 x.n, .string x.s, .slice c x.l.length cp, .int .i64 y.k, .int .i64 y.n, .string y.s, .slice d y.l.length dp] t)) B ⟨k', n, s, [x, y]⟩ (some ⟨w.heap.size, 0, none⟩) := by
  obtain ⟨F, h1, h2, h3⟩ := h
  obtain ⟨G, k1, k2, k3⟩ := k
  have hl := OwX.lt x c F h1
  have kl := OwX.lt y d G k1
  refine ⟨w.heap.size :: (F ++ G), (OwX_eq _ _ _ _).2 (.inr ⟨w.heap.size, _, t, [F, G], rfl, Array.getElem?_push_size, by simp, rfl, by simp, fun i hi => ?_⟩), List.nodup_cons.2 ⟨fun h => ?_, List.nodup_append.2 ⟨h2, k2, fun a ha b hb e => ?_⟩⟩, fun b hb => ?_⟩
  · have hi : i < 2 := hi
    have hb := (Below.refl w.heap.size w).alloc (Nat.le_refl _) (.cells #[.int .i64 x.k, .int .i64 x.n, .string x.s, .slice c x.l.length cp, .int .i64 y.k, .int .i64 y.n, .string y.s, .slice d y.l.length dp] t)
    have hi2 : i = 0 ∨ i = 1 := by omega
    rcases hi2 with rfl | rfl
    · exact ⟨rfl, rfl, rfl, c, cp, rfl, OwX.later h1 hb⟩
    · exact ⟨rfl, rfl, rfl, d, dp, rfl, OwX.later k1 hb⟩
  · rcases List.mem_append.1 h with h | h
    · have := hl _ h; omega
    · have := kl _ h; omega
  · subst e
    have := (h3 _ ha).2
    have := k3 _ hb
    omega
  · rcases List.mem_cons.1 hb with rfl | hb
    · omega
    · rcases List.mem_append.1 hb with hb | hb
      · exact (h3 b hb).1
      · have := k3 b hb; omega
theorem sz_one (k n : Int) (x : Ex) : (Ex.mk k n ⟨#[]⟩ [x]).sz = 1 + x.sz := by
  rw [Ex.sz_eq]
  show 0 + 1 + (x.sz + 0) = _
  omega
theorem sz_two (k n : Int) (x y : Ex) : (Ex.mk k n ⟨#[]⟩ [x, y]).sz = 2 + x.sz + y.sz := by
  rw [Ex.sz_eq]
  show 0 + 2 + (x.sz + (y.sz + 0)) = _
  omega
theorem sz_leaf (k n : Int) (s : ByteArray) : (Ex.mk k n s []).sz = s.size := by
  rw [Ex.sz_eq]
  rfl
/-- How large a drawn term can be. -/
def szD : Nat → Nat
  | 0 => 1
  | d + 1 => 2 + 2 * szD d
def DrX (n : Nat) (cb : Nat) (a : Option Addr) (len cap : Nat) (xs : List UInt8) (w : World) (r : Ending) (w' : World) : Prop :=
  ∃ (e : Ex) (c : Option Addr) (cp : Nat), r = .returned (.agg (e.cs c cp)) ∧ e.sz ≤ n ∧ NewX w' w.heap.size e c ∧ Cur w' cb a len cap xs ∧ w.grownBy w' (some cb)
def DrP (d : Nat) : Prop := ∀ (m : Int) (hm : m = (d : Int)) (p : Bool) (cb : Nat) (a : Option Addr) (len cap : Nat) (xs : List UInt8) (w : World), Cur w cb a len cap xs → Calls Tryd.prog 94 #[.pointer (some ⟨cb, 0, none⟩), .int .i64 m, .bool p] w (DrX (szD d) cb a len cap xs w)
theorem szD_pos (d : Nat) : 1 ≤ szD d := by cases d <;> unfold szD <;> omega
set_option maxHeartbeats 2000000 in
theorem drawX0 : DrP 0 := by
  rintro m rfl p cb a len cap xs w hc
  have D0 := hide ((dz_new hc).later (below_new w (.cells E0x 37)))
  have R0 := hide (heap_alloc_new w (.cells E0x 37))
  unfold E0x at D0 R0
  have LF := hide (leafD p cb a len cap xs _ (unhide D0).cur)
  clear hc
  go_enter Tryd.func94, Tryd.ntmps94
  go_wp2_with fail
  generalize w.alloc (Obj.cells #[.int .i64 0, .int .i64 0, .string ⟨#[]⟩, .slice none 0 0] 37) = W at *
  refine (unhide LF).mono ?_
  rintro e w1 ⟨k, n, s, hs, rfl, hc1, hg1⟩
  have D1 := hide ((unhide D0).draw hc1 hg1)
  have R1 := hide ((unhide D0).blk hg1 (unhide R0) (Nat.le_refl _))
  clear hc1 hg1 D0 R0 LF
  go_wp2_with (refine wpList_store_row rfl 37 _ _ rfl w.heap.size #[.int .i64 k, .int .i64 n, .string s, .slice none 0 0] rfl rfl 37 _ (unhide R1) szE rfl (ex_one _ _ _ _ _ _) ?_)
  refine bodyPost_ret (results_cell_row (P := Tryd.prog) rfl _ _ w.heap.size 37 #[.int .i64 k, .int .i64 n, .string s, .slice none 0 0] (0, 0) _ rfl (setRow_heap _ _ _ _ _ _ (unhide R1)) Tryd.underlying37 rfl szE) rfl ?_
  exact ⟨⟨k, n, s, []⟩, none, 0, rfl, by rw [sz_leaf]; exact hs, NewX.nil _ _ _ _ _ _, ((unhide D1).row _).cur, ((unhide D1).row _).gr⟩
set_option maxHeartbeats 8000000 in
theorem drawXS (d : Nat) (hd : d ≤ 2) (ih : DrP d) : DrP (d + 1) := by
  rintro m hm p cb a len cap xs w hc
  have hm0 : ¬ m = 0 := by omega
  have hm1 : 0 < m := by omega
  have hm2 : m ≤ 3 := by omega
  have hmd : m - 1 = (d : Int) := by omega
  have D0 := hide ((dz_new hc).later (below_new w (.cells E0x 37)))
  have R0 := hide (heap_alloc_new w (.cells E0x 37))
  have hZ0 : w.heap.size < (w.alloc (.cells E0x 37)).heap.size := by simp
  have IH := hide (fun wr (h : Cur wr cb a len cap xs) => ih (m - 1) hmd p cb a len cap xs wr h)
  have hsz : szD (d + 1) = 2 + 2 * szD d := by rw [szD]
  have hsp := szD_pos d
  unfold DrX
  unfold DrX at IH
  rw [hsz]
  generalize szD d = z at *
  unfold E0x at D0 R0 hZ0
  clear hc ih hmd hm
  go_enter Tryd.func94, Tryd.ntmps94
  go_wp2_with fail
  generalize w.alloc (Obj.cells #[.int .i64 0, .int .i64 0, .string ⟨#[]⟩, .slice none 0 0] 37) = W at *
  refine (once_any cb a len cap xs 3 W (by omega) (unhide D0).cur).mono ?_
  rintro e w1 ⟨q, rfl, hc1, hg1⟩
  have D1 := hide ((unhide D0).draw hc1 hg1)
  have R1 := hide ((unhide D0).blk hg1 (unhide R0) (Nat.le_refl _))
  have hlt := (unhide D1).lt
  have hcl := hc1.lt
  have hZ1 : w.heap.size < w1.heap.size := Nat.lt_of_lt_of_le hZ0 hg1.size
  clear hc1 hg1 D0 R0 hZ0
  cases q
  case true =>
    have LF := hide (leafD p cb a len cap xs _ (unhide D1).cur)
    clear IH
    go_wp2_with fail
    refine (unhide LF).mono ?_
    rintro e w2 ⟨k, n, s, hs, rfl, hc2, hg2⟩
    have D2 := hide ((unhide D1).draw hc2 hg2)
    have R2 := hide ((unhide D1).blk hg2 (unhide R1) (Nat.le_refl _))
    clear hc2 hg2 D1 R1 LF
    go_wp2_with (refine wpList_store_row rfl 37 _ _ rfl w.heap.size #[.int .i64 k, .int .i64 n, .string s, .slice none 0 0] rfl rfl 37 _ (unhide R2) szE rfl (ex_one _ _ _ _ _ _) ?_)
    refine bodyPost_ret (results_cell_row (P := Tryd.prog) rfl _ _ w.heap.size 37 #[.int .i64 k, .int .i64 n, .string s, .slice none 0 0] (0, 0) _ rfl (setRow_heap _ _ _ _ _ _ (unhide R2)) Tryd.underlying37 rfl szE) rfl ?_
    exact ⟨⟨k, n, s, []⟩, none, 0, rfl, by rw [sz_leaf]; omega, NewX.nil _ _ _ _ _ _, ((unhide D2).row _).cur, ((unhide D2).row _).gr⟩
  case false =>
    have I1 := hide (int_any cb a len cap xs (some ⟨w1.heap.size, 0, none⟩) 10 10 [5, 5, 5, 6, 6, 4, 7, 8, 9, 10] (w1.alloc (.cells ([5, 5, 5, 6, 6, 4, 7, 8, 9, 10].map (Value.int .i64)).toArray 3)) ((unhide D1).cur.later ((Below.refl _ _).alloc (Nat.le_refl _) _)) (RdN_lit w1 _) (fun ad e => by cases e; show w1.heap.size ≠ cb; omega) rfl (by omega) (by omega))
    have G1 := hide (World.grownBy_alloc w1 (.cells ([5, 5, 5, 6, 6, 4, 7, 8, 9, 10].map (Value.int .i64)).toArray 3) (some cb))
    go_wp2_with fail
    refine (unhide I1).mono ?_
    rintro e w2 ⟨j, hj, rfl, hc2, hg2⟩
    have D2 := hide ((unhide D1).draw hc2 (grownBy_trans (unhide G1) hg2))
    have R2 := hide ((unhide D1).blk (grownBy_trans (unhide G1) hg2) (unhide R1) (Nat.le_refl _))
    have hZ2 : w.heap.size < w2.heap.size := Nat.lt_of_lt_of_le hZ1 (Nat.le_trans (unhide G1).size hg2.size)
    generalize nAt [5, 5, 5, 6, 6, 4, 7, 8, 9, 10] j = k at *
    have N2 := hide (unhide IH w2 (unhide D2).cur)
    clear hc2 hg2 I1 G1 D1 R1 hj
    go_wp2_with fail
    refine (unhide N2).mono ?_
    rintro e w3 ⟨x, c, cp, rfl, hsx, hnx, hc3, hg3⟩
    have D3 := hide ((unhide D2).draw hc3 hg3)
    have R3 := hide ((unhide D2).blk hg3 (unhide R2) (Nat.le_refl _))
    have hZ3 : w.heap.size < w3.heap.size := Nat.lt_of_lt_of_le hZ2 hg3.size
    have hb4 := below_new w3 (.cells #[.int .i64 x.k, .int .i64 x.n, .string x.s, .slice c x.l.length cp] 37)
    have hg4 : (w3.alloc (.cells #[.int .i64 x.k, .int .i64 x.n, .string x.s, .slice c x.l.length cp] 37)).heap[w3.heap.size]? = some (.cells #[.int .i64 x.k, .int .i64 x.n, .string x.s, .slice c x.l.length cp] 37 (0, 0)) := Array.getElem?_push_size
    have hz4 : (w3.alloc (.cells #[.int .i64 x.k, .int .i64 x.n, .string x.s, .slice c x.l.length cp] 37)).heap.size = w3.heap.size + 1 := by simp
    have X3 := hide ((hnx.lower (show w.heap.size + 1 ≤ w2.heap.size by omega)).half)
    unfold Ex.cs
    clear hnx hc3 hg3 N2 D2 R2
    obtain ⟨w4, hw4⟩ : ∃ w4, w3.alloc (.cells #[.int .i64 x.k, .int .i64 x.n, .string x.s, .slice c x.l.length cp] 37) = w4 := ⟨_, rfl⟩
    rw [hw4] at hb4 hg4 hz4
    have D4 := hide ((unhide D3).later hb4)
    have R4 := hide ((hb4.block _ (Array.getElem?_eq_some_iff.1 (unhide R3)).1).trans (unhide R3))
    have X4 := hide (((unhide X3).later hb4).upto (show w3.heap.size ≤ w4.heap.size by omega))
    have G4 := hide hg4
    have y0 := Lib.cell_of_heap hg4 0
    have y1 := Lib.cell_of_heap hg4 1
    have y2 := Lib.cell_of_heap hg4 2
    have y3 := Lib.cell_of_heap hg4 3
    have HZ4 := hide hz4
    clear hb4 hg4 hz4 D3 R3 X3
    by_cases h4 : k = 4
    · subst h4
      have N4 := hide (NewX.one (cp := cp) (unhide X4).new (by have := unhide HZ4; omega) 4 0 ⟨#[]⟩ 37)
      have hb5 := below_new w4 (.cells #[.int .i64 x.k, .int .i64 x.n, .string x.s, .slice c x.l.length cp] 37)
      have D5 := hide ((unhide D4).later hb5)
      have R5 := hide ((hb5.block _ (Array.getElem?_eq_some_iff.1 (unhide R4)).1).trans (unhide R4))
      clear hb5 D4 R4 X4 IH
      go_wp2_with (refine wpList_store_row rfl 37 _ _ rfl w.heap.size #[.int .i64 4, .int .i64 0, .string ⟨#[]⟩, .slice (some ⟨w4.heap.size, 0, none⟩) 1 1] rfl rfl 37 _ (unhide R5) szE rfl (ex_one _ _ _ _ _ _) ?_)
      refine bodyPost_ret (results_cell_row (P := Tryd.prog) rfl _ _ w.heap.size 37 #[.int .i64 4, .int .i64 0, .string ⟨#[]⟩, .slice (some ⟨w4.heap.size, 0, none⟩) 1 1] (0, 0) _ rfl (setRow_heap _ _ _ _ _ _ (unhide R5)) Tryd.underlying37 rfl szE) rfl ?_
      exact ⟨⟨4, 0, ⟨#[]⟩, [x]⟩, _, _, rfl, by rw [sz_one]; omega, ((unhide N4).row _ (Nat.lt_succ_self _)).lower (Nat.le_succ _), ((unhide D5).row _).cur, ((unhide D5).row _).gr⟩
    · have N4 := hide (unhide IH w4 (unhide D4).cur)
      go_wp2_with fail
      refine (unhide N4).mono ?_
      rintro e w5 ⟨y, c2, cp2, rfl, hsy, hny, hc5, hg5⟩
      have D5 := hide ((unhide D4).draw hc5 hg5)
      have R5 := hide ((unhide D4).blk hg5 (unhide R4) (Nat.le_refl _))
      have G5 := hide ((unhide D4).blk hg5 (unhide G4) (Nat.le_of_lt hZ3))
      have X5 := hide ((unhide X4).drawn hg5 (Nat.lt_succ_of_lt hlt))
      have hz5 := hg5.size
      have hb6 := below_new w5 (.cells #[.int .i64 y.k, .int .i64 y.n, .string y.s, .slice c2 y.l.length cp2] 37)
      have hg6 : (w5.alloc (.cells #[.int .i64 y.k, .int .i64 y.n, .string y.s, .slice c2 y.l.length cp2] 37)).heap[w5.heap.size]? = some (.cells #[.int .i64 y.k, .int .i64 y.n, .string y.s, .slice c2 y.l.length cp2] 37 (0, 0)) := Array.getElem?_push_size
      have hz6 : (w5.alloc (.cells #[.int .i64 y.k, .int .i64 y.n, .string y.s, .slice c2 y.l.length cp2] 37)).heap.size = w5.heap.size + 1 := by simp
      have Y5 := hide hny
      unfold Ex.cs
      clear hny hc5 hg5 N4 D4 R4 G4 X4 IH y0 y1 y2 y3 hw4
      obtain ⟨w6, hw6⟩ : ∃ w6, w5.alloc (.cells #[.int .i64 y.k, .int .i64 y.n, .string y.s, .slice c2 y.l.length cp2] 37) = w6 := ⟨_, rfl⟩
      rw [hw6] at hb6 hg6 hz6
      have D6 := hide ((unhide D5).later hb6)
      have R6 := hide ((hb6.block _ (Array.getElem?_eq_some_iff.1 (unhide R5)).1).trans (unhide R5))
      have G6 := hide ((hb6.block _ (Array.getElem?_eq_some_iff.1 (unhide G5)).1).trans (unhide G5))
      have X6 := hide ((unhide X5).later hb6)
      have Y6 := hide ((unhide Y5).later hb6)
      have HZ6 := hide hz6
      clear hz6
      have N6 := hide (HalfX.two (cp := cp) (dp := cp2) (unhide X6) (unhide Y6) (by have := unhide HZ4; omega) (by have := unhide HZ4; have := unhide HZ6; omega) k 0 ⟨#[]⟩ 37)
      have y0 := Lib.cell_of_heap (unhide G6) 0
      have y1 := Lib.cell_of_heap (unhide G6) 1
      have y2 := Lib.cell_of_heap (unhide G6) 2
      have y3 := Lib.cell_of_heap (unhide G6) 3
      have z0 := Lib.cell_of_heap hg6 0
      have z1 := Lib.cell_of_heap hg6 1
      have z2 := Lib.cell_of_heap hg6 2
      have z3 := Lib.cell_of_heap hg6 3
      have hb7 := below_new w6 (.cells #[.int .i64 x.k, .int .i64 x.n, .string x.s, .slice c x.l.length cp, .int .i64 y.k, .int .i64 y.n, .string y.s, .slice c2 y.l.length cp2] 37)
      have D7 := hide ((unhide D6).later hb7)
      have R7 := hide ((hb7.block _ (Array.getElem?_eq_some_iff.1 (unhide R6)).1).trans (unhide R6))
      clear hb6 hb7 hg6 D5 R5 G5 X5 Y5 D6 R6 X6 Y6
      go_wp2_with (refine wpList_store_row rfl 37 _ _ rfl w.heap.size #[.int .i64 k, .int .i64 0, .string ⟨#[]⟩, .slice (some ⟨w6.heap.size, 0, none⟩) 2 2] rfl rfl 37 _ (unhide R7) szE rfl (ex_one _ _ _ _ _ _) ?_)
      refine bodyPost_ret (results_cell_row (P := Tryd.prog) rfl _ _ w.heap.size 37 #[.int .i64 k, .int .i64 0, .string ⟨#[]⟩, .slice (some ⟨w6.heap.size, 0, none⟩) 2 2] (0, 0) _ rfl (setRow_heap _ _ _ _ _ _ (unhide R7)) Tryd.underlying37 rfl szE) rfl ?_
      exact ⟨⟨k, 0, ⟨#[]⟩, [x, y]⟩, _, _, rfl, by rw [sz_two]; omega, ((unhide N6).row _ (Nat.lt_succ_self _)).lower (Nat.le_succ _), ((unhide D7).row _).cur, ((unhide D7).row _).gr⟩
theorem drawX3 : DrP 3 := drawXS 2 (by omega) (drawXS 1 (by omega) (drawXS 0 (by omega) drawX0))
end Go.Proofs.YthgbpofcfmnpdaaDoor
