/- Contracts over this seat's translation, laid together; conditions stand as hypotheses of each. -/
import Derived.Test.YtkolflcjkofleaaDoorTxA
import Derived.Test.YtkolflcjkofleaaDoorTxB
import Derived.Laws.AppendOwn
import Derived.Deep.RegionHeld
import Derived.Laws.Rows

namespace Go.Proofs.YtkolflcjkofleaaDoor
open Go.ChangeShapes Go.WideShapes Go.ChangeAt Go.RowKit
set_option linter.unusedVariables false
set_option maxRecDepth 8000
set_option linter.unusedSimpArgs false

/-- The parts of a term in blocks of its own from B on, all below C. -/
def HalfX (w : World) (B C : Nat) (e : Ex) (a : Option Addr) : Prop := ∃ F, OwX w e a F ∧ F.Nodup ∧ ∀ b ∈ F, B ≤ b ∧ b < C
theorem NewX.half {w : World} {B : Nat} {e : Ex} {a : Option Addr} (h : NewX w B e a) : HalfX w B w.heap.size e a := by
  obtain ⟨F, h1, h2, h3⟩ := h
  exact ⟨F, h1, h2, fun b hb => ⟨h3 b hb, OwX.lt e a F h1 b hb⟩⟩
theorem HalfX.upto {w : World} {B C D : Nat} {e : Ex} {a : Option Addr} (h : HalfX w B C e a) (hD : C ≤ D) : HalfX w B D e a := by
  obtain ⟨F, h1, h2, h3⟩ := h
  exact ⟨F, h1, h2, fun b hb => ⟨(h3 b hb).1, Nat.lt_of_lt_of_le (h3 b hb).2 hD⟩⟩
theorem HalfX.later {w w' : World} {B C : Nat} {e : Ex} {a : Option Addr} (h : HalfX w B C e a) (hb : Below w.heap.size w w') : HalfX w' B C e a := by
  obtain ⟨F, h1, h2, h3⟩ := h
  exact ⟨F, h1.later hb, h2, h3⟩
theorem HalfX.drawn {w w' : World} {B C cb : Nat} {e : Ex} {a : Option Addr} (h : HalfX w B C e a) (hg : w.grownBy w' (some cb)) (hB : cb < B) : HalfX w' B C e a := by
  obtain ⟨F, h1, h2, h3⟩ := h
  exact ⟨F, OwX.keep e a F (fun b hF => hg.block b (OwX.lt e a F h1 b hF) (fun e => by have := (h3 b hF).1; simp at e; omega)) h1, h2, h3⟩
theorem HalfX.new {w : World} {B C : Nat} {e : Ex} {a : Option Addr} (h : HalfX w B C e a) : NewX w B e a := by
  obtain ⟨F, h1, h2, h3⟩ := h
  exact ⟨F, h1, h2, fun b hb => (h3 b hb).1⟩
theorem NewX.one {w : World} {B : Nat} {x : Ex} {c : Option Addr} {cp : Nat} (h : NewX w B x c) (hB : B ≤ w.heap.size) (k n : Int) (s : ByteArray) (t : TypeId) : NewX (w.alloc (.cells #[.int .i64 x.k, .int .i64 x.n, .string x.s, .slice c x.l.length cp] t)) B ⟨k, n, s, [x]⟩ (some ⟨w.heap.size, 0, none⟩) := by
  obtain ⟨F, h1, h2, h3⟩ := h
  have hl := OwX.lt x c F h1
  refine ⟨w.heap.size :: F, (OwX_eq _ _ _ _).2 (.inr ⟨w.heap.size, _, t, [F], rfl, Array.getElem?_push_size, by simp, rfl, by simp, fun i hi => ?_⟩), List.nodup_cons.2 ⟨fun h => by have := hl _ h; omega, h2⟩, fun b hb => ?_⟩
  · have hi : i < 1 := hi
    obtain rfl : i = 0 := by omega
    exact ⟨rfl, rfl, rfl, c, cp, rfl, OwX.later h1 ((Below.refl _ _).alloc (Nat.le_refl _) _)⟩
  · rcases List.mem_cons.1 hb with rfl | hb
    · exact hB
    · exact h3 b hb
theorem HalfX.two {w : World} {B C : Nat} {x y : Ex} {c d : Option Addr} {cp dp : Nat} (h : HalfX w B C x c) (k : NewX w C y d) (hB : B ≤ C) (hC : C ≤ w.heap.size) (k' n : Int) (s : ByteArray) (t : TypeId) : NewX (w.alloc (.cells #[.int .i64 x.k, .int .i64 x.n, .string x.s, .slice c x.l.length cp, .int .i64 y.k, .int .i64 y.n, .string y.s, .slice d y.l.length dp] t)) B ⟨k', n, s, [x, y]⟩ (some ⟨w.heap.size, 0, none⟩) := by
  obtain ⟨F, h1, h2, h3⟩ := h
  obtain ⟨G, k1, k2, k3⟩ := k
  have hl := OwX.lt x c F h1
  have kl := OwX.lt y d G k1
  refine ⟨w.heap.size :: (F ++ G), (OwX_eq _ _ _ _).2 (.inr ⟨w.heap.size, _, t, [F, G], rfl, Array.getElem?_push_size, by simp, rfl, by simp, fun i hi => ?_⟩), List.nodup_cons.2 ⟨fun h => ?_, List.nodup_append.2 ⟨h2, k2, fun a ha b hb e => ?_⟩⟩, fun b hb => ?_⟩
  · have hi : i < 2 := hi
    have hb := (Below.refl w.heap.size w).alloc (Nat.le_refl _) (.cells #[.int .i64 x.k, .int .i64 x.n, .string x.s, .slice c x.l.length cp, .int .i64 y.k, .int .i64 y.n, .string y.s, .slice d y.l.length dp] t)
    have hi2 : i = 0 ∨ i = 1 := by omega
    rcases hi2 with rfl | rfl
    · exact ⟨rfl, rfl, rfl, c, cp, rfl, OwX.later h1 hb⟩
    · exact ⟨rfl, rfl, rfl, d, dp, rfl, OwX.later k1 hb⟩
  · rcases List.mem_append.1 h with h | h
    · have := hl _ h; omega
    · have := kl _ h; omega
  · subst e
    have := (h3 _ ha).2
    have := k3 _ hb
    omega
  · rcases List.mem_cons.1 hb with rfl | hb
    · omega
    · rcases List.mem_append.1 hb with hb | hb
      · exact (h3 b hb).1
      · have := k3 b hb; omega
theorem sz_one (k n : Int) (x : Ex) : (Ex.mk k n ⟨#[]⟩ [x]).sz = 1 + x.sz := by
  rw [Ex.sz_eq]
  show 0 + 1 + (x.sz + 0) = _
  omega
theorem sz_two (k n : Int) (x y : Ex) : (Ex.mk k n ⟨#[]⟩ [x, y]).sz = 2 + x.sz + y.sz := by
  rw [Ex.sz_eq]
  show 0 + 2 + (x.sz + (y.sz + 0)) = _
  omega
theorem sz_leaf (k n : Int) (s : ByteArray) : (Ex.mk k n s []).sz = s.size := by
  rw [Ex.sz_eq]
  rfl
/-- How large a drawn term can be. -/
def szD : Nat → Nat
  | 0 => 1
  | d + 1 => 2 + 2 * szD d
def DrX (n : Nat) (cb : Nat) (a : Option Addr) (len cap : Nat) (xs : List UInt8) (w : World) (r : Ending) (w' : World) : Prop :=
  ∃ (e : Ex) (c : Option Addr) (cp : Nat), r = .returned (.agg (e.cs c cp)) ∧ e.sz ≤ n ∧ NewX w' w.heap.size e c ∧ Cur w' cb a len cap xs ∧ w.grownBy w' (some cb)
def DrP (d : Nat) : Prop := ∀ (m : Int) (hm : m = (d : Int)) (p : Bool) (cb : Nat) (a : Option Addr) (len cap : Nat) (xs : List UInt8) (w : World), Cur w cb a len cap xs → Calls Tryd.prog 55 #[.pointer (some ⟨cb, 0, none⟩), .int .i64 m, .bool p] w (DrX (szD d) cb a len cap xs w)
theorem szD_pos (d : Nat) : 1 ≤ szD d := by cases d <;> unfold szD <;> omega
set_option maxHeartbeats 2000000 in
theorem drawX0 : DrP 0 := by
  rintro m rfl p cb a len cap xs w hc
  have D0 := hide ((dz_new hc).later (below_new w (.cells E0x 26)))
  have R0 := hide (heap_alloc_new w (.cells E0x 26))
  unfold E0x at D0 R0
  have LF := hide (leafD p cb a len cap xs _ (unhide D0).cur)
  clear hc
  go_enter Tryd.func55, Tryd.ntmps55
  go_wp2_with fail
  generalize w.alloc (Obj.cells #[.int .i64 0, .int .i64 0, .string ⟨#[]⟩, .slice none 0 0] 26) = W at *
  refine (unhide LF).mono ?_
  rintro e w1 ⟨k, n, s, hs, rfl, hc1, hg1⟩
  have D1 := hide ((unhide D0).draw hc1 hg1)
  have R1 := hide ((unhide D0).blk hg1 (unhide R0) (Nat.le_refl _))
  clear hc1 hg1 D0 R0 LF
  go_wp2_with (refine wpList_store_row rfl 26 _ _ rfl w.heap.size #[.int .i64 k, .int .i64 n, .string s, .slice none 0 0] rfl rfl 26 _ (unhide R1) szE rfl (ex_one _ _ _ _ _ _) ?_)
  refine bodyPost_ret (results_cell_row (P := Tryd.prog) rfl _ _ w.heap.size 26 #[.int .i64 k, .int .i64 n, .string s, .slice none 0 0] (0, 0) _ rfl (setRow_heap _ _ _ _ _ _ (unhide R1)) Tryd.underlying26 rfl szE) rfl ?_
  exact ⟨⟨k, n, s, []⟩, none, 0, rfl, by rw [sz_leaf]; exact hs, NewX.nil _ _ _ _ _ _, ((unhide D1).row _).cur, ((unhide D1).row _).gr⟩
set_option maxHeartbeats 8000000 in
theorem drawXS (d : Nat) (hd : d ≤ 3) (ih : DrP d) : DrP (d + 1) := by
  rintro m hm p cb a len cap xs w hc
  have hm0 : ¬ m = 0 := by omega
  have hm1 : 0 < m := by omega
  have hm2 : m ≤ 4 := by omega
  have hmd : m - 1 = (d : Int) := by omega
  have D0 := hide ((dz_new hc).later (below_new w (.cells E0x 26)))
  have R0 := hide (heap_alloc_new w (.cells E0x 26))
  have hZ0 : w.heap.size < (w.alloc (.cells E0x 26)).heap.size := by simp
  have IH := hide (fun wr (h : Cur wr cb a len cap xs) => ih (m - 1) hmd p cb a len cap xs wr h)
  have hsz : szD (d + 1) = 2 + 2 * szD d := by rw [szD]
  have hsp := szD_pos d
  unfold DrX
  unfold DrX at IH
  rw [hsz]
  generalize szD d = z at *
  unfold E0x at D0 R0 hZ0
  clear hc ih hmd hm
  go_enter Tryd.func55, Tryd.ntmps55
  go_wp2_with fail
  generalize w.alloc (Obj.cells #[.int .i64 0, .int .i64 0, .string ⟨#[]⟩, .slice none 0 0] 26) = W at *
  refine (once_any cb a len cap xs 3 W (by omega) (unhide D0).cur).mono ?_
  rintro e w1 ⟨q, rfl, hc1, hg1⟩
  have D1 := hide ((unhide D0).draw hc1 hg1)
  have R1 := hide ((unhide D0).blk hg1 (unhide R0) (Nat.le_refl _))
  have hlt := (unhide D1).lt
  have hcl := hc1.lt
  have hZ1 : w.heap.size < w1.heap.size := Nat.lt_of_lt_of_le hZ0 hg1.size
  clear hc1 hg1 D0 R0 hZ0
  cases q
  case true =>
    have LF := hide (leafD p cb a len cap xs _ (unhide D1).cur)
    clear IH
    go_wp2_with fail
    refine (unhide LF).mono ?_
    rintro e w2 ⟨k, n, s, hs, rfl, hc2, hg2⟩
    have D2 := hide ((unhide D1).draw hc2 hg2)
    have R2 := hide ((unhide D1).blk hg2 (unhide R1) (Nat.le_refl _))
    clear hc2 hg2 D1 R1 LF
    go_wp2_with (refine wpList_store_row rfl 26 _ _ rfl w.heap.size #[.int .i64 k, .int .i64 n, .string s, .slice none 0 0] rfl rfl 26 _ (unhide R2) szE rfl (ex_one _ _ _ _ _ _) ?_)
    refine bodyPost_ret (results_cell_row (P := Tryd.prog) rfl _ _ w.heap.size 26 #[.int .i64 k, .int .i64 n, .string s, .slice none 0 0] (0, 0) _ rfl (setRow_heap _ _ _ _ _ _ (unhide R2)) Tryd.underlying26 rfl szE) rfl ?_
    exact ⟨⟨k, n, s, []⟩, none, 0, rfl, by rw [sz_leaf]; omega, NewX.nil _ _ _ _ _ _, ((unhide D2).row _).cur, ((unhide D2).row _).gr⟩
  case false =>
    have I1 := hide (int_any cb a len cap xs (some ⟨w1.heap.size, 0, none⟩) 10 10 [5, 5, 5, 6, 6, 4, 7, 8, 9, 10] (w1.alloc (.cells ([5, 5, 5, 6, 6, 4, 7, 8, 9, 10].map (Value.int .i64)).toArray 3)) ((unhide D1).cur.later ((Below.refl _ _).alloc (Nat.le_refl _) _)) (RdN_lit w1 _) (fun ad e => by cases e; show w1.heap.size ≠ cb; omega) rfl (by omega) (by omega))
    have G1 := hide (World.grownBy_alloc w1 (.cells ([5, 5, 5, 6, 6, 4, 7, 8, 9, 10].map (Value.int .i64)).toArray 3) (some cb))
    go_wp2_with fail
    refine (unhide I1).mono ?_
    rintro e w2 ⟨j, hj, rfl, hc2, hg2⟩
    have D2 := hide ((unhide D1).draw hc2 (grownBy_trans (unhide G1) hg2))
    have R2 := hide ((unhide D1).blk (grownBy_trans (unhide G1) hg2) (unhide R1) (Nat.le_refl _))
    have hZ2 : w.heap.size < w2.heap.size := Nat.lt_of_lt_of_le hZ1 (Nat.le_trans (unhide G1).size hg2.size)
    generalize nAt [5, 5, 5, 6, 6, 4, 7, 8, 9, 10] j = k at *
    have N2 := hide (unhide IH w2 (unhide D2).cur)
    clear hc2 hg2 I1 G1 D1 R1 hj
    go_wp2_with fail
    refine (unhide N2).mono ?_
    rintro e w3 ⟨x, c, cp, rfl, hsx, hnx, hc3, hg3⟩
    have D3 := hide ((unhide D2).draw hc3 hg3)
    have R3 := hide ((unhide D2).blk hg3 (unhide R2) (Nat.le_refl _))
    have hZ3 : w.heap.size < w3.heap.size := Nat.lt_of_lt_of_le hZ2 hg3.size
    have hb4 := below_new w3 (.cells #[.int .i64 x.k, .int .i64 x.n, .string x.s, .slice c x.l.length cp] 26)
    have hg4 : (w3.alloc (.cells #[.int .i64 x.k, .int .i64 x.n, .string x.s, .slice c x.l.length cp] 26)).heap[w3.heap.size]? = some (.cells #[.int .i64 x.k, .int .i64 x.n, .string x.s, .slice c x.l.length cp] 26 (0, 0)) := Array.getElem?_push_size
    have hz4 : (w3.alloc (.cells #[.int .i64 x.k, .int .i64 x.n, .string x.s, .slice c x.l.length cp] 26)).heap.size = w3.heap.size + 1 := by simp
    have X3 := hide ((hnx.lower (show w.heap.size + 1 ≤ w2.heap.size by omega)).half)
    unfold Ex.cs
    clear hnx hc3 hg3 N2 D2 R2
    obtain ⟨w4, hw4⟩ : ∃ w4, w3.alloc (.cells #[.int .i64 x.k, .int .i64 x.n, .string x.s, .slice c x.l.length cp] 26) = w4 := ⟨_, rfl⟩
    rw [hw4] at hb4 hg4 hz4
    have D4 := hide ((unhide D3).later hb4)
    have R4 := hide ((hb4.block _ (Array.getElem?_eq_some_iff.1 (unhide R3)).1).trans (unhide R3))
    have X4 := hide (((unhide X3).later hb4).upto (show w3.heap.size ≤ w4.heap.size by omega))
    have G4 := hide hg4
    have y0 := Lib.cell_of_heap hg4 0
    have y1 := Lib.cell_of_heap hg4 1
    have y2 := Lib.cell_of_heap hg4 2
    have y3 := Lib.cell_of_heap hg4 3
    have HZ4 := hide hz4
    clear hb4 hg4 hz4 D3 R3 X3
    by_cases h4 : k = 4
    · subst h4
      have N4 := hide (NewX.one (cp := cp) (unhide X4).new (by have := unhide HZ4; omega) 4 0 ⟨#[]⟩ 26)
      have hb5 := below_new w4 (.cells #[.int .i64 x.k, .int .i64 x.n, .string x.s, .slice c x.l.length cp] 26)
      have D5 := hide ((unhide D4).later hb5)
      have R5 := hide ((hb5.block _ (Array.getElem?_eq_some_iff.1 (unhide R4)).1).trans (unhide R4))
      clear hb5 D4 R4 X4 IH
      go_wp2_with (refine wpList_store_row rfl 26 _ _ rfl w.heap.size #[.int .i64 4, .int .i64 0, .string ⟨#[]⟩, .slice (some ⟨w4.heap.size, 0, none⟩) 1 1] rfl rfl 26 _ (unhide R5) szE rfl (ex_one _ _ _ _ _ _) ?_)
      refine bodyPost_ret (results_cell_row (P := Tryd.prog) rfl _ _ w.heap.size 26 #[.int .i64 4, .int .i64 0, .string ⟨#[]⟩, .slice (some ⟨w4.heap.size, 0, none⟩) 1 1] (0, 0) _ rfl (setRow_heap _ _ _ _ _ _ (unhide R5)) Tryd.underlying26 rfl szE) rfl ?_
      exact ⟨⟨4, 0, ⟨#[]⟩, [x]⟩, _, _, rfl, by rw [sz_one]; omega, ((unhide N4).row _ (Nat.lt_succ_self _)).lower (Nat.le_succ _), ((unhide D5).row _).cur, ((unhide D5).row _).gr⟩
    · have N4 := hide (unhide IH w4 (unhide D4).cur)
      go_wp2_with fail
      refine (unhide N4).mono ?_
      rintro e w5 ⟨y, c2, cp2, rfl, hsy, hny, hc5, hg5⟩
      have D5 := hide ((unhide D4).draw hc5 hg5)
      have R5 := hide ((unhide D4).blk hg5 (unhide R4) (Nat.le_refl _))
      have G5 := hide ((unhide D4).blk hg5 (unhide G4) (Nat.le_of_lt hZ3))
      have X5 := hide ((unhide X4).drawn hg5 (Nat.lt_succ_of_lt hlt))
      have hz5 := hg5.size
      have hb6 := below_new w5 (.cells #[.int .i64 y.k, .int .i64 y.n, .string y.s, .slice c2 y.l.length cp2] 26)
      have hg6 : (w5.alloc (.cells #[.int .i64 y.k, .int .i64 y.n, .string y.s, .slice c2 y.l.length cp2] 26)).heap[w5.heap.size]? = some (.cells #[.int .i64 y.k, .int .i64 y.n, .string y.s, .slice c2 y.l.length cp2] 26 (0, 0)) := Array.getElem?_push_size
      have hz6 : (w5.alloc (.cells #[.int .i64 y.k, .int .i64 y.n, .string y.s, .slice c2 y.l.length cp2] 26)).heap.size = w5.heap.size + 1 := by simp
      have Y5 := hide hny
      unfold Ex.cs
      clear hny hc5 hg5 N4 D4 R4 G4 X4 IH y0 y1 y2 y3 hw4
      obtain ⟨w6, hw6⟩ : ∃ w6, w5.alloc (.cells #[.int .i64 y.k, .int .i64 y.n, .string y.s, .slice c2 y.l.length cp2] 26) = w6 := ⟨_, rfl⟩
      rw [hw6] at hb6 hg6 hz6
      have D6 := hide ((unhide D5).later hb6)
      have R6 := hide ((hb6.block _ (Array.getElem?_eq_some_iff.1 (unhide R5)).1).trans (unhide R5))
      have G6 := hide ((hb6.block _ (Array.getElem?_eq_some_iff.1 (unhide G5)).1).trans (unhide G5))
      have X6 := hide ((unhide X5).later hb6)
      have Y6 := hide ((unhide Y5).later hb6)
      have HZ6 := hide hz6
      clear hz6
      have N6 := hide (HalfX.two (cp := cp) (dp := cp2) (unhide X6) (unhide Y6) (by have := unhide HZ4; omega) (by have := unhide HZ4; have := unhide HZ6; omega) k 0 ⟨#[]⟩ 26)
      have y0 := Lib.cell_of_heap (unhide G6) 0
      have y1 := Lib.cell_of_heap (unhide G6) 1
      have y2 := Lib.cell_of_heap (unhide G6) 2
      have y3 := Lib.cell_of_heap (unhide G6) 3
      have z0 := Lib.cell_of_heap hg6 0
      have z1 := Lib.cell_of_heap hg6 1
      have z2 := Lib.cell_of_heap hg6 2
      have z3 := Lib.cell_of_heap hg6 3
      have hb7 := below_new w6 (.cells #[.int .i64 x.k, .int .i64 x.n, .string x.s, .slice c x.l.length cp, .int .i64 y.k, .int .i64 y.n, .string y.s, .slice c2 y.l.length cp2] 26)
      have D7 := hide ((unhide D6).later hb7)
      have R7 := hide ((hb7.block _ (Array.getElem?_eq_some_iff.1 (unhide R6)).1).trans (unhide R6))
      clear hb6 hb7 hg6 D5 R5 G5 X5 Y5 D6 R6 X6 Y6
      go_wp2_with (refine wpList_store_row rfl 26 _ _ rfl w.heap.size #[.int .i64 k, .int .i64 0, .string ⟨#[]⟩, .slice (some ⟨w6.heap.size, 0, none⟩) 2 2] rfl rfl 26 _ (unhide R7) szE rfl (ex_one _ _ _ _ _ _) ?_)
      refine bodyPost_ret (results_cell_row (P := Tryd.prog) rfl _ _ w.heap.size 26 #[.int .i64 k, .int .i64 0, .string ⟨#[]⟩, .slice (some ⟨w6.heap.size, 0, none⟩) 2 2] (0, 0) _ rfl (setRow_heap _ _ _ _ _ _ (unhide R7)) Tryd.underlying26 rfl szE) rfl ?_
      exact ⟨⟨k, 0, ⟨#[]⟩, [x, y]⟩, _, _, rfl, by rw [sz_two]; omega, ((unhide N6).row _ (Nat.lt_succ_self _)).lower (Nat.le_succ _), ((unhide D7).row _).cur, ((unhide D7).row _).gr⟩
theorem drawX3 : DrP 3 := drawXS 2 (by omega) (drawXS 1 (by omega) (drawXS 0 (by omega) drawX0))
theorem drawX4 : DrP 4 := drawXS 3 (by omega) drawX3
end Go.Proofs.YtkolflcjkofleaaDoor

namespace Go.Proofs.YtkolflcjkofleaaDoor
open Go.ChangeShapes Go.WideShapes Go.ChangeAt Go.RowKit
set_option linter.unusedVariables false
set_option linter.unusedSimpArgs false

section
variable {P : Program} {w : World}
/-- What an append leaves lies where it lay, or behind all there was. -/
theorem append_to (base : Nat) (t ty e : TypeId) (i : TypeInfo) (z : Value) (size bytes : Nat) (ht : P.underlying t = some (.slice e)) (hi : P.info? e = some i) (hz : i.zero = some z)
    (hsize : i.size = size) (hby : i.bytes = bytes) (hzs : z.cells.size = size) (hsz : 0 < size)
    (v : Value) (n : Nat) (xs : List Value) (hown : w.ownsRow base e size v n xs)
    (a : Addr) (m c : Nat) (news : List Value) (hl : news.length = m * size) (hnews : ∀ j u, news[j]? = some u → w.cell? (a.add j) = some u) (h1 : ∀ u ∈ news, u.oneCell' = true)
    (h63 : n + m ≤ maxLen) (hbytes : (n + m) * bytes ≤ 140737488355328) (hbase : base ≤ w.heap.size) (hm : 0 < m) :
    ∃ v' w', (Builtin.append_ #[t, t] ty #[v, .slice (some a) m c]).run P w = .ok v' w' ∧ w'.ownsRow base e size v' (n + m) (xs ++ news) ∧ w.grownBy w' v.ownBlock ∧ (∃ g cap, v' = .slice (some ⟨g, 0, none⟩) (n + m) cap ∧ (v.ownBlock = some g ∨ g = w.heap.size)) := by
  obtain ⟨v', w', hr, h2, h3, _⟩ := run_append_own (P := P) w base t ty e i z size bytes ht hi hz hsize hby hzs hsz v n xs hown a m c news hl hnews h1 h63 hbytes hbase
  refine ⟨v', w', hr, h2, h3, ?_⟩
  subst hsize
  subst hby
  have hs : n + m ≤ 9223372036854775807 := by simp only [maxLen] at h63; omega
  rcases hown.2 with ⟨rfl, rfl⟩ | ⟨g, cap, cur, rfl, hbg, hg, hnc, hcm, hcs, htake⟩
  · have k := run_append_nil (P := P) w t ty e i z ht hi hz a m c news hl hnews hm (by omega) (by have hb := hbytes; simp only [Nat.zero_add] at hb; omega)
    rw [hr] at k
    injection k with k1 k2
    exact ⟨_, _, by rw [k1, Nat.zero_add], .inr rfl⟩
  · by_cases hroom : n + m ≤ cap
    · have hfit : n * i.size + news.length ≤ cur.size := by rw [hl, hcs, ← Nat.add_mul]; exact Nat.mul_le_mul_right _ hroom
      have k := run_append_room (P := P) w t ty e i ht hi g n cap cur hg a m c news hl hnews h1 hroom hfit
      rw [hr] at k
      injection k with k1 k2
      exact ⟨_, _, k1, .inl rfl⟩
    · have k := run_append_grow (P := P) w t ty e i z ht hi hz ⟨g, 0, none⟩ n cap xs hown.1 (hown.cells (g := g) rfl) a m c news hl hnews (by omega) (by omega) (growslice_fits (by omega) hbytes)
      rw [hr] at k
      injection k with k1 k2
      exact ⟨_, _, k1, .inr rfl⟩
theorem wp_append_to {o : Oper} {a : Act} {K : Act → World → Prop} {Q : Exit → Act → World → Prop} (s x : Operand) (t : TypeId)
    (ho : o.op = .call { callee := .builtin .append, args := #[s, x], argTypes := #[t, t] })
    (base : Nat) (e : TypeId) (i : TypeInfo) (z : Value) (size bytes : Nat) (ht : P.underlying t = some (.slice e)) (hi : P.info? e = some i) (hz : i.zero = some z)
    (hsize : i.size = size) (hby : i.bytes = bytes) (hzs : z.cells.size = size) (hsz : 0 < size)
    (v : Value) (n : Nat) (xs : List Value) (hs : a.eval s = v) (hown : w.ownsRow base e size v n xs)
    (ad : Addr) (m c : Nat) (news : List Value) (hx : a.eval x = .slice (some ad) m c) (hl : news.length = m * size) (hnews : ∀ j u, news[j]? = some u → w.cell? (ad.add j) = some u) (h1 : ∀ u ∈ news, u.oneCell' = true)
    (h63 : n + m ≤ maxLen) (hbytes : (n + m) * bytes ≤ 140737488355328) (hbase : base ≤ w.heap.size) (hm : 0 < m)
    (h : ∀ g cap w', w'.ownsRow base e size (.slice (some ⟨g, 0, none⟩) (n + m) cap) (n + m) (xs ++ news) → w.grownBy w' v.ownBlock → (v.ownBlock = some g ∨ g = w.heap.size) → K (a.put o.dst (.slice (some ⟨g, 0, none⟩) (n + m : Nat) cap)) w') : o.wp P a w K Q := by
  obtain ⟨v', w', hr, h2, h3, g, cap, rfl, h4⟩ := append_to (P := P) (w := w) base t o.type e i z size bytes ht hi hz hsize hby hzs hsz v n xs hown ad m c news hl hnews h1 h63 hbytes hbase hm
  unfold Oper.wp execOp
  simp only [ho, resolve, invoke, builtin, Sem.run_bind, Sem.run_pure, Result.andThen_ok, List.map_toArray, List.map_cons, List.map_nil, hs, hx, hr]
  exact h g cap w' h2 h3 h4
theorem wpList_append_to {ops : Array Oper} {rest : List Oper} {o : Oper} {a : Act} {Q : Exit → Act → World → Prop} (hgd : o.guard = none) (s x : Operand) (t : TypeId)
    (ho : o.op = .call { callee := .builtin .append, args := #[s, x], argTypes := #[t, t] })
    (base : Nat) (e : TypeId) (i : TypeInfo) (z : Value) (size bytes : Nat) (ht : P.underlying t = some (.slice e)) (hi : P.info? e = some i) (hz : i.zero = some z)
    (hsize : i.size = size) (hby : i.bytes = bytes) (hzs : z.cells.size = size) (hsz : 0 < size)
    (v : Value) (n : Nat) (xs : List Value) (hs : a.eval s = v) (hown : w.ownsRow base e size v n xs)
    (ad : Addr) (m c : Nat) (news : List Value) (hx : a.eval x = .slice (some ad) m c) (hl : news.length = m * size) (hnews : ∀ j u, news[j]? = some u → w.cell? (ad.add j) = some u) (h1 : ∀ u ∈ news, u.oneCell' = true)
    (h63 : n + m ≤ maxLen) (hbytes : (n + m) * bytes ≤ 140737488355328) (hbase : base ≤ w.heap.size) (hm : 0 < m)
    (h : ∀ g cap w', w'.ownsRow base e size (.slice (some ⟨g, 0, none⟩) (n + m) cap) (n + m) (xs ++ news) → w.grownBy w' v.ownBlock → (v.ownBlock = some g ∨ g = w.heap.size) → wpList P ops Q rest (a.put o.dst (.slice (some ⟨g, 0, none⟩) (n + m : Nat) cap)) w') : wpList P ops Q (o :: rest) a w :=
  wpList_plain hgd fun _ hK => wp_append_to s x t ho base e i z size bytes ht hi hz hsize hby hzs hsz v n xs hs hown ad m c news hx hl hnews h1 h63 hbytes hbase hm fun g cap w' h2 h3 h4 => hK _ _ (h g cap w' h2 h3 h4)
end
/-- The cells of a term's own row. -/
def exL (x : Ex) (c : Option Addr) (cp : Nat) : List Value := [.int .i64 x.k, .int .i64 x.n, .string x.s, .slice c x.l.length cp]
theorem HalfX.beyond {w w' : World} {B C cb : Nat} {e : Ex} {a : Option Addr} (h : HalfX w B C e a) (hg : w.grownBy w' (some cb)) (hB : C ≤ cb) : HalfX w' B C e a := by
  obtain ⟨F, h1, h2, h3⟩ := h
  exact ⟨F, OwX.keep e a F (fun b hF => hg.block b (OwX.lt e a F h1 b hF) (fun e => by have := (h3 b hF).2; simp at e; omega)) h1, h2, h3⟩
theorem row_take {w : World} {B g n cap : Nat} {t : TypeId} {cs : List Value} (h : w.ownsRow B t 4 (.slice (some ⟨g, 0, none⟩) n cap) n cs) : ∃ cur : Array Value, w.heap[g]? = some (.cells cur t (0, 0)) ∧ n * 4 ≤ cur.size ∧ B ≤ g ∧ ∀ j, j < n * 4 → cur[j]? = cs[j]? := by
  obtain ⟨hl, h | ⟨g', cap', cur, he, hB, hh, hc, hm, hz, ht⟩⟩ := h
  · cases h.1
  · cases he
    refine ⟨cur, hh, by rw [hz]; exact Nat.mul_le_mul_right _ hc, hB, fun j hj => ?_⟩
    rw [← ht, List.getElem?_take_of_lt hj]
    simp
theorem HalfX.row1 {w : World} {B M : Nat} {x : Ex} {c : Option Addr} {cp g cap : Nat} {t : TypeId} (h : HalfX w B M x c) (ho : w.ownsRow M t 4 (.slice (some ⟨g, 0, none⟩) 1 cap) 1 (exL x c cp)) (hB : B ≤ M) (k n : Int) (s : ByteArray) : NewX w B ⟨k, n, s, [x]⟩ (some ⟨g, 0, none⟩) := by
  obtain ⟨F, h1, h2, h3⟩ := h
  obtain ⟨cur, hh, hz, hg, hc⟩ := row_take ho
  refine ⟨g :: F, (OwX_eq _ _ _ _).2 (.inr ⟨g, cur, t, [F], rfl, hh, hz, rfl, by simp, fun i hi => ?_⟩), List.nodup_cons.2 ⟨fun h => by have := (h3 _ h).2; omega, h2⟩, fun b hb => ?_⟩
  · have hi : i < 1 := hi
    obtain rfl : i = 0 := by omega
    exact ⟨(hc 0 (by omega)).trans rfl, (hc 1 (by omega)).trans rfl, (hc 2 (by omega)).trans rfl, c, cp, (hc 3 (by omega)).trans rfl, h1⟩
  · rcases List.mem_cons.1 hb with rfl | hb
    · omega
    · exact (h3 b hb).1
theorem HalfX.row2 {w : World} {B M C D : Nat} {x y : Ex} {c d : Option Addr} {cp dp g cap : Nat} {t : TypeId} (h : HalfX w B M x c) (k : HalfX w C D y d) (ho : w.ownsRow M t 4 (.slice (some ⟨g, 0, none⟩) 2 cap) 2 (exL x c cp ++ exL y d dp)) (hB : B ≤ M) (hM : M ≤ C) (hg : g < C ∨ D ≤ g) (k' n : Int) (s : ByteArray) : NewX w B ⟨k', n, s, [x, y]⟩ (some ⟨g, 0, none⟩) := by
  obtain ⟨F, h1, h2, h3⟩ := h
  obtain ⟨G, k1, k2, k3⟩ := k
  obtain ⟨cur, hh, hz, hgM, hc⟩ := row_take ho
  refine ⟨g :: (F ++ G), (OwX_eq _ _ _ _).2 (.inr ⟨g, cur, t, [F, G], rfl, hh, hz, rfl, by simp, fun i hi => ?_⟩), List.nodup_cons.2 ⟨fun h => ?_, List.nodup_append.2 ⟨h2, k2, fun a ha b hb e => ?_⟩⟩, fun b hb => ?_⟩
  · have hi : i < 2 := hi
    have hi2 : i = 0 ∨ i = 1 := by omega
    rcases hi2 with rfl | rfl
    · exact ⟨(hc 0 (by omega)).trans rfl, (hc 1 (by omega)).trans rfl, (hc 2 (by omega)).trans rfl, c, cp, (hc 3 (by omega)).trans rfl, h1⟩
    · exact ⟨(hc 4 (by omega)).trans rfl, (hc 5 (by omega)).trans rfl, (hc 6 (by omega)).trans rfl, d, dp, (hc 7 (by omega)).trans rfl, k1⟩
  · rcases List.mem_append.1 h with h | h
    · have := (h3 _ h).2; omega
    · have := k3 _ h; omega
  · subst e
    have := (h3 _ ha).2
    have := (k3 _ hb).1
    omega
  · rcases List.mem_cons.1 hb with rfl | hb
    · omega
    · rcases List.mem_append.1 hb with hb | hb
      · exact (h3 b hb).1
      · have := (k3 b hb).1; omega
end Go.Proofs.YtkolflcjkofleaaDoor

namespace Go.Proofs.YtkolflcjkofleaaDoor
open Go.ChangeShapes Go.WideShapes Go.ChangeAt Go.RowKit
set_option linter.unusedVariables false
set_option linter.unusedSimpArgs false

theorem below_drew {w : World} : Below w.heap.size w w.drew := ⟨rfl, rfl, rfl, Nat.le_refl _, fun _ _ => rfl⟩
theorem row_keep {w w' : World} {g : Nat} {o : Obj} (h : w.heap[g]? = some o) (hb : Below w.heap.size w w') : w'.heap[g]? = some o := (hb.block g (Array.getElem?_eq_some_iff.1 h).1).trans h
/-- A load of a whole row in a guarded place. -/
theorem yields_loadG {P : Program} {ops : Array Oper} {S : World → Prop} {o : Oper} {a : Act} (hw : Region.wanted o (yielded ops a.tmps) = true) (ty : TypeId) (x : Operand) (ho : o.op = .load ty x) (g : Nat) (hx : a.eval x = .pointer (some ⟨g, 0, none⟩)) (t : TypeId) (cs : Array Value) (d : TypeDesc)
    (hS : ∀ w, S w → w.heap[g]? = some (.cells cs t (0, 0))) (hu : P.underlying ty = some d) (hd : (match d with | .struct _ | .array _ _ => true | _ => false) = true) (hi : (P.info? ty).map (·.size) = some cs.size) : YieldsIf P ops S o (.agg cs) a := by
  refine .inl ⟨hw, fun w hw => ?_⟩
  simp only [execOp, ho, hx, Instr.loadAt, Instr.sureAddr, Sem.run_bind, Sem.run_pure, Result.andThen_ok, run_loadVar_row w g t ty cs (0, 0) d (hS w hw) hu hd hi]
end Go.Proofs.YtkolflcjkofleaaDoor

namespace Go.Proofs.YtkolflcjkofleaaDoor
open Go.ChangeShapes Go.WideShapes Go.ChangeAt Go.RowKit
set_option linter.unusedVariables false
set_option maxRecDepth 8000
set_option linter.unusedSimpArgs false

/-- The parts of a term lie at a, no two blocks the same, each as P says. -/
def PX (w : World) (P : Nat → Prop) (e : Ex) (a : Option Addr) : Prop := ∃ F, OwX w e a F ∧ F.Nodup ∧ ∀ b ∈ F, P b
section
variable {w w' : World} {P Q R : Nat → Prop} {e : Ex} {a : Option Addr}
theorem PX.of {B : Nat} (h : NewX w B e a) : PX w (B ≤ ·) e a := h
theorem PX.new {B : Nat} (h : PX w P e a) (hP : ∀ b, P b → B ≤ b) : NewX w B e a := by obtain ⟨F, h1, h2, h3⟩ := h; exact ⟨F, h1, h2, fun b hb => hP b (h3 b hb)⟩
theorem PX.later (h : PX w P e a) (hb : Below w.heap.size w w') : PX w' P e a := by obtain ⟨F, h1, h2, h3⟩ := h; exact ⟨F, h1.later hb, h2, h3⟩
theorem PX.low (h : PX w P e a) : PX w (fun b => P b ∧ b < w.heap.size) e a := by obtain ⟨F, h1, h2, h3⟩ := h; exact ⟨F, h1, h2, fun b hb => ⟨h3 b hb, OwX.lt e a F h1 b hb⟩⟩
theorem PX.mono (h : PX w P e a) (hP : ∀ b, P b → Q b) : PX w Q e a := by obtain ⟨F, h1, h2, h3⟩ := h; exact ⟨F, h1, h2, fun b hb => hP b (h3 b hb)⟩
theorem PX.row {g : Nat} (h : PX w P e a) (cs : Array Value) (hg : ¬ P g) : PX (w.setRow g cs) P e a := by
  obtain ⟨F, h1, h2, h3⟩ := h
  exact ⟨F, OwX.keep e a F (fun b hb => setRow_other _ _ _ _ (fun e => hg (by rw [← e]; exact h3 b hb))) h1, h2, h3⟩
theorem PX.rd (h : PX w P e a) : RdX w 0 e a := by obtain ⟨F, h1, h2, h3⟩ := h; exact OwX.rd e a F (fun _ _ => Nat.zero_le _) h1
theorem PX.leaf (w : World) (P : Nat → Prop) (k n : Int) (s : ByteArray) (a : Option Addr) : PX w P ⟨k, n, s, []⟩ a := ⟨[], (OwX_eq _ _ _ _).2 (.inl ⟨rfl, rfl⟩), List.nodup_nil, fun b hb => by cases hb⟩
end
/-- The cells of a term. -/
def xR (x : Ex) (c : Option Addr) (cp : Nat) : Array Value := #[.int .i64 x.k, .int .i64 x.n, .string x.s, .slice c x.l.length cp]
def xR2 (x : Ex) (c : Option Addr) (cp : Nat) (y : Ex) (d : Option Addr) (dp : Nat) : Array Value := #[.int .i64 x.k, .int .i64 x.n, .string x.s, .slice c x.l.length cp, .int .i64 y.k, .int .i64 y.n, .string y.s, .slice d y.l.length dp]
theorem PX.one {w : World} {P : Nat → Prop} {x : Ex} {c : Option Addr} {cp : Nat} (h : PX w P x c) (hP : P w.heap.size) (k n : Int) (s : ByteArray) (t : TypeId) : PX (w.alloc (.cells (xR x c cp) t)) P ⟨k, n, s, [x]⟩ (some ⟨w.heap.size, 0, none⟩) := by
  obtain ⟨F, h1, h2, h3⟩ := h
  have hl := OwX.lt x c F h1
  refine ⟨w.heap.size :: F, (OwX_eq _ _ _ _).2 (.inr ⟨w.heap.size, _, t, [F], rfl, Array.getElem?_push_size, by simp [xR], rfl, by simp, fun i hi => ?_⟩), List.nodup_cons.2 ⟨fun h => by have := hl _ h; omega, h2⟩, fun b hb => ?_⟩
  · have hi : i < 1 := hi
    obtain rfl : i = 0 := by omega
    exact ⟨rfl, rfl, rfl, c, cp, rfl, OwX.later h1 ((Below.refl _ _).alloc (Nat.le_refl _) _)⟩
  · rcases List.mem_cons.1 hb with rfl | hb
    · exact hP
    · exact h3 b hb
theorem PX.two {w : World} {P Q R : Nat → Prop} {x y : Ex} {c d : Option Addr} {cp dp : Nat} (h : PX w P x c) (k : PX w Q y d) (hPQ : ∀ b, P b → ¬ Q b) (hP : ∀ b, P b → R b) (hQ : ∀ b, Q b → R b) (hR : R w.heap.size) (k' n : Int) (s : ByteArray) (t : TypeId) : PX (w.alloc (.cells (xR2 x c cp y d dp) t)) R ⟨k', n, s, [x, y]⟩ (some ⟨w.heap.size, 0, none⟩) := by
  obtain ⟨F, h1, h2, h3⟩ := h
  obtain ⟨G, k1, k2, k3⟩ := k
  have hl := OwX.lt x c F h1
  have kl := OwX.lt y d G k1
  refine ⟨w.heap.size :: (F ++ G), (OwX_eq _ _ _ _).2 (.inr ⟨w.heap.size, _, t, [F, G], rfl, Array.getElem?_push_size, by simp [xR2], rfl, by simp, fun i hi => ?_⟩), List.nodup_cons.2 ⟨fun h => ?_, List.nodup_append.2 ⟨h2, k2, fun a ha b hb e => ?_⟩⟩, fun b hb => ?_⟩
  · have hi : i < 2 := hi
    have hb := (Below.refl w.heap.size w).alloc (Nat.le_refl _) (.cells (xR2 x c cp y d dp) t)
    have hi2 : i = 0 ∨ i = 1 := by omega
    rcases hi2 with rfl | rfl
    · exact ⟨rfl, rfl, rfl, c, cp, rfl, OwX.later h1 hb⟩
    · exact ⟨rfl, rfl, rfl, d, dp, rfl, OwX.later k1 hb⟩
  · rcases List.mem_append.1 h with h | h
    · have := hl _ h; omega
    · have := kl _ h; omega
  · subst e
    exact hPQ _ (h3 _ ha) (k3 _ hb)
  · rcases List.mem_cons.1 hb with rfl | hb
    · exact hR
    · rcases List.mem_append.1 hb with hb | hb
      · exact hP b (h3 b hb)
      · exact hQ b (k3 b hb)
/-- Of a term of two: its row, and its parts. -/
theorem PX.parts {w : World} {P : Nat → Prop} {k n : Int} {s : ByteArray} {x y : Ex} {a : Option Addr} (h : PX w P ⟨k, n, s, [x, y]⟩ a) : ∃ b c cp d dp, a = some ⟨b, 0, none⟩ ∧ b < w.heap.size ∧ (w.cell? ⟨b, 0, none⟩ = some (.int .i64 x.k) ∧ w.cell? ⟨b, 1, none⟩ = some (.int .i64 x.n) ∧ w.cell? ⟨b, 2, none⟩ = some (.string x.s) ∧ w.cell? ⟨b, 3, none⟩ = some (.slice c x.l.length cp)) ∧ (w.cell? ⟨b, 4, none⟩ = some (.int .i64 y.k) ∧ w.cell? ⟨b, 5, none⟩ = some (.int .i64 y.n) ∧ w.cell? ⟨b, 6, none⟩ = some (.string y.s) ∧ w.cell? ⟨b, 7, none⟩ = some (.slice d y.l.length dp)) ∧ PX w P x c ∧ PX w P y d := by
  obtain ⟨F, h1, h2, h3⟩ := h
  rcases (OwX_eq _ _ _ _).1 h1 with ⟨h0, _⟩ | ⟨b, cs, t, Fs, ha, hh, hz, hF, rfl, hc⟩
  · cases h0
  · obtain ⟨a0, a1, a2, c, cp, a3, oc⟩ := hc 0 (by simp)
    obtain ⟨b0, b1, b2, d, dp, b3, od⟩ := hc 1 (by simp)
    have hF : Fs.length = 2 := hF
    match Fs, hF with
    | [F0, F1], _ =>
      have hn := (List.nodup_cons.1 h2).2
      simp only [List.flatten_cons, List.flatten_nil, List.append_nil] at hn
      obtain ⟨n0, n1, _⟩ := List.nodup_append.1 hn
      refine ⟨b, c, cp, d, dp, ha, (Array.getElem?_eq_some_iff.1 hh).1, ⟨(Lib.cell_of_heap hh _).trans a0, (Lib.cell_of_heap hh _).trans a1, (Lib.cell_of_heap hh _).trans a2, (Lib.cell_of_heap hh _).trans a3⟩, ⟨(Lib.cell_of_heap hh _).trans b0, (Lib.cell_of_heap hh _).trans b1, (Lib.cell_of_heap hh _).trans b2, (Lib.cell_of_heap hh _).trans b3⟩, ⟨F0, oc, n0, fun q hq => h3 q ?_⟩, ⟨F1, od, n1, fun q hq => h3 q ?_⟩⟩
      · exact List.mem_cons_of_mem _ (by simp [hq])
      · exact List.mem_cons_of_mem _ (by simp [hq])
/-- A term answered, its blocks as P says. -/
def GiR (e : Ex) (P : Nat → Prop) (w : World) (r : Ending) (w' : World) : Prop := ∃ (c : Option Addr) (cp : Nat), r = .returned (.agg (e.cs c cp)) ∧ PX w' P e c ∧ Below w.heap.size w w'
end Go.Proofs.YtkolflcjkofleaaDoor

namespace Go.Proofs.YtkolflcjkofleaaDoor
open Go.ChangeShapes Go.WideShapes Go.ChangeAt Go.RowKit
set_option linter.unusedVariables false
set_option maxRecDepth 8000
set_option linter.unusedSimpArgs false

def TwoR (k a b : Int) (w : World) (r : Ending) (w' : World) : Prop := w' = w ∧ r = .returned (.tuple #[.int .i64 ((two11 k a b).getD 0), .bool (two11 k a b).isSome])
set_option maxHeartbeats 2000000 in
theorem twoS_any (k a b : Int) (hk : 5 ≤ k ∧ k ≤ 10) (ha : 0 ≤ a ∧ a ≤ 65535) (hb : 0 ≤ b ∧ b ≤ 65535) (w : World) : Calls Tryd.prog 78 #[.int .i64 k, .int .i64 a, .int .i64 b] w (TwoR k a b w) := by
  have hm0 : 0 ≤ a * b := Int.mul_nonneg ha.1 hb.1
  have hm1 : a * b ≤ 65535 * 65535 := Int.mul_le_mul ha.2 hb.2 hb.1 (by decide)
  have hm2 : a * b ≤ 4294836225 := by omega
  have hn1 : -9223372036854775808 ≤ a * b := by omega
  have hn2 : a * b ≤ 9223372036854775807 := by omega
  unfold TwoR
  have : k = 5 ∨ k = 6 ∨ k = 7 ∨ k = 8 ∨ k = 9 ∨ k = 10 := by omega
  clear hk
  rcases this with rfl | rfl | rfl | rfl | rfl | rfl
  · have E := hide (show two11 5 a b = some ((a + b) % 65536) from rfl)
    rw [unhide E]
    go_enter Tryd.func78, Tryd.ntmps78
    go_wp2_with (go_at_call 83; refine (wrapS_any _ _).mono ?_; rintro e w' ⟨rfl, hw'⟩; rw [hw']; clear hw' w')
    go_ret2
    exact ⟨rfl, rfl⟩
  · have E := hide (show two11 6 a b = some ((a - b) % 65536) from rfl)
    rw [unhide E]
    go_enter Tryd.func78, Tryd.ntmps78
    go_wp2_with (go_at_call 83; refine (wrapS_any _ _).mono ?_; rintro e w' ⟨rfl, hw'⟩; rw [hw']; clear hw' w')
    go_ret2
    exact ⟨rfl, rfl⟩
  · have E := hide (show two11 7 a b = some ((a * b) % 65536) from rfl)
    rw [unhide E]
    go_enter Tryd.func78, Tryd.ntmps78
    go_wp2_with (go_at_call 83; refine (wrapS_any _ _).mono ?_; rintro e w' ⟨rfl, hw'⟩; rw [hw']; clear hw' w')
    go_ret2
    exact ⟨rfl, rfl⟩
  · by_cases h0 : b = 0
    · subst h0
      rw [show two11 8 a 0 = none from rfl]
      go_enter Tryd.func78, Tryd.ntmps78
      go_wp2
      go_ret2
      exact ⟨rfl, rfl⟩
    · have g0 : (b == 0) = false := beq_eq_false_iff_ne.2 h0
      have E := hide (show two11 8 a b = some (a / b) by unfold two11; rw [if_neg (by decide), if_neg (by decide), if_neg (by decide), if_neg (by decide), if_neg (by decide), if_neg h0])
      rw [unhide E]
      go_enter Tryd.func78, Tryd.ntmps78
      go_wp2
      go_ret2
      exact ⟨rfl, rfl⟩
  · have E := hide (show two11 9 a b = some (bits .and .i64 a b) from rfl)
    rw [unhide E]
    go_enter Tryd.func78, Tryd.ntmps78
    go_wp2
    go_ret2
    exact ⟨rfl, rfl⟩
  · have E := hide (show two11 10 a b = some (bits .or .i64 a b) from rfl)
    rw [unhide E]
    go_enter Tryd.func78, Tryd.ntmps78
    go_wp2
    go_ret2
    exact ⟨rfl, rfl⟩
/-- The rows of a function of one term: the argument, and what is answered. -/
structure Bx (w wr : World) (pr : Array Value) : Prop where
  bel : Below w.heap.size w wr
  lt : w.heap.size + 2 ≤ wr.heap.size
  box : wr.heap[w.heap.size]? = some (.cells pr 26 (0, 0))
  res : wr.heap[w.heap.size + 1]? = some (.cells #[.int .i64 0, .int .i64 0, .string ⟨#[]⟩, .slice none 0 0] 26 (0, 0))
theorem Bx.later {w wr w' : World} {pr : Array Value} (h : Bx w wr pr) (hb : Below wr.heap.size wr w') : Bx w w' pr := ⟨h.bel.trans (hb.mono h.bel.size), Nat.le_trans h.lt hb.size, row_keep h.box hb, row_keep h.res hb⟩
theorem Bx.new (w : World) (pr : Array Value) : Bx w ((w.alloc (.cells pr 26)).alloc (.cells #[.int .i64 0, .int .i64 0, .string ⟨#[]⟩, .slice none 0 0] 26)) pr := by
  have hb := ((Below.refl w.heap.size w).alloc (Nat.le_refl _) (.cells pr 26)).alloc (by simp) (.cells #[.int .i64 0, .int .i64 0, .string ⟨#[]⟩, .slice none 0 0] 26)
  have h1 : (w.alloc (.cells pr 26)).heap.size = w.heap.size + 1 := by simp
  refine ⟨hb, by simp, ?_, ?_⟩
  · exact row_keep (heap_alloc_new w _) (below_new _ _)
  · rw [← h1]; exact Array.getElem?_push_size
/-- Neither of these two rows. -/
def Ow (w : World) (P : Nat → Prop) (b : Nat) : Prop := P b ∧ (b < w.heap.size ∨ w.heap.size + 2 ≤ b)
theorem ow_no (w : World) (P : Nat → Prop) : ¬ Ow w P (w.heap.size + 1) := fun h => by have := h.2; omega
theorem ow_in {w : World} {P : Nat → Prop} (hP : ∀ b, w.heap.size ≤ b → P b) {b : Nat} (h : w.heap.size + 2 ≤ b) : Ow w P b := ⟨hP b (by omega), .inr h⟩
theorem PX.ow {w w' : World} {P : Nat → Prop} {e : Ex} {c : Option Addr} (h : PX w P e c) (hb : Below w.heap.size w w') : PX w' (Ow w P) e c := (h.low.mono (fun b hb => ⟨hb.1, .inl hb.2⟩)).later hb
theorem Bx.end {w wr : World} {pr : Array Value} {P : Nat → Prop} {x : Ex} {c : Option Addr} {cp : Nat} (h : Bx w wr pr) (hx : PX wr (Ow w P) x c) (row : Array Value) : GiR x P w (.returned (.agg #[.int .i64 x.k, .int .i64 x.n, .string x.s, .slice c x.l.length cp])) (wr.setRow (w.heap.size + 1) row) :=
  ⟨c, cp, rfl, (hx.row _ (ow_no w P)).mono (fun b hb => hb.1), h.bel.grown (grownBy_row _) h.bel.size (fun k e => by cases e; omega)⟩
set_option maxHeartbeats 4000000 in
theorem addS_any (a : Ex) (c : Option Addr) (cp : Nat) (n : Int) (P : Nat → Prop) (w : World) (h : PX w P a c) (hP : ∀ b, w.heap.size ≤ b → P b) : Calls Tryd.prog 93 #[.agg (a.cs c cp), .int .i64 n] w (GiR (addX a n) P w) := by
  have X0 := hide (Bx.new w #[.int .i64 a.k, .int .i64 a.n, .string a.s, .slice c a.l.length cp])
  have A0 := hide (h.ow (unhide X0).bel)
  have HP := hide hP
  generalize hX : GiR (addX a n) P w = X
  have HX := hide hX
  unfold Ex.cs
  clear h hP hX
  by_cases hz : n % 65536 = 0
  · have EQ0 := hide (show addX a n = a by unfold addX wr; rw [if_pos hz])
    rw [unhide EQ0] at HX
    go_enter Tryd.func93, Tryd.ntmps93
    go_wp2_with fail
    generalize (w.alloc (.cells #[.int .i64 a.k, .int .i64 a.n, .string a.s, .slice c a.l.length cp] 26)).alloc (.cells #[.int .i64 0, .int .i64 0, .string ⟨#[]⟩, .slice none 0 0] 26) = W at *
    refine (wrapS_any _ _).mono ?_
    rintro e w' ⟨rfl, hw'⟩
    rw [hw', hz]
    clear hw' w'
    go_wp2_with (first | (refine wpList_load_row rfl 26 _ rfl w.heap.size rfl 26 #[.int .i64 a.k, .int .i64 a.n, .string a.s, .slice c a.l.length cp] (0, 0) _ (unhide X0).box Tryd.underlying26 rfl (by kernel_rfl) ?_) | (refine wpList_store_row rfl 26 _ _ rfl (w.heap.size + 1) #[.int .i64 a.k, .int .i64 a.n, .string a.s, .slice c a.l.length cp] rfl rfl 26 _ (unhide X0).res szE rfl (ex_one _ _ _ _ _ _) ?_))
    refine bodyPost_ret (results_cell_row (P := Tryd.prog) rfl _ _ (w.heap.size + 1) 26 #[.int .i64 a.k, .int .i64 a.n, .string a.s, .slice c a.l.length cp] (0, 0) _ rfl (setRow_heap _ _ _ _ _ _ (unhide X0).res) Tryd.underlying26 rfl szE) rfl ?_
    rw [← unhide HX]
    exact (unhide X0).end (unhide A0) _
  · have hzb : (n % 65536 == 0) = false := beq_eq_false_iff_ne.2 hz
    have EQ0 := hide (show addX a n = ⟨5, 0, ⟨#[]⟩, [a, numX n]⟩ by unfold addX; rw [if_neg (show ¬ wr n = 0 from hz)]; rfl)
    rw [unhide EQ0] at HX
    go_enter Tryd.func93, Tryd.ntmps93
    go_wp2_with (go_at_call 83; refine (wrapS_any _ _).mono ?_; rintro e w' ⟨rfl, hw'⟩; rw [hw']; clear hw' w')
    generalize (w.alloc (.cells #[.int .i64 a.k, .int .i64 a.n, .string a.s, .slice c a.l.length cp] 26)).alloc (.cells #[.int .i64 0, .int .i64 0, .string ⟨#[]⟩, .slice none 0 0] 26) = W at *
    have X1 := hide ((unhide X0).later (below_drew (w := W)))
    have A1 := hide ((unhide A0).later (below_drew (w := W)))
    have D1 := hide (unhide X1).box
    clear X0 A0
    refine wp_region_held_drew (S := fun v => v.heap[w.heap.size]? = some (.cells #[.int .i64 a.k, .int .i64 a.n, .string a.s, .slice c a.l.length cp] 26 (0, 0))) (by kernel_rfl) (unhide D1) (fun hS => ?_)
    have HS := hide hS
    clear hS
    generalize W.drew = W1 at *
    refine wpAnyH_take (i := 0) (v := .agg #[.int .i64 a.k, .int .i64 a.n, .string a.s, .slice c a.l.length cp]) rfl (by kernel_rfl) (by kernel_rfl) (by kernel_rfl) (fun _ _ _ h => h) (yields_loadG (by rfl) 26 _ rfl w.heap.size rfl 26 #[.int .i64 a.k, .int .i64 a.n, .string a.s, .slice c a.l.length cp] _ (fun w h => h) Tryd.underlying26 rfl (by kernel_rfl)) (unhide HS) ?_
    go_simp
    refine wpAnyH_take (i := 1) (v := .int .i64 n) rfl (by kernel_rfl) (by kernel_rfl) (by kernel_rfl) (fun _ _ _ h => h) (Or.inl ⟨by rfl, fun w hc => ?_⟩) (unhide HS) ?_
    · clear hc; go_simp
    go_simp
    refine wpAnyH_ready (rs := [2]) (by kernel_rfl) (by simp) ?_
    refine AllReadyH.cons rfl (fun K2 hK => ?_) AllReadyH.nil
    go_simp
    refine (numD n _).mono ?_
    rintro r w2 ⟨rfl, hb2⟩
    have X2 := hide ((unhide X1).later hb2)
    have A2 := hide ((unhide A1).later hb2)
    have D2 := hide (unhide X2).box
    refine hK.out _ _ (unhide D2) (fun hS => ?_)
    clear HS
    have HS := hide hS
    clear hS hK K2
    clear hb2 X1 A1 D1
    refine wpAnyH_ready (rs := [3]) (by kernel_rfl) (by simp) ?_
    refine AllReadyH.cons rfl (fun K2 hK => ?_) AllReadyH.nil
    go_simp
    have hb3 := below_new w2 (.cells #[.int .i64 a.k, .int .i64 a.n, .string a.s, .slice c a.l.length cp, .int .i64 1, .int .i64 (n % 65536), .string ⟨#[]⟩, .slice none 0 0] 26)
    have hP3 := ow_in (unhide HP) (unhide X2).lt
    have A3 := hide (show PX (w2.alloc (.cells #[.int .i64 a.k, .int .i64 a.n, .string a.s, .slice c a.l.length cp, .int .i64 1, .int .i64 (n % 65536), .string ⟨#[]⟩, .slice none 0 0] 26)) (Ow w P) ⟨5, 0, ⟨#[]⟩, [a, numX n]⟩ (some ⟨w2.heap.size, 0, none⟩) from (unhide A2).two (k' := 5) (n := 0) (s := ⟨#[]⟩) (cp := cp) (dp := 0) (t := 26) (PX.leaf w2 (fun _ => False) 1 (wr n) (⟨#[]⟩ : ByteArray) none) (fun _ _ h => h) (fun _ h => h) (fun _ h => h.elim) hP3)
    have X3 := hide ((unhide X2).later hb3)
    have D3 := hide (unhide X3).box
    clear hb3 hP3 X2 A2 D2
    generalize w2.alloc (.cells #[.int .i64 a.k, .int .i64 a.n, .string a.s, .slice c a.l.length cp, .int .i64 1, .int .i64 (n % 65536), .string ⟨#[]⟩, .slice none 0 0] 26) = w3 at *
    generalize w2.heap.size = g2 at *
    refine hK.out _ _ (unhide D3) (fun hS => ?_)
    clear HS
    have HS := hide hS
    clear hS hK K2
    refine wpAnyH_take (i := 4) (v := .agg #[.int .i64 5, .int .i64 0, .string ⟨#[]⟩, .slice (some ⟨g2, 0, none⟩) 2 2]) rfl (by kernel_rfl) (by kernel_rfl) (by kernel_rfl) (fun _ _ _ h => h) (Or.inl ⟨by rfl, fun w hc => ?_⟩) (unhide HS) ?_
    · clear hc; go_simp
    go_simp
    refine wpAnyH_ready (rs := [5]) (by kernel_rfl) (by simp) ?_
    refine AllReadyH.cons rfl (fun K2 hK => ?_) AllReadyH.nil
    rw [if_pos (by rfl)]
    refine wp_store_row 26 _ _ rfl (w.heap.size + 1) #[.int .i64 5, .int .i64 0, .string ⟨#[]⟩, .slice (some ⟨g2, 0, none⟩) 2 2] rfl rfl 26 _ (unhide X3).res szE rfl (ex_one _ _ _ _ _ _) ?_
    refine hK.out _ _ ((setRow_other _ _ _ _ (by omega)).trans (unhide D3)) (fun hS => ?_)
    clear HS
    have HS := hide hS
    clear hS hK K2
    refine wpAnyH_done (by kernel_rfl) ?_ _
    clear HS D3
    go_wp2
    refine bodyPost_ret (results_cell_row (P := Tryd.prog) rfl _ _ (w.heap.size + 1) 26 #[.int .i64 5, .int .i64 0, .string ⟨#[]⟩, .slice (some ⟨g2, 0, none⟩) 2 2] (0, 0) _ rfl (setRow_heap _ _ _ _ _ _ (unhide X3).res) Tryd.underlying26 rfl szE) rfl ?_
    rw [← unhide HX]
    exact (unhide X3).end (unhide A3) _
end Go.Proofs.YtkolflcjkofleaaDoor

namespace Go.Proofs.YtkolflcjkofleaaDoor
open Go.ChangeShapes Go.WideShapes Go.ChangeAt Go.RowKit
set_option linter.unusedVariables false
set_option maxRecDepth 8000
set_option linter.unusedSimpArgs false

theorem two_new2 (w : World) (o1 o2 : Obj) : ((w.alloc o1).alloc o2).heap[w.heap.size + 1]? = some o2 ∧ Below w.heap.size w ((w.alloc o1).alloc o2) := by
  have h1 : (w.alloc o1).heap.size = w.heap.size + 1 := by simp
  refine ⟨?_, ((Below.refl _ _).alloc (Nat.le_refl _) _).alloc (by simp) _⟩
  rw [← h1]
  exact Array.getElem?_push_size
def PrR (e : Ex) (P : Nat → Prop) (w : World) (r : Ending) (w' : World) : Prop := ∃ (c : Option Addr) (cp : Nat), r = .returned (.tuple #[.agg ((prtX e).1.cs c cp), .int .i64 (prtX e).2]) ∧ PX w' P (prtX e).1 c ∧ Below w.heap.size w w'
theorem Bx.pend {w wr : World} {pr : Array Value} {P : Nat → Prop} {e x : Ex} {m : Int} {c : Option Addr} {cp : Nat} (h : Bx w wr pr) (hp : prtX e = (x, m)) (hx : PX wr (Ow w P) x c) (row : Array Value) : PrR e P w (.returned (.tuple #[.agg #[.int .i64 x.k, .int .i64 x.n, .string x.s, .slice c x.l.length cp], .int .i64 m])) (wr.setRow (w.heap.size + 1) row) := by
  unfold PrR
  rw [hp]
  exact ⟨c, cp, rfl, (hx.row _ (ow_no w P)).mono (fun b hb => hb.1), h.bel.grown (grownBy_row _) h.bel.size (fun k e => by cases e; omega)⟩
set_option maxHeartbeats 4000000 in
theorem prtS_no (e : Ex) (c : Option Addr) (cp : Nat) (P : Nat → Prop) (w : World) (h : PX w P e c) (hp : prtX e = (e, 0)) (h5 : e.k ≠ 5) : Calls Tryd.prog 92 #[.agg (e.cs c cp)] w (PrR e P w) := by
  have X1 := hide (two_new2 w (.cells #[.int .i64 e.k, .int .i64 e.n, .string e.s, .slice c e.l.length cp] 26) (.cells #[.int .i64 e.k, .int .i64 e.n, .string e.s, .slice c e.l.length cp] 26)).symm
  have A1 := hide (h.later (unhide X1).1)
  have g5 : (e.k == 5) = false := beq_eq_false_iff_ne.2 h5
  have PP := hide hp
  generalize hX : PrR e P w = X
  have HX := hide hX
  unfold Ex.cs
  clear h hX hp
  go_enter Tryd.func92, Tryd.ntmps92
  go_wp2
  refine bodyPost_ret (results_row2 (P := Tryd.prog) rfl _ _ (w.heap.size + 1) 26 #[.int .i64 e.k, .int .i64 e.n, .string e.s, .slice c e.l.length cp] (0, 0) _ rfl (unhide X1).2 Tryd.underlying26 rfl szE) rfl ?_
  rw [← unhide HX]
  unfold PrR
  rw [unhide PP]
  exact ⟨c, cp, rfl, unhide A1, (unhide X1).1⟩
set_option maxHeartbeats 4000000 in
theorem prtS_no2 (e x y : Ex) (c : Option Addr) (cp : Nat) (P : Nat → Prop) (w : World) (h : PX w P e c) (hp : prtX e = (e, 0)) (hk : e.k = 5) (hl : e.l = [x, y]) (h1 : y.k ≠ 1) : Calls Tryd.prog 92 #[.agg (e.cs c cp)] w (PrR e P w) := by
  obtain ⟨k, n, s, l⟩ := e
  obtain rfl : k = 5 := hk
  obtain rfl : l = [x, y] := hl
  have g1 : (y.k == 1) = false := beq_eq_false_iff_ne.2 h1
  have X1 := hide (two_new2 w (.cells #[.int .i64 5, .int .i64 n, .string s, .slice c 2 cp] 26) (.cells #[.int .i64 5, .int .i64 n, .string s, .slice c 2 cp] 26)).symm
  have A1 := hide (h.later (unhide X1).1)
  have PP := hide hp
  have BZ := hide (two_new2 w (.cells #[.int .i64 5, .int .i64 n, .string s, .slice c 2 cp] 26) (.cells #[.int .i64 0, .int .i64 0, .string ⟨#[]⟩, .slice none 0 0] 26)).2
  have A2 := h.later (unhide BZ)
  obtain ⟨blk, d, dp, f, fp, rfl, hlt, ⟨a0, a1, a2, a3⟩, ⟨b0, b1, b2, b3⟩, _, _⟩ := A2.parts
  generalize hX : PrR ⟨5, n, s, [x, y]⟩ P w = X
  have HX := hide hX
  unfold Ex.cs
  clear h hX hp A2 h1
  go_enter Tryd.func92, Tryd.ntmps92
  go_wp2
  refine bodyPost_ret (results_row2 (P := Tryd.prog) rfl _ _ (w.heap.size + 1) 26 #[.int .i64 5, .int .i64 n, .string s, .slice (some ⟨blk, 0, none⟩) 2 cp] (0, 0) _ rfl (unhide X1).2 Tryd.underlying26 rfl szE) rfl ?_
  rw [← unhide HX]
  unfold PrR
  rw [unhide PP]
  exact ⟨_, cp, rfl, unhide A1, (unhide X1).1⟩
set_option maxHeartbeats 4000000 in
theorem prtS_yes (x : Ex) (m : Int) (c : Option Addr) (cp : Nat) (P : Nat → Prop) (w : World) (h : PX w P ⟨5, 0, E0, [x, ⟨1, m, E0, []⟩]⟩ c) : Calls Tryd.prog 92 #[.agg ((Ex.mk 5 0 E0 [x, ⟨1, m, E0, []⟩]).cs c cp)] w (PrR ⟨5, 0, E0, [x, ⟨1, m, E0, []⟩]⟩ P w) := by
  obtain ⟨blk, d, dp, f, fp, rfl, hlt0, _, _, _, _⟩ := h.parts
  have X0 := hide (Bx.new w #[.int .i64 5, .int .i64 0, .string ⟨#[]⟩, .slice (some ⟨blk, 0, none⟩) 2 cp])
  have A0 := h.ow (unhide X0).bel
  obtain ⟨blk', d, dp, f, fp, e', hlt, ⟨a0, a1, a2, a3⟩, ⟨b0, b1, b2, b3⟩, hx, _⟩ := A0.parts
  cases e'
  have HA := hide hx
  have PP := hide (show prtX ⟨5, 0, E0, [x, ⟨1, m, E0, []⟩]⟩ = (x, m) from rfl)
  generalize hX : PrR ⟨5, 0, E0, [x, ⟨1, m, E0, []⟩]⟩ P w = X
  have HX := hide hX
  show Calls Tryd.prog 92 #[.agg #[.int .i64 5, .int .i64 0, .string ⟨#[]⟩, .slice (some ⟨blk, 0, none⟩) 2 cp]] w X
  clear h hX A0 hx
  go_enter Tryd.func92, Tryd.ntmps92
  go_wp2
  generalize (w.alloc (.cells #[.int .i64 5, .int .i64 0, .string ⟨#[]⟩, .slice (some ⟨blk, 0, none⟩) 2 cp] 26)).alloc (.cells #[.int .i64 0, .int .i64 0, .string ⟨#[]⟩, .slice none 0 0] 26) = W at *
  have X1 := hide ((unhide X0).later (below_drew (w := W)))
  have A1 := hide ((unhide HA).later (below_drew (w := W)))
  have D1 := hide (show (fun v => v.heap[w.heap.size]? = some (.cells #[.int .i64 5, .int .i64 0, .string ⟨#[]⟩, .slice (some ⟨blk, 0, none⟩) 2 cp] 26 (0, 0)) ∧ (v.cell? ⟨blk, 0, none⟩ = some (.int .i64 x.k) ∧ v.cell? ⟨blk, 1, none⟩ = some (.int .i64 x.n) ∧ v.cell? ⟨blk, 2, none⟩ = some (.string x.s) ∧ v.cell? ⟨blk, 3, none⟩ = some (.slice d x.l.length dp)) ∧ v.cell? ⟨blk, 5, none⟩ = some (.int .i64 m)) W.drew from ⟨(unhide X1).box, ⟨a0, a1, a2, a3⟩, b1⟩)
  clear X0 HA a0 a1 a2 a3 b0 b1 b2 b3
  refine wp_region_held_drew (S := fun v => v.heap[w.heap.size]? = some (.cells #[.int .i64 5, .int .i64 0, .string ⟨#[]⟩, .slice (some ⟨blk, 0, none⟩) 2 cp] 26 (0, 0)) ∧ (v.cell? ⟨blk, 0, none⟩ = some (.int .i64 x.k) ∧ v.cell? ⟨blk, 1, none⟩ = some (.int .i64 x.n) ∧ v.cell? ⟨blk, 2, none⟩ = some (.string x.s) ∧ v.cell? ⟨blk, 3, none⟩ = some (.slice d x.l.length dp)) ∧ v.cell? ⟨blk, 5, none⟩ = some (.int .i64 m)) (by kernel_rfl) (unhide D1) (fun hS => ?_)
  have HS := hide hS
  clear hS
  generalize W.drew = W1 at *
  refine wpAnyH_take (i := 0) (v := .pointer (some ⟨w.heap.size, 3, none⟩)) rfl (by kernel_rfl) (by kernel_rfl) (by kernel_rfl) (fun _ _ _ h => h) (Or.inl ⟨by rfl, fun w hc => ?_⟩) (unhide HS) ?_
  · clear hc; go_simp
  go_simp
  refine wpAnyH_take (i := 1) (v := .slice (some ⟨blk, 0, none⟩) 2 cp) rfl (by kernel_rfl) (by kernel_rfl) (by kernel_rfl) (fun _ _ _ h => h) (Or.inl ⟨by rfl, fun w hc => ?_⟩) (unhide HS) ?_
  · have q := Lib.cell_of_heap hc.1 3; clear hc; go_simp
  go_simp
  refine wpAnyH_take (i := 2) (v := .pointer (some ⟨blk, 0, none⟩)) rfl (by kernel_rfl) (by kernel_rfl) (by kernel_rfl) (fun _ _ _ h => h) (Or.inl ⟨by rfl, fun w hc => ?_⟩) (unhide HS) ?_
  · clear hc; go_simp
  go_simp
  refine wpAnyH_take (i := 3) (v := .agg #[.int .i64 x.k, .int .i64 x.n, .string x.s, .slice d x.l.length dp]) rfl (by kernel_rfl) (by kernel_rfl) (by kernel_rfl) (fun _ _ _ h => h) (Or.inl ⟨by rfl, fun w hc => ?_⟩) (unhide HS) ?_
  · obtain ⟨_, ⟨h0, h1, h2, h3⟩, _⟩ := hc; go_simp
  go_simp
  refine wpAnyH_take (i := 4) (v := .pointer (some ⟨w.heap.size, 3, none⟩)) rfl (by kernel_rfl) (by kernel_rfl) (by kernel_rfl) (fun _ _ _ h => h) (Or.inl ⟨by rfl, fun w hc => ?_⟩) (unhide HS) ?_
  · clear hc; go_simp
  go_simp
  refine wpAnyH_take (i := 5) (v := .slice (some ⟨blk, 0, none⟩) 2 cp) rfl (by kernel_rfl) (by kernel_rfl) (by kernel_rfl) (fun _ _ _ h => h) (Or.inl ⟨by rfl, fun w hc => ?_⟩) (unhide HS) ?_
  · have q := Lib.cell_of_heap hc.1 3; clear hc; go_simp
  go_simp
  refine wpAnyH_take (i := 6) (v := .pointer (some ⟨blk, 4, none⟩)) rfl (by kernel_rfl) (by kernel_rfl) (by kernel_rfl) (fun _ _ _ h => h) (Or.inl ⟨by rfl, fun w hc => ?_⟩) (unhide HS) ?_
  · clear hc; go_simp
  go_simp
  refine wpAnyH_take (i := 7) (v := .pointer (some ⟨blk, 5, none⟩)) rfl (by kernel_rfl) (by kernel_rfl) (by kernel_rfl) (fun _ _ _ h => h) (Or.inl ⟨by rfl, fun w hc => ?_⟩) (unhide HS) ?_
  · clear hc; go_simp
  go_simp
  refine wpAnyH_take (i := 8) (v := .int .i64 m) rfl (by kernel_rfl) (by kernel_rfl) (by kernel_rfl) (fun _ _ _ h => h) (Or.inl ⟨by rfl, fun w hc => ?_⟩) (unhide HS) ?_
  · obtain ⟨_, _, h0⟩ := hc; go_simp
  go_simp
  refine wpAnyH_ready (rs := [9]) (by kernel_rfl) (by simp) ?_
  refine AllReadyH.cons rfl (fun K2 hK => ?_) AllReadyH.nil
  rw [if_pos (by rfl)]
  refine wp_store_row 26 _ _ rfl (w.heap.size + 1) #[.int .i64 x.k, .int .i64 x.n, .string x.s, .slice d x.l.length dp] rfl rfl 26 _ (unhide X1).res szE rfl (ex_one _ _ _ _ _ _) ?_
  have KE := fun (i : Nat) => (World.cell?_of_block (a := ⟨blk, i, none⟩) (setRow_other W1 (w.heap.size + 1) blk #[.int .i64 x.k, .int .i64 x.n, .string x.s, .slice d x.l.length dp] (by omega)))
  refine hK.out _ _ (⟨(setRow_other _ _ _ _ (by omega)).trans (unhide D1).1, ⟨(KE 0).trans (unhide D1).2.1.1, (KE 1).trans (unhide D1).2.1.2.1, (KE 2).trans (unhide D1).2.1.2.2.1, (KE 3).trans (unhide D1).2.1.2.2.2⟩, (KE 5).trans (unhide D1).2.2⟩) (fun hS => ?_)
  clear HS
  have HS := hide hS
  clear hS hK K2
  clear KE
  refine wpAnyH_take (i := 10) (v := .int .i64 m) rfl (by kernel_rfl) (by kernel_rfl) (by kernel_rfl) (fun _ _ _ h => h) (Or.inl ⟨by rfl, fun w hc => ?_⟩) (unhide HS) ?_
  · clear hc; go_simp
  go_simp
  refine wpAnyH_done (by kernel_rfl) ?_ _
  clear HS D1
  go_wp2
  refine bodyPost_ret (results_row2 (P := Tryd.prog) rfl _ _ (w.heap.size + 1) 26 #[.int .i64 x.k, .int .i64 x.n, .string x.s, .slice d x.l.length dp] (0, 0) _ rfl (setRow_heap _ _ _ _ _ _ (unhide X1).res) Tryd.underlying26 rfl szE) rfl ?_
  rw [← unhide HX]
  exact (unhide X1).pend (unhide PP) (unhide A1) _
theorem prtS_any {d : Nat} (e : Ex) (ho : okF (d + 1) false e = true) (c : Option Addr) (cp : Nat) (P : Nat → Prop) (w : World) (h : PX w P e c) : Calls Tryd.prog 92 #[.agg (e.cs c cp)] w (PrR e P w) := by
  rcases prt_cases ho with ⟨hp, hn⟩ | ⟨b, m, hm, rfl, _, _⟩
  · by_cases h5 : e.k = 5
    · rcases ok_sev ho with ⟨n, hn, rfl⟩ | ⟨s, hs, rfl⟩ | rfl | ⟨n, hn, rfl⟩ | ⟨s, hs, rfl⟩ | ⟨a, ha, rfl⟩ | ⟨k, a, b, hk, ha, hb, rfl⟩
      · exact absurd (show (1 : Int) = 5 from h5) (by decide)
      · exact absurd (show (2 : Int) = 5 from h5) (by decide)
      · exact absurd (show (3 : Int) = 5 from h5) (by decide)
      · exact absurd (show (11 : Int) = 5 from h5) (by decide)
      · exact absurd (show (12 : Int) = 5 from h5) (by decide)
      · exact absurd (show (4 : Int) = 5 from h5) (by decide)
      · exact prtS_no2 _ a b c cp P w h hp h5 rfl (fun e1 => hn ⟨h5, e1⟩)
    · exact prtS_no e c cp P w h hp h5
  · exact prtS_yes b m c cp P w h
end Go.Proofs.YtkolflcjkofleaaDoor

namespace Go.Proofs.YtkolflcjkofleaaDoor
open Go.ChangeShapes Go.WideShapes Go.ChangeAt Go.RowKit
set_option linter.unusedVariables false
set_option maxRecDepth 8000
set_option linter.unusedSimpArgs false

theorem prt_in {d : Nat} {a : Ex} (h : okF (d + 1) false a = true) : 0 ≤ (prtX a).2 ∧ (prtX a).2 ≤ 65535 := by
  rcases prt_cases h with ⟨e, _⟩ | ⟨b, m, hm, rfl, e, hb⟩
  · rw [e]; exact ⟨Int.le_refl _, show (0 : Int) ≤ 65535 by decide⟩
  · rw [e]; exact hm
set_option maxHeartbeats 4000000 in
theorem sumS_any {d : Nat} (a : Ex) (ho : okF (d + 1) false a = true) (c : Option Addr) (cp : Nat) (n : Int) (hn : -65535 ≤ n ∧ n ≤ 65535) (P : Nat → Prop) (w : World) (h : PX w P a c) (hP : ∀ b, w.heap.size ≤ b → P b) : Calls Tryd.prog 80 #[.agg (a.cs c cp), .int .i64 n] w (GiR (sumX a n) P w) := by
  have X0 := hide (Bx.new w #[.int .i64 a.k, .int .i64 a.n, .string a.s, .slice c a.l.length cp])
  have PR := hide (prtS_any a ho c cp (Ow w P) _ (h.ow (unhide X0).bel))
  have HP := hide hP
  have hpi := prt_in ho
  have EQ := hide (show sumX a n = addX (prtX a).1 ((prtX a).2 + n) from rfl)
  generalize hX : GiR (sumX a n) P w = X
  have HX := hide hX
  unfold PrR at PR
  generalize prtX a = pa at *
  obtain ⟨x, m⟩ := pa
  simp only at PR hpi EQ
  rw [unhide EQ] at HX
  unfold Ex.cs at PR ⊢
  clear h hP hX EQ ho
  go_enter Tryd.func80, Tryd.ntmps80
  go_wp2_with fail
  generalize (w.alloc (.cells #[.int .i64 a.k, .int .i64 a.n, .string a.s, .slice c a.l.length cp] 26)).alloc (.cells #[.int .i64 0, .int .i64 0, .string ⟨#[]⟩, .slice none 0 0] 26) = W at *
  refine (unhide PR).mono ?_
  rintro r w1 ⟨c1, cp1, rfl, hx1, hb1⟩
  have X1 := (unhide X0).later hb1
  have hb2 := below_new w1 (.cells #[.int .i64 x.k, .int .i64 x.n, .string x.s, .slice c1 x.l.length cp1] 26)
  have X2 := hide (X1.later hb2)
  have G2 := hide (show (w1.alloc (.cells #[.int .i64 x.k, .int .i64 x.n, .string x.s, .slice c1 x.l.length cp1] 26)).heap[w1.heap.size]? = some (.cells #[.int .i64 x.k, .int .i64 x.n, .string x.s, .slice c1 x.l.length cp1] 26 (0, 0)) from Array.getElem?_push_size)
  have AD := hide (addS_any x c1 cp1 (m + n) (Ow w P) _ (hx1.later hb2) (fun b hb => ow_in (unhide HP) (Nat.le_trans (unhide X2).lt hb)))
  unfold GiR Ex.cs at AD
  clear hx1 hb1 hb2 X1 X0 PR
  go_wp2_with (refine wpList_load_row rfl 26 _ rfl w1.heap.size rfl 26 #[.int .i64 x.k, .int .i64 x.n, .string x.s, .slice c1 x.l.length cp1] (0, 0) _ (unhide G2) Tryd.underlying26 rfl (by kernel_rfl) ?_)
  generalize w1.alloc (.cells #[.int .i64 x.k, .int .i64 x.n, .string x.s, .slice c1 x.l.length cp1] 26) = w2 at *
  generalize w1.heap.size = g1 at *
  refine (unhide AD).mono ?_
  rintro r w3 ⟨c3, cp3, rfl, hx3, hb3⟩
  have X3 := hide ((unhide X2).later hb3)
  have A3 := hide hx3
  clear hx3 hb3 X2 G2 AD
  generalize addX x (m + n) = y at *
  go_wp2_with (refine wpList_store_row rfl 26 _ _ rfl (w.heap.size + 1) #[.int .i64 y.k, .int .i64 y.n, .string y.s, .slice c3 y.l.length cp3] rfl rfl 26 _ ((unhide X3).res) szE rfl (ex_one _ _ _ _ _ _) ?_)
  refine bodyPost_ret (results_cell_row (P := Tryd.prog) rfl _ _ (w.heap.size + 1) 26 #[.int .i64 y.k, .int .i64 y.n, .string y.s, .slice c3 y.l.length cp3] (0, 0) _ rfl (setRow_heap _ _ _ _ _ _ ((unhide X3).res)) Tryd.underlying26 rfl szE) rfl ?_
  rw [← unhide HX]
  exact (unhide X3).end (unhide A3) _
/-- The rows of a function of two terms: the arguments, and what is answered. -/
structure By (w wr : World) (pa pb : Array Value) : Prop where
  bel : Below w.heap.size w wr
  lt : w.heap.size + 3 ≤ wr.heap.size
  boxa : wr.heap[w.heap.size]? = some (.cells pa 26 (0, 0))
  boxb : wr.heap[w.heap.size + 1]? = some (.cells pb 26 (0, 0))
  res : wr.heap[w.heap.size + 2]? = some (.cells #[.int .i64 0, .int .i64 0, .string ⟨#[]⟩, .slice none 0 0] 26 (0, 0))
theorem By.later {w wr w' : World} {pa pb : Array Value} (h : By w wr pa pb) (hb : Below wr.heap.size wr w') : By w w' pa pb := ⟨h.bel.trans (hb.mono h.bel.size), Nat.le_trans h.lt hb.size, row_keep h.boxa hb, row_keep h.boxb hb, row_keep h.res hb⟩
theorem By.new (w : World) (pa pb : Array Value) : By w (((w.alloc (.cells pa 26)).alloc (.cells pb 26)).alloc (.cells #[.int .i64 0, .int .i64 0, .string ⟨#[]⟩, .slice none 0 0] 26)) pa pb := by
  have hb := (((Below.refl w.heap.size w).alloc (Nat.le_refl _) (.cells pa 26)).alloc (by simp) (.cells pb 26)).alloc (by simp; omega) (.cells #[.int .i64 0, .int .i64 0, .string ⟨#[]⟩, .slice none 0 0] 26)
  have h1 : (w.alloc (.cells pa 26)).heap.size = w.heap.size + 1 := by simp
  have h2 : ((w.alloc (.cells pa 26)).alloc (.cells pb 26)).heap.size = w.heap.size + 2 := by simp
  refine ⟨hb, by simp, ?_, ?_, ?_⟩
  · exact row_keep (row_keep (heap_alloc_new w _) (below_new _ _)) (below_new _ _)
  · refine row_keep ?_ (below_new _ _)
    rw [← h1]; exact Array.getElem?_push_size
  · rw [← h2]; exact Array.getElem?_push_size
def Oy (w : World) (P : Nat → Prop) (b : Nat) : Prop := P b ∧ (b < w.heap.size ∨ w.heap.size + 3 ≤ b)
theorem oy_no (w : World) (P : Nat → Prop) : ¬ Oy w P (w.heap.size + 2) := fun h => by have := h.2; omega
theorem oy_in {w : World} {P : Nat → Prop} (hP : ∀ b, w.heap.size ≤ b → P b) {b : Nat} (h : w.heap.size + 3 ≤ b) : Oy w P b := ⟨hP b (by omega), .inr h⟩
theorem PX.oy {w w' : World} {P : Nat → Prop} {e : Ex} {c : Option Addr} (h : PX w P e c) (hb : Below w.heap.size w w') : PX w' (Oy w P) e c := (h.low.mono (fun b hb => ⟨hb.1, .inl hb.2⟩)).later hb
theorem By.end {w wr : World} {pa pb : Array Value} {P : Nat → Prop} {x : Ex} {c : Option Addr} {cp : Nat} (h : By w wr pa pb) (hx : PX wr (Oy w P) x c) (row : Array Value) : GiR x P w (.returned (.agg #[.int .i64 x.k, .int .i64 x.n, .string x.s, .slice c x.l.length cp])) (wr.setRow (w.heap.size + 2) row) :=
  ⟨c, cp, rfl, (hx.row _ (oy_no w P)).mono (fun b hb => hb.1), h.bel.grown (grownBy_row _) h.bel.size (fun k e => by cases e; omega)⟩
set_option maxHeartbeats 4000000 in
theorem subS_num {d : Nat} (a b : Ex) (oa : okF (d + 1) false a = true) (ob : okF (d + 1) false b = true) (c e : Option Addr) (cp ep : Nat) (P Q R : Nat → Prop) (w : World) (ha : PX w P a c) (hb : PX w Q b e) (hPQ : ∀ b, P b → ¬ Q b) (hPR : ∀ b, P b → R b) (hQR : ∀ b, Q b → R b) (hR : ∀ b, w.heap.size ≤ b → R b) (h1 : b.k = 1) : Calls Tryd.prog 79 #[.agg (a.cs c cp), .agg (b.cs e ep)] w (GiR (subX a b) R w) := by
  obtain ⟨m, hm, rfl⟩ := ok_k1 ob h1
  have X0 := hide (By.new w #[.int .i64 a.k, .int .i64 a.n, .string a.s, .slice c a.l.length cp] #[.int .i64 1, .int .i64 m, .string E0, .slice e 0 ep])
  have SU := hide (sumS_any a oa c cp (-m) (by omega) (Oy w R) _ ((ha.oy (unhide X0).bel).mono (fun b h => ⟨hPR b h.1, h.2⟩)) (fun b h => oy_in hR (Nat.le_trans (unhide X0).lt h)))
  have EQ := hide (show subX a ⟨1, m, E0, []⟩ = sumX a (-m) by unfold subX; rw [if_pos rfl])
  rw [unhide EQ]
  generalize hX : GiR (sumX a (-m)) R w = X
  have HX := hide hX
  unfold GiR Ex.cs at SU
  show Calls Tryd.prog 79 #[.agg #[.int .i64 a.k, .int .i64 a.n, .string a.s, .slice c a.l.length cp], .agg #[.int .i64 1, .int .i64 m, .string E0, .slice e 0 ep]] w X
  clear hX EQ oa ob ha hb hPQ hPR hQR hR h1
  go_enter Tryd.func79, Tryd.ntmps79
  go_wp2_with fail
  generalize ((w.alloc (.cells #[.int .i64 a.k, .int .i64 a.n, .string a.s, .slice c a.l.length cp] 26)).alloc (.cells #[.int .i64 1, .int .i64 m, .string E0, .slice e 0 ep] 26)).alloc (.cells #[.int .i64 0, .int .i64 0, .string ⟨#[]⟩, .slice none 0 0] 26) = W at *
  refine (unhide SU).mono ?_
  rintro r w3 ⟨c3, cp3, rfl, hx3, hb3⟩
  have X3 := hide ((unhide X0).later hb3)
  have A3 := hide hx3
  clear hx3 hb3 X0 SU
  generalize sumX a (-m) = y at *
  go_wp2_with (refine wpList_store_row rfl 26 _ _ rfl (w.heap.size + 2) #[.int .i64 y.k, .int .i64 y.n, .string y.s, .slice c3 y.l.length cp3] rfl rfl 26 _ ((unhide X3).res) szE rfl (ex_one _ _ _ _ _ _) ?_)
  refine bodyPost_ret (results_cell_row (P := Tryd.prog) rfl _ _ (w.heap.size + 2) 26 #[.int .i64 y.k, .int .i64 y.n, .string y.s, .slice c3 y.l.length cp3] (0, 0) _ rfl (setRow_heap _ _ _ _ _ _ ((unhide X3).res)) Tryd.underlying26 rfl szE) rfl ?_
  rw [← unhide HX]
  exact (unhide X3).end (unhide A3) _
set_option maxHeartbeats 8000000 in
theorem subS_sect {d : Nat} (a b : Ex) (oa : okF (d + 1) false a = true) (ob : okF (d + 1) false b = true) (c e : Option Addr) (cp ep : Nat) (P Q R : Nat → Prop) (w : World) (ha : PX w P a c) (hb : PX w Q b e) (hPQ : ∀ b, P b → ¬ Q b) (hPR : ∀ b, P b → R b) (hQR : ∀ b, Q b → R b) (hR : ∀ b, w.heap.size ≤ b → R b) (h1 : b.k ≠ 1) (f0 : ((prtX a).1.k == 11) = true) (f1 : ((prtX b).1.k == 11) = true) (f2 : ((prtX a).1.n == (prtX b).1.n) = true) : Calls Tryd.prog 79 #[.agg (a.cs c cp), .agg (b.cs e ep)] w (GiR (subX a b) R w) := by
  have X0 := hide (By.new w #[.int .i64 a.k, .int .i64 a.n, .string a.s, .slice c a.l.length cp] #[.int .i64 b.k, .int .i64 b.n, .string b.s, .slice e b.l.length ep])
  have A0 := hide (ha.oy (unhide X0).bel)
  have C0 := hide (hb.oy (unhide X0).bel)
  have PA := hide (prtS_any a oa c cp (Oy w P) _ (unhide A0))
  have PB := hide (fun wr (h : PX wr (Oy w Q) b e) => prtS_any b ob e ep (Oy w Q) wr h)
  have HR := hide hR
  have DJ := hide (show ∀ b, Oy w P b → ¬ Oy w Q b from fun b h k => hPQ b h.1 k.1)
  have PR := hide (show ∀ b, Oy w P b → Oy w R b from fun b h => ⟨hPR b h.1, h.2⟩)
  have QR := hide (show ∀ b, Oy w Q b → Oy w R b from fun b h => ⟨hQR b h.1, h.2⟩)
  have ia := prt_in oa
  have ib := prt_in ob
  have g1 : (b.k == 1) = false := beq_eq_false_iff_ne.2 h1
  have EQ := hide (show subX a b = numX ((prtX a).2 - (prtX b).2) by unfold subX; rw [if_neg h1, if_pos ⟨beq_iff_eq.1 f0, beq_iff_eq.1 f1, beq_iff_eq.1 f2⟩])
  unfold PrR at PA PB
  generalize prtX a = pa at *
  generalize prtX b = pb at *
  obtain ⟨x, n⟩ := pa
  obtain ⟨y, k⟩ := pb
  simp only at PA PB ia ib EQ f0 f1 f2
  rw [unhide EQ]
  generalize hX : GiR _ R w = X
  have HX := hide hX
  unfold Ex.cs at PA PB ⊢
  clear hX EQ oa ob ha hb hPQ hPR hQR hR h1
  go_enter Tryd.func79, Tryd.ntmps79
  go_wp2_with fail
  generalize ((w.alloc (.cells #[.int .i64 a.k, .int .i64 a.n, .string a.s, .slice c a.l.length cp] 26)).alloc (.cells #[.int .i64 b.k, .int .i64 b.n, .string b.s, .slice e b.l.length ep] 26)).alloc (.cells #[.int .i64 0, .int .i64 0, .string ⟨#[]⟩, .slice none 0 0] 26) = W at *
  refine (unhide PA).mono ?_
  rintro r w1 ⟨c1, cp1, rfl, hx1, hb1⟩
  clear hx1
  have X1 := (unhide X0).later hb1
  have A1 := (unhide A0).later hb1
  have C1 := (unhide C0).later hb1
  have hb2 := below_new w1 (.cells #[.int .i64 x.k, .int .i64 x.n, .string x.s, .slice c1 x.l.length cp1] 26)
  have X2 := hide (X1.later hb2)
  have A2 := hide (A1.later hb2)
  have C2 := hide (C1.later hb2)
  have G2 := hide (show (w1.alloc (.cells #[.int .i64 x.k, .int .i64 x.n, .string x.s, .slice c1 x.l.length cp1] 26)).heap[w1.heap.size]? = some (.cells #[.int .i64 x.k, .int .i64 x.n, .string x.s, .slice c1 x.l.length cp1] 26 (0, 0)) from Array.getElem?_push_size)
  have PB2 := hide (unhide PB _ (unhide C2))
  clear hb1 hb2 X1 A1 C1 X0 A0 C0 PA PB
  go_wp2_with (refine wpList_load_row rfl 26 _ rfl (w.heap.size + 1) rfl 26 #[.int .i64 b.k, .int .i64 b.n, .string b.s, .slice e b.l.length ep] (0, 0) _ ((unhide X2).boxb) Tryd.underlying26 rfl (by kernel_rfl) ?_)
  generalize w1.alloc (.cells #[.int .i64 x.k, .int .i64 x.n, .string x.s, .slice c1 x.l.length cp1] 26) = w2 at *
  generalize w1.heap.size = g1' at *
  refine (unhide PB2).mono ?_
  rintro r w3 ⟨c3, cp3, rfl, hx3, hb3⟩
  clear hx3
  have X3 := (unhide X2).later hb3
  have A3 := (unhide A2).later hb3
  have C3 := (unhide C2).later hb3
  have G3 := row_keep (unhide G2) hb3
  have hb4 := below_new w3 (.cells #[.int .i64 y.k, .int .i64 y.n, .string y.s, .slice c3 y.l.length cp3] 26)
  have X4 := hide (X3.later hb4)
  have A4 := hide (A3.later hb4)
  have C4 := hide (C3.later hb4)
  have G4 := row_keep G3 hb4
  have K4 := (show (w3.alloc (.cells #[.int .i64 y.k, .int .i64 y.n, .string y.s, .slice c3 y.l.length cp3] 26)).heap[w3.heap.size]? = some (.cells #[.int .i64 y.k, .int .i64 y.n, .string y.s, .slice c3 y.l.length cp3] 26 (0, 0)) from Array.getElem?_push_size)
  have x0 := Lib.cell_of_heap G4 0
  have x1 := Lib.cell_of_heap G4 1
  have y0 := Lib.cell_of_heap K4 0
  have y1 := Lib.cell_of_heap K4 1
  clear hb3 hb4 X3 A3 C3 G3 X2 A2 C2 G2 PB2 G4 K4
  go_wp2_with fail
  generalize w3.alloc (.cells #[.int .i64 y.k, .int .i64 y.n, .string y.s, .slice c3 y.l.length cp3] 26) = w4 at *
  generalize w3.heap.size = g3 at *
  clear x0 x1 y0 y1
  have NU := hide (numD (n - k) w4)
  refine (unhide NU).mono ?_
  rintro r w5 ⟨rfl, hb5⟩
  have X5 := hide ((unhide X4).later hb5)
  have N5 := hide (PX.leaf w5 (Oy w R) 1 ((n - k) % 65536) (⟨#[]⟩ : ByteArray) none)
  clear hb5 X4 A4 C4 NU
  go_wp2_with (refine wpList_store_row rfl 26 _ _ rfl (w.heap.size + 2) #[.int .i64 1, .int .i64 ((n - k) % 65536), .string ⟨#[]⟩, .slice none 0 0] rfl rfl 26 _ ((unhide X5).res) szE rfl (ex_one _ _ _ _ _ _) ?_)
  refine bodyPost_ret (results_cell_row (P := Tryd.prog) rfl _ _ (w.heap.size + 2) 26 #[.int .i64 1, .int .i64 ((n - k) % 65536), .string ⟨#[]⟩, .slice none 0 0] (0, 0) _ rfl (setRow_heap _ _ _ _ _ _ ((unhide X5).res)) Tryd.underlying26 rfl szE) rfl ?_
  rw [← unhide HX]
  exact By.end (x := numX (n - k)) (unhide X5) (unhide N5) _
set_option maxHeartbeats 8000000 in
theorem subS_n0 {d : Nat} (a b : Ex) (oa : okF (d + 1) false a = true) (ob : okF (d + 1) false b = true) (c e : Option Addr) (cp ep : Nat) (P Q R : Nat → Prop) (w : World) (ha : PX w P a c) (hb : PX w Q b e) (hPQ : ∀ b, P b → ¬ Q b) (hPR : ∀ b, P b → R b) (hQR : ∀ b, Q b → R b) (hR : ∀ b, w.heap.size ≤ b → R b) (h1 : b.k ≠ 1) (f0 : ((prtX a).1.k == 11) = false) : Calls Tryd.prog 79 #[.agg (a.cs c cp), .agg (b.cs e ep)] w (GiR (subX a b) R w) := by
  have X0 := hide (By.new w #[.int .i64 a.k, .int .i64 a.n, .string a.s, .slice c a.l.length cp] #[.int .i64 b.k, .int .i64 b.n, .string b.s, .slice e b.l.length ep])
  have A0 := hide (ha.oy (unhide X0).bel)
  have C0 := hide (hb.oy (unhide X0).bel)
  have PA := hide (prtS_any a oa c cp (Oy w P) _ (unhide A0))
  have PB := hide (fun wr (h : PX wr (Oy w Q) b e) => prtS_any b ob e ep (Oy w Q) wr h)
  have HR := hide hR
  have DJ := hide (show ∀ b, Oy w P b → ¬ Oy w Q b from fun b h k => hPQ b h.1 k.1)
  have PR := hide (show ∀ b, Oy w P b → Oy w R b from fun b h => ⟨hPR b h.1, h.2⟩)
  have QR := hide (show ∀ b, Oy w Q b → Oy w R b from fun b h => ⟨hQR b h.1, h.2⟩)
  have ia := prt_in oa
  have ib := prt_in ob
  have g1 : (b.k == 1) = false := beq_eq_false_iff_ne.2 h1
  have EQ := hide (show subX a b = ⟨6, 0, ⟨#[]⟩, [a, b]⟩ by unfold subX; rw [if_neg h1, if_neg (fun h => by have := beq_eq_false_iff_ne.1 f0; exact this h.1)]; rfl)
  unfold PrR at PA PB
  generalize prtX a = pa at *
  generalize prtX b = pb at *
  obtain ⟨x, n⟩ := pa
  obtain ⟨y, k⟩ := pb
  simp only at PA PB ia ib EQ f0
  rw [unhide EQ]
  generalize hX : GiR _ R w = X
  have HX := hide hX
  unfold Ex.cs at PA PB ⊢
  clear hX EQ oa ob ha hb hPQ hPR hQR hR h1
  go_enter Tryd.func79, Tryd.ntmps79
  go_wp2_with fail
  generalize ((w.alloc (.cells #[.int .i64 a.k, .int .i64 a.n, .string a.s, .slice c a.l.length cp] 26)).alloc (.cells #[.int .i64 b.k, .int .i64 b.n, .string b.s, .slice e b.l.length ep] 26)).alloc (.cells #[.int .i64 0, .int .i64 0, .string ⟨#[]⟩, .slice none 0 0] 26) = W at *
  refine (unhide PA).mono ?_
  rintro r w1 ⟨c1, cp1, rfl, hx1, hb1⟩
  clear hx1
  have X1 := (unhide X0).later hb1
  have A1 := (unhide A0).later hb1
  have C1 := (unhide C0).later hb1
  have hb2 := below_new w1 (.cells #[.int .i64 x.k, .int .i64 x.n, .string x.s, .slice c1 x.l.length cp1] 26)
  have X2 := hide (X1.later hb2)
  have A2 := hide (A1.later hb2)
  have C2 := hide (C1.later hb2)
  have G2 := hide (show (w1.alloc (.cells #[.int .i64 x.k, .int .i64 x.n, .string x.s, .slice c1 x.l.length cp1] 26)).heap[w1.heap.size]? = some (.cells #[.int .i64 x.k, .int .i64 x.n, .string x.s, .slice c1 x.l.length cp1] 26 (0, 0)) from Array.getElem?_push_size)
  have PB2 := hide (unhide PB _ (unhide C2))
  clear hb1 hb2 X1 A1 C1 X0 A0 C0 PA PB
  go_wp2_with (refine wpList_load_row rfl 26 _ rfl (w.heap.size + 1) rfl 26 #[.int .i64 b.k, .int .i64 b.n, .string b.s, .slice e b.l.length ep] (0, 0) _ ((unhide X2).boxb) Tryd.underlying26 rfl (by kernel_rfl) ?_)
  generalize w1.alloc (.cells #[.int .i64 x.k, .int .i64 x.n, .string x.s, .slice c1 x.l.length cp1] 26) = w2 at *
  generalize w1.heap.size = g1' at *
  refine (unhide PB2).mono ?_
  rintro r w3 ⟨c3, cp3, rfl, hx3, hb3⟩
  clear hx3
  have X3 := (unhide X2).later hb3
  have A3 := (unhide A2).later hb3
  have C3 := (unhide C2).later hb3
  have G3 := row_keep (unhide G2) hb3
  have hb4 := below_new w3 (.cells #[.int .i64 y.k, .int .i64 y.n, .string y.s, .slice c3 y.l.length cp3] 26)
  have X4 := hide (X3.later hb4)
  have A4 := hide (A3.later hb4)
  have C4 := hide (C3.later hb4)
  have G4 := row_keep G3 hb4
  have K4 := (show (w3.alloc (.cells #[.int .i64 y.k, .int .i64 y.n, .string y.s, .slice c3 y.l.length cp3] 26)).heap[w3.heap.size]? = some (.cells #[.int .i64 y.k, .int .i64 y.n, .string y.s, .slice c3 y.l.length cp3] 26 (0, 0)) from Array.getElem?_push_size)
  have x0 := Lib.cell_of_heap G4 0
  have x1 := Lib.cell_of_heap G4 1
  have y0 := Lib.cell_of_heap K4 0
  have y1 := Lib.cell_of_heap K4 1
  clear hb3 hb4 X3 A3 C3 G3 X2 A2 C2 G2 PB2 G4 K4
  have hb5 := below_new (w3.alloc (.cells #[.int .i64 y.k, .int .i64 y.n, .string y.s, .slice c3 y.l.length cp3] 26)) (.cells #[.int .i64 a.k, .int .i64 a.n, .string a.s, .slice c a.l.length cp, .int .i64 b.k, .int .i64 b.n, .string b.s, .slice e b.l.length ep] 26)
  have X5 := hide ((unhide X4).later hb5)
  have hz5 : (w3.alloc (.cells #[.int .i64 y.k, .int .i64 y.n, .string y.s, .slice c3 y.l.length cp3] 26)).heap.size = w3.heap.size + 1 := by simp
  have N5' := (show PX ((w3.alloc (.cells #[.int .i64 y.k, .int .i64 y.n, .string y.s, .slice c3 y.l.length cp3] 26)).alloc (.cells #[.int .i64 a.k, .int .i64 a.n, .string a.s, .slice c a.l.length cp, .int .i64 b.k, .int .i64 b.n, .string b.s, .slice e b.l.length ep] 26)) (Oy w R) ⟨6, 0, ⟨#[]⟩, [a, b]⟩ (some ⟨(w3.alloc (.cells #[.int .i64 y.k, .int .i64 y.n, .string y.s, .slice c3 y.l.length cp3] 26)).heap.size, 0, none⟩) from (unhide A4).two (unhide C4) (unhide DJ) (unhide PR) (unhide QR) (oy_in (unhide HR) (unhide X4).lt) 6 0 ⟨#[]⟩ 26)
  rw [hz5] at N5'
  have N5 := hide N5'
  clear N5' hz5
  clear hb5
  go_wp2_with (first | (refine wpList_load_row rfl 26 _ rfl w.heap.size rfl 26 #[.int .i64 a.k, .int .i64 a.n, .string a.s, .slice c a.l.length cp] (0, 0) _ ((unhide X4).boxa) Tryd.underlying26 rfl (by kernel_rfl) ?_) | (refine wpList_load_row rfl 26 _ rfl (w.heap.size + 1) rfl 26 #[.int .i64 b.k, .int .i64 b.n, .string b.s, .slice e b.l.length ep] (0, 0) _ ((unhide X4).boxb) Tryd.underlying26 rfl (by kernel_rfl) ?_) | (refine wpList_store_row rfl 26 _ _ rfl (w.heap.size + 2) #[.int .i64 6, .int .i64 0, .string ⟨#[]⟩, .slice (some ⟨w3.heap.size + 1, 0, none⟩) 2 2] rfl rfl 26 _ (unhide X5).res szE rfl (ex_one _ _ _ _ _ _) ?_))
  refine bodyPost_ret (results_cell_row (P := Tryd.prog) rfl _ _ (w.heap.size + 2) 26 #[.int .i64 6, .int .i64 0, .string ⟨#[]⟩, .slice (some ⟨w3.heap.size + 1, 0, none⟩) 2 2] (0, 0) _ rfl (setRow_heap _ _ _ _ _ _ (unhide X5).res) Tryd.underlying26 rfl szE) rfl ?_
  rw [← unhide HX]
  exact By.end (x := ⟨6, 0, ⟨#[]⟩, [a, b]⟩) (unhide X5) (unhide N5) _
set_option maxHeartbeats 8000000 in
theorem subS_n1 {d : Nat} (a b : Ex) (oa : okF (d + 1) false a = true) (ob : okF (d + 1) false b = true) (c e : Option Addr) (cp ep : Nat) (P Q R : Nat → Prop) (w : World) (ha : PX w P a c) (hb : PX w Q b e) (hPQ : ∀ b, P b → ¬ Q b) (hPR : ∀ b, P b → R b) (hQR : ∀ b, Q b → R b) (hR : ∀ b, w.heap.size ≤ b → R b) (h1 : b.k ≠ 1) (f0 : ((prtX a).1.k == 11) = true) (f1 : ((prtX b).1.k == 11) = false) : Calls Tryd.prog 79 #[.agg (a.cs c cp), .agg (b.cs e ep)] w (GiR (subX a b) R w) := by
  have X0 := hide (By.new w #[.int .i64 a.k, .int .i64 a.n, .string a.s, .slice c a.l.length cp] #[.int .i64 b.k, .int .i64 b.n, .string b.s, .slice e b.l.length ep])
  have A0 := hide (ha.oy (unhide X0).bel)
  have C0 := hide (hb.oy (unhide X0).bel)
  have PA := hide (prtS_any a oa c cp (Oy w P) _ (unhide A0))
  have PB := hide (fun wr (h : PX wr (Oy w Q) b e) => prtS_any b ob e ep (Oy w Q) wr h)
  have HR := hide hR
  have DJ := hide (show ∀ b, Oy w P b → ¬ Oy w Q b from fun b h k => hPQ b h.1 k.1)
  have PR := hide (show ∀ b, Oy w P b → Oy w R b from fun b h => ⟨hPR b h.1, h.2⟩)
  have QR := hide (show ∀ b, Oy w Q b → Oy w R b from fun b h => ⟨hQR b h.1, h.2⟩)
  have ia := prt_in oa
  have ib := prt_in ob
  have g1 : (b.k == 1) = false := beq_eq_false_iff_ne.2 h1
  have EQ := hide (show subX a b = ⟨6, 0, ⟨#[]⟩, [a, b]⟩ by unfold subX; rw [if_neg h1, if_neg (fun h => by have := beq_eq_false_iff_ne.1 f1; exact this h.2.1)]; rfl)
  unfold PrR at PA PB
  generalize prtX a = pa at *
  generalize prtX b = pb at *
  obtain ⟨x, n⟩ := pa
  obtain ⟨y, k⟩ := pb
  simp only at PA PB ia ib EQ f0 f1
  rw [unhide EQ]
  generalize hX : GiR _ R w = X
  have HX := hide hX
  unfold Ex.cs at PA PB ⊢
  clear hX EQ oa ob ha hb hPQ hPR hQR hR h1
  go_enter Tryd.func79, Tryd.ntmps79
  go_wp2_with fail
  generalize ((w.alloc (.cells #[.int .i64 a.k, .int .i64 a.n, .string a.s, .slice c a.l.length cp] 26)).alloc (.cells #[.int .i64 b.k, .int .i64 b.n, .string b.s, .slice e b.l.length ep] 26)).alloc (.cells #[.int .i64 0, .int .i64 0, .string ⟨#[]⟩, .slice none 0 0] 26) = W at *
  refine (unhide PA).mono ?_
  rintro r w1 ⟨c1, cp1, rfl, hx1, hb1⟩
  clear hx1
  have X1 := (unhide X0).later hb1
  have A1 := (unhide A0).later hb1
  have C1 := (unhide C0).later hb1
  have hb2 := below_new w1 (.cells #[.int .i64 x.k, .int .i64 x.n, .string x.s, .slice c1 x.l.length cp1] 26)
  have X2 := hide (X1.later hb2)
  have A2 := hide (A1.later hb2)
  have C2 := hide (C1.later hb2)
  have G2 := hide (show (w1.alloc (.cells #[.int .i64 x.k, .int .i64 x.n, .string x.s, .slice c1 x.l.length cp1] 26)).heap[w1.heap.size]? = some (.cells #[.int .i64 x.k, .int .i64 x.n, .string x.s, .slice c1 x.l.length cp1] 26 (0, 0)) from Array.getElem?_push_size)
  have PB2 := hide (unhide PB _ (unhide C2))
  clear hb1 hb2 X1 A1 C1 X0 A0 C0 PA PB
  go_wp2_with (refine wpList_load_row rfl 26 _ rfl (w.heap.size + 1) rfl 26 #[.int .i64 b.k, .int .i64 b.n, .string b.s, .slice e b.l.length ep] (0, 0) _ ((unhide X2).boxb) Tryd.underlying26 rfl (by kernel_rfl) ?_)
  generalize w1.alloc (.cells #[.int .i64 x.k, .int .i64 x.n, .string x.s, .slice c1 x.l.length cp1] 26) = w2 at *
  generalize w1.heap.size = g1' at *
  refine (unhide PB2).mono ?_
  rintro r w3 ⟨c3, cp3, rfl, hx3, hb3⟩
  clear hx3
  have X3 := (unhide X2).later hb3
  have A3 := (unhide A2).later hb3
  have C3 := (unhide C2).later hb3
  have G3 := row_keep (unhide G2) hb3
  have hb4 := below_new w3 (.cells #[.int .i64 y.k, .int .i64 y.n, .string y.s, .slice c3 y.l.length cp3] 26)
  have X4 := hide (X3.later hb4)
  have A4 := hide (A3.later hb4)
  have C4 := hide (C3.later hb4)
  have G4 := row_keep G3 hb4
  have K4 := (show (w3.alloc (.cells #[.int .i64 y.k, .int .i64 y.n, .string y.s, .slice c3 y.l.length cp3] 26)).heap[w3.heap.size]? = some (.cells #[.int .i64 y.k, .int .i64 y.n, .string y.s, .slice c3 y.l.length cp3] 26 (0, 0)) from Array.getElem?_push_size)
  have x0 := Lib.cell_of_heap G4 0
  have x1 := Lib.cell_of_heap G4 1
  have y0 := Lib.cell_of_heap K4 0
  have y1 := Lib.cell_of_heap K4 1
  clear hb3 hb4 X3 A3 C3 G3 X2 A2 C2 G2 PB2 G4 K4
  have hb5 := below_new (w3.alloc (.cells #[.int .i64 y.k, .int .i64 y.n, .string y.s, .slice c3 y.l.length cp3] 26)) (.cells #[.int .i64 a.k, .int .i64 a.n, .string a.s, .slice c a.l.length cp, .int .i64 b.k, .int .i64 b.n, .string b.s, .slice e b.l.length ep] 26)
  have X5 := hide ((unhide X4).later hb5)
  have hz5 : (w3.alloc (.cells #[.int .i64 y.k, .int .i64 y.n, .string y.s, .slice c3 y.l.length cp3] 26)).heap.size = w3.heap.size + 1 := by simp
  have N5' := (show PX ((w3.alloc (.cells #[.int .i64 y.k, .int .i64 y.n, .string y.s, .slice c3 y.l.length cp3] 26)).alloc (.cells #[.int .i64 a.k, .int .i64 a.n, .string a.s, .slice c a.l.length cp, .int .i64 b.k, .int .i64 b.n, .string b.s, .slice e b.l.length ep] 26)) (Oy w R) ⟨6, 0, ⟨#[]⟩, [a, b]⟩ (some ⟨(w3.alloc (.cells #[.int .i64 y.k, .int .i64 y.n, .string y.s, .slice c3 y.l.length cp3] 26)).heap.size, 0, none⟩) from (unhide A4).two (unhide C4) (unhide DJ) (unhide PR) (unhide QR) (oy_in (unhide HR) (unhide X4).lt) 6 0 ⟨#[]⟩ 26)
  rw [hz5] at N5'
  have N5 := hide N5'
  clear N5' hz5
  clear hb5
  go_wp2_with (first | (refine wpList_load_row rfl 26 _ rfl w.heap.size rfl 26 #[.int .i64 a.k, .int .i64 a.n, .string a.s, .slice c a.l.length cp] (0, 0) _ ((unhide X4).boxa) Tryd.underlying26 rfl (by kernel_rfl) ?_) | (refine wpList_load_row rfl 26 _ rfl (w.heap.size + 1) rfl 26 #[.int .i64 b.k, .int .i64 b.n, .string b.s, .slice e b.l.length ep] (0, 0) _ ((unhide X4).boxb) Tryd.underlying26 rfl (by kernel_rfl) ?_) | (refine wpList_store_row rfl 26 _ _ rfl (w.heap.size + 2) #[.int .i64 6, .int .i64 0, .string ⟨#[]⟩, .slice (some ⟨w3.heap.size + 1, 0, none⟩) 2 2] rfl rfl 26 _ (unhide X5).res szE rfl (ex_one _ _ _ _ _ _) ?_))
  refine bodyPost_ret (results_cell_row (P := Tryd.prog) rfl _ _ (w.heap.size + 2) 26 #[.int .i64 6, .int .i64 0, .string ⟨#[]⟩, .slice (some ⟨w3.heap.size + 1, 0, none⟩) 2 2] (0, 0) _ rfl (setRow_heap _ _ _ _ _ _ (unhide X5).res) Tryd.underlying26 rfl szE) rfl ?_
  rw [← unhide HX]
  exact By.end (x := ⟨6, 0, ⟨#[]⟩, [a, b]⟩) (unhide X5) (unhide N5) _
set_option maxHeartbeats 8000000 in
theorem subS_n2 {d : Nat} (a b : Ex) (oa : okF (d + 1) false a = true) (ob : okF (d + 1) false b = true) (c e : Option Addr) (cp ep : Nat) (P Q R : Nat → Prop) (w : World) (ha : PX w P a c) (hb : PX w Q b e) (hPQ : ∀ b, P b → ¬ Q b) (hPR : ∀ b, P b → R b) (hQR : ∀ b, Q b → R b) (hR : ∀ b, w.heap.size ≤ b → R b) (h1 : b.k ≠ 1) (f0 : ((prtX a).1.k == 11) = true) (f1 : ((prtX b).1.k == 11) = true) (f2 : ((prtX a).1.n == (prtX b).1.n) = false) : Calls Tryd.prog 79 #[.agg (a.cs c cp), .agg (b.cs e ep)] w (GiR (subX a b) R w) := by
  have X0 := hide (By.new w #[.int .i64 a.k, .int .i64 a.n, .string a.s, .slice c a.l.length cp] #[.int .i64 b.k, .int .i64 b.n, .string b.s, .slice e b.l.length ep])
  have A0 := hide (ha.oy (unhide X0).bel)
  have C0 := hide (hb.oy (unhide X0).bel)
  have PA := hide (prtS_any a oa c cp (Oy w P) _ (unhide A0))
  have PB := hide (fun wr (h : PX wr (Oy w Q) b e) => prtS_any b ob e ep (Oy w Q) wr h)
  have HR := hide hR
  have DJ := hide (show ∀ b, Oy w P b → ¬ Oy w Q b from fun b h k => hPQ b h.1 k.1)
  have PR := hide (show ∀ b, Oy w P b → Oy w R b from fun b h => ⟨hPR b h.1, h.2⟩)
  have QR := hide (show ∀ b, Oy w Q b → Oy w R b from fun b h => ⟨hQR b h.1, h.2⟩)
  have ia := prt_in oa
  have ib := prt_in ob
  have g1 : (b.k == 1) = false := beq_eq_false_iff_ne.2 h1
  have EQ := hide (show subX a b = ⟨6, 0, ⟨#[]⟩, [a, b]⟩ by unfold subX; rw [if_neg h1, if_neg (fun h => by have := beq_eq_false_iff_ne.1 f2; exact this h.2.2)]; rfl)
  unfold PrR at PA PB
  generalize prtX a = pa at *
  generalize prtX b = pb at *
  obtain ⟨x, n⟩ := pa
  obtain ⟨y, k⟩ := pb
  simp only at PA PB ia ib EQ f0 f1 f2
  rw [unhide EQ]
  generalize hX : GiR _ R w = X
  have HX := hide hX
  unfold Ex.cs at PA PB ⊢
  clear hX EQ oa ob ha hb hPQ hPR hQR hR h1
  go_enter Tryd.func79, Tryd.ntmps79
  go_wp2_with fail
  generalize ((w.alloc (.cells #[.int .i64 a.k, .int .i64 a.n, .string a.s, .slice c a.l.length cp] 26)).alloc (.cells #[.int .i64 b.k, .int .i64 b.n, .string b.s, .slice e b.l.length ep] 26)).alloc (.cells #[.int .i64 0, .int .i64 0, .string ⟨#[]⟩, .slice none 0 0] 26) = W at *
  refine (unhide PA).mono ?_
  rintro r w1 ⟨c1, cp1, rfl, hx1, hb1⟩
  clear hx1
  have X1 := (unhide X0).later hb1
  have A1 := (unhide A0).later hb1
  have C1 := (unhide C0).later hb1
  have hb2 := below_new w1 (.cells #[.int .i64 x.k, .int .i64 x.n, .string x.s, .slice c1 x.l.length cp1] 26)
  have X2 := hide (X1.later hb2)
  have A2 := hide (A1.later hb2)
  have C2 := hide (C1.later hb2)
  have G2 := hide (show (w1.alloc (.cells #[.int .i64 x.k, .int .i64 x.n, .string x.s, .slice c1 x.l.length cp1] 26)).heap[w1.heap.size]? = some (.cells #[.int .i64 x.k, .int .i64 x.n, .string x.s, .slice c1 x.l.length cp1] 26 (0, 0)) from Array.getElem?_push_size)
  have PB2 := hide (unhide PB _ (unhide C2))
  clear hb1 hb2 X1 A1 C1 X0 A0 C0 PA PB
  go_wp2_with (refine wpList_load_row rfl 26 _ rfl (w.heap.size + 1) rfl 26 #[.int .i64 b.k, .int .i64 b.n, .string b.s, .slice e b.l.length ep] (0, 0) _ ((unhide X2).boxb) Tryd.underlying26 rfl (by kernel_rfl) ?_)
  generalize w1.alloc (.cells #[.int .i64 x.k, .int .i64 x.n, .string x.s, .slice c1 x.l.length cp1] 26) = w2 at *
  generalize w1.heap.size = g1' at *
  refine (unhide PB2).mono ?_
  rintro r w3 ⟨c3, cp3, rfl, hx3, hb3⟩
  clear hx3
  have X3 := (unhide X2).later hb3
  have A3 := (unhide A2).later hb3
  have C3 := (unhide C2).later hb3
  have G3 := row_keep (unhide G2) hb3
  have hb4 := below_new w3 (.cells #[.int .i64 y.k, .int .i64 y.n, .string y.s, .slice c3 y.l.length cp3] 26)
  have X4 := hide (X3.later hb4)
  have A4 := hide (A3.later hb4)
  have C4 := hide (C3.later hb4)
  have G4 := row_keep G3 hb4
  have K4 := (show (w3.alloc (.cells #[.int .i64 y.k, .int .i64 y.n, .string y.s, .slice c3 y.l.length cp3] 26)).heap[w3.heap.size]? = some (.cells #[.int .i64 y.k, .int .i64 y.n, .string y.s, .slice c3 y.l.length cp3] 26 (0, 0)) from Array.getElem?_push_size)
  have x0 := Lib.cell_of_heap G4 0
  have x1 := Lib.cell_of_heap G4 1
  have y0 := Lib.cell_of_heap K4 0
  have y1 := Lib.cell_of_heap K4 1
  clear hb3 hb4 X3 A3 C3 G3 X2 A2 C2 G2 PB2 G4 K4
  have hb5 := below_new (w3.alloc (.cells #[.int .i64 y.k, .int .i64 y.n, .string y.s, .slice c3 y.l.length cp3] 26)) (.cells #[.int .i64 a.k, .int .i64 a.n, .string a.s, .slice c a.l.length cp, .int .i64 b.k, .int .i64 b.n, .string b.s, .slice e b.l.length ep] 26)
  have X5 := hide ((unhide X4).later hb5)
  have hz5 : (w3.alloc (.cells #[.int .i64 y.k, .int .i64 y.n, .string y.s, .slice c3 y.l.length cp3] 26)).heap.size = w3.heap.size + 1 := by simp
  have N5' := (show PX ((w3.alloc (.cells #[.int .i64 y.k, .int .i64 y.n, .string y.s, .slice c3 y.l.length cp3] 26)).alloc (.cells #[.int .i64 a.k, .int .i64 a.n, .string a.s, .slice c a.l.length cp, .int .i64 b.k, .int .i64 b.n, .string b.s, .slice e b.l.length ep] 26)) (Oy w R) ⟨6, 0, ⟨#[]⟩, [a, b]⟩ (some ⟨(w3.alloc (.cells #[.int .i64 y.k, .int .i64 y.n, .string y.s, .slice c3 y.l.length cp3] 26)).heap.size, 0, none⟩) from (unhide A4).two (unhide C4) (unhide DJ) (unhide PR) (unhide QR) (oy_in (unhide HR) (unhide X4).lt) 6 0 ⟨#[]⟩ 26)
  rw [hz5] at N5'
  have N5 := hide N5'
  clear N5' hz5
  clear hb5
  go_wp2_with (first | (refine wpList_load_row rfl 26 _ rfl w.heap.size rfl 26 #[.int .i64 a.k, .int .i64 a.n, .string a.s, .slice c a.l.length cp] (0, 0) _ ((unhide X4).boxa) Tryd.underlying26 rfl (by kernel_rfl) ?_) | (refine wpList_load_row rfl 26 _ rfl (w.heap.size + 1) rfl 26 #[.int .i64 b.k, .int .i64 b.n, .string b.s, .slice e b.l.length ep] (0, 0) _ ((unhide X4).boxb) Tryd.underlying26 rfl (by kernel_rfl) ?_) | (refine wpList_store_row rfl 26 _ _ rfl (w.heap.size + 2) #[.int .i64 6, .int .i64 0, .string ⟨#[]⟩, .slice (some ⟨w3.heap.size + 1, 0, none⟩) 2 2] rfl rfl 26 _ (unhide X5).res szE rfl (ex_one _ _ _ _ _ _) ?_))
  refine bodyPost_ret (results_cell_row (P := Tryd.prog) rfl _ _ (w.heap.size + 2) 26 #[.int .i64 6, .int .i64 0, .string ⟨#[]⟩, .slice (some ⟨w3.heap.size + 1, 0, none⟩) 2 2] (0, 0) _ rfl (setRow_heap _ _ _ _ _ _ (unhide X5).res) Tryd.underlying26 rfl szE) rfl ?_
  rw [← unhide HX]
  exact By.end (x := ⟨6, 0, ⟨#[]⟩, [a, b]⟩) (unhide X5) (unhide N5) _
theorem subS_any {d : Nat} (a b : Ex) (oa : okF (d + 1) false a = true) (ob : okF (d + 1) false b = true) (c e : Option Addr) (cp ep : Nat) (P Q R : Nat → Prop) (w : World) (ha : PX w P a c) (hb : PX w Q b e) (hPQ : ∀ b, P b → ¬ Q b) (hPR : ∀ b, P b → R b) (hQR : ∀ b, Q b → R b) (hR : ∀ b, w.heap.size ≤ b → R b) : Calls Tryd.prog 79 #[.agg (a.cs c cp), .agg (b.cs e ep)] w (GiR (subX a b) R w) := by
  by_cases h1 : b.k = 1
  · exact subS_num a b oa ob c e cp ep P Q R w ha hb hPQ hPR hQR hR h1
  · cases f0 : ((prtX a).1.k == 11) with
    | false => exact subS_n0 a b oa ob c e cp ep P Q R w ha hb hPQ hPR hQR hR h1 f0
    | true =>
      cases f1 : ((prtX b).1.k == 11) with
      | false => exact subS_n1 a b oa ob c e cp ep P Q R w ha hb hPQ hPR hQR hR h1 f0 f1
      | true =>
        cases f2 : ((prtX a).1.n == (prtX b).1.n) with
        | false => exact subS_n2 a b oa ob c e cp ep P Q R w ha hb hPQ hPR hQR hR h1 f0 f1 f2
        | true => exact subS_sect a b oa ob c e cp ep P Q R w ha hb hPQ hPR hQR hR h1 f0 f1 f2
end Go.Proofs.YtkolflcjkofleaaDoor

namespace Go.Proofs.YtkolflcjkofleaaDoor
open Go.ChangeShapes Go.WideShapes Go.ChangeAt Go.RowKit
set_option linter.unusedVariables false
set_option maxRecDepth 8000

/-- What is left of so much. -/
def lessX (left : Int) (z : Nat) : Int := if left - (z : Int) < 0 then -1 else left - (z : Int)
def SzP (e : Ex) : Prop := ∀ (b : Option Addr) (cap : Nat) (left : Int) (w : World), RdX w 0 e b → Fit e → 0 ≤ left → left ≤ 1048576 → Calls Tryd.prog 26 #[.agg (e.cs b cap), .int .i64 left] w fun r w' => r = .returned (.int .i64 (lessX left e.sz)) ∧ Below w.heap.size w w'
set_option maxHeartbeats 1000000 in
theorem szXS_of (e : Ex) (ih : ∀ i, i < e.l.length → SzP (xAt e.l i)) (b : Option Addr) (cap : Nat) (left : Int) (w : World) (hr : RdX w 0 e b) (hf : Fit e) (h0 : 0 ≤ left) (h1 : left ≤ 1048576) : Calls Tryd.prog 32 #[.slice b e.l.length cap, .int .i64 left] w fun r w' => r = .returned (.int .i64 (lessX left (e.l.length + szX e.l))) ∧ Below w.heap.size w w' := by
  obtain ⟨_, hm, hfi⟩ := (Fit_eq e).1 hf
  rw [RdX_eq] at hr
  generalize e.l = l at *
  clear hf
  obtain ⟨len, hl⟩ : ∃ len, l.length = len := ⟨_, rfl⟩
  rw [hl] at hm ih hfi hr ⊢
  by_cases hbig : left - (len : Int) < 0
  · have E := hide (show lessX left (len + szX l) = -1 by unfold lessX; rw [if_pos (by omega)])
    rw [unhide E]
    go_enter Tryd.func32, Tryd.ntmps32
    go_wp2
    go_ret
    exact ⟨rfl, Below.refl _ _⟩
  · obtain ⟨T, hT⟩ : ∃ T, lessX left (len + szX l) = T := ⟨_, rfl⟩
    have HT := hide hT
    rw [hT]
    clear hT
    go_enter Tryd.func32, Tryd.ntmps32
    go_wp2
    go_loopw [1, 5] (fun lv i wr => ∃ k : Nat, k ≤ len ∧ i = .int .i64 k ∧ 0 ≤ left - (len : Int) - (szX (l.take k) : Int) ∧ lv = .int .i64 (left - len - szX (l.take k)) ∧ Below w.heap.size w wr) (fun _ i _ => len - (intOf i).toNat)
    case atStart => exact ⟨0, Nat.zero_le _, rfl, by simp [szX]; omega, by simp [szX], Below.refl _ _⟩
    case round =>
      obtain ⟨k, hk, rfl, hs, rfl, hb⟩ := hrel
      by_cases hlt : k < len
      · rcases hr with h00 | ⟨b, off, rfl, _, hbl, hc⟩
        · rw [h00] at hl; simp at hl; omega
        obtain ⟨c0, c1, c2, c, cap', c3, c4⟩ := hc k (by omega)
        have d0 : wr.cell? ⟨b, off + k * 4, none⟩ = _ := (hb.cell (p := ⟨b, _, none⟩) hbl).trans c0
        have d1 : wr.cell? ⟨b, off + k * 4 + 1, none⟩ = _ := (hb.cell (p := ⟨b, _, none⟩) hbl).trans c1
        have d2 : wr.cell? ⟨b, off + k * 4 + 2, none⟩ = _ := (hb.cell (p := ⟨b, _, none⟩) hbl).trans c2
        have d3 : wr.cell? ⟨b, off + k * 4 + 3, none⟩ = _ := (hb.cell (p := ⟨b, _, none⟩) hbl).trans c3
        have HS := hide (ih k hlt c cap' (left - len - szX (l.take k)) wr (c4.later hb) (hfi k hlt) hs (by omega))
        have ST := hide (szX_take l k (by omega))
        have SL := hide (szX_le l (k + 1))
        clear c0 c1 c2 c3 c4 hc
        unfold Ex.cs at HS
        generalize hzs : (xAt l k).sz = z at HS ST
        generalize (xAt l k).s = ss at d2 HS
        generalize (xAt l k).k = kk at d0 HS
        generalize (xAt l k).n = nn at d1 HS
        generalize (xAt l k).l.length = ll at d3 HS
        by_cases hneg : left - (len : Int) - (szX (l.take k) : Int) - (z : Int) < 0
        · have E := hide (show T = -1 by rw [← unhide HT]; unfold lessX; rw [if_pos]; have := unhide ST; have := unhide SL; omega)
          have E2 : lessX (left - (len : Int) - (szX (l.take k) : Int)) z = -1 := by unfold lessX; rw [if_pos hneg]
          rw [E2] at HS
          go_wp2_with (go_at_call 26; refine (unhide HS).mono ?_; rintro e w1 ⟨rfl, hb1⟩)
          go_ret
          exact ⟨by rw [unhide E]; rfl, hb.trans (hb1.mono hb.size)⟩
        · have E2 : lessX (left - (len : Int) - (szX (l.take k) : Int)) z = left - (len : Int) - (szX (l.take k) : Int) - (z : Int) := by unfold lessX; rw [if_neg hneg]
          rw [E2] at HS
          go_wp2_with (go_at_call 26; refine (unhide HS).mono ?_; rintro e w1 ⟨rfl, hb1⟩)
          go_roundw
          case rel =>
            refine ⟨k + 1, by omega, by go_num, ?_, ?_, hb.trans (hb1.mono hb.size)⟩
            · rw [unhide ST]; omega
            · rw [unhide ST]; congr 1; omega
          case measure => simp [intOf]; omega
      · obtain rfl : k = len := by omega
        have E := hide (show l.take k = l by rw [← hl, List.take_length])
        rw [unhide E] at hs
        have E2 := hide (show T = left - (k : Int) - (szX (l.take k) : Int) by rw [← unhide HT]; unfold lessX; rw [unhide E, if_neg (by omega)]; omega)
        go_wp2
        go_ret
        exact ⟨by rw [unhide E2]; rfl, hb⟩
set_option maxHeartbeats 1000000 in
theorem szX_any (e : Ex) : SzP e := by
  induction e using Ex.ind with
  | h k n s l ih =>
    intro b cap left w hr hf h0 h1
    have hs := ((Fit_eq _).1 hf).1
    have HZ := hide (fun (w1 : World) (hb : Below w.heap.size w w1) (lv : Int) (h2 : 0 ≤ lv) (h3 : lv ≤ 1048576) => szXS_of ⟨k, n, s, l⟩ (fun i hi => ih _ (xAt_mem hi)) b cap lv w1 (hr.later hb) hf h2 h3)
    have SZ := hide (sz_is ⟨k, n, s, l⟩)
    have e1 : (Ex.mk k n s l).s = s := rfl
    have e2 : (Ex.mk k n s l).l = l := rfl
    rw [e1] at hs
    rw [e1, e2] at SZ
    rw [e2] at HZ
    unfold Ex.cs
    simp only
    rw [unhide SZ]
    clear hr hf ih SZ e1 e2
    generalize hll : l.length = ll at *
    generalize szX l = zz at *
    have hbW : Below w.heap.size w (w.alloc (.cells #[.int .i64 k, .int .i64 n, .string s, .slice b ll cap] 44)) := (Below.refl _ _).alloc (Nat.le_refl _) _
    have HB := hide hbW
    by_cases hneg : left - (s.size : Int) < 0
    · have E := hide (show lessX left (s.size + ll + zz) = -1 by unfold lessX; rw [if_pos (by omega)])
      rw [unhide E]
      clear HZ hbW
      go_enter Tryd.func26, Tryd.ntmps26
      go_wp2
      go_ret
      exact ⟨rfl, unhide HB⟩
    · have HS := hide (unhide HZ _ hbW (left - s.size) (by omega) (by omega))
      by_cases hneg2 : left - (s.size : Int) - ((ll + zz : Nat) : Int) < 0
      · have E := hide (show lessX left (s.size + ll + zz) = -1 by unfold lessX; rw [if_pos (by omega)])
        have E2 : lessX (left - s.size) (ll + zz) = -1 := by unfold lessX; rw [if_pos (by omega)]
        rw [E2] at HS
        rw [unhide E]
        clear HZ hbW
        go_enter Tryd.func26, Tryd.ntmps26
        go_wp2_with (go_at_call 32; refine (unhide HS).mono ?_; rintro e w1 ⟨rfl, hb1⟩)
        go_ret
        exact ⟨rfl, (unhide HB).trans (hb1.mono (unhide HB).size)⟩
      · have E := hide (show lessX left (s.size + ll + zz) = left - (s.size : Int) - ((ll + zz : Nat) : Int) by unfold lessX; rw [if_neg (by omega)]; omega)
        have E2 : lessX (left - s.size) (ll + zz) = left - (s.size : Int) - ((ll + zz : Nat) : Int) := by unfold lessX; rw [if_neg (by omega)]
        rw [E2] at HS
        rw [unhide E]
        have hp : 0 ≤ left - (s.size : Int) - ((ll + zz : Nat) : Int) := by omega
        clear HZ hbW
        generalize left - (s.size : Int) - ((ll + zz : Nat) : Int) = rest at *
        go_enter Tryd.func26, Tryd.ntmps26
        go_wp2_with (go_at_call 32; refine (unhide HS).mono ?_; rintro e w1 ⟨rfl, hb1⟩)
        go_ret
        exact ⟨rfl, (unhide HB).trans (hb1.mono (unhide HB).size)⟩
end Go.Proofs.YtkolflcjkofleaaDoor

namespace Go.Proofs.YtkolflcjkofleaaDoor
open Go.ChangeShapes Go.WideShapes Go.ChangeAt Go.RowKit
set_option linter.unusedVariables false
set_option maxRecDepth 8000

theorem infoX : (Tryd.prog.info? 26).map (fun i => (i.zero, i.size, i.bytes)) = some (some (.agg #[.int .i64 0, .int .i64 0, .string ⟨#[]⟩, .slice none 0 0]), 4, 56) := by kernel_rfl
theorem sz_part {l : List Ex} {i : Nat} (h : i < l.length) : (xAt l i).sz ≤ szX l := by
  have h1 := szX_take l i h
  have h2 := szX_le l (i + 1)
  omega
/-- One part in a list of cells, owned. -/
def OwIn (w : World) (cs : List Value) (i : Nat) (x : Ex) (F : List Nat) : Prop := cs[i * 4]? = some (.int .i64 x.k) ∧ cs[i * 4 + 1]? = some (.int .i64 x.n) ∧ cs[i * 4 + 2]? = some (.string x.s) ∧ ∃ c cap, cs[i * 4 + 3]? = some (.slice c x.l.length cap) ∧ OwX w x c F
theorem OwIn.keep {w w' : World} {cs : List Value} {i : Nat} {x : Ex} {F : List Nat} (h : OwIn w cs i x F) (hk : ∀ b ∈ F, w'.heap[b]? = w.heap[b]?) : OwIn w' cs i x F := by
  obtain ⟨h0, h1, h2, c, cap, h3, h4⟩ := h
  exact ⟨h0, h1, h2, c, cap, h3, OwX.keep _ _ _ hk h4⟩
/-- A row of cells at a block of its own, as it lies. -/
theorem ownsRow_heap {w : World} {B g n cap size : Nat} {t : TypeId} {cs : List Value} (h : w.ownsRow B t size (.slice (some ⟨g, 0, none⟩) n cap) n cs) : ∃ cur : Array Value, w.heap[g]? = some (.cells cur t (0, 0)) ∧ n * size ≤ cur.size ∧ ∀ j, j < n * size → cur[j]? = cs[j]? := by
  obtain ⟨h1, ⟨e, _⟩ | ⟨g', cap', cur, e, hg, hh, hn, hm, hz, ht⟩⟩ := h
  · cases e
  · cases e
    refine ⟨cur, hh, by rw [hz]; exact Nat.mul_le_mul_right _ hn, fun j hj => ?_⟩
    rw [← ht, List.getElem?_take, if_pos hj, Array.getElem?_toList]
/-- So many parts lie in the row of block g, each in blocks of its own between g and M. -/
def DoneX (w : World) (g : Nat) (l : List Ex) (n cap k M : Nat) : Prop := ∃ (cs : List Value) (Fs : List (List Nat)), w.ownsRow g 26 4 (.slice (some ⟨g, 0, none⟩) n cap) n cs ∧ Fs.length = k ∧ Fs.flatten.Nodup ∧ (∀ b ∈ Fs.flatten, g < b ∧ b < M) ∧ ∀ i, i < k → OwIn w cs i (xAt l i) (Fs.getD i [])
theorem ownsRow_later {w w' : World} {B g n cap m : Nat} {t : TypeId} {cs : List Value} (h : w.ownsRow B t m (.slice (some ⟨g, 0, none⟩) n cap) n cs) (hb : Below w.heap.size w w') : w'.ownsRow B t m (.slice (some ⟨g, 0, none⟩) n cap) n cs := by
  obtain ⟨h1, h2 | ⟨g, cap, cur, e, hg, hh, r⟩⟩ := h
  · exact ⟨h1, .inl h2⟩
  · exact ⟨h1, .inr ⟨g, cap, cur, e, hg, (hb.block g (Array.getElem?_eq_some_iff.1 hh).1).trans hh, r⟩⟩
theorem OwIn.lt {w : World} {cs : List Value} {i : Nat} {x : Ex} {F : List Nat} (h : OwIn w cs i x F) : ∀ b ∈ F, b < w.heap.size := by
  obtain ⟨_, _, _, c, cap, _, h⟩ := h
  exact OwX.lt _ _ _ h
theorem DoneX.later {w w' : World} {g n cap k M : Nat} {l : List Ex} (h : DoneX w g l n cap k M) (hb : Below w.heap.size w w') : DoneX w' g l n cap k M := by
  obtain ⟨cs, Fs, h1, h2, h3, h4, h5⟩ := h
  exact ⟨cs, Fs, ownsRow_later h1 hb, h2, h3, h4, fun i hi => (h5 i hi).keep fun b hF => hb.block b ((h5 i hi).lt b hF)⟩
theorem flat_snoc (Fs : List (List Nat)) (F : List Nat) : (Fs ++ [F]).flatten = Fs.flatten ++ F := by simp
theorem getD_snoc_lt {Fs : List (List Nat)} {F : List Nat} {i : Nat} (h : i < Fs.length) : (Fs ++ [F]).getD i [] = Fs.getD i [] := by
  rw [List.getD_eq_getElem?_getD, List.getD_eq_getElem?_getD, List.getElem?_append_left h]
theorem getD_snoc_eq {Fs : List (List Nat)} {F : List Nat} {i : Nat} (h : i = Fs.length) : (Fs ++ [F]).getD i [] = F := by
  rw [List.getD_eq_getElem?_getD, h, List.getElem?_append_right (Nat.le_refl _)]
  simp
theorem nodup_snoc {a b : List Nat} {M : Nat} (ha : a.Nodup) (hb : b.Nodup) (h1 : ∀ x ∈ a, x < M) (h2 : ∀ x ∈ b, M ≤ x) : (a ++ b).Nodup := by
  rw [List.nodup_append]
  exact ⟨ha, hb, fun x hx y hy e => by have := h1 x hx; have := h2 y hy; omega⟩
theorem DoneX.put {w : World} {g n cap k M M' : Nat} {l : List Ex} (h : DoneX w g l n cap k M) (hk : k < n) (hg : g < M) (hM : M ≤ M') (c : Option Addr) (cp : Nat) (hr : NewX w M (xAt l k) c) (hz : w.heap.size ≤ M') :
    DoneX ((((w.setCell ⟨g, k * 4, none⟩ (.int .i64 (xAt l k).k)).setCell ⟨g, k * 4 + 1, none⟩ (.int .i64 (xAt l k).n)).setCell ⟨g, k * 4 + 2, none⟩ (.string (xAt l k).s)).setCell ⟨g, k * 4 + 3, none⟩ (.slice c (xAt l k).l.length cp)) g l n cap (k + 1) M' := by
  obtain ⟨cs, Fs, h1, h2, h3, h4, h5⟩ := h
  obtain ⟨F, q1, q2, q3⟩ := hr
  have hlen : cs.length = n * 4 := h1.1
  have s1 := (World.ownsRow.stored h1 (k * 4) (.int .i64 (xAt l k).k)).1
  have s2 := (World.ownsRow.stored s1 (k * 4 + 1) (.int .i64 (xAt l k).n)).1
  have s3 := (World.ownsRow.stored s2 (k * 4 + 2) (.string (xAt l k).s)).1
  have s4 := (World.ownsRow.stored s3 (k * 4 + 3) (.slice c (xAt l k).l.length cp)).1
  have hkeep : ∀ b, g < b → ((((w.setCell ⟨g, k * 4, none⟩ (.int .i64 (xAt l k).k)).setCell ⟨g, k * 4 + 1, none⟩ (.int .i64 (xAt l k).n)).setCell ⟨g, k * 4 + 2, none⟩ (.string (xAt l k).s)).setCell ⟨g, k * 4 + 3, none⟩ (.slice c (xAt l k).l.length cp)).heap[b]? = w.heap[b]? := fun b hb => by
    rw [heap_setCell_other _ _ _ _ (by show b ≠ g; omega), heap_setCell_other _ _ _ _ (by show b ≠ g; omega), heap_setCell_other _ _ _ _ (by show b ≠ g; omega), heap_setCell_other _ _ _ _ (by show b ≠ g; omega)]
  refine ⟨_, Fs ++ [F], s4, by simp [h2], ?_, ?_, fun i hi => ?_⟩
  · rw [flat_snoc]
    exact nodup_snoc h3 q2 (fun x hx => (h4 x hx).2) q3
  · rw [flat_snoc]
    intro b hb
    rcases List.mem_append.1 hb with hb | hb
    · have := h4 b hb; exact ⟨this.1, by omega⟩
    · have := q3 b hb
      have := OwX.lt _ _ _ q1 b hb
      exact ⟨by omega, by omega⟩
  · by_cases hik : i = k
    · subst hik
      rw [getD_snoc_eq h2.symm]
      refine ⟨?_, ?_, ?_, c, cp, ?_, OwX.keep _ _ _ (fun b hb => hkeep b (by have := q3 b hb; omega)) q1⟩
      · rw [List.getElem?_set_ne (by omega), List.getElem?_set_ne (by omega), List.getElem?_set_ne (by omega), List.getElem?_set_self (by omega)]
      · rw [List.getElem?_set_ne (by omega), List.getElem?_set_ne (by omega), List.getElem?_set_self (by simp; omega)]
      · rw [List.getElem?_set_ne (by omega), List.getElem?_set_self (by simp; omega)]
      · rw [List.getElem?_set_self (by simp; omega)]
    · rw [getD_snoc_lt (by omega)]
      obtain ⟨p0, p1, p2, c', cap', p3, p4⟩ := (h5 i (by omega)).keep (w' := ((((w.setCell ⟨g, k * 4, none⟩ (.int .i64 (xAt l k).k)).setCell ⟨g, k * 4 + 1, none⟩ (.int .i64 (xAt l k).n)).setCell ⟨g, k * 4 + 2, none⟩ (.string (xAt l k).s)).setCell ⟨g, k * 4 + 3, none⟩ (.slice c (xAt l k).l.length cp))) (fun b hb => hkeep b (h4 b (getD_flat hb)).1)
      refine ⟨?_, ?_, ?_, c', cap', ?_, p4⟩
      · rw [List.getElem?_set_ne (by omega), List.getElem?_set_ne (by omega), List.getElem?_set_ne (by omega), List.getElem?_set_ne (by omega)]; exact p0
      · rw [List.getElem?_set_ne (by omega), List.getElem?_set_ne (by omega), List.getElem?_set_ne (by omega), List.getElem?_set_ne (by omega)]; exact p1
      · rw [List.getElem?_set_ne (by omega), List.getElem?_set_ne (by omega), List.getElem?_set_ne (by omega), List.getElem?_set_ne (by omega)]; exact p2
      · rw [List.getElem?_set_ne (by omega), List.getElem?_set_ne (by omega), List.getElem?_set_ne (by omega), List.getElem?_set_ne (by omega)]; exact p3
/-- A row whose parts are all there is the term's. -/
theorem DoneX.new {w : World} {g cap M : Nat} {e : Ex} (h : DoneX w g e.l e.l.length cap e.l.length M) : NewX w g e (some ⟨g, 0, none⟩) := by
  obtain ⟨cs, Fs, h1, h2, h3, h4, h5⟩ := h
  by_cases h0 : e.l.length = 0
  · obtain ⟨k, n, s, l⟩ := e
    obtain rfl : l = [] := List.length_eq_zero_iff.1 h0
    exact NewX.nil ..
  · obtain ⟨cur, hh, hz, hc⟩ := ownsRow_heap h1
    refine ⟨g :: Fs.flatten, (OwX_eq _ _ _ _).2 (.inr ⟨g, cur, 26, Fs, rfl, hh, hz, h2, rfl, fun i hi => ?_⟩), ?_, ?_⟩
    · obtain ⟨p0, p1, p2, c, cp, p3, p4⟩ := h5 i hi
      exact ⟨(hc _ (by omega)).trans p0, (hc _ (by omega)).trans p1, (hc _ (by omega)).trans p2, c, cp, (hc _ (by omega)).trans p3, p4⟩
    · exact List.nodup_cons.2 ⟨fun hb => by have := (h4 g hb).1; omega, h3⟩
    · intro b hb
      rcases List.mem_cons.1 hb with rfl | hb
      · exact Nat.le_refl _
      · exact Nat.le_of_lt (h4 b hb).1
def ToP (e : Ex) : Prop := ∀ (b : Option Addr) (cap : Nat) (w : World), RdX w 0 e b → e.sz ≤ 1048576 → Calls Tryd.prog 27 #[.agg (e.cs b cap)] w fun r w' => ∃ (c : Option Addr) (cap' : Nat), r = .returned (.agg (e.cs c cap')) ∧ NewX w' w.heap.size e c ∧ Below w.heap.size w w'
end Go.Proofs.YtkolflcjkofleaaDoor

namespace Go.Proofs.YtkolflcjkofleaaDoor
open Go.ChangeShapes Go.WideShapes Go.ChangeAt Go.RowKit
set_option linter.unusedVariables false
set_option maxRecDepth 8000
set_option linter.unusedSimpArgs false

/-- So many parts of a list are appended: the row is v, all blocks from B on and below M. -/
def ApX (w : World) (B : Nat) (l : List Ex) (k : Nat) (v : Value) (M : Nat) : Prop := ∃ (cs : List Value) (Fs : List (List Nat)), w.ownsRow B 26 4 v k cs ∧ (∀ g, v.ownBlock = some g → g < M) ∧ Fs.length = k ∧ Fs.flatten.Nodup ∧ (∀ b ∈ Fs.flatten, B ≤ b ∧ b < M ∧ v.ownBlock ≠ some b) ∧ ∀ i, i < k → OwIn w cs i (xAt l i) (Fs.getD i [])
theorem ownsRow_keepF {w w' : World} {B n m : Nat} {t : TypeId} {v : Value} {cs : List Value} (h : w.ownsRow B t m v n cs) (hk : ∀ g, v.ownBlock = some g → w'.heap[g]? = w.heap[g]?) : w'.ownsRow B t m v n cs := by
  obtain ⟨h1, h2 | ⟨g, cap, cur, rfl, hg, hh, r⟩⟩ := h
  · exact ⟨h1, .inl h2⟩
  · exact ⟨h1, .inr ⟨g, cap, cur, rfl, hg, (hk g rfl).trans hh, r⟩⟩
theorem ApX.keep {w w' : World} {B k M : Nat} {l : List Ex} {v : Value} (h : ApX w B l k v M) (hk : ∀ b, B ≤ b → b < M → w'.heap[b]? = w.heap[b]?) : ApX w' B l k v M := by
  obtain ⟨cs, Fs, h1, h2, h3, h4, h5, h6⟩ := h
  refine ⟨cs, Fs, ownsRow_keepF h1 (fun g hg => hk g (World.ownsRow.lt h1 g hg).1 (h2 g hg)), h2, h3, h4, h5, fun i hi => (h6 i hi).keep (fun b hb => ?_)⟩
  obtain ⟨q1, q2, _⟩ := h5 b (getD_flat hb)
  exact hk b q1 q2
theorem ApX.later {w w' : World} {B k M : Nat} {l : List Ex} {v : Value} (h : ApX w B l k v M) (hb : Below w.heap.size w w') (hM : M ≤ w.heap.size) : ApX w' B l k v M := h.keep (fun b _ h2 => hb.block b (by omega))
theorem ApX.far {w : World} {B k M : Nat} {l : List Ex} {v : Value} (h : ApX w B l k v M) (p : Addr) (u : Value) (hp : p.block < B) : ApX (w.setCell p u) B l k v M := h.keep (fun b h1 _ => heap_setCell_other w p b u (by omega))
theorem ApX.nil (w : World) (B : Nat) (l : List Ex) (M : Nat) : ApX w B l 0 (.slice none 0 0) M := ⟨[], [], World.ownsRow_nil _ _ _ _, (fun g h => by simp [Value.ownBlock] at h), rfl, List.nodup_nil, (fun b hb => by simp at hb), fun i hi => by omega⟩
theorem ApX.step {w w' : World} {B k M M' : Nat} {l : List Ex} {v : Value} {cs : List Value} {Fs : List (List Nat)} {q : Option Addr} {cp g cap : Nat} (h1 : w.ownsRow B 26 4 v k cs) (h2 : ∀ g, v.ownBlock = some g → g < M) (h3 : Fs.length = k) (h4 : Fs.flatten.Nodup) (h5 : ∀ b ∈ Fs.flatten, B ≤ b ∧ b < M ∧ v.ownBlock ≠ some b) (h6 : ∀ i, i < k → OwIn w cs i (xAt l i) (Fs.getD i []))
    (hx : HalfX w M M' (xAt l k) q) (hBM : B ≤ M) (hM : M ≤ M') (hM' : M' ≤ w.heap.size) (ho : w'.ownsRow B 26 4 (.slice (some ⟨g, 0, none⟩) (k + 1) cap) (k + 1) (cs ++ exL (xAt l k) q cp)) (hg : w.grownBy w' v.ownBlock) (hw : v.ownBlock = some g ∨ g = w.heap.size) : ApX w' B l (k + 1) (.slice (some ⟨g, 0, none⟩) (k + 1 : Nat) cap) w'.heap.size := by
  obtain ⟨F, x1, x2, x3⟩ := hx
  have hl := h1.1
  refine ⟨_, Fs ++ [F], ho, (fun g' e => by
    have := World.ownsRow.lt ho g' e
    exact this.2), by simp [h3], ?_, ?_, ?_⟩
  · rw [flat_snoc]
    exact nodup_snoc h4 x2 (fun b hb => (h5 b hb).2.1) (fun b hb => (x3 b hb).1)
  · intro b hb
    rw [flat_snoc] at hb
    have hs := hg.size
    rcases List.mem_append.1 hb with hb | hb
    · obtain ⟨q1, q2, q3⟩ := h5 b hb
      refine ⟨q1, by omega, fun e => ?_⟩
      have e : g = b := by simpa [Value.ownBlock] using e
      rcases hw with hw | hw
      · exact q3 (by rw [hw, e])
      · omega
    · obtain ⟨q1, q2⟩ := x3 b hb
      refine ⟨by omega, by omega, fun e => ?_⟩
      have e : g = b := by simpa [Value.ownBlock] using e
      rcases hw with hw | hw
      · have := h2 g hw
        omega
      · omega
  · intro i hi
    by_cases hik : i < k
    · rw [getD_snoc_lt (by omega)]
      obtain ⟨c0, c1, c2, c, cp', c3, c4⟩ := h6 i hik
      refine ⟨by rw [List.getElem?_append_left (by omega)]; exact c0, by rw [List.getElem?_append_left (by omega)]; exact c1, by rw [List.getElem?_append_left (by omega)]; exact c2, c, cp', by rw [List.getElem?_append_left (by omega)]; exact c3, ?_⟩
      refine OwX.keep _ _ _ (fun b hb => ?_) c4
      obtain ⟨q1, q2, q3⟩ := h5 b (getD_flat hb)
      exact hg.block b (by omega) (fun e => q3 e.symm)
    · obtain rfl : i = k := by omega
      rw [getD_snoc_eq (by omega)]
      have hj : ∀ j, j < 4 → (cs ++ exL (xAt l i) q cp)[i * 4 + j]? = (exL (xAt l i) q cp)[j]? := fun j hj => by
        rw [List.getElem?_append_right (by omega), hl]
        congr 1
        omega
      refine ⟨(hj 0 (by omega)).trans rfl, (hj 1 (by omega)).trans rfl, (hj 2 (by omega)).trans rfl, q, cp, (hj 3 (by omega)).trans rfl, ?_⟩
      refine OwX.keep _ _ _ (fun b hb => ?_) x1
      obtain ⟨q1, q2⟩ := x3 b hb
      exact hg.block b (by omega) (fun e => by have := h2 b e.symm; omega)
/-- All are appended. -/
theorem ApX.done {w : World} {B M n cap : Nat} {l : List Ex} {a : Option Addr} (h : ApX w B l l.length (.slice a n cap) M) (k m : Int) (s : ByteArray) : PX w (B ≤ ·) ⟨k, m, s, l⟩ a ∧ n = l.length := by
  obtain ⟨cs, Fs, h1, h2, h3, h4, h5, h6⟩ := h
  have h1' := h1
  obtain ⟨hl, ⟨e, h0⟩ | ⟨g, cap', cur, e, hg, hh, hn, hm, hz, ht⟩⟩ := h1
  · cases e
    have : l = [] := List.length_eq_zero_iff.1 h0
    subst this
    exact ⟨PX.leaf _ _ _ _ _ _, rfl⟩
  · cases e
    obtain ⟨cur, hh, hz, hg, hc⟩ := row_take h1'
    refine ⟨⟨g :: Fs.flatten, (OwX_eq _ _ _ _).2 (.inr ⟨g, cur, _, Fs, rfl, hh, hz, h3, rfl, fun i hi => ?_⟩), List.nodup_cons.2 ⟨fun hb => (h5 g hb).2.2 rfl, h4⟩, fun b hb => ?_⟩, rfl⟩
    · obtain ⟨c0, c1, c2, c, cp', c3, c4⟩ := h6 i hi
      have hi : i < l.length := hi
      exact ⟨(hc _ (by omega)).trans c0, (hc _ (by omega)).trans c1, (hc _ (by omega)).trans c2, c, cp', (hc _ (by omega)).trans c3, c4⟩
    · rcases List.mem_cons.1 hb with rfl | hb
      · exact hg
      · exact (h5 b hb).1
end Go.Proofs.YtkolflcjkofleaaDoor
