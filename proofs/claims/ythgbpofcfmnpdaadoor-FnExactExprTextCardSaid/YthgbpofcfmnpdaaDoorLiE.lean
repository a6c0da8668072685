/- What the program's LineOf answers; over this seat's translation; conditions stand as hypotheses of each. -/
import Derived.Test.YthgbpofcfmnpdaaDoorLiD
import Derived.Test.YthgbpofcfmnpdaaDoorBldT
namespace Go.Proofs.YthgbpofcfmnpdaaDoor
open Go.ChangeShapes Go.WideShapes Go.ChangeAt Go.RowKit
set_option linter.unusedVariables false
set_option maxRecDepth 8000

/-- What stands while the program's LineOf goes on. -/
structure Lo (w wr : World) (bs : List UInt8) : Prop where
  bel : Below w.heap.size w wr
  bd : Bd wr w.heap.size w.heap.size bs
  sz : w.heap.size ≤ wr.heap.size
section
variable {w wr w' : World} {bs cs : List UInt8}
theorem Lo.next (h : Lo w wr bs) (hb : Below w.heap.size wr w') (k : Bd w' w.heap.size w.heap.size cs) : Lo w w' cs := ⟨h.bel.trans hb, k, Nat.le_trans h.sz hb.size⟩
theorem Lo.later (h : Lo w wr bs) (hb : Below wr.heap.size wr w') : Lo w w' bs := h.next (hb.mono h.sz) (bd_later h.bd hb)
end
theorem lo_new (w : World) : Lo w (w.alloc (.cells #[.pointer none, .slice none 0 0] 60)) [] :=
  ⟨below_new w _, bd_new w w.heap.size (Nat.le_refl _), by simp⟩
theorem tri_cells {W : World} {g : Nat} {t : Tk} {ty : TypeId} (h : W.heap[g]? = some (.cells t.cs ty (0, 0))) : W.cell? ⟨g, 0, none⟩ = some (.int .i64 t.k) ∧ W.cell? ⟨g, 1, none⟩ = some (.int .i64 t.n) ∧ W.cell? ⟨g, 2, none⟩ = some (.string t.s) :=
  ⟨Lib.cell_of_heap h 0, Lib.cell_of_heap h 1, Lib.cell_of_heap h 2⟩
set_option maxHeartbeats 2000000 in
theorem lineI_any (a : Option Addr) (len cap : Nat) (ts : List Tk) (w : World) (hl : ts.length = len) (hm : len + szL ts ≤ 1048576) (hr : RdT w a ts) (hg : w.cell? ⟨8, 7, none⟩ = some (.int .u8 3)) : Calls Tryd.prog 12 #[.slice a len cap] w fun e w' => e = .returned (.string (strOf (lineOf ts))) ∧ Below w.heap.size w w' := by
  unfold lineOf
  rw [hl]
  have O0 := hide (lo_new w)
  have gl : 8 < w.heap.size := World.block_lt_of_cell? w _ hg
  have TB := hide (fun wr (h : Below w.heap.size w wr) => (h.cell (p := ⟨8, 7, none⟩) gl).trans hg)
  clear hg gl
  go_enter Tryd.func12, Tryd.ntmps12
  go_wp2
  go_loopw [8] (fun i wr => ∃ k : Nat, k ≤ len ∧ i = .int .i64 k ∧ Lo w wr (lineT ts k)) (fun i _ => len - (intOf i).toNat)
  case atStart => exact ⟨0, Nat.zero_le _, rfl, unhide O0⟩
  case round =>
    clear O0
    obtain ⟨k, hk, rfl, ho⟩ := hrel
    have O1 := hide ho
    by_cases hlt : k < len
    · rcases hr with h0 | ⟨b, off, rfl, hbl, hc⟩
      · rw [h0] at hl; simp at hl; omega
      obtain ⟨c0, c1, c2⟩ := hc k (by omega)
      have d0 : wr.cell? ⟨b, off + k * 3, none⟩ = _ := (ho.bel.cell (p := ⟨b, _, none⟩) hbl).trans c0
      have d1 : wr.cell? ⟨b, off + k * 3 + 1, none⟩ = _ := (ho.bel.cell (p := ⟨b, _, none⟩) hbl).trans c1
      have d2 : wr.cell? ⟨b, off + k * 3 + 2, none⟩ = _ := (ho.bel.cell (p := ⟨b, _, none⟩) hbl).trans c2
      have LB := hide (show (lineT ts k).length ≤ 8388608 by
        have := lineT_len ts k (by omega)
        have := szL_le ts k
        omega)
      have hz3 : (tAt ts k).s.size ≤ 1048576 := by have := szL_at ts k (by omega); omega
      have LT := hide (show lineT ts (k + 1) = lineT ts k ++ (if k = 0 then [] else [32]) ++ tokL (tAt ts k) from rfl)
      have TL := hide (show tokL (tAt ts k) = if (tAt ts k).k = 2 then octD ((tAt ts k).n % 65536).toNat else (tAt ts k).s.data.toList from rfl)
      have O6 := hide (octD_six (tAt ts k).n)
      rw [unhide TL] at LT
      -- the box
      have O2 := hide (ho.later (below_new wr (.cells (tAt ts k).cs 31)))
      have R2 := hide (heap_alloc_new wr (.cells (tAt ts k).cs 31))
      have OC := hide (fun w2 (h : Below w.heap.size w w2) => octI_any (tAt ts k).n w2 (unhide TB w2 h))
      generalize lineT ts k = bs at *
      generalize hts : tAt ts k = t at *
      obtain ⟨kk, nn, ss⟩ := t
      unfold Tk.cs at O2 R2
      simp only at d0 d1 d2 hz3 LT O2 R2 OC O6
      generalize octD (nn % 65536).toNat = ds at *
      clear c0 c1 c2 hc ho TL hts
      by_cases hk0 : k = 0
      · have hg0 : decide (0 < k) = false := decide_eq_false (by omega)
        have LT0 := hide (show lineT ts (k + 1) = bs ++ (if kk = 2 then ds else ss.data.toList) by have := unhide LT; rw [if_pos hk0, List.append_nil] at this; exact this)
        clear hk0 LT
        by_cases hk2 : kk = 2
        · subst hk2
          have LT1 := hide (show lineT ts (k + 1) = bs ++ ds from unhide LT0)
          clear LT0
          have OC1 := hide (unhide OC _ (unhide O2).bel)
          go_wp2_with fail
          refine (unhide OC1).mono ?_
          rintro e w5 ⟨rfl, hb5⟩
          have O5 := hide ((unhide O2).later hb5)
          have WS := hide (writeS w.heap.size w.heap.size bs ds w5 (unhide O5).bd (by have := unhide LB; omega) (by have := unhide O6; omega) (unhide O5).sz)
          clear hb5 OC1
          go_wp2_with fail
          refine (unhide WS).mono ?_
          rintro e w6 ⟨⟨v6, rfl⟩, k6, hb6, _⟩
          have O7 := hide ((unhide O5).next hb6 k6)
          rw [← unhide LT1] at O7
          clear hb6 k6 WS O5
          go_wp2
          go_roundw
          case rel => exact ⟨k + 1, by omega, by go_num, unhide O7⟩
          case measure => simp [intOf]; omega
        · have LT1 := hide (show lineT ts (k + 1) = bs ++ ss.data.toList from (unhide LT0).trans (by rw [if_neg hk2]))
          clear LT0 OC
          have WS := hide (writeS w.heap.size w.heap.size bs ss.data.toList (wr.alloc (.cells #[.int .i64 kk, .int .i64 nn, .string ss] 31)) (unhide O2).bd (by have := unhide LB; omega) (by rw [size_len]; omega) (unhide O2).sz)
          rw [strOf_of] at WS
          go_wp2_with fail
          refine (unhide WS).mono ?_
          rintro e w6 ⟨⟨v6, rfl⟩, k6, hb6, _⟩
          have O7 := hide ((unhide O2).next hb6 k6)
          rw [← unhide LT1] at O7
          clear hb6 k6 WS
          go_wp2
          go_roundw
          case rel => exact ⟨k + 1, by omega, by go_num, unhide O7⟩
          case measure => simp [intOf]; omega
      · have hg0 : (0 : Int) < (k : Int) := by omega
        have LT0 := hide (show lineT ts (k + 1) = (bs ++ [32]) ++ (if kk = 2 then ds else ss.data.toList) by have := unhide LT; rw [if_neg hk0] at this; exact this)
        clear hk0 LT
        have WB := hide (writeB w.heap.size w.heap.size bs 32 (wr.alloc (.cells #[.int .i64 kk, .int .i64 nn, .string ss] 31)) (unhide O2).bd (by have := unhide LB; omega) (unhide O2).sz)
        go_wp2_with fail
        refine (unhide WB).mono ?_
        rintro e w3 ⟨rfl, k3, hb3, kp3⟩
        have R3 := (kp3 _ _ _ _ (unhide R2) (by decide) (by decide)).trans (unhide R2)
        obtain ⟨c0, c1, c2⟩ := tri_cells (t := ⟨kk, nn, ss⟩) R3
        simp only at c0 c1 c2
        have O3 := hide ((unhide O2).next hb3 k3)
        clear hb3 k3 kp3 R3 R2 O2 WB d0 d1 d2
        by_cases hk2 : kk = 2
        · subst hk2
          have LT1 := hide (show lineT ts (k + 1) = (bs ++ [32]) ++ ds from unhide LT0)
          clear LT0
          have OC1 := hide (unhide OC _ (unhide O3).bel)
          go_wp2_with fail
          refine (unhide OC1).mono ?_
          rintro e w5 ⟨rfl, hb5⟩
          have O5 := hide ((unhide O3).later hb5)
          have WS := hide (writeS w.heap.size w.heap.size (bs ++ [32]) ds w5 (unhide O5).bd (by have := unhide LB; rw [List.length_append]; have h1 : [(32 : UInt8)].length = 1 := rfl; omega) (by have := unhide O6; omega) (unhide O5).sz)
          clear hb5 OC1
          go_wp2_with fail
          refine (unhide WS).mono ?_
          rintro e w6 ⟨⟨v6, rfl⟩, k6, hb6, _⟩
          have O7 := hide ((unhide O5).next hb6 k6)
          rw [← unhide LT1] at O7
          clear hb6 k6 WS O5
          go_wp2
          go_roundw
          case rel => exact ⟨k + 1, by omega, by go_num, unhide O7⟩
          case measure => simp [intOf]; omega
        · have LT1 := hide (show lineT ts (k + 1) = (bs ++ [32]) ++ ss.data.toList from (unhide LT0).trans (by rw [if_neg hk2]))
          clear LT0 OC
          have WS := hide (writeS w.heap.size w.heap.size (bs ++ [32]) ss.data.toList w3 (unhide O3).bd (by have := unhide LB; rw [List.length_append]; have h1 : [(32 : UInt8)].length = 1 := rfl; omega) (by rw [size_len]; omega) (unhide O3).sz)
          rw [strOf_of] at WS
          go_wp2_with fail
          refine (unhide WS).mono ?_
          rintro e w6 ⟨⟨v6, rfl⟩, k6, hb6, _⟩
          have O7 := hide ((unhide O3).next hb6 k6)
          rw [← unhide LT1] at O7
          clear hb6 k6 WS
          go_wp2
          go_roundw
          case rel => exact ⟨k + 1, by omega, by go_num, unhide O7⟩
          case measure => simp [intOf]; omega
    · obtain rfl : k = len := by omega
      have SB := hide (strAny w.heap.size w.heap.size (lineT ts k) wr (unhide O1).bd (unhide O1).sz)
      go_wp2_with fail
      refine (unhide SB).mono ?_
      rintro e w4 ⟨rfl, hb4⟩
      have HB := hide ((unhide O1).bel.trans hb4)
      clear hb4 SB
      go_wp2
      go_ret
      exact ⟨rfl, unhide HB⟩
end Go.Proofs.YthgbpofcfmnpdaaDoor
