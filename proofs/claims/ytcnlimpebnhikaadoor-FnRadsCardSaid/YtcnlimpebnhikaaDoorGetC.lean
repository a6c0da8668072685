/- Contracts of the model's GetRad, over this seat's translation; conditions stand as hypotheses of each. -/
import Derived.Test.YtcnlimpebnhikaaDoorGetB
namespace Go.Proofs.YtcnlimpebnhikaaDoor
open Go.ChangeShapes Go.WideShapes Go.ChangeAt Go.RowKit
set_option linter.unusedVariables false

theorem OwnB.tag {w : World} {B T : Nat} {v : Value} {ys : List UInt8} {c : Array Value} {t : TypeId} {fz : Nat × Nat} (h : OwnB w B v ys) (ht : w.heap[T]? = some (.cells c t fz)) (hne : t ≠ 5) : v.ownBlock ≠ some T := by
  intro e
  obtain ⟨_, ⟨rfl, _⟩ | ⟨g, cap, cur, rfl, _, hh, _⟩⟩ := h
  · simp [Value.ownBlock] at e
  · simp [Value.ownBlock] at e
    subst e
    rw [hh] at ht
    cases ht
    exact hne rfl

theorem OwnB.form2 {w : World} {B : Nat} {v : Value} {ys : List UInt8} (h : OwnB w B v ys) : (v = .slice none 0 0 ∧ ys = []) ∨ ∃ g cap, v = .slice (some ⟨g, 0, none⟩) ys.length cap ∧ B ≤ g ∧ g < w.heap.size ∧ ys.length ≤ cap ∧ cap ≤ maxLen := by
  obtain ⟨_, ⟨h1, h2⟩ | ⟨g, cap, cur, rfl, hg, hh, hn, hm, r⟩⟩ := h
  · exact .inl ⟨h1, List.eq_nil_of_length_eq_zero h2⟩
  · exact .inr ⟨g, cap, rfl, hg, (Array.getElem?_eq_some_iff.1 hh).1, hn, hm⟩
def slen : Value → Nat
  | .slice _ n _ => n
  | _ => 0
theorem conv_take {w : World} {g : Nat} {bs : List UInt8} (h : Rd w (some ⟨g, 0, none⟩) bs) (cp n : Nat) (hn : n ≤ bs.length) : (convert 22 9 (.slice (some ⟨g, 0, none⟩) n cp)).run Tryd.prog w = .ok (.string (strOf (bs.take n))) w := by
  have hl : (bs.take n).length = n := by simp; omega
  have := run_convert_bytes_back (P := Tryd.prog) w 22 9 5 ⟨g, 0, none⟩ cp (bs.take n) Tryd.underlying22 Tryd.underlying5 Tryd.underlying9 (fun j hj => by
    have hj' : j < n := by omega
    rcases h with rfl | ⟨b, off, e, hb, hc⟩
    · simp at hn; omega
    cases e
    have h2 := hc j (by omega)
    have e : bAt bs j = (((bs.take n)[j]'hj).toNat : Int) := by
      unfold bAt
      rw [List.getD_eq_getElem?_getD, List.getElem?_eq_getElem (by omega)]
      simp
    rw [e] at h2
    unfold Addr.add
    by_cases h0 : j = 0
    · subst h0; simpa using h2
    · simpa [h0] using h2)
  rw [hl] at this
  exact this

set_option maxHeartbeats 1000000 in
set_option maxRecDepth 100000 in
theorem getRadS_any (a : Option Addr) (len cap : Nat) (ns : List Int) (w : World) (hl : ns.length = len) (hm : len ≤ 1048576) (hr : RdN w a ns) :
    Calls Tryd.prog 11 #[.slice a len cap] w fun e w' => GetEnd ns e ∧ Below w.heap.size w w' := by
  obtain ⟨i0, hi, hz0, hz1, hz2⟩ := info_parts info5
  by_cases h2 : len ≤ 2
  · have hB0 := hide ((Below.refl w.heap.size w).alloc (Nat.le_refl _) (Obj.cells #[] 5))
    have hO0 := hide (ownB_empty w)
    go_enter Tryd.func11, Tryd.ntmps11
    go_wp2
    go_loopw [4, 5] (fun vb i wr => ∃ (k : Nat) (v : Value), k ≤ len ∧ i = .int .i64 k ∧ vb = v ∧ Below w.heap.size w wr ∧ OwnB wr w.heap.size v (bytesK ns k) ∧ v ≠ .slice none 0 0 ∧ Hid (∀ i, i < k → WOk (nAt ns i))) (fun _ i _ => len - (intOf i).toNat)
    case atStart => exact ⟨0, _, by omega, rfl, rfl, unhide hB0, unhide hO0, by simp, fun i hi => by omega⟩
    case round =>
      clear hB0 hO0
      obtain ⟨k, v, hk, rfl, hv, hbel, hown, hnn, hall⟩ := hrel
      subst hv
      by_cases hlt : k < len
      · rcases hr with rfl | ⟨b, off, rfl, hb, hc⟩
        · simp at hl; omega
        have hcx : wr.cell? ⟨b, off + k, none⟩ = some (.int .i64 (nAt ns k)) := (hbel.cell (p := ⟨b, off + k, none⟩) hb).trans (hc k (by omega))
        have HB := hide hbel
        have HO := hide hown
        have hsz := hbel.size
        have hbl : b < wr.heap.size := by omega
        clear hc hbel hown
        by_cases hin : 0 ≤ nAt ns k ∧ nAt ns k ≤ 63999
        · obtain ⟨x, hx⟩ := Int.eq_ofNat_of_zero_le hin.1
          have HX := hide hx
          have hx2 := hin.2
          rw [hx] at hcx hx2
          clear hx hin
          have hdt : decide ((0 : Int) ≤ (x : Int) ∧ (x : Int) ≤ 63999) = true := by simp; omega
          go_wp2_with (go_at_call 26; refine (in_any _ _ _ _).mono ?_; rintro e w' ⟨rfl, hw'⟩; rw [hw', hdt]; clear hw' w')
          go_region
          obtain ⟨d0, q0⟩ : ∃ d0, d0 = x / 1600 := ⟨_, rfl⟩
          obtain ⟨d1, q1⟩ : ∃ d1, d1 = x / 40 % 40 := ⟨_, rfl⟩
          obtain ⟨d2, q2⟩ : ∃ d2, d2 = x % 40 := ⟨_, rfl⟩
          have e0 : (x : Int) / 1600 = (d0 : Int) := by omega
          have e1 : (x : Int) / 40 % 40 = (d1 : Int) := by omega
          have e2 : (x : Int) % 40 = (d2 : Int) := by omega
          have HW3 := hide (show w3 (nAt ns k) = [tb d0, tb d1, tb d2] by unfold w3; rw [unhide HX, e0, e1, e2]; rfl)
          have HOK := hide (show d0 ≠ 29 → d1 ≠ 29 → d2 ≠ 29 → WOk (nAt ns k) from fun _ _ _ => by unfold WOk; rw [unhide HX]; omega)
          have HD0 := hide (show GGood ns → d0 ≠ 29 from fun h => by have := (h.2 k (by omega)).2.2; rw [unhide HX] at this; omega)
          have HD1 := hide (show GGood ns → d1 ≠ 29 from fun h => by have := (h.2 k (by omega)).2.2; rw [unhide HX] at this; omega)
          have HD2 := hide (show GGood ns → d2 ≠ 29 from fun h => by have := (h.2 k (by omega)).2.2; rw [unhide HX] at this; omega)
          rw [e0, e1, e2]
          have hd0 : d0 < 40 := by omega
          have hd1 : d1 < 40 := by omega
          have hd2 : d2 < 40 := by omega
          clear e0 e1 e2 hdt hcx q0 q1 q2
          obtain ⟨T, hTe⟩ : ∃ T, T = wr.heap.size := ⟨_, rfl⟩
          have TT := hide (show ((wr.alloc (Obj.cells #[Value.int .i64 (d0 : Int), Value.int .i64 (d1 : Int), Value.int .i64 (d2 : Int)] 3)).drew).heap[T]? = some (.cells #[.int .i64 (d0 : Int), .int .i64 (d1 : Int), .int .i64 (d2 : Int)] 3 (0, 0)) by rw [hTe]; exact Array.getElem?_push_size)
          have BB := hide (show Below w.heap.size w ((wr.alloc (Obj.cells #[Value.int .i64 (d0 : Int), Value.int .i64 (d1 : Int), Value.int .i64 (d2 : Int)] 3)).drew) from ((unhide HB).alloc hsz _).drew)
          have OO := hide (show OwnB ((wr.alloc (Obj.cells #[Value.int .i64 (d0 : Int), Value.int .i64 (d1 : Int), Value.int .i64 (d2 : Int)] 3)).drew) w.heap.size u4 (bytesK ns k ++ [tb d0, tb d1, tb d2].take 0) by
            rw [List.take_zero, List.append_nil]
            exact ((unhide HO).alloc _).drew)
          rw [← hTe]
          clear hTe HB HO hsz hbl
          generalize (wr.alloc (Obj.cells #[Value.int .i64 (d0 : Int), Value.int .i64 (d1 : Int), Value.int .i64 (d2 : Int)] 3)).drew = W at *
          go_wp2
          go_loopw [4, 7] (fun vb i wk => ∃ (c : Nat) (v : Value), c ≤ 3 ∧ i = .int .i64 c ∧ vb = v ∧ Below w.heap.size w wk ∧ wk.heap[T]? = some (.cells #[.int .i64 (d0 : Int), .int .i64 (d1 : Int), .int .i64 (d2 : Int)] 3 (0, 0)) ∧ OwnB wk w.heap.size v (bytesK ns k ++ [tb d0, tb d1, tb d2].take c) ∧ v ≠ .slice none 0 0 ∧ Hid ((1 ≤ c → d0 ≠ 29) ∧ (2 ≤ c → d1 ≠ 29) ∧ (3 ≤ c → d2 ≠ 29))) (fun _ i _ => 3 - (intOf i).toNat)
          case atStart => exact ⟨0, _, by omega, rfl, rfl, unhide BB, unhide TT, unhide OO, hnn, ⟨fun h => by omega, fun h => by omega, fun h => by omega⟩⟩
          case round =>
            clear BB TT OO hnn
            obtain ⟨c, v, hc, rfl, hv, hbel, hT, hown, hnn, hds⟩ := hrel
            subst hv
            obtain rfl | rfl | rfl | rfl : c = 0 ∨ c = 1 ∨ c = 2 ∨ c = 3 := by omega
            · have hcx := Lib.cell_of_heap hT 0
              simp only [show (#[Value.int .i64 (d0 : Int), Value.int .i64 (d1 : Int), Value.int .i64 (d2 : Int)] : Array Value)[0]? = some (Value.int .i64 (d0 : Int)) from rfl] at hcx
              have HT := hide hT
              have HO := hide hown
              have HB := hide hbel
              have hsz := hbel.size
              have hTl : T < wr.heap.size := (Array.getElem?_eq_some_iff.1 hT).1
              clear hT hown hbel
              have L := tb_fin ⟨d0, hd0⟩
              simp only at L
              obtain ⟨y, hy⟩ : ∃ y : Int, ((tb d0).toNat : Int) = y := ⟨_, rfl⟩
              rw [hy] at L
              have hyb := (tb d0).toNat_lt
              have hy2 : 0 ≤ y ∧ y ≤ 255 := by omega
              have HY := hide hy
              clear hy hyb
              by_cases h29 : d0 = 29
              · obtain rfl : y = 0 := L.1.2 h29
                have HN := hide (show ¬ GGood ns from fun h => (unhide HD0) h h29)
                clear L h29
                go_wp2_with (go_at_call 27; refine (letterS_any _ hd0 _).mono ?_; rintro e w' ⟨rfl, hw'⟩; rw [hw', unhide HY]; clear hw' w')
                go_ret2
                exact ⟨.inr ⟨unhide HN, rfl⟩, unhide HB⟩
              · have hy0 : (y == 0) = false := beq_eq_false_iff_ne.2 (fun e => h29 (L.1.1 e))
                have K1 := hide (cell_one_new wr (Value.int .u8 y) 5)
                have KL := bytesK_length ns k
                have HC := hide (show cellsB (bytesK ns k ++ [tb d0, tb d1, tb d2].take 0) ++ [Value.int .u8 y] = cellsB (bytesK ns k ++ [tb d0, tb d1, tb d2].take (0 + 1)) by rw [← unhide HY]; simp [cellsB])
                have HLn := show (bytesK ns k ++ [tb d0, tb d1, tb d2].take 0).length = 3 * k + 0 by rw [List.length_append, KL]; rfl
                have H29 := hide h29
                clear L h29
                have hTb := hide ((((Below.refl wr.heap.size wr).alloc (Nat.le_refl _) (Obj.cells #[Value.int .u8 y] 5)).block T hTl).trans (unhide HT))
                go_wp2_with (first | (go_at_call 27; refine (letterS_any _ hd0 _).mono ?_; rintro e w' ⟨rfl, hw'⟩; rw [hw', unhide HY]; clear hw' w') | (at_builtin; go_must (refine wpList_append_own _ rfl (.tmp 53) (.tmp 55) 22 rfl w.heap.size 5 i0 (.int .u8 0) 1 1 Tryd.underlying22 hi hz0 hz1 hz2 rfl (by decide) u4 _ _ rfl ((unhide HO).alloc _) ⟨wr.heap.size, 0, none⟩ 1 1 [Value.int .u8 y] rfl rfl (unhide K1) (by intro u hu; simp at hu; subst hu; rfl) (by unfold maxLen; omega) (by omega) (by simp; omega) ?_; intro v2 w2 hown2 hgrow2 hnil2)))
                have o2 : OwnB w2 w.heap.size v2 (bytesK ns k ++ [tb d0, tb d1, tb d2].take (0 + 1)) := by
                  rw [unhide HC] at hown2
                  have e : (bytesK ns k ++ [tb d0, tb d1, tb d2].take (0 + 1)).length = (bytesK ns k ++ [tb d0, tb d1, tb d2].take 0).length + 1 := by simp
                  unfold OwnB
                  rw [e]
                  exact hown2
                have t2 : w2.heap[T]? = some (.cells #[.int .i64 (d0 : Int), .int .i64 (d1 : Int), .int .i64 (d2 : Int)] 3 (0, 0)) :=
                  (hgrow2.block T (by simp; omega) (fun e => (unhide HO).tag (unhide HT) (by decide) e.symm)).trans (unhide hTb)
                have b2 : Below w.heap.size w w2 := ((unhide HB).alloc hsz _).grown hgrow2 (by simp; omega) (fun k h => ((unhide HO).lt h).1)
                go_roundw
                case rel => exact ⟨0 + 1, v2, by omega, rfl, rfl, b2, t2, o2, fun e => by have := hnil2.1 e; omega, by exact ⟨fun _ => unhide H29, fun h => by omega, fun h => by omega⟩⟩
                case measure => simp [intOf]
            · have hcx := Lib.cell_of_heap hT 1
              simp only [show (#[Value.int .i64 (d0 : Int), Value.int .i64 (d1 : Int), Value.int .i64 (d2 : Int)] : Array Value)[1]? = some (Value.int .i64 (d1 : Int)) from rfl] at hcx
              have HT := hide hT
              have HO := hide hown
              have HB := hide hbel
              have hsz := hbel.size
              have hTl : T < wr.heap.size := (Array.getElem?_eq_some_iff.1 hT).1
              clear hT hown hbel
              have L := tb_fin ⟨d1, hd1⟩
              simp only at L
              obtain ⟨y, hy⟩ : ∃ y : Int, ((tb d1).toNat : Int) = y := ⟨_, rfl⟩
              rw [hy] at L
              have hyb := (tb d1).toNat_lt
              have hy2 : 0 ≤ y ∧ y ≤ 255 := by omega
              have HY := hide hy
              clear hy hyb
              by_cases h29 : d1 = 29
              · obtain rfl : y = 0 := L.1.2 h29
                have HN := hide (show ¬ GGood ns from fun h => (unhide HD1) h h29)
                clear L h29
                go_wp2_with (go_at_call 27; refine (letterS_any _ hd1 _).mono ?_; rintro e w' ⟨rfl, hw'⟩; rw [hw', unhide HY]; clear hw' w')
                go_ret2
                exact ⟨.inr ⟨unhide HN, rfl⟩, unhide HB⟩
              · have hy0 : (y == 0) = false := beq_eq_false_iff_ne.2 (fun e => h29 (L.1.1 e))
                have K1 := hide (cell_one_new wr (Value.int .u8 y) 5)
                have KL := bytesK_length ns k
                have HC := hide (show cellsB (bytesK ns k ++ [tb d0, tb d1, tb d2].take 1) ++ [Value.int .u8 y] = cellsB (bytesK ns k ++ [tb d0, tb d1, tb d2].take (1 + 1)) by rw [← unhide HY]; simp [cellsB])
                have HLn := show (bytesK ns k ++ [tb d0, tb d1, tb d2].take 1).length = 3 * k + 1 by rw [List.length_append, KL]; rfl
                have H29 := hide h29
                clear L h29
                have hTb := hide ((((Below.refl wr.heap.size wr).alloc (Nat.le_refl _) (Obj.cells #[Value.int .u8 y] 5)).block T hTl).trans (unhide HT))
                go_wp2_with (first | (go_at_call 27; refine (letterS_any _ hd1 _).mono ?_; rintro e w' ⟨rfl, hw'⟩; rw [hw', unhide HY]; clear hw' w') | (at_builtin; go_must (refine wpList_append_own _ rfl (.tmp 53) (.tmp 55) 22 rfl w.heap.size 5 i0 (.int .u8 0) 1 1 Tryd.underlying22 hi hz0 hz1 hz2 rfl (by decide) u4 _ _ rfl ((unhide HO).alloc _) ⟨wr.heap.size, 0, none⟩ 1 1 [Value.int .u8 y] rfl rfl (unhide K1) (by intro u hu; simp at hu; subst hu; rfl) (by unfold maxLen; omega) (by omega) (by simp; omega) ?_; intro v2 w2 hown2 hgrow2 hnil2)))
                have o2 : OwnB w2 w.heap.size v2 (bytesK ns k ++ [tb d0, tb d1, tb d2].take (1 + 1)) := by
                  rw [unhide HC] at hown2
                  have e : (bytesK ns k ++ [tb d0, tb d1, tb d2].take (1 + 1)).length = (bytesK ns k ++ [tb d0, tb d1, tb d2].take 1).length + 1 := by simp
                  unfold OwnB
                  rw [e]
                  exact hown2
                have t2 : w2.heap[T]? = some (.cells #[.int .i64 (d0 : Int), .int .i64 (d1 : Int), .int .i64 (d2 : Int)] 3 (0, 0)) :=
                  (hgrow2.block T (by simp; omega) (fun e => (unhide HO).tag (unhide HT) (by decide) e.symm)).trans (unhide hTb)
                have b2 : Below w.heap.size w w2 := ((unhide HB).alloc hsz _).grown hgrow2 (by simp; omega) (fun k h => ((unhide HO).lt h).1)
                go_roundw
                case rel => exact ⟨1 + 1, v2, by omega, rfl, rfl, b2, t2, o2, fun e => by have := hnil2.1 e; omega, by exact ⟨fun _ => hds.out.1 (by omega), fun _ => unhide H29, fun h => by omega⟩⟩
                case measure => simp [intOf]
            · have hcx := Lib.cell_of_heap hT 2
              simp only [show (#[Value.int .i64 (d0 : Int), Value.int .i64 (d1 : Int), Value.int .i64 (d2 : Int)] : Array Value)[2]? = some (Value.int .i64 (d2 : Int)) from rfl] at hcx
              have HT := hide hT
              have HO := hide hown
              have HB := hide hbel
              have hsz := hbel.size
              have hTl : T < wr.heap.size := (Array.getElem?_eq_some_iff.1 hT).1
              clear hT hown hbel
              have L := tb_fin ⟨d2, hd2⟩
              simp only at L
              obtain ⟨y, hy⟩ : ∃ y : Int, ((tb d2).toNat : Int) = y := ⟨_, rfl⟩
              rw [hy] at L
              have hyb := (tb d2).toNat_lt
              have hy2 : 0 ≤ y ∧ y ≤ 255 := by omega
              have HY := hide hy
              clear hy hyb
              by_cases h29 : d2 = 29
              · obtain rfl : y = 0 := L.1.2 h29
                have HN := hide (show ¬ GGood ns from fun h => (unhide HD2) h h29)
                clear L h29
                go_wp2_with (go_at_call 27; refine (letterS_any _ hd2 _).mono ?_; rintro e w' ⟨rfl, hw'⟩; rw [hw', unhide HY]; clear hw' w')
                go_ret2
                exact ⟨.inr ⟨unhide HN, rfl⟩, unhide HB⟩
              · have hy0 : (y == 0) = false := beq_eq_false_iff_ne.2 (fun e => h29 (L.1.1 e))
                have K1 := hide (cell_one_new wr (Value.int .u8 y) 5)
                have KL := bytesK_length ns k
                have HC := hide (show cellsB (bytesK ns k ++ [tb d0, tb d1, tb d2].take 2) ++ [Value.int .u8 y] = cellsB (bytesK ns k ++ [tb d0, tb d1, tb d2].take (2 + 1)) by rw [← unhide HY]; simp [cellsB])
                have HLn := show (bytesK ns k ++ [tb d0, tb d1, tb d2].take 2).length = 3 * k + 2 by rw [List.length_append, KL]; rfl
                have H29 := hide h29
                clear L h29
                have hTb := hide ((((Below.refl wr.heap.size wr).alloc (Nat.le_refl _) (Obj.cells #[Value.int .u8 y] 5)).block T hTl).trans (unhide HT))
                go_wp2_with (first | (go_at_call 27; refine (letterS_any _ hd2 _).mono ?_; rintro e w' ⟨rfl, hw'⟩; rw [hw', unhide HY]; clear hw' w') | (at_builtin; go_must (refine wpList_append_own _ rfl (.tmp 53) (.tmp 55) 22 rfl w.heap.size 5 i0 (.int .u8 0) 1 1 Tryd.underlying22 hi hz0 hz1 hz2 rfl (by decide) u4 _ _ rfl ((unhide HO).alloc _) ⟨wr.heap.size, 0, none⟩ 1 1 [Value.int .u8 y] rfl rfl (unhide K1) (by intro u hu; simp at hu; subst hu; rfl) (by unfold maxLen; omega) (by omega) (by simp; omega) ?_; intro v2 w2 hown2 hgrow2 hnil2)))
                have o2 : OwnB w2 w.heap.size v2 (bytesK ns k ++ [tb d0, tb d1, tb d2].take (2 + 1)) := by
                  rw [unhide HC] at hown2
                  have e : (bytesK ns k ++ [tb d0, tb d1, tb d2].take (2 + 1)).length = (bytesK ns k ++ [tb d0, tb d1, tb d2].take 2).length + 1 := by simp
                  unfold OwnB
                  rw [e]
                  exact hown2
                have t2 : w2.heap[T]? = some (.cells #[.int .i64 (d0 : Int), .int .i64 (d1 : Int), .int .i64 (d2 : Int)] 3 (0, 0)) :=
                  (hgrow2.block T (by simp; omega) (fun e => (unhide HO).tag (unhide HT) (by decide) e.symm)).trans (unhide hTb)
                have b2 : Below w.heap.size w w2 := ((unhide HB).alloc hsz _).grown hgrow2 (by simp; omega) (fun k h => ((unhide HO).lt h).1)
                go_roundw
                case rel => exact ⟨2 + 1, v2, by omega, rfl, rfl, b2, t2, o2, fun e => by have := hnil2.1 e; omega, by exact ⟨fun _ => hds.out.1 (by omega), fun _ => hds.out.2.1 (by omega), fun _ => unhide H29⟩⟩
                case measure => simp [intOf]
            · have HB := hide hbel
              have HO := hide (show OwnB wr w.heap.size u4 (bytesK ns (k + 1)) by rw [bytesK_succ, unhide HW3]; exact hown)
              have HA := hide (show ∀ i, i < k + 1 → WOk (nAt ns i) from fun i hi => by
                by_cases e : i = k
                · subst e; exact unhide HOK (hds.out.1 (by omega)) (hds.out.2.1 (by omega)) (hds.out.2.2 (by omega))
                · exact hall.out i (by omega))
              clear hbel hT hown hds
              go_wp2
              go_roundw
              case rel => exact ⟨k + 1, u4, by omega, by go_num, rfl, unhide HB, unhide HO, hnn, unhide HA⟩
              case measure => simp [intOf]; omega
        · have HN := hide (show ¬ GGood ns from fun h => hin ⟨(h.2 k (by omega)).1, (h.2 k (by omega)).2.1⟩)
          have hdt : decide ((0 : Int) ≤ nAt ns k ∧ nAt ns k ≤ 63999) = false := decide_eq_false hin
          clear hin hall
          go_wp2_with (go_at_call 26; refine (in_any _ _ _ _).mono ?_; rintro e w' ⟨rfl, hw'⟩; rw [hw', hdt]; clear hw' w')
          go_ret2
          exact ⟨.inr ⟨unhide HN, rfl⟩, unhide HB⟩
      · obtain rfl : k = len := by omega
        have HG := hide (show GGood ns from ⟨by omega, fun i hi => hall.out i (by omega)⟩)
        obtain ⟨bs, hbs⟩ : ∃ bs, bs = bytesK ns k := ⟨_, rfl⟩
        rw [← hbs] at hown
        have hbl : bs.length = 3 * k := by rw [hbs]; exact bytesK_length ns k
        have HBS := hide hbs
        clear hbs hall
        rcases hown.form2 with ⟨e, _⟩ | ⟨g, cp, hv, hg, hlg, hcp, hcm⟩
        · exact absurd e hnn
        subst hv
        have HC := hide (fun n (hn : n ≤ bs.length) => conv_take hown.rd1 cp n hn)
        have HR := hide (show ∀ j, j < bs.length → wr.cell? ⟨g, j, none⟩ = some (.int .u8 (bAt bs j)) from fun j hj => by
          rcases hown.rd1 with rfl | ⟨b, off, hab, hb, hc⟩
          · simp at hj
          · cases hab
            simpa using hc j hj)
        have HB := hide hbel
        unfold maxLen at hcm
        clear hown hbel hnn
        go_wp2
        go_loop [4] (fun vb => ∃ n : Nat, n ≤ bs.length ∧ vb = .slice (some ⟨g, 0, none⟩) n cp ∧ Hid (trimR (bs.take n) = trimR bs)) (fun vb => slen vb)
        case atStart => exact ⟨bs.length, Nat.le_refl _, rfl, by rw [List.take_of_length_le (Nat.le_refl _)]; rfl⟩
        case round =>
          obtain ⟨n, hn, rfl, htr⟩ := hrel
          have hcv := unhide HC n hn
          cases n with
          | zero =>
            have HF := hide (show strOf (bs.take 0) = strOf (trimR (bytesK ns ns.length)) by rw [hl, ← unhide HBS, ← htr.out]; rfl)
            go_wp2
            go_ret2
            exact ⟨.inl ⟨unhide HG, by rw [← unhide HF]; rfl⟩, unhide HB⟩
          | succ m =>
            have hcx := unhide HR m (by omega)
            have hsn : bs.take (m + 1) = bs.take m ++ [bs[m]'(by omega)] := List.take_succ_eq_append_getElem (by omega)
            have hbm : bAt bs m = ((bs[m]'(by omega)).toNat : Int) := by unfold bAt; rw [List.getD_eq_getElem?_getD, List.getElem?_eq_getElem (by omega)]; rfl
            have ht2 := trimR_snoc (bs.take m) (bs[m]'(by omega))
            rw [← hsn] at ht2
            have hbd := bAt_bd bs m
            by_cases h32 : bAt bs m = 32
            · have hc32 : bs[m]'(by omega) = 32 := by apply UInt8.toNat.inj; rw [hbm] at h32; have : (32 : UInt8).toNat = 32 := rfl; omega
              rw [if_pos hc32] at ht2
              have HT := hide (ht2.symm.trans htr.out)
              have hq : (bAt bs m == 32) = true := by simpa using h32
              clear hsn hbm ht2 hc32 hcv h32
              go_wp2
              go_round
              case rel => exact ⟨m, by omega, rfl, unhide HT⟩
              case measure => simp [slen]
            · have hc32 : ¬ bs[m]'(by omega) = 32 := fun e => h32 (by rw [hbm, e]; rfl)
              rw [if_neg hc32] at ht2
              have HF := hide (show strOf (bs.take (m + 1)) = strOf (trimR (bytesK ns ns.length)) by rw [hl, ← unhide HBS, ← htr.out, ht2])
              have hq : (bAt bs m == 32) = false := beq_eq_false_iff_ne.2 h32
              clear hsn hbm ht2 hc32 h32
              go_wp2
              go_ret2
              exact ⟨.inl ⟨unhide HG, by rw [← unhide HF]; rfl⟩, unhide HB⟩
  · have HN := hide (show ¬ GGood ns from fun h => h2 (by have := h.1; omega))
    go_enter Tryd.func11, Tryd.ntmps11
    go_wp2
    go_ret2
    exact ⟨.inr ⟨unhide HN, rfl⟩, (Below.refl _ _).alloc (Nat.le_refl _) _⟩
end Go.Proofs.YtcnlimpebnhikaaDoor
