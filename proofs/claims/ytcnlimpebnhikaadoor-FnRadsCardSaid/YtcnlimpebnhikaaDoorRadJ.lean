/- Contracts of the program's PutRad, over this seat's translation; conditions stand as hypotheses of each. -/
import Derived.Test.YtcnlimpebnhikaaDoorRadI
namespace Go.Proofs.YtcnlimpebnhikaaDoor
open Go.ChangeShapes Go.WideShapes Go.ChangeAt Go.RowKit
set_option linter.unusedVariables false

set_option maxHeartbeats 400000 in
set_option maxRecDepth 100000 in
theorem letter_any (r : Int) (w : World) (h0 : 0 ≤ r) (h1 : r ≤ 2147483647) : Calls Tryd.prog 17 #[.int .i32 r] w fun e w' => ∃ n, e = .returned (.tuple #[.int .i64 n, .bool (decide (0 ≤ lc r))]) ∧ (0 ≤ lc r → n = lc r) ∧ Below w.heap.size w w' := by
  by_cases hr : r < 128
  · obtain ⟨hb, hi, he⟩ := ix_all r h0 hr
    have H := hide (ixRune_low r w h0 hr)
    have HI := hide hi
    have HE := hide he
    generalize ixOf r = z at *
    clear hi he
    by_cases hz : 0 ≤ z
    · by_cases h29 : z = 29
      · have hd : decide (0 ≤ lc r) = false := by
          have := unhide HI
          simp; omega
        have hq : (z != 29) = false := by simp [h29]
        rw [hd]
        clear h29
        go_enter Tryd.func17, Tryd.ntmps17
        go_wp2_with fail
        refine (unhide H).mono ?_
        rintro e w' ⟨rfl, rfl⟩
        go_wp2
        go_ret2
        exact ⟨_, rfl, unhide HE, Below.refl _ _⟩
      · have hd : decide (0 ≤ lc r) = true := by
          have := (unhide HI).1 ⟨hz, h29⟩
          simp; omega
        have hq : (z != 29) = true := by simpa using h29
        rw [hd]
        clear h29
        go_enter Tryd.func17, Tryd.ntmps17
        go_wp2_with fail
        refine (unhide H).mono ?_
        rintro e w' ⟨rfl, rfl⟩
        go_wp2
        go_ret2
        exact ⟨_, rfl, unhide HE, Below.refl _ _⟩
    · have hd : decide (0 ≤ lc r) = false := by
        have := unhide HI
        simp; omega
      have hq : decide (0 ≤ z) = false := by simp; omega
      rw [hd]
      go_enter Tryd.func17, Tryd.ntmps17
      go_wp2_with fail
      refine (unhide H).mono ?_
      rintro e w' ⟨rfl, rfl⟩
      go_wp2
      go_ret2
      exact ⟨_, rfl, unhide HE, Below.refl _ _⟩
  · have hl := lc_high r (by omega)
    have H := hide (ixRune_high tab tab_size tab_low r w (by omega) h1)
    have hd : decide (0 ≤ lc r) = false := by simp [hl]
    rw [hd]
    go_enter Tryd.func17, Tryd.ntmps17
    go_wp2_with fail
    refine (unhide H).mono ?_
    rintro e w' ⟨rfl, hb⟩
    go_wp2
    go_ret2
    exact ⟨_, rfl, fun h => by omega, hb⟩

def pre3 (a b c : Int) : Nat → Int
  | 0 => 0
  | 1 => a
  | 2 => a * 40 + b
  | _ => (a * 40 + b) * 40 + c

set_option maxHeartbeats 400000 in
theorem word_any (a b c : Int) (w : World) (ha : -1 ≤ a ∧ a ≤ 39) (hb : -1 ≤ b ∧ b ≤ 39) (hc : -1 ≤ c ∧ c ≤ 39) :
    Calls Tryd.prog 18 #[.agg #[.int .i64 a, .int .i64 b, .int .i64 c]] w fun e w' => e = .returned (.int .i64 ((a * 40 + b) * 40 + c)) ∧ Below w.heap.size w w' := by
  have hB := hide ((Below.refl w.heap.size w).alloc (Nat.le_refl _) (Obj.cells #[.int .i64 a, .int .i64 b, .int .i64 c] 39))
  have i0 : ∀ w : World, (Instr.index 39 (.agg #[.int .i64 a, .int .i64 b, .int .i64 c]) (.int .i64 0)).run Tryd.prog w = .ok (.int .i64 a) w := fun _ => by kernel_rfl
  have i1 : ∀ w : World, (Instr.index 39 (.agg #[.int .i64 a, .int .i64 b, .int .i64 c]) (.int .i64 1)).run Tryd.prog w = .ok (.int .i64 b) w := fun _ => by kernel_rfl
  have i2 : ∀ w : World, (Instr.index 39 (.agg #[.int .i64 a, .int .i64 b, .int .i64 c]) (.int .i64 2)).run Tryd.prog w = .ok (.int .i64 c) w := fun _ => by kernel_rfl
  go_enter Tryd.func18, Tryd.ntmps18
  go_wp2
  go_loop [3, 7] (fun n i => ∃ k : Nat, k ≤ 3 ∧ i = .int .i64 k ∧ n = .int .i64 (pre3 a b c k)) (fun _ i => 3 - (intOf i).toNat)
  case atStart => exact ⟨0, by omega, rfl, rfl⟩
  case round =>
    obtain ⟨k, hk, rfl, rfl⟩ := hrel
    obtain rfl | rfl | rfl | rfl : k = 0 ∨ k = 1 ∨ k = 2 ∨ k = 3 := by omega
    · simp only [pre3]
      go_wp2
      go_round
      case rel => exact ⟨1, by omega, by go_num, by simp⟩
      case measure => simp [intOf]
    · simp only [pre3]
      go_wp2
      go_round
      case rel => exact ⟨2, by omega, by go_num, by simp⟩
      case measure => simp [intOf]
    · simp only [pre3]
      go_wp2
      go_round
      case rel => exact ⟨3, by omega, by go_num, by simp⟩
      case measure => simp [intOf]
    · simp only [pre3]
      go_wp2
      go_ret
      exact ⟨rfl, unhide hB⟩

def tri (a b c : Int) (j : Nat) : Value := .int .i64 (if j = 0 then a else if j = 1 then b else c)
/-- What stands while the letters are read: three numbers in a block, the iterator behind it, the words owned. -/
structure St (w wr : World) (s : ByteArray) (p : Nat) (v : Value) (ns : List Int) (a b c : Int) : Prop where
  bel : Below w.heap.size w wr
  it : wr.heap[w.heap.size + 1]? = some (.stringIter s p)
  row : wr.rowIs w.heap.size 39 3 (tri a b c)
  own : OwnN wr (w.heap.size + 2) v ns
section
variable {w wr w' : World} {s : ByteArray} {p : Nat} {v : Value} {ns : List Int} {a b c : Int}
theorem St.lt (h : St w wr s p v ns a b c) : w.heap.size + 1 < wr.heap.size := (Array.getElem?_eq_some_iff.1 h.it).1
theorem St.keep (h : St w wr s p v ns a b c) (hb : Below wr.heap.size wr w') : St w w' s p v ns a b c :=
  ⟨h.bel.trans (hb.mono h.bel.size), (hb.block _ h.lt).trans h.it, h.row.of_block (hb.block _ h.row.lt), h.own.later hb⟩
theorem St.next (h : St w wr s p v ns a b c) (p' : Nat) : St w (wr.iterAt (w.heap.size + 1) s p') s p' v ns a b c :=
  ⟨Lib.below_iterAt h.bel (by omega) s p', Lib.iterAt_heap wr _ s p p' h.it, h.row.of_block (Lib.iterAt_other wr _ _ s p' (by omega)),
    h.own.keep fun g hg _ => Lib.iterAt_other wr _ g s p' (by have := (h.own.lt hg).1; omega)⟩
theorem St.set (h : St w wr s p v ns a b c) (i : Nat) (x : Int) (a' b' c' : Int) (he : ∀ j, j < 3 → (if j = i then Value.int .i64 x else tri a b c j) = tri a' b' c' j) : St w (wr.setCell ⟨w.heap.size, i, none⟩ (.int .i64 x)) s p v ns a' b' c' :=
  ⟨h.bel.setCell (Nat.le_refl _) _, (Below.heap_setCell _ _ _ _ (by simp)).trans h.it, (h.row.set i _).congr he,
    h.own.keep fun g hg _ => Below.heap_setCell _ _ _ _ (by have := (h.own.lt hg).1; simp; omega)⟩
theorem St.set0 (h : St w wr s p v ns a b c) (x : Int) : St w (wr.setCell ⟨w.heap.size, 0, none⟩ (.int .i64 x)) s p v ns x b c :=
  h.set 0 x x b c fun j hj => by unfold tri; by_cases e : j = 0 <;> simp [e]
theorem St.set1 (h : St w wr s p v ns a b c) (x : Int) : St w (wr.setCell ⟨w.heap.size, 1, none⟩ (.int .i64 x)) s p v ns a x c :=
  h.set 1 x a x c fun j hj => by unfold tri; obtain rfl | rfl | rfl : j = 0 ∨ j = 1 ∨ j = 2 := by omega
                                 all_goals simp
theorem St.set2 (h : St w wr s p v ns a b c) (x : Int) : St w (wr.setCell ⟨w.heap.size, 2, none⟩ (.int .i64 x)) s p v ns a b x :=
  h.set 2 x a b x fun j hj => by unfold tri; obtain rfl | rfl | rfl : j = 0 ∨ j = 1 ∨ j = 2 := by omega
                                 all_goals simp
theorem St.cells (h : St w wr s p v ns a b c) : (wr.cell? ⟨w.heap.size, 0, none⟩ = some (.int .i64 a) ∧ wr.cell? ⟨w.heap.size, 1, none⟩ = some (.int .i64 b) ∧ wr.cell? ⟨w.heap.size, 2, none⟩ = some (.int .i64 c)) ∧
    wr.frozen? ⟨w.heap.size, 0, none⟩ = false ∧ wr.frozen? ⟨w.heap.size, 1, none⟩ = false ∧ wr.frozen? ⟨w.heap.size, 2, none⟩ = false :=
  ⟨⟨h.row.cell (i := 0) (by omega), h.row.cell (i := 1) (by omega), h.row.cell (i := 2) (by omega)⟩, h.row.frozen 0, h.row.frozen 1, h.row.frozen 2⟩
theorem St.app (h : St w wr s p v ns a b c) {w' : World} {v' : Value} {n : Int} (hg : wr.grownBy w' v.ownBlock) (ho : w'.ownsRow (w.heap.size + 2) 3 1 v' (ns.length + 1) (cellsN ns ++ cellsN [n])) : St w w' s p v' (ns ++ [n]) a b c := by
  have hn : ∀ k, k < w.heap.size + 2 → k < wr.heap.size → w'.heap[k]? = wr.heap[k]? := fun k hk hl => hg.block k hl (fun e => by have := (h.own.lt e.symm).1; omega)
  refine ⟨h.bel.grown hg h.bel.size (fun k e => by have := (h.own.lt e).1; omega), (hn _ (by omega) h.lt).trans h.it, h.row.of_block (hn _ (by omega) h.row.lt), ?_⟩
  unfold OwnN
  rw [cellsN_append, List.length_append]
  exact ho
end

def kAt (xs : List UInt8) (p : Nat) : Nat := if p = xs.length then (xs.length + 2) / 3 else p / 3
def thr (xs : List UInt8) (p j : Nat) : Int := if p < xs.length ∧ j < p % 3 then lcAt xs (p - p % 3 + j) else 0
theorem iterPos_of {w : World} {k : Nat} {s : ByteArray} {p : Nat} (h : w.heap[k]? = some (.stringIter s p)) : w.iterPos k = p := by simp [World.iterPos, h]

theorem dec_code (s : ByteArray) (p : Nat) (h : p < s.size) : lc ((Utf8.decode s p).1 : Int) = lc (bAt s.data.toList p) ∧ (0 ≤ lc (bAt s.data.toList p) → (Utf8.decode s p).2 = 1) := by
  have hs := sAt s p h
  by_cases hb : (s[p]'h).toNat < 128
  · rw [decode_ascii s p h hb]
    exact ⟨by rw [← hs], fun _ => rfl⟩
  · have hd := (decode_high s p h (by omega)).1
    rw [lc_high _ (by omega), lc_high (bAt s.data.toList p) (by omega)]
    exact ⟨rfl, fun h => by omega⟩

set_option maxHeartbeats 4000000 in
set_option maxRecDepth 100000 in
theorem putRadI_any (s : ByteArray) (w : World) (hmax : s.size ≤ 1048576) :
    Calls Tryd.prog 7 #[.string s] w fun e w' => ∃ v, Below w.heap.size w w' ∧
      ((Good s.data.toList ∧ e = .returned (.tuple #[v, .bool true]) ∧ OwnN w' w.heap.size v (radN s.data.toList)) ∨ (¬ Good s.data.toList ∧ e = .returned (.tuple #[v, .bool false]) ∧ OwnN w' w.heap.size v [])) := by
  obtain ⟨i0, hi, hz0, hz1, hz2⟩ := info_parts info3
  obtain ⟨xs, hxs⟩ : ∃ xs, xs = s.data.toList := ⟨_, rfl⟩
  have hlen : xs.length = s.size := by rw [hxs]; simp
  by_cases h6 : s.size ≤ 6
  · have hdc : ∀ p, p < s.size → lc ((Utf8.decode s p).1 : Int) = lc (bAt xs p) ∧ (0 ≤ lc (bAt xs p) → (Utf8.decode s p).2 = 1) := fun p h => by rw [hxs]; exact dec_code s p h
    rw [← hxs]
    clear hxs
    have HD := hide hdc
    clear hdc
    go_enter Tryd.func7, Tryd.ntmps7
    go_wp2
    go_loopw [4] (fun out wr => ∃ (p : Nat) (v : Value) (a b c : Int), out = v ∧ p ≤ s.size ∧ St w wr s p v (radK xs (kAt xs p)) a b c ∧ Hid (a = thr xs p 0 ∧ b = thr xs p 1 ∧ c = thr xs p 2) ∧ Hid (AllL xs p)) (fun _ wr => s.size - wr.iterPos (w.heap.size + 1))
    case atStart =>
      have e0 : kAt xs 0 = 0 := by unfold kAt; split <;> omega
      refine ⟨0, _, 0, 0, 0, rfl, by omega, ⟨((Below.refl _ _).alloc (Nat.le_refl _) _).alloc (by simp) _, ?_, ?_, by rw [e0]; exact ownN_none _ _⟩, ⟨by simp [thr], by simp [thr], by simp [thr]⟩, fun j hj => by omega⟩
      · have := World.iter_heap (w.alloc (Obj.cells #[Value.int IntKind.i64 0, Value.int IntKind.i64 0, Value.int IntKind.i64 0] 39)) s 0
        simpa using this
      · refine World.rowIs.alloc (World.rowIs_alloc w #[Value.int IntKind.i64 0, Value.int IntKind.i64 0, Value.int IntKind.i64 0] 39 _ fun i hi => ?_) _
        obtain rfl | rfl | rfl : i = 0 ∨ i = 1 ∨ i = 2 := by simp at hi; omega
        all_goals rfl
    case round =>
      obtain ⟨p, v, a, b, c, hv, hp, hst, habc, hall⟩ := hrel
      subst hv
      by_cases hlt : p < s.size
      · obtain ⟨hc1, hc2⟩ := unhide HD p hlt
        have hd0 : ((Utf8.decode s p).1 : Int) ≤ 2147483647 := by have := decode_le s p; omega
        have hd1 : 0 ≤ ((Utf8.decode s p).1 : Int) := by omega
        have hnx := fun ty => Lib.run_next_any_at (P := Tryd.prog) wr (w.heap.size + 1) s p ty hst.it hlt
        have C1 := hide hc1
        have C2 := hide hc2
        clear hc1 hc2
        generalize (Utf8.decode s p).1 = r at *
        generalize (Utf8.decode s p).2 = wd at *
        have ST1 := hide (hst.next (p + wd))
        have IT := hide (iterPos_of hst.it)
        clear hst
        go_wp2_with fail
        refine (letter_any r _ hd1 hd0).mono ?_
        rintro e w1 ⟨n, rfl, hn, hb1⟩
        rw [unhide C1] at hn ⊢
        have st2 := (unhide ST1).keep hb1
        clear ST1 hb1 hnx
        by_cases hge : 0 ≤ lc (bAt xs p)
        · have hn := hn hge
          have hwd := unhide C2 hge
          subst hwd
          have hL := lcAt_in (xs := xs) (k := p) (by omega)
          rw [← hL] at hn
          subst hn
          have hall' := hide (show AllL xs (p + 1) from fun i h1 h2 => by
            by_cases e : i = p
            · subst e; exact hge
            · exact hall.out i (by omega) h2)
          have hdt : decide (0 ≤ lc (bAt xs p)) = true := by simpa using hge
          have hnb := lcAt_bd xs p
          clear hall C2 hge hL
          rw [hdt]
          clear hdt
          have ST2 := hide st2
          obtain ⟨⟨c0, c1, c2⟩, f0, f1, f2⟩ := st2.cells
          clear st2
          obtain ⟨ha, hb, hc⟩ := habc.out
          clear habc
          obtain rfl | rfl | rfl | rfl | rfl | rfl : p = 0 ∨ p = 1 ∨ p = 2 ∨ p = 3 ∨ p = 4 ∨ p = 5 := by omega
          · obtain rfl : a = 0 := by rw [ha]; exact if_neg (by omega)
            obtain rfl : b = 0 := by rw [hb]; exact if_neg (by omega)
            obtain rfl : c = 0 := by rw [hc]; exact if_neg (by omega)
            clear ha hb hc hn C1
            have ST3 := hide ((unhide ST2).set0 (lcAt xs 0))
            by_cases hl : s.size = 0 + 1
            · have hq : ((0 : Int) == (s.size : Int) - 1) = true := by simp; omega
              have HW := hide (show wordAt xs (3 * 0) = (lcAt xs 0 * 40 + 0) * 40 + 0 by unfold wordAt; rw [lcAt_out (k := 3 * 0 + 1) (by omega), lcAt_out (k := 3 * 0 + 2) (by omega)])
              have HK := hide (show kAt xs (0 + 1) = 0 + 1 by unfold kAt; split <;> omega)
              have HK0 := hide (show kAt xs 0 = 0 by unfold kAt; split <;> omega)
              have HT := hide (show (0 : Int) = thr xs (0 + 1) 0 ∧ (0 : Int) = thr xs (0 + 1) 1 ∧ (0 : Int) = thr xs (0 + 1) 2 from ⟨(if_neg (by omega)).symm, (if_neg (by omega)).symm, (if_neg (by omega)).symm⟩)
              have HL := hide hl
              clear hl
              go_wp2_with fail
              refine (word_any _ _ _ _ (lcAt_bd xs 0) (by omega) (by omega)).mono ?_
              rintro e w2 ⟨rfl, hb2⟩
              rw [← unhide HW]
              have st4 := (unhide ST3).keep hb2
              have s4 := st4.lt
              rw [unhide HK0] at st4
              have ST4 := hide st4
              clear st4 ST3 ST2 c0 c1 c2 f0 f1 f2 hb2
              have K1 := hide (cell_one_new w2 (Value.int .i64 (wordAt xs (3 * 0))) 3)
              have KL := radK_length xs 0
              have SA := hide ((unhide ST4).keep ((Below.refl w2.heap.size w2).alloc (Nat.le_refl _) (Obj.cells #[Value.int .i64 (wordAt xs (3 * 0))] 3)))
              go_wp2_with (at_builtin; go_must (refine wpList_append_own _ rfl (.tmp 40) (.tmp 43) 25 rfl (w.heap.size + 2) 3 i0 (.int .i64 0) 1 8 Tryd.underlying25 hi hz0 hz1 hz2 rfl (by decide) u4 (radK xs 0).length (cellsN (radK xs 0)) rfl (unhide SA).own ⟨w2.heap.size, 0, none⟩ 1 1 (cellsN [wordAt xs (3 * 0)]) rfl rfl (unhide K1) (cellsN_one _) (by unfold maxLen; omega) (by omega) (by simp; omega) ?_; intro v2 w3 hown3 hgrow3 _; have st5 := (unhide SA).app hgrow3 hown3; have ST5 := hide st5; obtain ⟨⟨c0, c1, c2⟩, f0, f1, f2⟩ := st5.cells; clear st5 SA K1 hown3 hgrow3))
              have st6 := (((unhide ST5).set0 0).set1 0).set2 0
              rw [show radK xs 0 ++ [wordAt xs (3 * 0)] = radK xs (kAt xs (0 + 1)) by rw [unhide HK]; exact (radK_succ xs 0).symm] at st6
              go_roundw
              case rel => exact ⟨0 + 1, v2, 0, 0, 0, rfl, (by have := unhide HL; omega), st6, unhide HT, unhide hall'⟩
              case measure => rw [iterPos_of st6.it, unhide IT]; have := unhide HL; omega
            · have hq : ((0 : Int) == (s.size : Int) - 1) = false := beq_eq_false_iff_ne.2 (by omega)
              have HK := hide (show kAt xs 0 = kAt xs (0 + 1) by unfold kAt; rw [if_neg (by omega), if_neg (by omega)])
              have HT := hide (show lcAt xs 0 = thr xs (0 + 1) 0 ∧ (0 : Int) = thr xs (0 + 1) 1 ∧ (0 : Int) = thr xs (0 + 1) 2 from ⟨(if_pos ⟨by omega, by decide⟩).symm, (if_neg (by omega)).symm, (if_neg (by omega)).symm⟩)
              rw [unhide HK] at ST3
              have HL := hide hl
              clear hl
              go_wp2
              go_roundw
              case rel => exact ⟨0 + 1, u4, _, _, _, rfl, by omega, unhide ST3, unhide HT, unhide hall'⟩
              case measure => rw [iterPos_of (unhide ST3).it, unhide IT]; omega
          · obtain rfl : a = lcAt xs 0 := by rw [ha]; exact if_pos ⟨by omega, by decide⟩
            obtain rfl : b = 0 := by rw [hb]; exact if_neg (by omega)
            obtain rfl : c = 0 := by rw [hc]; exact if_neg (by omega)
            clear ha hb hc hn C1
            have ST3 := hide ((unhide ST2).set1 (lcAt xs 1))
            by_cases hl : s.size = 1 + 1
            · have hq : ((1 : Int) == (s.size : Int) - 1) = true := by simp; omega
              have HW := hide (show wordAt xs (3 * 0) = (lcAt xs 0 * 40 + lcAt xs 1) * 40 + 0 by unfold wordAt; rw [lcAt_out (k := 3 * 0 + 2) (by omega)])
              have HK := hide (show kAt xs (1 + 1) = 0 + 1 by unfold kAt; split <;> omega)
              have HK0 := hide (show kAt xs 1 = 0 by unfold kAt; split <;> omega)
              have HT := hide (show (0 : Int) = thr xs (1 + 1) 0 ∧ (0 : Int) = thr xs (1 + 1) 1 ∧ (0 : Int) = thr xs (1 + 1) 2 from ⟨(if_neg (by omega)).symm, (if_neg (by omega)).symm, (if_neg (by omega)).symm⟩)
              have HL := hide hl
              clear hl
              go_wp2_with fail
              refine (word_any _ _ _ _ (lcAt_bd xs 0) (lcAt_bd xs 1) (by omega)).mono ?_
              rintro e w2 ⟨rfl, hb2⟩
              rw [← unhide HW]
              have st4 := (unhide ST3).keep hb2
              have s4 := st4.lt
              rw [unhide HK0] at st4
              have ST4 := hide st4
              clear st4 ST3 ST2 c0 c1 c2 f0 f1 f2 hb2
              have K1 := hide (cell_one_new w2 (Value.int .i64 (wordAt xs (3 * 0))) 3)
              have KL := radK_length xs 0
              have SA := hide ((unhide ST4).keep ((Below.refl w2.heap.size w2).alloc (Nat.le_refl _) (Obj.cells #[Value.int .i64 (wordAt xs (3 * 0))] 3)))
              go_wp2_with (at_builtin; go_must (refine wpList_append_own _ rfl (.tmp 40) (.tmp 43) 25 rfl (w.heap.size + 2) 3 i0 (.int .i64 0) 1 8 Tryd.underlying25 hi hz0 hz1 hz2 rfl (by decide) u4 (radK xs 0).length (cellsN (radK xs 0)) rfl (unhide SA).own ⟨w2.heap.size, 0, none⟩ 1 1 (cellsN [wordAt xs (3 * 0)]) rfl rfl (unhide K1) (cellsN_one _) (by unfold maxLen; omega) (by omega) (by simp; omega) ?_; intro v2 w3 hown3 hgrow3 _; have st5 := (unhide SA).app hgrow3 hown3; have ST5 := hide st5; obtain ⟨⟨c0, c1, c2⟩, f0, f1, f2⟩ := st5.cells; clear st5 SA K1 hown3 hgrow3))
              have st6 := (((unhide ST5).set0 0).set1 0).set2 0
              rw [show radK xs 0 ++ [wordAt xs (3 * 0)] = radK xs (kAt xs (1 + 1)) by rw [unhide HK]; exact (radK_succ xs 0).symm] at st6
              go_roundw
              case rel => exact ⟨1 + 1, v2, 0, 0, 0, rfl, (by have := unhide HL; omega), st6, unhide HT, unhide hall'⟩
              case measure => rw [iterPos_of st6.it, unhide IT]; have := unhide HL; omega
            · have hq : ((1 : Int) == (s.size : Int) - 1) = false := beq_eq_false_iff_ne.2 (by omega)
              have HK := hide (show kAt xs 1 = kAt xs (1 + 1) by unfold kAt; rw [if_neg (by omega), if_neg (by omega)])
              have HT := hide (show lcAt xs 0 = thr xs (1 + 1) 0 ∧ (lcAt xs 1 : Int) = thr xs (1 + 1) 1 ∧ (0 : Int) = thr xs (1 + 1) 2 from ⟨(if_pos ⟨by omega, by decide⟩).symm, (if_pos ⟨by omega, by decide⟩).symm, (if_neg (by omega)).symm⟩)
              rw [unhide HK] at ST3
              have HL := hide hl
              clear hl
              go_wp2
              go_roundw
              case rel => exact ⟨1 + 1, u4, _, _, _, rfl, by omega, unhide ST3, unhide HT, unhide hall'⟩
              case measure => rw [iterPos_of (unhide ST3).it, unhide IT]; omega
          · obtain rfl : a = lcAt xs 0 := by rw [ha]; exact if_pos ⟨by omega, by decide⟩
            obtain rfl : b = lcAt xs 1 := by rw [hb]; exact if_pos ⟨by omega, by decide⟩
            obtain rfl : c = 0 := by rw [hc]; exact if_neg (by omega)
            clear ha hb hc hn C1
            have ST3 := hide ((unhide ST2).set2 (lcAt xs 2))
            have HW := hide (show wordAt xs (3 * 0) = (lcAt xs 0 * 40 + lcAt xs 1) * 40 + lcAt xs 2 by unfold wordAt; rfl)
            have HK := hide (show kAt xs (2 + 1) = 0 + 1 by unfold kAt; split <;> omega)
            have HK0 := hide (show kAt xs 2 = 0 by unfold kAt; split <;> omega)
            have HT := hide (show (0 : Int) = thr xs (2 + 1) 0 ∧ (0 : Int) = thr xs (2 + 1) 1 ∧ (0 : Int) = thr xs (2 + 1) 2 from ⟨(if_neg (by omega)).symm, (if_neg (by omega)).symm, (if_neg (by omega)).symm⟩)
            go_wp2_with fail
            refine (word_any _ _ _ _ (lcAt_bd xs 0) (lcAt_bd xs 1) (lcAt_bd xs 2)).mono ?_
            rintro e w2 ⟨rfl, hb2⟩
            rw [← unhide HW]
            have st4 := (unhide ST3).keep hb2
            have s4 := st4.lt
            rw [unhide HK0] at st4
            have ST4 := hide st4
            clear st4 ST3 ST2 c0 c1 c2 f0 f1 f2 hb2
            have K1 := hide (cell_one_new w2 (Value.int .i64 (wordAt xs (3 * 0))) 3)
            have KL := radK_length xs 0
            have SA := hide ((unhide ST4).keep ((Below.refl w2.heap.size w2).alloc (Nat.le_refl _) (Obj.cells #[Value.int .i64 (wordAt xs (3 * 0))] 3)))
            go_wp2_with (at_builtin; go_must (refine wpList_append_own _ rfl (.tmp 40) (.tmp 43) 25 rfl (w.heap.size + 2) 3 i0 (.int .i64 0) 1 8 Tryd.underlying25 hi hz0 hz1 hz2 rfl (by decide) u4 (radK xs 0).length (cellsN (radK xs 0)) rfl (unhide SA).own ⟨w2.heap.size, 0, none⟩ 1 1 (cellsN [wordAt xs (3 * 0)]) rfl rfl (unhide K1) (cellsN_one _) (by unfold maxLen; omega) (by omega) (by simp; omega) ?_; intro v2 w3 hown3 hgrow3 _; have st5 := (unhide SA).app hgrow3 hown3; have ST5 := hide st5; obtain ⟨⟨c0, c1, c2⟩, f0, f1, f2⟩ := st5.cells; clear st5 SA K1 hown3 hgrow3))
            have st6 := (((unhide ST5).set0 0).set1 0).set2 0
            rw [show radK xs 0 ++ [wordAt xs (3 * 0)] = radK xs (kAt xs (2 + 1)) by rw [unhide HK]; exact (radK_succ xs 0).symm] at st6
            go_roundw
            case rel => exact ⟨2 + 1, v2, 0, 0, 0, rfl, by omega, st6, unhide HT, unhide hall'⟩
            case measure => rw [iterPos_of st6.it, unhide IT]; omega
          · obtain rfl : a = 0 := by rw [ha]; exact if_neg (by omega)
            obtain rfl : b = 0 := by rw [hb]; exact if_neg (by omega)
            obtain rfl : c = 0 := by rw [hc]; exact if_neg (by omega)
            clear ha hb hc hn C1
            have ST3 := hide ((unhide ST2).set0 (lcAt xs 3))
            by_cases hl : s.size = 3 + 1
            · have hq : ((3 : Int) == (s.size : Int) - 1) = true := by simp; omega
              have HW := hide (show wordAt xs (3 * 1) = (lcAt xs 3 * 40 + 0) * 40 + 0 by unfold wordAt; rw [lcAt_out (k := 3 * 1 + 1) (by omega), lcAt_out (k := 3 * 1 + 2) (by omega)])
              have HK := hide (show kAt xs (3 + 1) = 1 + 1 by unfold kAt; split <;> omega)
              have HK0 := hide (show kAt xs 3 = 1 by unfold kAt; split <;> omega)
              have HT := hide (show (0 : Int) = thr xs (3 + 1) 0 ∧ (0 : Int) = thr xs (3 + 1) 1 ∧ (0 : Int) = thr xs (3 + 1) 2 from ⟨(if_neg (by omega)).symm, (if_neg (by omega)).symm, (if_neg (by omega)).symm⟩)
              have HL := hide hl
              clear hl
              go_wp2_with fail
              refine (word_any _ _ _ _ (lcAt_bd xs 3) (by omega) (by omega)).mono ?_
              rintro e w2 ⟨rfl, hb2⟩
              rw [← unhide HW]
              have st4 := (unhide ST3).keep hb2
              have s4 := st4.lt
              rw [unhide HK0] at st4
              have ST4 := hide st4
              clear st4 ST3 ST2 c0 c1 c2 f0 f1 f2 hb2
              have K1 := hide (cell_one_new w2 (Value.int .i64 (wordAt xs (3 * 1))) 3)
              have KL := radK_length xs 1
              have SA := hide ((unhide ST4).keep ((Below.refl w2.heap.size w2).alloc (Nat.le_refl _) (Obj.cells #[Value.int .i64 (wordAt xs (3 * 1))] 3)))
              go_wp2_with (at_builtin; go_must (refine wpList_append_own _ rfl (.tmp 40) (.tmp 43) 25 rfl (w.heap.size + 2) 3 i0 (.int .i64 0) 1 8 Tryd.underlying25 hi hz0 hz1 hz2 rfl (by decide) u4 (radK xs 1).length (cellsN (radK xs 1)) rfl (unhide SA).own ⟨w2.heap.size, 0, none⟩ 1 1 (cellsN [wordAt xs (3 * 1)]) rfl rfl (unhide K1) (cellsN_one _) (by unfold maxLen; omega) (by omega) (by simp; omega) ?_; intro v2 w3 hown3 hgrow3 _; have st5 := (unhide SA).app hgrow3 hown3; have ST5 := hide st5; obtain ⟨⟨c0, c1, c2⟩, f0, f1, f2⟩ := st5.cells; clear st5 SA K1 hown3 hgrow3))
              have st6 := (((unhide ST5).set0 0).set1 0).set2 0
              rw [show radK xs 1 ++ [wordAt xs (3 * 1)] = radK xs (kAt xs (3 + 1)) by rw [unhide HK]; exact (radK_succ xs 1).symm] at st6
              go_roundw
              case rel => exact ⟨3 + 1, v2, 0, 0, 0, rfl, (by have := unhide HL; omega), st6, unhide HT, unhide hall'⟩
              case measure => rw [iterPos_of st6.it, unhide IT]; have := unhide HL; omega
            · have hq : ((3 : Int) == (s.size : Int) - 1) = false := beq_eq_false_iff_ne.2 (by omega)
              have HK := hide (show kAt xs 3 = kAt xs (3 + 1) by unfold kAt; rw [if_neg (by omega), if_neg (by omega)])
              have HT := hide (show lcAt xs 3 = thr xs (3 + 1) 0 ∧ (0 : Int) = thr xs (3 + 1) 1 ∧ (0 : Int) = thr xs (3 + 1) 2 from ⟨(if_pos ⟨by omega, by decide⟩).symm, (if_neg (by omega)).symm, (if_neg (by omega)).symm⟩)
              rw [unhide HK] at ST3
              have HL := hide hl
              clear hl
              go_wp2
              go_roundw
              case rel => exact ⟨3 + 1, u4, _, _, _, rfl, by omega, unhide ST3, unhide HT, unhide hall'⟩
              case measure => rw [iterPos_of (unhide ST3).it, unhide IT]; omega
          · obtain rfl : a = lcAt xs 3 := by rw [ha]; exact if_pos ⟨by omega, by decide⟩
            obtain rfl : b = 0 := by rw [hb]; exact if_neg (by omega)
            obtain rfl : c = 0 := by rw [hc]; exact if_neg (by omega)
            clear ha hb hc hn C1
            have ST3 := hide ((unhide ST2).set1 (lcAt xs 4))
            by_cases hl : s.size = 4 + 1
            · have hq : ((4 : Int) == (s.size : Int) - 1) = true := by simp; omega
              have HW := hide (show wordAt xs (3 * 1) = (lcAt xs 3 * 40 + lcAt xs 4) * 40 + 0 by unfold wordAt; rw [lcAt_out (k := 3 * 1 + 2) (by omega)])
              have HK := hide (show kAt xs (4 + 1) = 1 + 1 by unfold kAt; split <;> omega)
              have HK0 := hide (show kAt xs 4 = 1 by unfold kAt; split <;> omega)
              have HT := hide (show (0 : Int) = thr xs (4 + 1) 0 ∧ (0 : Int) = thr xs (4 + 1) 1 ∧ (0 : Int) = thr xs (4 + 1) 2 from ⟨(if_neg (by omega)).symm, (if_neg (by omega)).symm, (if_neg (by omega)).symm⟩)
              have HL := hide hl
              clear hl
              go_wp2_with fail
              refine (word_any _ _ _ _ (lcAt_bd xs 3) (lcAt_bd xs 4) (by omega)).mono ?_
              rintro e w2 ⟨rfl, hb2⟩
              rw [← unhide HW]
              have st4 := (unhide ST3).keep hb2
              have s4 := st4.lt
              rw [unhide HK0] at st4
              have ST4 := hide st4
              clear st4 ST3 ST2 c0 c1 c2 f0 f1 f2 hb2
              have K1 := hide (cell_one_new w2 (Value.int .i64 (wordAt xs (3 * 1))) 3)
              have KL := radK_length xs 1
              have SA := hide ((unhide ST4).keep ((Below.refl w2.heap.size w2).alloc (Nat.le_refl _) (Obj.cells #[Value.int .i64 (wordAt xs (3 * 1))] 3)))
              go_wp2_with (at_builtin; go_must (refine wpList_append_own _ rfl (.tmp 40) (.tmp 43) 25 rfl (w.heap.size + 2) 3 i0 (.int .i64 0) 1 8 Tryd.underlying25 hi hz0 hz1 hz2 rfl (by decide) u4 (radK xs 1).length (cellsN (radK xs 1)) rfl (unhide SA).own ⟨w2.heap.size, 0, none⟩ 1 1 (cellsN [wordAt xs (3 * 1)]) rfl rfl (unhide K1) (cellsN_one _) (by unfold maxLen; omega) (by omega) (by simp; omega) ?_; intro v2 w3 hown3 hgrow3 _; have st5 := (unhide SA).app hgrow3 hown3; have ST5 := hide st5; obtain ⟨⟨c0, c1, c2⟩, f0, f1, f2⟩ := st5.cells; clear st5 SA K1 hown3 hgrow3))
              have st6 := (((unhide ST5).set0 0).set1 0).set2 0
              rw [show radK xs 1 ++ [wordAt xs (3 * 1)] = radK xs (kAt xs (4 + 1)) by rw [unhide HK]; exact (radK_succ xs 1).symm] at st6
              go_roundw
              case rel => exact ⟨4 + 1, v2, 0, 0, 0, rfl, (by have := unhide HL; omega), st6, unhide HT, unhide hall'⟩
              case measure => rw [iterPos_of st6.it, unhide IT]; have := unhide HL; omega
            · have hq : ((4 : Int) == (s.size : Int) - 1) = false := beq_eq_false_iff_ne.2 (by omega)
              have HK := hide (show kAt xs 4 = kAt xs (4 + 1) by unfold kAt; rw [if_neg (by omega), if_neg (by omega)])
              have HT := hide (show lcAt xs 3 = thr xs (4 + 1) 0 ∧ (lcAt xs 4 : Int) = thr xs (4 + 1) 1 ∧ (0 : Int) = thr xs (4 + 1) 2 from ⟨(if_pos ⟨by omega, by decide⟩).symm, (if_pos ⟨by omega, by decide⟩).symm, (if_neg (by omega)).symm⟩)
              rw [unhide HK] at ST3
              have HL := hide hl
              clear hl
              go_wp2
              go_roundw
              case rel => exact ⟨4 + 1, u4, _, _, _, rfl, by omega, unhide ST3, unhide HT, unhide hall'⟩
              case measure => rw [iterPos_of (unhide ST3).it, unhide IT]; omega
          · obtain rfl : a = lcAt xs 3 := by rw [ha]; exact if_pos ⟨by omega, by decide⟩
            obtain rfl : b = lcAt xs 4 := by rw [hb]; exact if_pos ⟨by omega, by decide⟩
            obtain rfl : c = 0 := by rw [hc]; exact if_neg (by omega)
            clear ha hb hc hn C1
            have ST3 := hide ((unhide ST2).set2 (lcAt xs 5))
            have HW := hide (show wordAt xs (3 * 1) = (lcAt xs 3 * 40 + lcAt xs 4) * 40 + lcAt xs 5 by unfold wordAt; rfl)
            have HK := hide (show kAt xs (5 + 1) = 1 + 1 by unfold kAt; split <;> omega)
            have HK0 := hide (show kAt xs 5 = 1 by unfold kAt; split <;> omega)
            have HT := hide (show (0 : Int) = thr xs (5 + 1) 0 ∧ (0 : Int) = thr xs (5 + 1) 1 ∧ (0 : Int) = thr xs (5 + 1) 2 from ⟨(if_neg (by omega)).symm, (if_neg (by omega)).symm, (if_neg (by omega)).symm⟩)
            go_wp2_with fail
            refine (word_any _ _ _ _ (lcAt_bd xs 3) (lcAt_bd xs 4) (lcAt_bd xs 5)).mono ?_
            rintro e w2 ⟨rfl, hb2⟩
            rw [← unhide HW]
            have st4 := (unhide ST3).keep hb2
            have s4 := st4.lt
            rw [unhide HK0] at st4
            have ST4 := hide st4
            clear st4 ST3 ST2 c0 c1 c2 f0 f1 f2 hb2
            have K1 := hide (cell_one_new w2 (Value.int .i64 (wordAt xs (3 * 1))) 3)
            have KL := radK_length xs 1
            have SA := hide ((unhide ST4).keep ((Below.refl w2.heap.size w2).alloc (Nat.le_refl _) (Obj.cells #[Value.int .i64 (wordAt xs (3 * 1))] 3)))
            go_wp2_with (at_builtin; go_must (refine wpList_append_own _ rfl (.tmp 40) (.tmp 43) 25 rfl (w.heap.size + 2) 3 i0 (.int .i64 0) 1 8 Tryd.underlying25 hi hz0 hz1 hz2 rfl (by decide) u4 (radK xs 1).length (cellsN (radK xs 1)) rfl (unhide SA).own ⟨w2.heap.size, 0, none⟩ 1 1 (cellsN [wordAt xs (3 * 1)]) rfl rfl (unhide K1) (cellsN_one _) (by unfold maxLen; omega) (by omega) (by simp; omega) ?_; intro v2 w3 hown3 hgrow3 _; have st5 := (unhide SA).app hgrow3 hown3; have ST5 := hide st5; obtain ⟨⟨c0, c1, c2⟩, f0, f1, f2⟩ := st5.cells; clear st5 SA K1 hown3 hgrow3))
            have st6 := (((unhide ST5).set0 0).set1 0).set2 0
            rw [show radK xs 1 ++ [wordAt xs (3 * 1)] = radK xs (kAt xs (5 + 1)) by rw [unhide HK]; exact (radK_succ xs 1).symm] at st6
            go_roundw
            case rel => exact ⟨5 + 1, v2, 0, 0, 0, rfl, by omega, st6, unhide HT, unhide hall'⟩
            case measure => rw [iterPos_of st6.it, unhide IT]; omega
        · have HN := hide (show ¬ Good xs from fun h => hge (h.2 _ (by omega) (by omega)))
          have hdt : decide (0 ≤ lc (bAt xs p)) = false := by simpa using hge
          have HB := hide st2.bel
          clear hall C2 hge st2
          rw [hdt]
          clear hdt
          go_wp2
          go_ret2
          exact ⟨_, unhide HB, .inr ⟨unhide HN, rfl, ownN_none _ _⟩⟩
      · have hnx := fun ty => Lib.run_next_end_at (P := Tryd.prog) wr (w.heap.size + 1) s p ty hst.it hlt
        obtain rfl : p = s.size := by omega
        have HG := hide (show Good xs from ⟨by omega, fun i h1 h2 => hall.out i (by omega) h2⟩)
        have HB := hide hst.bel
        have HO := hide (hst.own.base (show w.heap.size ≤ w.heap.size + 2 by omega))
        clear hall hst
        go_wp2
        go_ret2
        have e1 : radK xs (kAt xs s.size) = radN xs := by unfold kAt radN; rw [if_pos hlen.symm]
        exact ⟨_, unhide HB, .inl ⟨unhide HG, rfl, by rw [← e1]; exact unhide HO⟩⟩
  · rw [← hxs]
    have HN := hide (show ¬ Good xs from fun h => h6 (by have := h.1; omega))
    clear hxs
    go_enter Tryd.func7, Tryd.ntmps7
    go_wp2
    go_ret2
    exact ⟨_, Below.refl _ _, .inr ⟨unhide HN, rfl, ownN_none _ _⟩⟩
end Go.Proofs.YtcnlimpebnhikaaDoor
