/- Kept words by the program's tables; marks; a text behind a dot; over this seat's translation; conditions stand as hypotheses of each. -/
import Derived.Test.YthgbpofcfmnpdaaDoorTkC
import Derived.WalkMore
namespace Go.Proofs.YthgbpofcfmnpdaaDoor
open Go.ChangeShapes Go.WideShapes Go.ChangeAt Go.RowKit
set_option linter.unusedVariables false
set_option maxRecDepth 8000

def opC : Array Value := (opL.map Value.string).toArray
def rgC : Array Value := (wRg.map Value.string).toArray
/-- The program's tables of kept words stand as its text lays them. -/
def TabK (w : World) : Prop := (∃ t fr, w.heap[0]? = some (.cells opC t fr)) ∧ (∃ t fr, w.heap[1]? = some (.cells rgC t fr))
theorem TabK.later {w w' : World} {B : Nat} (h : TabK w) (hb : Below B w w') (h0 : 0 < B) (h1 : 1 < B) : TabK w' := by
  obtain ⟨⟨t, f, e⟩, ⟨t', f', e'⟩⟩ := h
  exact ⟨⟨t, f, (hb.block _ h0).trans e⟩, ⟨t', f', (hb.block _ h1).trans e'⟩⟩
theorem TabK.lt {w : World} (h : TabK w) : 0 < w.heap.size ∧ 1 < w.heap.size := by
  obtain ⟨⟨t, f, e⟩, ⟨t', f', e'⟩⟩ := h
  exact ⟨(Array.getElem?_eq_some_iff.1 e).1, (Array.getElem?_eq_some_iff.1 e').1⟩
theorem TabK.next {w w' : World} (h : TabK w) (hb : Below w.heap.size w w') : TabK w' := h.later hb h.lt.1 h.lt.2
theorem ixO_0 (w : World) : (Instr.index 114 (.agg opC) (.int .i64 ((0 : Nat) : Int))).run Tryd.prog w = .ok (.string (opL.getD 0 E0)) w := by kernel_rfl
theorem ixO_1 (w : World) : (Instr.index 114 (.agg opC) (.int .i64 ((1 : Nat) : Int))).run Tryd.prog w = .ok (.string (opL.getD 1 E0)) w := by kernel_rfl
theorem ixO_2 (w : World) : (Instr.index 114 (.agg opC) (.int .i64 ((2 : Nat) : Int))).run Tryd.prog w = .ok (.string (opL.getD 2 E0)) w := by kernel_rfl
theorem ixO_3 (w : World) : (Instr.index 114 (.agg opC) (.int .i64 ((3 : Nat) : Int))).run Tryd.prog w = .ok (.string (opL.getD 3 E0)) w := by kernel_rfl
theorem ixO_4 (w : World) : (Instr.index 114 (.agg opC) (.int .i64 ((4 : Nat) : Int))).run Tryd.prog w = .ok (.string (opL.getD 4 E0)) w := by kernel_rfl
theorem ixO_5 (w : World) : (Instr.index 114 (.agg opC) (.int .i64 ((5 : Nat) : Int))).run Tryd.prog w = .ok (.string (opL.getD 5 E0)) w := by kernel_rfl
theorem ixO_6 (w : World) : (Instr.index 114 (.agg opC) (.int .i64 ((6 : Nat) : Int))).run Tryd.prog w = .ok (.string (opL.getD 6 E0)) w := by kernel_rfl
theorem ixO_7 (w : World) : (Instr.index 114 (.agg opC) (.int .i64 ((7 : Nat) : Int))).run Tryd.prog w = .ok (.string (opL.getD 7 E0)) w := by kernel_rfl
theorem ixO_8 (w : World) : (Instr.index 114 (.agg opC) (.int .i64 ((8 : Nat) : Int))).run Tryd.prog w = .ok (.string (opL.getD 8 E0)) w := by kernel_rfl
theorem ixO_9 (w : World) : (Instr.index 114 (.agg opC) (.int .i64 ((9 : Nat) : Int))).run Tryd.prog w = .ok (.string (opL.getD 9 E0)) w := by kernel_rfl
theorem ixO_10 (w : World) : (Instr.index 114 (.agg opC) (.int .i64 ((10 : Nat) : Int))).run Tryd.prog w = .ok (.string (opL.getD 10 E0)) w := by kernel_rfl
theorem ixO_11 (w : World) : (Instr.index 114 (.agg opC) (.int .i64 ((11 : Nat) : Int))).run Tryd.prog w = .ok (.string (opL.getD 11 E0)) w := by kernel_rfl
theorem ixO_12 (w : World) : (Instr.index 114 (.agg opC) (.int .i64 ((12 : Nat) : Int))).run Tryd.prog w = .ok (.string (opL.getD 12 E0)) w := by kernel_rfl
theorem ixO_13 (w : World) : (Instr.index 114 (.agg opC) (.int .i64 ((13 : Nat) : Int))).run Tryd.prog w = .ok (.string (opL.getD 13 E0)) w := by kernel_rfl
theorem ixO_14 (w : World) : (Instr.index 114 (.agg opC) (.int .i64 ((14 : Nat) : Int))).run Tryd.prog w = .ok (.string (opL.getD 14 E0)) w := by kernel_rfl
theorem ixO_15 (w : World) : (Instr.index 114 (.agg opC) (.int .i64 ((15 : Nat) : Int))).run Tryd.prog w = .ok (.string (opL.getD 15 E0)) w := by kernel_rfl
theorem ixO_16 (w : World) : (Instr.index 114 (.agg opC) (.int .i64 ((16 : Nat) : Int))).run Tryd.prog w = .ok (.string (opL.getD 16 E0)) w := by kernel_rfl
theorem ixO_17 (w : World) : (Instr.index 114 (.agg opC) (.int .i64 ((17 : Nat) : Int))).run Tryd.prog w = .ok (.string (opL.getD 17 E0)) w := by kernel_rfl
theorem ixO_18 (w : World) : (Instr.index 114 (.agg opC) (.int .i64 ((18 : Nat) : Int))).run Tryd.prog w = .ok (.string (opL.getD 18 E0)) w := by kernel_rfl
theorem ixO_19 (w : World) : (Instr.index 114 (.agg opC) (.int .i64 ((19 : Nat) : Int))).run Tryd.prog w = .ok (.string (opL.getD 19 E0)) w := by kernel_rfl
theorem ixO_20 (w : World) : (Instr.index 114 (.agg opC) (.int .i64 ((20 : Nat) : Int))).run Tryd.prog w = .ok (.string (opL.getD 20 E0)) w := by kernel_rfl
theorem ixO_21 (w : World) : (Instr.index 114 (.agg opC) (.int .i64 ((21 : Nat) : Int))).run Tryd.prog w = .ok (.string (opL.getD 21 E0)) w := by kernel_rfl
theorem ixO_22 (w : World) : (Instr.index 114 (.agg opC) (.int .i64 ((22 : Nat) : Int))).run Tryd.prog w = .ok (.string (opL.getD 22 E0)) w := by kernel_rfl
theorem ixO_23 (w : World) : (Instr.index 114 (.agg opC) (.int .i64 ((23 : Nat) : Int))).run Tryd.prog w = .ok (.string (opL.getD 23 E0)) w := by kernel_rfl
theorem ixO (k : Nat) (h : k < 24) (w : World) : (Instr.index 114 (.agg opC) (.int .i64 k)).run Tryd.prog w = .ok (.string (opL.getD k E0)) w := by
  have hk : k = 0 ∨ k = 1 ∨ k = 2 ∨ k = 3 ∨ k = 4 ∨ k = 5 ∨ k = 6 ∨ k = 7 ∨ k = 8 ∨ k = 9 ∨ k = 10 ∨ k = 11 ∨ k = 12 ∨ k = 13 ∨ k = 14 ∨ k = 15 ∨ k = 16 ∨ k = 17 ∨ k = 18 ∨ k = 19 ∨ k = 20 ∨ k = 21 ∨ k = 22 ∨ k = 23 := by omega
  rcases hk with rfl | rfl | rfl | rfl | rfl | rfl | rfl | rfl | rfl | rfl | rfl | rfl | rfl | rfl | rfl | rfl | rfl | rfl | rfl | rfl | rfl | rfl | rfl | rfl
  · exact ixO_0 w
  · exact ixO_1 w
  · exact ixO_2 w
  · exact ixO_3 w
  · exact ixO_4 w
  · exact ixO_5 w
  · exact ixO_6 w
  · exact ixO_7 w
  · exact ixO_8 w
  · exact ixO_9 w
  · exact ixO_10 w
  · exact ixO_11 w
  · exact ixO_12 w
  · exact ixO_13 w
  · exact ixO_14 w
  · exact ixO_15 w
  · exact ixO_16 w
  · exact ixO_17 w
  · exact ixO_18 w
  · exact ixO_19 w
  · exact ixO_20 w
  · exact ixO_21 w
  · exact ixO_22 w
  · exact ixO_23 w
theorem ixR_0 (w : World) : (Instr.index 115 (.agg rgC) (.int .i64 ((0 : Nat) : Int))).run Tryd.prog w = .ok (.string (wRg.getD 0 E0)) w := by kernel_rfl
theorem ixR_1 (w : World) : (Instr.index 115 (.agg rgC) (.int .i64 ((1 : Nat) : Int))).run Tryd.prog w = .ok (.string (wRg.getD 1 E0)) w := by kernel_rfl
theorem ixR_2 (w : World) : (Instr.index 115 (.agg rgC) (.int .i64 ((2 : Nat) : Int))).run Tryd.prog w = .ok (.string (wRg.getD 2 E0)) w := by kernel_rfl
theorem ixR_3 (w : World) : (Instr.index 115 (.agg rgC) (.int .i64 ((3 : Nat) : Int))).run Tryd.prog w = .ok (.string (wRg.getD 3 E0)) w := by kernel_rfl
theorem ixR_4 (w : World) : (Instr.index 115 (.agg rgC) (.int .i64 ((4 : Nat) : Int))).run Tryd.prog w = .ok (.string (wRg.getD 4 E0)) w := by kernel_rfl
theorem ixR_5 (w : World) : (Instr.index 115 (.agg rgC) (.int .i64 ((5 : Nat) : Int))).run Tryd.prog w = .ok (.string (wRg.getD 5 E0)) w := by kernel_rfl
theorem ixR_6 (w : World) : (Instr.index 115 (.agg rgC) (.int .i64 ((6 : Nat) : Int))).run Tryd.prog w = .ok (.string (wRg.getD 6 E0)) w := by kernel_rfl
theorem ixR_7 (w : World) : (Instr.index 115 (.agg rgC) (.int .i64 ((7 : Nat) : Int))).run Tryd.prog w = .ok (.string (wRg.getD 7 E0)) w := by kernel_rfl
theorem ixR (k : Nat) (h : k < 8) (w : World) : (Instr.index 115 (.agg rgC) (.int .i64 k)).run Tryd.prog w = .ok (.string (wRg.getD k E0)) w := by
  have hk : k = 0 ∨ k = 1 ∨ k = 2 ∨ k = 3 ∨ k = 4 ∨ k = 5 ∨ k = 6 ∨ k = 7 := by omega
  rcases hk with rfl | rfl | rfl | rfl | rfl | rfl | rfl | rfl
  · exact ixR_0 w
  · exact ixR_1 w
  · exact ixR_2 w
  · exact ixR_3 w
  · exact ixR_4 w
  · exact ixR_5 w
  · exact ixR_6 w
  · exact ixR_7 w
theorem szO : (Tryd.prog.info? 114).map (·.size) = some opC.size := by kernel_rfl
theorem szR : (Tryd.prog.info? 115).map (·.size) = some rgC.size := by kernel_rfl

set_option maxHeartbeats 1000000 in
theorem keptI_any (s : ByteArray) (w : World) (ht : TabK w) : Calls Tryd.prog 61 #[.string s] w fun e w' => e = .returned (.bool (keptB s)) ∧ w' = w := by
  by_cases h0 : s.size = 0
  · obtain rfl := empty_of s h0
    rw [keptB_empty]
    go_enter Tryd.func61, Tryd.ntmps61
    go_wp2
    go_ret
    exact ⟨rfl, rfl⟩
  · have hemp := emp_no s h0
    obtain ⟨⟨t0, f0, R0⟩, ⟨t1, f1, R1⟩⟩ := ht
    obtain ⟨q, hq⟩ : ∃ q, keptB s = q := ⟨_, rfl⟩
    have HO := hide (fun k hk he => (keptB_op (s := s) h0 (k := k) hk he).symm.trans hq)
    have HR := hide (fun k hk he => (keptB_rg (s := s) (k := k) hk he).symm.trans hq)
    have HN := hide (fun h1 h2 => (keptB_no (s := s) h1 h2).symm.trans hq)
    rw [hq]
    have R0' := hide R0
    have R1' := hide R1
    clear hq R0 R1
    go_enter Tryd.func61, Tryd.ntmps61
    go_wp2_with (refine wpList_load_row rfl 114 _ rfl 0 rfl t0 opC f0 _ (unhide R0') Tryd.underlying114 rfl szO ?_)
    go_loop [10] (fun i => ∃ k : Nat, i = .int .i64 k ∧ k ≤ 24 ∧ Hid (∀ j, j < k → eqS (opL.getD j E0) s = false)) (fun i => 24 - (intOf i).toNat)
    case atStart => exact ⟨0, rfl, by omega, fun j hj => by omega⟩
    case round =>
      obtain ⟨k, rfl, hk, hd⟩ := hrel
      by_cases hlt : k < 24
      · have IX := hide (ixO k hlt)
        have H1 := hide (unhide HO k hlt)
        have H2 := hide (show eqS (opL.getD k E0) s = false → ∀ j, j < k + 1 → eqS (opL.getD j E0) s = false from fun h j hj => by
          by_cases e : j = k
          · subst e; exact h
          · exact hd.out j (by omega))
        generalize opL.getD k E0 = T at IX H1 H2
        clear hd HO HR HN
        cases hq : (T.toList == s.toList)
        · have E := hide (unhide H2 hq)
          clear H1 H2
          go_wp2_with (refine wpList_index_at rfl 114 _ _ rfl _ _ _ rfl rfl (unhide IX) ?_)
          go_round
          case rel => exact ⟨k + 1, by go_num, by omega, unhide E⟩
          case measure => simp [intOf]; omega
        · have E := hide (unhide H1 hq)
          clear H1 H2
          go_wp2_with (refine wpList_index_at rfl 114 _ _ rfl _ _ _ rfl rfl (unhide IX) ?_)
          go_ret
          exact ⟨by rw [← unhide E]; rfl, rfl⟩
      · have HN2 := hide (unhide HN (fun j hj => hd.out j (by omega)))
        clear hd HN HO
        go_wp2_with (refine wpList_load_row rfl 115 _ rfl 1 rfl t1 rgC f1 _ (unhide R1') Tryd.underlying115 rfl szR ?_)
        go_loop [18] (fun i => ∃ k : Nat, i = .int .i64 k ∧ k ≤ 8 ∧ Hid (∀ j, j < k → eqS (wRg.getD j E0) s = false)) (fun i => 8 - (intOf i).toNat)
        case atStart => exact ⟨0, rfl, by omega, fun j hj => by omega⟩
        case round =>
          clear hlt hk
          obtain ⟨k, rfl, hk, hd⟩ := hrel
          by_cases hlt : k < 8
          · have IX := hide (ixR k hlt)
            have H1 := hide (unhide HR k hlt)
            have H2 := hide (show eqS (wRg.getD k E0) s = false → ∀ j, j < k + 1 → eqS (wRg.getD j E0) s = false from fun h j hj => by
              by_cases e : j = k
              · subst e; exact h
              · exact hd.out j (by omega))
            generalize wRg.getD k E0 = T at IX H1 H2
            clear hd HR HN2
            cases hq : (T.toList == s.toList)
            · have E := hide (unhide H2 hq)
              clear H1 H2
              go_wp2_with (refine wpList_index_at rfl 115 _ _ rfl _ _ _ rfl rfl (unhide IX) ?_)
              go_round
              case rel => exact ⟨k + 1, by go_num, by omega, unhide E⟩
              case measure => simp [intOf]; omega
            · have E := hide (unhide H1 hq)
              clear H1 H2
              go_wp2_with (refine wpList_index_at rfl 115 _ _ rfl _ _ _ rfl rfl (unhide IX) ?_)
              go_ret
              exact ⟨by rw [← unhide E]; rfl, rfl⟩
          · have E := hide (unhide HN2 (fun j hj => hd.out j (by omega)))
            clear hd HN2 HR
            go_wp2
            go_ret
            exact ⟨by rw [← unhide E]; rfl, rfl⟩

/-- The marks. -/
def mkL : List UInt8 := [58, 61, 44, 40, 41, 43, 45, 42, 47, 38, 124, 35, 64, 46, 60, 62]
def mkA : ByteArray := ⟨#[58, 61, 44, 40, 41, 43, 45, 42, 47, 38, 124, 35, 64, 46, 60, 62]⟩
/-- Is a text a mark? -/
def markB : List UInt8 → Bool
  | [c] => mkL.contains c
  | _ => false
theorem mkA_sub (k : Nat) (h : k < 16) : (mkA.extract k (k + 1)).data.toList = [mkL.getD k 0] := by
  have hk : k = 0 ∨ k = 1 ∨ k = 2 ∨ k = 3 ∨ k = 4 ∨ k = 5 ∨ k = 6 ∨ k = 7 ∨ k = 8 ∨ k = 9 ∨ k = 10 ∨ k = 11 ∨ k = 12 ∨ k = 13 ∨ k = 14 ∨ k = 15 := by omega
  rcases hk with rfl | rfl | rfl | rfl | rfl | rfl | rfl | rfl | rfl | rfl | rfl | rfl | rfl | rfl | rfl | rfl <;> decide +kernel
theorem markB_hit {s : ByteArray} {k : Nat} (h : k < 16) (he : eqS s (mkA.extract k (k + 1)) = true) : markB s.data.toList = true := by
  rw [eqS_iff] at he
  rw [he, mkA_sub k h]
  show mkL.contains _ = true
  rw [List.contains_iff_mem, List.getD_eq_getElem?_getD, List.getElem?_eq_getElem (show k < mkL.length from h)]
  exact List.getElem_mem _
theorem markB_miss {s : ByteArray} (h : ∀ k, k < 16 → eqS s (mkA.extract k (k + 1)) = false) : markB s.data.toList = false := by
  cases hm : markB s.data.toList
  · rfl
  · exfalso
    match hl : s.data.toList, hm with
    | [c], hm =>
      have hm' : mkL.contains c = true := hm
      rw [List.contains_iff_mem] at hm'
      obtain ⟨k, hk, rfl⟩ := List.getElem_of_mem hm'
      have hk' : k < 16 := hk
      have e : s = mkA.extract k (k + 1) := by
        apply bytes_inj
        rw [hl, mkA_sub k hk', List.getD_eq_getElem?_getD, List.getElem?_eq_getElem hk]
        rfl
      have := h k hk'
      rw [(eqS_iff _ _).2 e] at this
      cases this
set_option maxHeartbeats 1000000 in
theorem mkrS_any (s : ByteArray) (w : World) : Calls Tryd.prog 65 #[.string s] w fun e w' => e = .returned (.bool (markB s.data.toList)) ∧ w' = w := by
  obtain ⟨q, hq⟩ : ∃ q, markB s.data.toList = q := ⟨_, rfl⟩
  have HIT := hide (fun k hk he => (markB_hit (s := s) (k := k) hk he).symm.trans hq)
  have MISS := hide (fun h => (markB_miss (s := s) h).symm.trans hq)
  rw [hq]
  clear hq
  go_enter Tryd.func65, Tryd.ntmps65
  go_wp2
  go_loop [3] (fun i => ∃ k : Nat, i = .int .i64 k ∧ k ≤ 16 ∧ Hid (∀ j, j < k → eqS s (mkA.extract j (j + 1)) = false)) (fun i => 16 - (intOf i).toNat)
  case atStart => exact ⟨0, rfl, by omega, fun j hj => by omega⟩
  case round =>
    obtain ⟨k, rfl, hk, hd⟩ := hrel
    by_cases hlt : k < 16
    · have H1 := hide (unhide HIT k hlt)
      have H2 := hide (show eqS s (mkA.extract k (k + 1)) = false → ∀ j, j < k + 1 → eqS s (mkA.extract j (j + 1)) = false from fun h j hj => by
        by_cases e : j = k
        · subst e; exact h
        · exact hd.out j (by omega))
      clear hd
      cases hq : (s.toList == ((ByteArray.mk #[58, 61, 44, 40, 41, 43, 45, 42, 47, 38, 124, 35, 64, 46, 60, 62]).extract k (k + 1)).toList)
      · have E := hide (unhide H2 hq)
        clear H1 H2
        go_wp2
        go_round
        case rel => exact ⟨k + 1, by go_num, by omega, unhide E⟩
        case measure => simp [intOf]; omega
      · have E := hide (unhide H1 hq)
        clear H1 H2
        go_wp2
        go_ret
        exact ⟨by rw [← unhide E]; rfl, rfl⟩
    · have E := hide (unhide MISS (fun j hj => hd.out j (by omega)))
      clear hd
      go_wp2
      go_ret
      exact ⟨by rw [← unhide E]; rfl, rfl⟩
end Go.Proofs.YthgbpofcfmnpdaaDoor
