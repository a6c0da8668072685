/- Contracts of the model's PutRad, over this seat's translation; conditions stand as hypotheses of each. -/
import Derived.Test.YtcnlimpebnhikaaDoorRadB
import Derived.Maps.AppendAt
namespace Go.Proofs.YtcnlimpebnhikaaDoor
open Go.ChangeShapes Go.WideShapes Go.ChangeAt Go.RowKit
set_option linter.unusedVariables false

/-- A letter's number; -1: it is none. -/
def lc (x : Int) : Int := if x = 32 then 0 else if 97 ≤ x ∧ x ≤ 122 then x - 96 else if x = 36 then 27 else if x = 46 then 28 else if 48 ≤ x ∧ x ≤ 57 then x - 18 else -1
theorem lc_bd (x : Int) : -1 ≤ lc x ∧ lc x ≤ 39 := by
  unfold lc
  repeat' split
  all_goals omega

/-- The number of the k-th letter; behind the last: a blank's. -/
def lcAt (xs : List UInt8) (k : Nat) : Int := if k < xs.length then lc (bAt xs k) else 0
theorem lcAt_in {xs : List UInt8} {k : Nat} (h : k < xs.length) : lcAt xs k = lc (bAt xs k) := if_pos h
theorem lcAt_out {xs : List UInt8} {k : Nat} (h : ¬ k < xs.length) : lcAt xs k = 0 := if_neg h
theorem lcAt_bd (xs : List UInt8) (k : Nat) : -1 ≤ lcAt xs k ∧ lcAt xs k ≤ 39 := by
  unfold lcAt
  have := lc_bd (bAt xs k)
  split <;> omega
/-- Three letters' word, from i on. -/
def wordAt (xs : List UInt8) (i : Nat) : Int := (lcAt xs i * 40 + lcAt xs (i + 1)) * 40 + lcAt xs (i + 2)
def preAt (xs : List UInt8) (i : Nat) : Nat → Int
  | 0 => 0
  | j + 1 => preAt xs i j * 40 + lcAt xs (i + j)
theorem preAt_3 (xs : List UInt8) (i : Nat) : preAt xs i 3 = wordAt xs i := by simp [preAt, wordAt]
theorem preAt_bd (xs : List UInt8) (i j : Nat) (hj : j ≤ 3) : -1641 ≤ preAt xs i j ∧ preAt xs i j ≤ 63999 := by
  have h0 := lcAt_bd xs i
  have h1 := lcAt_bd xs (i + 1)
  have h2 := lcAt_bd xs (i + 2)
  obtain rfl | rfl | rfl | rfl : j = 0 ∨ j = 1 ∨ j = 2 ∨ j = 3 := by omega
  all_goals simp [preAt]
  all_goals omega
/-- The letters ahead of k are letters. -/
def AllL (xs : List UInt8) (k : Nat) : Prop := ∀ j, j < k → j < xs.length → 0 ≤ lc (bAt xs j)
/-- All are letters, and no more than six. -/
def Good (xs : List UInt8) : Prop := xs.length ≤ 6 ∧ AllL xs xs.length
def radK (xs : List UInt8) (k : Nat) : List Int := (List.range k).map fun (j : Nat) => wordAt xs (3 * j)
theorem radK_length (xs : List UInt8) (k : Nat) : (radK xs k).length = k := by simp [radK]
theorem radK_succ (xs : List UInt8) (k : Nat) : radK xs (k + 1) = radK xs k ++ [wordAt xs (3 * k)] := by simp [radK, List.range_succ]
/-- The words of letters. -/
def radN (xs : List UInt8) : List Int := radK xs ((xs.length + 2) / 3)

theorem in_any (x a b : Int) (w : World) : Calls Tryd.prog 26 #[.int .i64 x, .int .i64 a, .int .i64 b] w fun e w' => e = .returned (.bool (decide (a ≤ x ∧ x ≤ b))) ∧ w' = w := by
  by_cases h1 : a ≤ x
  · by_cases h2 : x ≤ b
    · rw [decide_eq_true (show a ≤ x ∧ x ≤ b from ⟨h1, h2⟩)]
      go_enter Tryd.func26, Tryd.ntmps26
      go_wp2
      go_ret
      exact ⟨rfl, rfl⟩
    · rw [decide_eq_false (show ¬ (a ≤ x ∧ x ≤ b) by omega)]
      have h3 : decide (x ≤ b) = false := by simp; omega
      go_enter Tryd.func26, Tryd.ntmps26
      go_wp2
      go_ret
      exact ⟨rfl, rfl⟩
  · rw [decide_eq_false (show ¬ (a ≤ x ∧ x ≤ b) by omega)]
    have h3 : decide (a ≤ x) = false := by simp; omega
    go_enter Tryd.func26, Tryd.ntmps26
    go_wp2
    go_ret
    exact ⟨rfl, rfl⟩

theorem ret_int {k : IntKind} {a b : Int} (h : a = b) : Ending.returned (.int k a) = .returned (.int k b) := by rw [h]

set_option maxHeartbeats 400000 in
theorem code_any (x : Int) (w : World) (h0 : 0 ≤ x) (h1 : x ≤ 255) : Calls Tryd.prog 19 #[.int .u8 x] w fun e w' => e = .returned (.int .i64 (lc x)) ∧ w' = w := by
  have H := hide (show lc x = if x = 32 then 0 else if 97 ≤ x ∧ x ≤ 122 then x - 96 else if x = 36 then 27 else if x = 46 then 28 else if 48 ≤ x ∧ x ≤ 57 then x - 18 else -1 from rfl)
  go_enter Tryd.func19, Tryd.ntmps19
  go_wp2_with (go_at_call 26; refine (in_any _ _ _ _).mono ?_; rintro e w' ⟨rfl, hw'⟩; rw [hw']; clear hw' w')
  all_goals go_ret
  all_goals refine ⟨ret_int ?_, rfl⟩
  all_goals clear H
  all_goals simp only [beq_iff_eq, beq_eq_false_iff_ne, ne_eq] at *
  all_goals unfold lc
  all_goals repeat' split
  all_goals omega

set_option maxHeartbeats 1000000 in
theorem putRadS_any (s : ByteArray) (w : World) (hmax : s.size ≤ 1048576) :
    Calls Tryd.prog 8 #[.string s] w fun e w' => ∃ v, Below w.heap.size w w' ∧
      ((Good s.data.toList ∧ e = .returned (.tuple #[v, .bool true]) ∧ OwnN w' w.heap.size v (radN s.data.toList)) ∨ (¬ Good s.data.toList ∧ e = .returned (.tuple #[v, .bool false]) ∧ OwnN w' w.heap.size v [])) := by
  obtain ⟨i0, hi, hz0, hz1, hz2⟩ := info_parts info3
  obtain ⟨xs, hxs⟩ : ∃ xs, xs = s.data.toList := ⟨_, rfl⟩
  have hlen : xs.length = s.size := by rw [hxs]; simp
  have hB0 := hide ((Below.refl w.heap.size w).alloc (Nat.le_refl _) (Obj.cells #[] 3))
  have hO0 := hide (ownN_empty w)
  by_cases h6 : s.size ≤ 6
  · have hsA : ∀ k (h : k < s.size), ((s[k]'h).toNat : Int) = bAt xs k := fun k h => by rw [hxs]; exact sAt s k h
    rw [← hxs]
    clear hxs
    go_enter Tryd.func8, Tryd.ntmps8
    go_wp2
    go_loopw [4, 5] (fun out i wr => ∃ (j : Nat) (v : Value), i = .int .i64 (3 * (j : Int)) ∧ out = v ∧ 3 * j ≤ s.size + 2 ∧ Below w.heap.size w wr ∧ OwnN wr w.heap.size v (radK xs j) ∧ Hid (AllL xs (3 * j))) (fun _ i _ => s.size - (intOf i).toNat)
    case atStart => exact ⟨0, _, rfl, rfl, by omega, unhide hB0, unhide hO0, fun j hj => by omega⟩
    case round =>
      clear hB0 hO0
      obtain ⟨j, v, rfl, hv, hj, hbel, hown, hall⟩ := hrel
      subst hv
      by_cases hlt : 3 * j < s.size
      · have HB := hide hbel
        have HO := hide hown
        have hsz := hbel.size
        clear hbel hown
        obtain ⟨W0, hW0⟩ : ∃ W0, W0 = wr := ⟨_, rfl⟩
        have HW0 := hide hW0
        clear hW0
        have hd : decide (3 * (j : Int) < (s.size : Int)) = true := by simp; omega
        go_wp2
        clear hd
        go_loopw [6, 7] (fun n k wk => Hid (wk = W0) ∧ ∃ c : Nat, c ≤ 3 ∧ k = .int .i64 (3 * (j : Int) + c) ∧ n = .int .i64 (preAt xs (3 * j) c) ∧ Hid (AllL xs (3 * j + c))) (fun _ k _ => 3 * j + 3 - (intOf k).toNat)
        case atStart => exact ⟨(unhide HW0).symm, 0, by omega, by simp, rfl, hall⟩
        case round =>
          obtain ⟨hWk, c, hc, rfl, rfl, hal⟩ := hrel
          have e1 := (unhide HW0).symm.trans (unhide hWk).symm
          subst e1
          have hpb := preAt_bd xs (3 * j) c hc
          by_cases hc3 : c < 3
          · have hps : preAt xs (3 * j) (c + 1) = preAt xs (3 * j) c * 40 + lcAt xs (3 * j + c) := rfl
            have HP := hide hps
            clear hps
            by_cases hkl : 3 * j + c < s.size
            · have hL := lcAt_in (xs := xs) (k := 3 * j + c) (by omega)
              rw [hL] at HP
              have hsx := hsA (3 * j + c) hkl
              have hbd := bAt_bd xs (3 * j + c)
              have hlb := lc_bd (bAt xs (3 * j + c))
              clear hL
              by_cases hge : 0 ≤ lc (bAt xs (3 * j + c))
              · have HA := hide (show AllL xs (3 * j + (c + 1)) from fun i h1 h2 => by
                  by_cases e : i = 3 * j + c
                  · subst e; exact hge
                  · exact hal.out i (by omega) h2)
                clear hal hall
                go_wp2_with (go_at_call 19; refine (code_any _ _ hbd.1 hbd.2).mono ?_; rintro e w' ⟨rfl, hw'⟩; rw [hw']; clear hw' w')
                go_roundw
                case rel => exact ⟨hWk, c + 1, by omega, by go_num, by rw [unhide HP], unhide HA⟩
                case measure => simp [intOf]; omega
              · have HN := hide (show ¬ Good xs from fun h => hge (h.2 _ (by omega) (by omega)))
                clear hal hall
                go_wp2_with (go_at_call 19; refine (code_any _ _ hbd.1 hbd.2).mono ?_; rintro e w' ⟨rfl, hw'⟩; rw [hw']; clear hw' w')
                go_ret2
                exact ⟨_, (unhide HB).alloc hsz _, .inr ⟨unhide HN, rfl, (ownN_empty wr).base hsz⟩⟩
            · have hL := lcAt_out (xs := xs) (k := 3 * j + c) (by omega)
              rw [hL] at HP
              have HA := hide (show AllL xs (3 * j + (c + 1)) from fun i h1 h2 => hal.out i (by omega) h2)
              clear hal hall hL
              go_wp2
              go_roundw
              case rel => exact ⟨hWk, c + 1, by omega, by go_num, by rw [unhide HP, Int.add_zero], unhide HA⟩
              case measure => simp [intOf]; omega
          · obtain rfl : c = 3 := by omega
            rw [preAt_3] at hpb ⊢
            clear hall
            have K1 := hide (cell_one_new wr (Value.int .i64 (wordAt xs (3 * j))) 3)
            have KL := radK_length xs j
            go_wp2_with (at_builtin; go_must (refine wpList_append_own _ rfl (.tmp 42) (.tmp 44) 25 rfl w.heap.size 3 i0 (.int .i64 0) 1 8 Tryd.underlying25 hi hz0 hz1 hz2 rfl (by decide) u4 (radK xs j).length (cellsN (radK xs j)) rfl ((unhide HO).alloc _) ⟨wr.heap.size, 0, none⟩ 1 1 (cellsN [wordAt xs (3 * j)]) rfl rfl (unhide K1) (cellsN_one _) (by unfold maxLen; omega) (by omega) (by simp; omega) ?_; intro v2 w2 hown2 hgrow2 _))
            have B2 : Below w.heap.size w w2 := ((unhide HB).alloc hsz _).grown hgrow2 (by simp; omega) (fun k h => ((unhide HO).lt h).1)
            go_roundw
            case rel => exact ⟨j + 1, v2, by go_num, rfl, by omega, B2, by rw [radK_succ]; unfold OwnN; rw [cellsN_append, List.length_append]; exact hown2, by have := hal.out; exact this⟩
            case measure => simp [intOf]; omega
      · have hjj : j = (xs.length + 2) / 3 := by omega
        have HG := hide (show Good xs from ⟨by omega, fun i h1 h2 => hall.out i (by omega) h2⟩)
        have HB := hide hbel
        have HO := hide hown
        clear hall hbel hown
        go_wp2
        go_ret2
        exact ⟨u4, unhide HB, .inl ⟨unhide HG, rfl, by unfold radN; rw [← hjj]; exact unhide HO⟩⟩
  · rw [← hxs]
    have HN := hide (show ¬ Good xs from fun h => h6 (by have := h.1; omega))
    clear hxs
    go_enter Tryd.func8, Tryd.ntmps8
    go_wp2
    go_ret2
    exact ⟨_, unhide hB0, .inr ⟨unhide HN, rfl, unhide hO0⟩⟩
end Go.Proofs.YtcnlimpebnhikaaDoor
