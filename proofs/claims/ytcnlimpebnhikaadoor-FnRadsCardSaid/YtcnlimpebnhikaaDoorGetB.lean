/- Contracts of the model's GetRad and of the laws' copy of ints, over this seat's translation; conditions stand as hypotheses of each. -/
import Derived.Test.YtcnlimpebnhikaaDoorDraw
import Derived.Laws.IdiomStrings
namespace Go.Proofs.YtcnlimpebnhikaaDoor
open Go.ChangeShapes Go.WideShapes Go.ChangeAt Go.RowKit
set_option linter.unusedVariables false

theorem info5 : (Tryd.prog.info? 5).map (fun i => (i.zero, i.size, i.bytes)) = some (some (.int .u8 0), 1, 1) := by kernel_rfl

/-- The letter of a number (0 at 29). -/
def tb (d : Nat) : UInt8 := tab.data.toList.getD d 0
theorem tb_fin : ∀ i : Fin 40, (((tb i.val).toNat : Int) = 0 ↔ i.val = 29) ∧ ((tb i.val).toNat : Int) ≤ 127 := by decide +kernel
/-- The three letters of a word. -/
def w3 (x : Int) : List UInt8 := [tb (x / 1600).toNat, tb (x / 40 % 40).toNat, tb (x % 40).toNat]
/-- A word of three letters. -/
def WOk (x : Int) : Prop := 0 ≤ x ∧ x ≤ 63999 ∧ x / 1600 ≠ 29 ∧ x / 40 % 40 ≠ 29 ∧ x % 40 ≠ 29
def bytesK (ns : List Int) (k : Nat) : List UInt8 := (List.range k).flatMap fun i => w3 (nAt ns i)
theorem bytesK_succ (ns : List Int) (k : Nat) : bytesK ns (k + 1) = bytesK ns k ++ w3 (nAt ns k) := by simp [bytesK, List.range_succ]
theorem bytesK_length (ns : List Int) (k : Nat) : (bytesK ns k).length = 3 * k := by
  induction k with
  | zero => rfl
  | succ k ih => rw [bytesK_succ, List.length_append, ih]; simp [w3]; omega
def GGood (ns : List Int) : Prop := ns.length ≤ 2 ∧ ∀ i, i < ns.length → WOk (nAt ns i)
/-- Without blanks at the end. -/
def trimR (l : List UInt8) : List UInt8 := (l.reverse.dropWhile (· == 32)).reverse
theorem trimR_snoc (l : List UInt8) (c : UInt8) : trimR (l ++ [c]) = if c = 32 then trimR l else l ++ [c] := by
  unfold trimR
  rw [List.reverse_append]
  by_cases h : c = 32
  · simp [h]
  · simp [h]
theorem trimR_nil : trimR [] = [] := rfl
def strOf (l : List UInt8) : ByteArray := ⟨l.toArray⟩

/-- What of GetRad's answer is known. -/
def GetEnd (ns : List Int) (e : Ending) : Prop :=
  (GGood ns ∧ e = .returned (.tuple #[.string (strOf (trimR (bytesK ns ns.length))), .bool true])) ∨ (¬ GGood ns ∧ e = .returned (.tuple #[.string ⟨#[]⟩, .bool false]))

theorem letter_fin : ∀ i : Fin 40, ((tb i.val).toNat : Int) = (if (i.val : Int) = 0 then 32 else if (i.val : Int) ≤ 26 then 97 + (i.val : Int) - 1 else if (i.val : Int) = 27 then 36 else if (i.val : Int) = 28 then 46 else if 30 ≤ (i.val : Int) then 48 + (i.val : Int) - 30 else 0) := by decide +kernel

set_option maxHeartbeats 400000 in
theorem letterS_any (n : Nat) (hn : n < 40) (w : World) : Calls Tryd.prog 27 #[.int .i64 n] w fun e w' => e = .returned (.int .u8 ((tb n).toNat : Int)) ∧ w' = w := by
  have H := hide (letter_fin ⟨n, hn⟩)
  simp only at H
  go_enter Tryd.func27, Tryd.ntmps27
  go_wp2
  all_goals go_ret
  all_goals refine ⟨ret_int ?_, rfl⟩
  all_goals rw [unhide H]
  all_goals simp only [beq_iff_eq, beq_eq_false_iff_ne, ne_eq] at *
  all_goals repeat' split
  all_goals omega

set_option maxHeartbeats 400000 in
theorem toIntS_any (a : Option Addr) (len cap : Nat) (xs : List Int) (w : World) (hl : xs.length = len) (hm : len ≤ 1048576) (hr : RdN w a xs) :
    Calls Tryd.prog 13 #[.slice a len cap] w fun e w' => ∃ v, e = .returned v ∧ OwnN w' w.heap.size v xs ∧ Below w.heap.size w w' := by
  have hmk := run_make_row' (P := Tryd.prog) 25 3 (.int .i64 0) 8 Tryd.underlying25 info3 rfl .i64 .i64 len (by omega) (by omega)
  go_enter Tryd.func13, Tryd.ntmps13
  go_wp2
  go_loopw [4] (fun i wr => ∃ k : Nat, k ≤ len ∧ i = .int .i64 k ∧ wr.rowIs w.heap.size 3 len (fun j => if j < k then .int .i64 (nAt xs j) else .int .i64 0) ∧ Below w.heap.size w wr) (fun i _ => len - (intOf i).toNat)
  case atStart => exact ⟨0, Nat.zero_le _, rfl, (World.rowIs_made w (.int .i64 0) len 3).congr (fun i hi => by simp), (Below.refl _ _).alloc (Nat.le_refl _) _⟩
  case round =>
    obtain ⟨k, hk, rfl, hrow, hbel⟩ := hrel
    by_cases hlt : k < len
    · rcases hr with rfl | ⟨b, off, rfl, hb, hc⟩
      · simp at hl; omega
      have hcx : wr.cell? ⟨b, off + k, none⟩ = some (.int .i64 (nAt xs k)) := (hbel.cell (p := ⟨b, off + k, none⟩) hb).trans (hc k (by omega))
      have hfz := hrow.frozen k
      have hco := hrow.cell hlt
      have hR := (hrow.set k (.int .i64 (nAt xs k))).congr (g := fun j => if j < k + 1 then .int .i64 (nAt xs j) else .int .i64 0) (fun j hj => by
        by_cases e : j = k
        · simp [e]
        · by_cases e2 : j < k
          · simp [e, e2, show j < k + 1 by omega]
          · simp [e, e2, show ¬ j < k + 1 by omega])
      have hB := hbel.setCell (p := ⟨w.heap.size, k, none⟩) (Nat.le_refl _) (.int .i64 (nAt xs k))
      clear hrow hbel
      go_wp2
      go_roundw
      case rel => exact ⟨k + 1, by omega, by go_num, hR, hB⟩
      case measure => simp [intOf]; omega
    · have hR := hrow.congr (g := fun j => .int .i64 (nAt xs j)) (fun j hj => by simp [show j < k by omega])
      clear hrow
      go_wp2
      go_ret
      refine ⟨.slice (some ⟨w.heap.size, 0, none⟩) len len, rfl, ?_, hbel⟩
      obtain ⟨c, hc, hs, hv⟩ := hR
      refine ⟨by rw [cellsN_length]; omega, .inr ⟨w.heap.size, len, c, by rw [hl], Nat.le_refl _, hc, by omega, by unfold maxLen; omega, by omega, ?_⟩⟩
      rw [hl, Nat.mul_one, List.take_of_length_le (by simp; omega)]
      apply List.ext_getElem?
      intro i
      by_cases hi : i < len
      · rw [Array.getElem?_toList, hv i hi]
        simp only [cellsN, List.getElem?_map, List.getElem?_eq_getElem (show i < xs.length by omega), Option.map_some, nAt, List.getD_eq_getElem?_getD, Option.getD_some]
      · rw [List.getElem?_eq_none (by simp; omega), List.getElem?_eq_none (by rw [cellsN_length]; omega)]
end Go.Proofs.YtcnlimpebnhikaaDoor
