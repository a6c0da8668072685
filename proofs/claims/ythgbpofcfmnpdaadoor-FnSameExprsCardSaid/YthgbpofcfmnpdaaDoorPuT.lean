/- Contracts of strconv.ParseUint at base 8 and 16 bits, over this seat's translation; conditions stand as hypotheses of each. -/
import Derived.Test.YthgbpofcfmnpdaaDoorErrT
import Derived.Laws.Strings3
import Derived.BigGuard
namespace Go.Proofs.YthgbpofcfmnpdaaDoor
open Go.ChangeShapes Go.WideShapes Go.ChangeAt Go.RowKit
set_option linter.unusedVariables false

/-- What digits are worth, each byte less 48, to the base 8. -/
def ov (l : List UInt8) : Int := l.foldl (fun a c => a * 8 + ((c.toNat : Int) - 48)) 0
theorem ov_snoc (l : List UInt8) (c : UInt8) : ov (l ++ [c]) = ov l * 8 + ((c.toNat : Int) - 48) := by unfold ov; rw [List.foldl_append]; rfl
theorem ov_take (l : List UInt8) (k : Nat) (h : k < l.length) : ov (l.take (k + 1)) = ov (l.take k) * 8 + (bAt l k - 48) := by
  rw [List.take_succ_eq_append_getElem h, ov_snoc]
  unfold bAt
  rw [List.getD_eq_getElem?_getD, List.getElem?_eq_getElem h]
  rfl
/-- Some byte is no digit, or what is read is too great. -/
def Bad (l : List UInt8) : Prop := ∃ k, k < l.length ∧ (bAt l k < 48 ∨ 55 < bAt l k ∨ 65535 < ov (l.take (k + 1)))

/-- The call ends with an error of the inner package: 1 or 2. -/
def BadEnd (e : Ending) : Prop := ∃ y c, (c = 1 ∨ c = 2) ∧ e = .returned (.tuple #[.int .u64 y, .iface 158 (.int .i64 c)])

def lowV (c : Int) : Int := bits .or .u8 c 32
theorem lowV_bd (c : Int) : 0 ≤ lowV c ∧ lowV c ≤ 255 := ⟨bits_lo_u8 .or c 32, bits_hi_u8 .or c 32⟩
theorem lower_any (c : Int) (w : World) : Calls Tryd.prog 116 #[.int .u8 c] w fun e w' => e = .returned (.int .u8 (lowV c)) ∧ w' = w := by
  go_enter Tryd.func116, Tryd.ntmps116
  go_wp2
  go_ret
  exact ⟨rfl, rfl⟩

set_option maxHeartbeats 4000000 in
set_option maxRecDepth 100000 in
theorem pu_any (s : ByteArray) (hne : s.size ≠ 0) (hmax : s.size ≤ 1099511627776) (w : World) :
    Calls Tryd.prog 108 #[.string s, .int .i64 8, .int .i64 16] w fun e w' => Below w.heap.size w w' ∧
      ((0 ≤ ov s.data.toList ∧ ov s.data.toList ≤ 65535 ∧ e = .returned (.tuple #[.int .u64 (ov s.data.toList), .nilIface])) ∨
       (Bad s.data.toList ∧ BadEnd e)) := by
  have hemp : s.toList.isEmpty = false := by
    rw [← decide_eq_emptyBytes]
    exact decide_eq_false (fun h => hne (by rw [h]; rfl))
  have hcv := Lib.run_convert_string_bytes (P := Tryd.prog) w 9 22 5 s (u := .string) Tryd.underlying9 Tryd.underlying22 Tryd.underlying5
  have hB : ∀ j, j < s.size → (Lib.bytesWorld w 5 s).cell? ⟨w.heap.size, j, none⟩ = some (.int .u8 (bAt s.data.toList j)) := fun j hj => Lib.bytesWorld_cell w 5 s j hj
  have hbel := hide (Lib.bytesWorld_below w 5 s)
  obtain ⟨W1, hW1⟩ : ∃ W1, W1 = Lib.bytesWorld w 5 s := ⟨_, rfl⟩
  rw [← hW1] at hcv hB hbel
  clear hW1
  obtain ⟨bs, hL⟩ : ∃ bs, bs = s.data.toList := ⟨_, rfl⟩
  have hLn : bs.length = s.size := by rw [hL, Lib.size_eq]
  rw [← hL] at hB ⊢
  clear hL
  go_enter Tryd.func108, Tryd.ntmps108
  go_wp2
  clear hcv
  go_loop [12, 13, 101] (fun vu vn vi => ∃ (k : Nat) (a : Int), vu = .bool false ∧ vn = .int .u64 a ∧ vi = .int .i64 k ∧ k ≤ s.size ∧ 0 ≤ a ∧ a ≤ 65535 ∧ Hid (a = ov (bs.take k)))
    (fun _ _ vi => s.size - (intOf vi).toNat)
  case atStart => exact ⟨0, 0, rfl, rfl, rfl, by omega, by omega, by omega, rfl⟩
  case round =>
    obtain ⟨k, a, rfl, rfl, rfl, hk, a0, a1, ha⟩ := hrel
    by_cases hkn : k < s.size
    · have hc := hB k hkn
      have hbd := bAt_bd bs k
      have hT := ov_take bs k (by omega)
      rw [← ha.out] at hT
      have HT := hide hT
      clear hB hT
      obtain ⟨c, hcc⟩ : ∃ c, bAt bs k = c := ⟨_, rfl⟩
      rw [hcc] at hc hbd HT
      have HC := hide hcc
      clear hcc
      by_cases hdig : 48 ≤ c ∧ c ≤ 55
      · obtain ⟨hd0, hd1⟩ := hdig
        by_cases hov : 65535 < a * 8 + (c - 48)
        · have hbad := hide (show Bad bs from ⟨k, by omega, .inr (.inr (by rw [unhide HT]; exact hov))⟩)
          go_wp2
          go_ret2
          exact ⟨unhide hbel, .inr ⟨unhide hbad, _, 1, .inl rfl, rfl⟩⟩
        · go_wp2
          go_round
          case rel => exact ⟨k + 1, a * 8 + (c - 48), rfl, by go_num, by go_num, by omega, by omega, by omega, (unhide HT).symm⟩
          case measure => simp [intOf]; omega
      · have hbad := hide (show Bad bs from ⟨k, by omega, by rw [unhide HC]; omega⟩)
        by_cases h57 : 48 ≤ c ∧ c ≤ 57
        · obtain ⟨hd0, hd1⟩ := h57
          have hd8 : 8 ≤ c - 48 := by omega
          clear hdig
          go_wp2
          go_ret2
          exact ⟨unhide hbel, .inr ⟨unhide hbad, _, 2, .inr rfl, rfl⟩⟩
        · clear hdig
          have hv := lowV_bd c
          have hu := lowV_bd 95
          go_wp2_with (go_at_call 116; refine (lower_any _ _).mono ?_; rintro e w' ⟨rfl, hw'⟩; rw [hw']; clear hw' w')
          all_goals go_ret2
          all_goals exact ⟨unhide hbel, .inr ⟨unhide hbad, _, 2, .inr rfl, rfl⟩⟩
    · have hfin : a = ov bs := by rw [ha.out, List.take_of_length_le (by omega)]
      have HF := hide hfin
      clear hfin hB
      go_wp2
      go_ret2
      rw [← unhide HF]
      exact ⟨unhide hbel, .inl ⟨a0, a1, rfl⟩⟩
end Go.Proofs.YthgbpofcfmnpdaaDoor
