/- The laws' copies of numbers and texts; over this seat's translation; conditions stand as hypotheses of each. -/
import Derived.Test.YtemglcdglnjakaaNumT
import Derived.Test.YtemglcdglnjakaaTkC
import Derived.Deep.OwnRows
namespace Go.Proofs.Ytemglcdglnjakaa
open Go.ChangeShapes Go.WideShapes Go.ChangeAt Go.RowKit
set_option linter.unusedVariables false
set_option maxRecDepth 8000
set_option linter.unusedSimpArgs false

def tAtS (L : List ByteArray) (i : Nat) : ByteArray := L.getD i E0
/-- A slice of texts with address a reads as L. -/
def RdU (w : World) (a : Option Addr) (L : List ByteArray) : Prop := L = [] ∨ ∃ b off, a = some ⟨b, off, none⟩ ∧ b < w.heap.size ∧ ∀ i, i < L.length → w.cell? ⟨b, off + i, none⟩ = some (.string (tAtS L i))
theorem RdU.later {w w' : World} {a : Option Addr} {L : List ByteArray} (h : RdU w a L) (hb : Below w.heap.size w w') : RdU w' a L := by
  rcases h with h | ⟨b, off, ha, hlt, hc⟩
  · exact .inl h
  · exact .inr ⟨b, off, ha, Nat.lt_of_lt_of_le hlt hb.size, fun i hi => (hb.cell (p := ⟨b, off + i, none⟩) hlt).trans (hc i hi)⟩
def cellsS (L : List ByteArray) : List Value := L.map .string
theorem cellsS_length (L : List ByteArray) : (cellsS L).length = L.length := by simp [cellsS]
/-- A row of texts of one's own. -/
def OwnS (w : World) (B : Nat) (v : Value) (L : List ByteArray) : Prop := w.ownsRow B 9 1 v L.length (cellsS L)
theorem infoStr : (Try.prog.info? 9).map (fun i => (i.zero, i.size, i.bytes)) = some (some (.string ⟨#[]⟩), 1, 16) := by kernel_rfl
theorem OwnS.cells {w : World} {B g cap : Nat} {L : List ByteArray} (h : OwnS w B (.slice (some ⟨g, 0, none⟩) L.length cap) L) : RdS w g L := by
  intro j hj
  have hc := World.ownsRow.cellAt h j (by omega)
  rw [hc]
  unfold cellsS
  rw [List.getElem?_map, List.getElem?_eq_getElem hj, List.getD_eq_getElem?_getD, List.getElem?_eq_getElem hj]
  rfl
set_option maxHeartbeats 1000000 in
theorem toStrS_any (a : Option Addr) (len cap : Nat) (L : List ByteArray) (w : World) (hl : L.length = len) (hm : len ≤ 1048576) (hr : RdU w a L) :
    Calls Try.prog 10 #[.slice a len cap] w fun e w' => e = .returned (.slice (some ⟨w.heap.size, 0, none⟩) len len) ∧ OwnS w' w.heap.size (.slice (some ⟨w.heap.size, 0, none⟩) len len) L ∧ Below w.heap.size w w' := by
  have hmk := run_make_row' (P := Try.prog) 23 9 (.string ⟨#[]⟩) 16 Try.underlying23 infoStr rfl .i64 .i64 len (by omega) (by omega)
  go_enter Try.func10, Try.ntmps10
  go_wp2
  go_loopw [4] (fun i wr => ∃ k : Nat, k ≤ len ∧ i = .int .i64 k ∧ wr.rowIs w.heap.size 9 len (fun j => if j < k then .string (tAtS L j) else .string ⟨#[]⟩) ∧ Below w.heap.size w wr) (fun i _ => len - (intOf i).toNat)
  case atStart => exact ⟨0, Nat.zero_le _, rfl, (World.rowIs_made w (.string ⟨#[]⟩) len 9).congr (fun i hi => by simp), (Below.refl _ _).alloc (Nat.le_refl _) _⟩
  case round =>
    obtain ⟨k, hk, rfl, hrow, hbel⟩ := hrel
    by_cases hlt : k < len
    · rcases hr with rfl | ⟨b, off, rfl, hb, hc⟩
      · simp at hl; omega
      have hcx : wr.cell? ⟨b, off + k, none⟩ = some (.string (tAtS L k)) := (hbel.cell (p := ⟨b, off + k, none⟩) hb).trans (hc k (by omega))
      have hfz := hrow.frozen k
      have hco := hrow.cell hlt
      have hR := (hrow.set k (.string (tAtS L k))).congr (g := fun j => if j < k + 1 then .string (tAtS L j) else .string ⟨#[]⟩) (fun j hj => by
        by_cases e : j = k
        · simp [e]
        · by_cases e2 : j < k
          · simp [e, e2, show j < k + 1 by omega]
          · simp [e, e2, show ¬ j < k + 1 by omega])
      have hB := hbel.setCell (p := ⟨w.heap.size, k, none⟩) (Nat.le_refl _) (.string (tAtS L k))
      clear hrow hbel
      go_wp2
      go_roundw
      case rel => exact ⟨k + 1, by omega, by go_num, hR, hB⟩
      case measure => simp [intOf]; omega
    · have hR := hrow.congr (g := fun j => .string (tAtS L j)) (fun j hj => by simp [show j < k by omega])
      clear hrow
      go_wp2
      go_ret
      refine ⟨rfl, ?_, hbel⟩
      obtain ⟨c, hc, hs, hv⟩ := hR
      refine ⟨by rw [cellsS_length]; omega, .inr ⟨w.heap.size, len, c, by rw [hl], Nat.le_refl _, hc, by omega, by unfold maxLen; omega, by omega, ?_⟩⟩
      rw [hl, Nat.mul_one, List.take_of_length_le (by simp; omega)]
      apply List.ext_getElem?
      intro i
      by_cases hi : i < len
      · rw [Array.getElem?_toList, hv i hi]
        simp only [cellsS, List.getElem?_map, List.getElem?_eq_getElem (show i < L.length by omega), Option.map_some, tAtS, List.getD_eq_getElem?_getD, Option.getD_some]
      · rw [List.getElem?_eq_none (by simp; omega), List.getElem?_eq_none (by rw [cellsS_length]; omega)]
set_option maxHeartbeats 1000000 in
theorem eqStrS_same (a b : Option Addr) (len c1 c2 : Nat) (L : List ByteArray) (w : World) (hl : L.length = len) (hm : len ≤ 1099511627776) (h1 : RdU w a L) (h2 : RdU w b L) :
    Calls Try.prog 14 #[.slice a len c1, .slice b len c2] w fun e w' => e = .returned (.bool true) ∧ Below w.heap.size w w' := by
  go_enter Try.func14, Try.ntmps14
  go_wp2
  go_loopw [5] (fun i wr => ∃ k : Nat, k ≤ len ∧ i = .int .i64 k ∧ Below w.heap.size w wr) (fun i _ => len - (intOf i).toNat)
  case atStart => exact ⟨0, Nat.zero_le _, rfl, Below.refl _ _⟩
  case round =>
    obtain ⟨k, hk, rfl, hbel⟩ := hrel
    by_cases hlt : k < len
    · rcases h1 with rfl | ⟨p, po, rfl, hp, hpc⟩
      · simp at hl; omega
      rcases h2 with h0 | ⟨q, qo, rfl, hq, hqc⟩
      · rw [h0] at hl; simp at hl; omega
      have e1 : wr.cell? ⟨p, po + k, none⟩ = some (.string (tAtS L k)) := (hbel.cell (p := ⟨p, po + k, none⟩) hp).trans (hpc k (by omega))
      have e2 : wr.cell? ⟨q, qo + k, none⟩ = some (.string (tAtS L k)) := (hbel.cell (p := ⟨q, qo + k, none⟩) hq).trans (hqc k (by omega))
      clear hpc hqc
      go_wp2_with fail
      go_quiet (fail)
      go_wp2
      go_roundw
      case rel => exact ⟨k + 1, by omega, by go_num, below_drewN hbel _⟩
      case measure => simp [intOf]; omega
    · go_wp2
      go_ret
      exact ⟨rfl, hbel⟩
def szU : List ByteArray → Nat
  | [] => 0
  | t :: r => t.size + szU r
theorem szU_take (L : List ByteArray) (k : Nat) (h : k < L.length) : szU (L.take (k + 1)) = szU (L.take k) + (tAtS L k).size := by
  induction L generalizing k with
  | nil => simp at h
  | cons t r ih =>
    cases k with
    | zero => simp [szU, tAtS]
    | succ k =>
      have := ih k (by simpa using h)
      simp only [List.take_succ_cons, szU, this]
      show _ = t.size + _ + (tAtS r k).size
      omega
set_option maxHeartbeats 1000000 in
theorem szStrS_any (a : Option Addr) (len cap left : Nat) (L : List ByteArray) (w : World) (hl : L.length = len) (hm : len ≤ 9223372036854775807) (h1 : left ≤ 1048576) (hz : ∀ i, i < len → (tAtS L i).size ≤ 9223372036854775807) (hr : RdU w a L) : Calls Try.prog 6 #[.slice a len cap, .int .i64 left] w fun e w' => ((e = .returned (.int .i64 (-1))) ∨ (len + szU L ≤ left ∧ e = .returned (.int .i64 ((left - (len + szU L) : Nat) : Int)))) ∧ Below w.heap.size w w' := by
  by_cases hbig : (left : Int) - (len : Int) < 0
  · go_enter Try.func6, Try.ntmps6
    go_wp2
    go_ret
    exact ⟨.inl rfl, Below.refl _ _⟩
  · go_enter Try.func6, Try.ntmps6
    go_wp2
    go_loopw [1, 5] (fun lv i wr => ∃ k : Nat, k ≤ len ∧ i = .int .i64 k ∧ len + szU (L.take k) ≤ left ∧ lv = .int .i64 ((left : Int) - len - szU (L.take k)) ∧ Below w.heap.size w wr) (fun _ i _ => len - (intOf i).toNat)
    case atStart => exact ⟨0, Nat.zero_le _, rfl, by simp [szU]; omega, by simp [szU], Below.refl _ _⟩
    case round =>
      obtain ⟨k, hk, rfl, hs, rfl, hb⟩ := hrel
      by_cases hlt : k < len
      · rcases hr with h0 | ⟨b, off, rfl, hbl, hc⟩
        · rw [h0] at hl; simp at hl; omega
        have d0 : wr.cell? ⟨b, off + k, none⟩ = _ := (hb.cell (p := ⟨b, _, none⟩) hbl).trans (hc k (by omega))
        have ST := hide (szU_take L k (by omega))
        have hzk := hz k hlt
        clear hc
        generalize hzs : (tAtS L k).size = z at ST hzk
        generalize tAtS L k = ss at d0 hzs
        subst hzs
        by_cases hneg : (left : Int) - (len : Int) - (szU (L.take k) : Int) - (ss.size : Int) < 0
        · go_wp2
          go_ret
          exact ⟨.inl rfl, hb⟩
        · go_wp2
          go_roundw
          case rel =>
            refine ⟨k + 1, by omega, by go_num, ?_, ?_, hb⟩
            · rw [unhide ST]; omega
            · rw [unhide ST]; congr 1; omega
          case measure => simp [intOf]; omega
      · obtain rfl : k = len := by omega
        have E := hide (show L.take k = L by rw [← hl, List.take_length])
        rw [unhide E] at hs
        have E2 := hide (show szU (L.take k) = szU L by rw [unhide E])
        have E3 := hide (show ((left : Int) - (k : Int) - (szU (L.take k) : Int)) = ((left - (k + szU L) : Nat) : Int) by have := unhide E2; omega)
        go_wp2
        go_ret
        exact ⟨.inr ⟨hs, congrArg (fun z => Ending.returned (.int .i64 z)) (unhide E3)⟩, hb⟩
end Go.Proofs.Ytemglcdglnjakaa
