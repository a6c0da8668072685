/- Contracts carried over to this seat by program, out of texts over another seat of the same commit; conditions stand as hypotheses of each. -/
import Derived.Test.YtboedaofbchdkaaDoorDraw
namespace Go.Proofs.YtboedaofbchdkaaDoor
open Go.ChangeShapes Go.WideShapes Go.ChangeAt Go.RowKit
set_option linter.unusedVariables false
set_option maxRecDepth 8000

theorem eqIntS_own (v u : Value) (ns : List Int) (B C : Nat) (w : World) (hm : ns.length ≤ 1048576) (h : OwnN w B v ns) (k : OwnN w C u ns) :
    Calls Tryd.prog 42 #[v, u] w fun e w' => e = .returned (.bool true) ∧ Below w.heap.size w w' := by
  obtain ⟨a, cap, rfl, _, _, hr, _⟩ := h.rd
  obtain ⟨b, cap2, rfl, _, _, hr2, _⟩ := k.rd
  exact eqIntS_same a b ns.length cap cap2 ns w rfl (by omega) hr hr2

theorem OwnN.apart {w w' : World} {B C : Nat} {v u : Value} {ns ms : List Int} (h : OwnN w B v ns) (k : OwnN w C u ms) (hg : w.grownBy w' u.ownBlock) (hlt : ∀ g, v.ownBlock = some g → g < C) : OwnN w' B v ns :=
  h.keep fun g hv hl => hg.block g hl (fun e => by have := (k.lt e.symm).1; have := hlt g hv; omega)

set_option maxHeartbeats 400000 in
theorem toIntS_any (a : Option Addr) (len cap : Nat) (xs : List Int) (w : World) (hl : xs.length = len) (hm : len ≤ 1048576) (hr : RdN w a xs) :
    Calls Tryd.prog 36 #[.slice a len cap] w fun e w' => ∃ v, e = .returned v ∧ OwnN w' w.heap.size v xs ∧ Below w.heap.size w w' := by
  have hmk := run_make_row' (P := Tryd.prog) 25 3 (.int .i64 0) 8 Tryd.underlying25 info3 rfl .i64 .i64 len (by omega) (by omega)
  go_enter Tryd.func36, Tryd.ntmps36
  go_wp2
  go_loopw [4] (fun i wr => ∃ k : Nat, k ≤ len ∧ i = .int .i64 k ∧ wr.rowIs w.heap.size 3 len (fun j => if j < k then .int .i64 (nAt xs j) else .int .i64 0) ∧ Below w.heap.size w wr) (fun i _ => len - (intOf i).toNat)
  case atStart => exact ⟨0, Nat.zero_le _, rfl, (World.rowIs_made w (.int .i64 0) len 3).congr (fun i hi => by simp), (Below.refl _ _).alloc (Nat.le_refl _) _⟩
  case round =>
    obtain ⟨k, hk, rfl, hrow, hbel⟩ := hrel
    by_cases hlt : k < len
    · rcases hr with rfl | ⟨b, off, rfl, hb, hc⟩
      · simp at hl; omega
      have hcx : wr.cell? ⟨b, off + k, none⟩ = some (.int .i64 (nAt xs k)) := (hbel.cell (p := ⟨b, off + k, none⟩) hb).trans (hc k (by omega))
      have hfz := hrow.frozen k
      have hco := hrow.cell hlt
      have hR := (hrow.set k (.int .i64 (nAt xs k))).congr (g := fun j => if j < k + 1 then .int .i64 (nAt xs j) else .int .i64 0) (fun j hj => by
        by_cases e : j = k
        · simp [e]
        · by_cases e2 : j < k
          · simp [e, e2, show j < k + 1 by omega]
          · simp [e, e2, show ¬ j < k + 1 by omega])
      have hB := hbel.setCell (p := ⟨w.heap.size, k, none⟩) (Nat.le_refl _) (.int .i64 (nAt xs k))
      clear hrow hbel
      go_wp2
      go_roundw
      case rel => exact ⟨k + 1, by omega, by go_num, hR, hB⟩
      case measure => simp [intOf]; omega
    · have hR := hrow.congr (g := fun j => .int .i64 (nAt xs j)) (fun j hj => by simp [show j < k by omega])
      clear hrow
      go_wp2
      go_ret
      refine ⟨.slice (some ⟨w.heap.size, 0, none⟩) len len, rfl, ?_, hbel⟩
      obtain ⟨c, hc, hs, hv⟩ := hR
      refine ⟨by rw [cellsN_length]; omega, .inr ⟨w.heap.size, len, c, by rw [hl], Nat.le_refl _, hc, by omega, by unfold maxLen; omega, by omega, ?_⟩⟩
      rw [hl, Nat.mul_one, List.take_of_length_le (by simp; omega)]
      apply List.ext_getElem?
      intro i
      by_cases hi : i < len
      · rw [Array.getElem?_toList, hv i hi]
        simp only [cellsN, List.getElem?_map, List.getElem?_eq_getElem (show i < xs.length by omega), Option.map_some, nAt, List.getD_eq_getElem?_getD, Option.getD_some]
      · rw [List.getElem?_eq_none (by simp; omega), List.getElem?_eq_none (by rw [cellsN_length]; omega)]

def Bds (ns : List Int) : Prop := ∀ i, i < ns.length → -9223372036854775808 ≤ nAt ns i ∧ nAt ns i ≤ 9223372036854775807

theorem rdN_of_row {w : World} {a : Option Addr} {len cap : Nat} {zs : List Int} (h : IsRow .i64 w a len cap zs) :
    ∃ ns : List Int, ns.length = len ∧ len ≤ cap ∧ cap ≤ maxLen ∧ RdN w a ns ∧ Bds ns := by
  rcases h with ⟨rfl, rfl, rfl, rfl⟩ | ⟨x, rfl, hl, hm, hz, hcell, hwz⟩
  · exact ⟨[], rfl, Nat.le_refl _, by unfold maxLen; omega, .inl rfl, fun i hi => by simp at hi⟩
  · have hat : ∀ i, i < len → nAt (zs.take len) i = zs.getD i 0 := fun i hi => by
      unfold nAt
      rw [List.getD_eq_getElem?_getD, List.getD_eq_getElem?_getD, List.getElem?_take, if_pos hi]
    refine ⟨zs.take len, by simp; omega, hl, hm, ?_, fun i hi => ?_⟩
    · by_cases h0 : len = 0
      · left; simp [h0]
      · right
        obtain ⟨b, off, spot⟩ := x
        have h00 := hcell 0 (by omega)
        have hspot : spot = none := by simpa [Addr.add] using World.cell?_spot h00
        subst hspot
        refine ⟨b, off, rfl, World.block_lt_of_cell? w _ h00, fun i hi => ?_⟩
        have hi' : i < len := by simp at hi; omega
        have := hcell i (by omega)
        rw [hat i hi']
        exact (show w.cell? ⟨b, off + i, none⟩ = _ by have h2 := this; unfold Addr.add at h2; by_cases hi0 : i = 0 <;> simpa [hi0] using h2)
    · have hi' : i < len := by simp at hi; omega
      rw [hat i hi']
      have := bounds_i64 (hwz (zs.getD i 0) (by rw [List.getD_eq_getElem?_getD, List.getElem?_eq_getElem (by omega)]; exact List.getElem_mem _))
      omega

end Go.Proofs.YtboedaofbchdkaaDoor
