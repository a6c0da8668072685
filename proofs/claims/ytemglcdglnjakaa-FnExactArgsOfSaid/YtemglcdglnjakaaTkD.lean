/- Kept words by the program's tables; marks; a text behind a dot; over this seat's translation; conditions stand as hypotheses of each. -/
import Derived.Test.YtemglcdglnjakaaTkC
import Derived.WalkMore
namespace Go.Proofs.Ytemglcdglnjakaa
open Go.ChangeShapes Go.WideShapes Go.ChangeAt Go.RowKit
set_option linter.unusedVariables false
set_option maxRecDepth 8000

def opC : Array Value := (opL.map Value.string).toArray
def rgC : Array Value := (wRg.map Value.string).toArray
/-- The marks. -/
def mkL : List UInt8 := [58, 61, 44, 40, 41, 43, 45, 42, 47, 38, 124, 35, 64, 46, 60, 62]
def mkA : ByteArray := ⟨#[58, 61, 44, 40, 41, 43, 45, 42, 47, 38, 124, 35, 64, 46, 60, 62]⟩
/-- Is a text a mark? -/
def markB : List UInt8 → Bool
  | [c] => mkL.contains c
  | _ => false
theorem mkA_sub (k : Nat) (h : k < 16) : (mkA.extract k (k + 1)).data.toList = [mkL.getD k 0] := by
  have hk : k = 0 ∨ k = 1 ∨ k = 2 ∨ k = 3 ∨ k = 4 ∨ k = 5 ∨ k = 6 ∨ k = 7 ∨ k = 8 ∨ k = 9 ∨ k = 10 ∨ k = 11 ∨ k = 12 ∨ k = 13 ∨ k = 14 ∨ k = 15 := by omega
  rcases hk with rfl | rfl | rfl | rfl | rfl | rfl | rfl | rfl | rfl | rfl | rfl | rfl | rfl | rfl | rfl | rfl <;> decide +kernel
theorem markB_hit {s : ByteArray} {k : Nat} (h : k < 16) (he : eqS s (mkA.extract k (k + 1)) = true) : markB s.data.toList = true := by
  rw [eqS_iff] at he
  rw [he, mkA_sub k h]
  show mkL.contains _ = true
  rw [List.contains_iff_mem, List.getD_eq_getElem?_getD, List.getElem?_eq_getElem (show k < mkL.length from h)]
  exact List.getElem_mem _
theorem markB_miss {s : ByteArray} (h : ∀ k, k < 16 → eqS s (mkA.extract k (k + 1)) = false) : markB s.data.toList = false := by
  cases hm : markB s.data.toList
  · rfl
  · exfalso
    match hl : s.data.toList, hm with
    | [c], hm =>
      have hm' : mkL.contains c = true := hm
      rw [List.contains_iff_mem] at hm'
      obtain ⟨k, hk, rfl⟩ := List.getElem_of_mem hm'
      have hk' : k < 16 := hk
      have e : s = mkA.extract k (k + 1) := by
        apply bytes_inj
        rw [hl, mkA_sub k hk', List.getD_eq_getElem?_getD, List.getElem?_eq_getElem hk]
        rfl
      have := h k hk'
      rw [(eqS_iff _ _).2 e] at this
      cases this
end Go.Proofs.Ytemglcdglnjakaa
