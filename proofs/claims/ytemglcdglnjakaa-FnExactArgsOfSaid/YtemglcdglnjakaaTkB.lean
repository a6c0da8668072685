/- What a token is; letters, digits, a name's form: the program's and the model's contracts; over this seat's translation; conditions stand as hypotheses of each. -/
import Derived.Test.YtemglcdglnjakaaOctT
import Derived.Lib.Bytealg
import Derived.Laws.Strings3
namespace Go.Proofs.Ytemglcdglnjakaa
open Go.ChangeShapes Go.WideShapes Go.ChangeAt Go.RowKit
set_option linter.unusedVariables false
set_option maxRecDepth 8000

def smB (c : Int) : Bool := inB c 97 122
def dgB (c : Int) : Bool := inB c 48 57
def ldB (c : Int) : Bool := smB c || dgB c
def blB (c : Int) : Bool := c == 32 || c == 9

/-- May this byte stand in a name's form? -/
def okAt (l : List UInt8) (i : Nat) : Bool := smB (bAt l i) || (decide (0 < i) && dgB (bAt l i))
/-- Has a text a name's form? -/
def formB (l : List UInt8) : Bool := (List.range l.length).all (okAt l) && inB l.length 1 6
theorem formB_no {l : List UInt8} {k : Nat} (h : k < l.length) (hk : okAt l k = false) : formB l = false := by
  unfold formB
  have : (List.range l.length).all (okAt l) = false := by
    rw [List.all_eq_false]
    exact ⟨k, List.mem_range.2 h, by rw [hk]; decide⟩
  rw [this, Bool.false_and]
theorem formB_all {l : List UInt8} (h : ∀ k, k < l.length → okAt l k = true) : formB l = inB l.length 1 6 := by
  unfold formB
  have : (List.range l.length).all (okAt l) = true := by
    rw [List.all_eq_true]
    exact fun k hk => h k (List.mem_range.1 hk)
  rw [this, Bool.true_and]
theorem formB_len {l : List UInt8} (h : ¬ (1 ≤ l.length ∧ l.length ≤ 6)) : formB l = false := by
  unfold formB
  rw [inB_f _ _ _ (by omega), Bool.and_false]
theorem size_len (s : ByteArray) : s.data.toList.length = s.size := by simp
theorem empty_of (s : ByteArray) (h : s.size = 0) : s = ⟨#[]⟩ := by apply ByteArray.ext; exact Array.eq_empty_of_size_eq_zero h
theorem emp_no (s : ByteArray) (h : s.size ≠ 0) : s.toList.isEmpty = false := by
  rw [← decide_eq_emptyBytes]
  exact decide_eq_false (fun e => h (by rw [e]; rfl))

end Go.Proofs.Ytemglcdglnjakaa
