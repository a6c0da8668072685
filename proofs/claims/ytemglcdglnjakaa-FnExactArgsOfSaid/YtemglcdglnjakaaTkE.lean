/- Marks and a text behind a dot by the program; TokenOk, the program's and the model's; over this seat's translation; conditions stand as hypotheses of each. -/
import Derived.Test.YtemglcdglnjakaaTkD
import Derived.Laws.ResultCell
namespace Go.Proofs.Ytemglcdglnjakaa
open Go.ChangeShapes Go.WideShapes Go.ChangeAt Go.RowKit
set_option linter.unusedVariables false
set_option maxRecDepth 8000

def ixM (c : UInt8) : Int := Lib.indexByte mkL c
theorem ixM_fin : ∀ i : Fin 256, (-1 ≤ ixM (UInt8.ofNat i.val)) ∧ decide (0 ≤ ixM (UInt8.ofNat i.val)) = mkL.contains (UInt8.ofNat i.val) := by decide +kernel
theorem ixM_all (c : UInt8) : -1 ≤ ixM c ∧ decide (0 ≤ ixM c) = mkL.contains c := by
  have h := ixM_fin ⟨c.toNat, c.toNat_lt⟩
  have e : UInt8.ofNat c.toNat = c := UInt8.ofNat_toNat
  simp only [e] at h
  exact h
theorem one_of (s : ByteArray) (h : s.size = 1) : s.data.toList = [s.data.toList.getD 0 0] := by
  have hl := size_len s
  match hs : s.data.toList with
  | [] => rw [hs] at hl; simp at hl; omega
  | [c] => rfl
  | _ :: _ :: _ => rw [hs] at hl; simp at hl; omega

/-- A dot and a name's form. -/
def dotB : List UInt8 → Bool
  | 46 :: t => formB t
  | _ => false
theorem dotB_cons (c : UInt8) (t : List UInt8) : dotB (c :: t) = (c == 46 && formB t) := by
  by_cases h : c = 46
  · subst h; rfl
  · rw [beq_eq_false_iff_ne.2 h, Bool.false_and]
    unfold dotB
    split
    · rename_i e; exact absurd (List.cons.inj e).1 h
    · rfl
theorem rest_of (s : ByteArray) : (s.extract 1 s.size).data.toList = s.data.toList.drop 1 := by
  rw [ByteArray.data_extract, Array.toList_extract, List.extract_eq_take_drop]
  rw [List.take_of_length_le]
  rw [List.length_drop, size_len]
  omega
theorem head_of (s : ByteArray) (h : s.size ≠ 0) : s.data.toList = s.data.toList.getD 0 0 :: s.data.toList.drop 1 := by
  have hl := size_len s
  match hs : s.data.toList with
  | [] => rw [hs] at hl; simp at hl; omega
  | _ :: _ => rfl
theorem rest_size (s : ByteArray) : (s.extract 1 s.size).size = s.size - 1 := by
  rw [← size_len, rest_of, List.length_drop, size_len]
theorem first_of (s : ByteArray) (h : s.size ≠ 0) : (s.extract 0 1).data.toList = [s.data.toList.getD 0 0] := by
  rw [ByteArray.data_extract, Array.toList_extract, List.extract_eq_take_drop, List.drop_zero]
  rw [head_of s h]
  rfl
theorem dot_eq (s : ByteArray) (h : s.size ≠ 0) : eqS (s.extract 0 1) ⟨#[46]⟩ = (bAt s.data.toList 0 == 46) := by
  rw [Bool.eq_iff_iff, eqS_iff, beq_iff_eq]
  unfold bAt
  constructor
  · intro e
    have := first_of s h
    rw [e] at this
    have h2 : (46 : UInt8) = s.data.toList.getD 0 0 := by simpa using this
    rw [← h2]; rfl
  · intro e
    apply bytes_inj
    rw [first_of s h]
    have : s.data.toList.getD 0 0 = 46 := by
      apply UInt8.toNat_inj.1
      show _ = 46
      omega
    rw [this]
/-- A token. -/
structure Tk where
  k : Int
  n : Int
  s : ByteArray
def Tk.cs (t : Tk) : Array Value := #[.int .i64 t.k, .int .i64 t.n, .string t.s]
def Tk.v (t : Tk) : Value := .agg t.cs
def nameB (s : ByteArray) : Bool := formB s.data.toList && !keptB s
/-- Is a token right? -/
def Tk.ok (t : Tk) : Bool :=
  if t.k == 2 then inB t.n 0 65535 && decide (t.s.size = 0)
  else if t.n != 0 then false
  else if t.k == 1 then nameB t.s
  else if t.k == 3 then dotB t.s.data.toList
  else if t.k == 4 then markB t.s.data.toList
  else if t.k == 5 then keptB t.s
  else false
theorem box3 (w : World) (t : Tk) (ty : TypeId) : (w.alloc (.cells t.cs ty)).cell? ⟨w.heap.size, 0, none⟩ = some (.int .i64 t.k) ∧ (w.alloc (.cells t.cs ty)).cell? ⟨w.heap.size, 1, none⟩ = some (.int .i64 t.n) ∧ (w.alloc (.cells t.cs ty)).cell? ⟨w.heap.size, 2, none⟩ = some (.string t.s) := by
  refine ⟨?_, ?_, ?_⟩ <;> (rw [World.cell?_alloc_at _ _ _ _ rfl]; rfl)
theorem below_new (w : World) (o : Obj) : Below w.heap.size w (w.alloc o) := (Below.refl _ _).alloc (Nat.le_refl _) _
theorem emp_yes (s : ByteArray) (h : s.size = 0) : s.toList.isEmpty = true := by rw [← decide_eq_emptyBytes]; exact decide_eq_true (empty_of s h)
end Go.Proofs.Ytemglcdglnjakaa
