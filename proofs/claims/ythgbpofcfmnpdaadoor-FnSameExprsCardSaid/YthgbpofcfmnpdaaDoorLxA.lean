/- Reading a line, as data: runs, one token, all tokens; no condition but what stands as hypotheses. -/
import Derived.Test.YthgbpofcfmnpdaaDoorLiD
import Derived.Test.YthgbpofcfmnpdaaDoorPoT
namespace Go.Proofs.YthgbpofcfmnpdaaDoor
open Go.ChangeShapes Go.WideShapes Go.ChangeAt Go.RowKit
set_option linter.unusedVariables false
set_option maxRecDepth 8000

/-- The place behind the bytes that go on from a place. -/
def runN (p : Int → Bool) (l : List UInt8) (at_ : Nat) : Nat := at_ + ((l.drop at_).takeWhile (fun c => p (c.toNat : Int))).length
theorem drop_bAt {l : List UInt8} {k : Nat} (h : k < l.length) : l.drop k = (l.getD k 0) :: l.drop (k + 1) := by
  rw [List.drop_eq_getElem_cons h, List.getD_eq_getElem?_getD, List.getElem?_eq_getElem h]
  rfl
theorem runN_yes {p : Int → Bool} {l : List UInt8} {k : Nat} (h : k < l.length) (hp : p (bAt l k) = true) : runN p l k = runN p l (k + 1) := by
  unfold runN
  rw [drop_bAt h, List.takeWhile_cons]
  unfold bAt at hp
  rw [hp]
  simp only [if_true, List.length_cons]
  omega
theorem runN_no {p : Int → Bool} {l : List UInt8} {k : Nat} (h : k < l.length) (hp : p (bAt l k) = false) : runN p l k = k := by
  unfold runN
  rw [drop_bAt h, List.takeWhile_cons]
  unfold bAt at hp
  rw [hp]
  rfl
theorem runN_end {p : Int → Bool} {l : List UInt8} {k : Nat} (h : l.length ≤ k) : runN p l k = k := by
  unfold runN
  rw [List.drop_eq_nil_of_le h]
  rfl
theorem runN_le {p : Int → Bool} {l : List UInt8} {k : Nat} (h : k ≤ l.length) : k ≤ runN p l k ∧ runN p l k ≤ l.length := by
  unfold runN
  have h1 := (List.takeWhile_prefix (l := l.drop k) (fun c => p (c.toNat : Int))).length_le
  rw [List.length_drop] at h1
  omega
/-- A number's digits, read, or none. -/
def numV (x : ByteArray) : Option Nat := if (decide ((ov x.data.toList).toNat < 65536) && eqS x (strOf (octD (ov x.data.toList).toNat))) = true then some (ov x.data.toList).toNat else none
theorem numV_yes {x : ByteArray} {m : Nat} (hm : m < 65536) (hx : x = strOf (octD m)) : numV x = some m := by
  have e : (ov x.data.toList).toNat = m := by rw [hx, strOf_list, octD_ov]; exact Int.toNat_natCast m
  unfold numV
  rw [e, decide_eq_true hm, (eqS_iff _ _).2 hx]
  rfl
theorem numV_no {x : ByteArray} (h : ∀ m, m < 65536 → x ≠ strOf (octD m)) : numV x = none := by
  unfold numV
  rw [if_neg]
  intro hc
  rw [Bool.and_eq_true, decide_eq_true_eq, eqS_iff] at hc
  exact h _ hc.1 hc.2
theorem numV_bd {x : ByteArray} {m : Nat} (h : numV x = some m) : m < 65536 ∧ x = strOf (octD m) := by
  unfold numV at h
  split at h
  · rename_i hc
    rw [Bool.and_eq_true, decide_eq_true_eq, eqS_iff] at hc
    cases h
    exact hc
  · cases h
def wordT (x : ByteArray) : Tk := if keptB x = true then ⟨5, 0, x⟩ else ⟨1, 0, x⟩
/-- A number's token; n: what stands there if the digits are none. -/
def numT (bad : Tk) (x : ByteArray) : Tk := match numV x with
  | some m => ⟨2, m, ⟨#[]⟩⟩
  | none => bad
def badS : Tk := ⟨2, -1, ⟨#[]⟩⟩
def badI : Tk := ⟨0, 0, ⟨#[]⟩⟩
theorem badS_ok : badS.ok = false := by decide
theorem badI_ok : badI.ok = false := by decide
/-- The place behind the token that begins at a place. -/
def oneE (s : ByteArray) (k : Nat) : Nat :=
  if smB (bAt s.data.toList k) = true then runN ldB s.data.toList k
  else if dgB (bAt s.data.toList k) = true then runN dgB s.data.toList k
  else if (bAt s.data.toList k == 46 && (decide (k + 1 < s.size) && smB (bAt s.data.toList (k + 1)))) = true then runN ldB s.data.toList (k + 1)
  else k + 1
/-- The token that begins at a place. -/
def oneT (bad : Tk) (s : ByteArray) (k : Nat) : Tk :=
  if smB (bAt s.data.toList k) = true then wordT (s.extract k (oneE s k))
  else if dgB (bAt s.data.toList k) = true then numT bad (s.extract k (oneE s k))
  else if (bAt s.data.toList k == 46 && (decide (k + 1 < s.size) && smB (bAt s.data.toList (k + 1)))) = true then ⟨3, 0, s.extract k (oneE s k)⟩
  else ⟨4, 0, s.extract k (oneE s k)⟩
theorem ld_of_sm {c : Int} (h : smB c = true) : ldB c = true := by unfold ldB; rw [h]; rfl
theorem oneE_bd (s : ByteArray) (k : Nat) (h : k < s.size) : k < oneE s k ∧ oneE s k ≤ s.size := by
  have hl := size_len s
  have hk : k < s.data.toList.length := by omega
  unfold oneE
  split
  · rename_i h1
    rw [runN_yes hk (ld_of_sm h1)]
    have := runN_le (p := ldB) (l := s.data.toList) (k := k + 1) (by omega)
    omega
  · split
    · rename_i h1
      rw [runN_yes hk h1]
      have := runN_le (p := dgB) (l := s.data.toList) (k := k + 1) (by omega)
      omega
    · split
      · have := runN_le (p := ldB) (l := s.data.toList) (k := k + 1) (by omega)
        omega
      · omega
theorem oneT_same (a b : Tk) (ha : a.ok = false) (hb : b.ok = false) (s : ByteArray) (k : Nat) : (oneT a s k).ok = (oneT b s k).ok ∧ ((oneT b s k).ok = true → oneT a s k = oneT b s k) := by
  unfold oneT
  split
  · exact ⟨rfl, fun _ => rfl⟩
  · split
    · unfold numT
      cases numV (s.extract k (oneE s k)) with
      | some m => exact ⟨rfl, fun _ => rfl⟩
      | none => exact ⟨ha.trans hb.symm, fun h => by rw [hb] at h; cases h⟩
    · exact ⟨rfl, fun _ => rfl⟩
/-- The same, by so many steps. -/
def lexG (s : ByteArray) : Nat → Nat → List Tk → List Tk × Bool
  | 0, _, acc => (acc, true)
  | n + 1, k, acc =>
    if k < s.size then
      if bAt s.data.toList k = 59 then (acc, true)
      else if blB (bAt s.data.toList k) = true then lexG s n (k + 1) acc
      else if ((!(oneT badS s k).ok) || acc.length == 800) = true then ([], false)
      else lexG s n (oneE s k) (acc ++ [oneT badS s k])
    else (acc, true)
/-- More steps than bytes are left change nothing. -/
theorem lexG_more (s : ByteArray) : ∀ (n m k : Nat) (acc : List Tk), s.size - k ≤ n → s.size - k ≤ m → lexG s n k acc = lexG s m k acc := by
  intro n
  induction n with
  | zero =>
    intro m k acc hn hm
    have hk : ¬ k < s.size := by omega
    cases m with
    | zero => rfl
    | succ m => simp only [lexG, if_neg hk]
  | succ n ih =>
    intro m k acc hn hm
    by_cases hk : k < s.size
    · cases m with
      | zero => omega
      | succ m =>
        have := oneE_bd s k hk
        simp only [lexG]
        rw [ih m (k + 1) acc (by omega) (by omega), ih m (oneE s k) (acc ++ [oneT badS s k]) (by omega) (by omega)]
    · cases m with
      | zero => simp only [lexG, if_neg hk]
      | succ m => simp only [lexG, if_neg hk]
/-- What Lex answers, from a place on, behind so many tokens. -/
def lexR (s : ByteArray) (k : Nat) (acc : List Tk) : List Tk × Bool := lexG s (s.size - k) k acc
theorem lexR_eq (s : ByteArray) (k : Nat) (acc : List Tk) : lexR s k acc = if k < s.size then if bAt s.data.toList k = 59 then (acc, true) else if blB (bAt s.data.toList k) = true then lexR s (k + 1) acc else if ((!(oneT badS s k).ok) || acc.length == 800) = true then ([], false) else lexR s (oneE s k) (acc ++ [oneT badS s k]) else (acc, true) := by
  by_cases hk : k < s.size
  · have hb := oneE_bd s k hk
    unfold lexR
    obtain ⟨n, hn⟩ : ∃ n, s.size - k = n + 1 := ⟨s.size - k - 1, by omega⟩
    rw [hn]
    simp only [lexG]
    rw [lexG_more s n (s.size - (k + 1)) (k + 1) acc (by omega) (by omega), lexG_more s n (s.size - oneE s k) (oneE s k) (acc ++ [oneT badS s k]) (by omega) (by omega)]
  · unfold lexR
    have e : s.size - k = 0 := by omega
    rw [e, if_neg hk]
    rfl
theorem lexR_end {s : ByteArray} {k : Nat} {acc : List Tk} (h : ¬ k < s.size) : lexR s k acc = (acc, true) := by rw [lexR_eq, if_neg h]
theorem lexR_semi {s : ByteArray} {k : Nat} {acc : List Tk} (h : k < s.size) (h1 : bAt s.data.toList k = 59) : lexR s k acc = (acc, true) := by rw [lexR_eq, if_pos h, if_pos h1]
theorem lexR_blank {s : ByteArray} {k : Nat} {acc : List Tk} (h : k < s.size) (h1 : bAt s.data.toList k ≠ 59) (h2 : blB (bAt s.data.toList k) = true) : lexR s k acc = lexR s (k + 1) acc := by rw [lexR_eq, if_pos h, if_neg h1, if_pos h2]
theorem lexR_bad {s : ByteArray} {k : Nat} {acc : List Tk} (h : k < s.size) (h1 : bAt s.data.toList k ≠ 59) (h2 : blB (bAt s.data.toList k) = false) (h3 : (oneT badS s k).ok = false ∨ acc.length = 800) : lexR s k acc = ([], false) := by
  rw [lexR_eq, if_pos h, if_neg h1, if_neg (by rw [h2]; decide), if_pos]
  rcases h3 with h | h
  · rw [h]; rfl
  · rw [h]; simp
theorem lexR_next {s : ByteArray} {k : Nat} {acc : List Tk} (h : k < s.size) (h1 : bAt s.data.toList k ≠ 59) (h2 : blB (bAt s.data.toList k) = false) (h3 : (oneT badS s k).ok = true) (h4 : acc.length ≠ 800) : lexR s k acc = lexR s (oneE s k) (acc ++ [oneT badS s k]) := by
  rw [lexR_eq, if_pos h, if_neg h1, if_neg (by rw [h2]; decide), if_neg]
  rw [h3]
  simp [h4]
end Go.Proofs.YthgbpofcfmnpdaaDoor
