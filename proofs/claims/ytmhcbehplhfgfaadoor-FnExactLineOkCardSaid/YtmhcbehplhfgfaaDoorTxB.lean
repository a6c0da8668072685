/- Contracts over this seat's translation, laid together; conditions stand as hypotheses of each. -/
import Derived.Test.YtmhcbehplhfgfaaDoorTxA
import Derived.Deep.RegionWith
import Derived.Laws.Tables
import Derived.Test.YtmhcbehplhfgfaaDoorProg
import Derived.Deep.Slices
import Derived.Lib.SmallJoins
import Derived.Laws.OwnMore
import Derived.Laws.Rows
import Derived.Lib.Builder
import Derived.Deep.RegionHeld

namespace Go.Proofs.YtmhcbehplhfgfaaDoor
open Go.ChangeShapes Go.WideShapes Go.ChangeAt Go.RowKit
set_option linter.unusedVariables false
set_option maxRecDepth 8000

/-- The place behind the bytes that go on from a place. -/
def runN (p : Int → Bool) (l : List UInt8) (at_ : Nat) : Nat := at_ + ((l.drop at_).takeWhile (fun c => p (c.toNat : Int))).length
theorem drop_bAt {l : List UInt8} {k : Nat} (h : k < l.length) : l.drop k = (l.getD k 0) :: l.drop (k + 1) := by
  rw [List.drop_eq_getElem_cons h, List.getD_eq_getElem?_getD, List.getElem?_eq_getElem h]
  rfl
theorem runN_yes {p : Int → Bool} {l : List UInt8} {k : Nat} (h : k < l.length) (hp : p (bAt l k) = true) : runN p l k = runN p l (k + 1) := by
  unfold runN
  rw [drop_bAt h, List.takeWhile_cons]
  unfold bAt at hp
  rw [hp]
  simp only [if_true, List.length_cons]
  omega
theorem runN_no {p : Int → Bool} {l : List UInt8} {k : Nat} (h : k < l.length) (hp : p (bAt l k) = false) : runN p l k = k := by
  unfold runN
  rw [drop_bAt h, List.takeWhile_cons]
  unfold bAt at hp
  rw [hp]
  rfl
theorem runN_end {p : Int → Bool} {l : List UInt8} {k : Nat} (h : l.length ≤ k) : runN p l k = k := by
  unfold runN
  rw [List.drop_eq_nil_of_le h]
  rfl
theorem runN_le {p : Int → Bool} {l : List UInt8} {k : Nat} (h : k ≤ l.length) : k ≤ runN p l k ∧ runN p l k ≤ l.length := by
  unfold runN
  have h1 := (List.takeWhile_prefix (l := l.drop k) (fun c => p (c.toNat : Int))).length_le
  rw [List.length_drop] at h1
  omega
/-- A number's digits, read, or none. -/
def numV (x : ByteArray) : Option Nat := if (decide ((ov x.data.toList).toNat < 65536) && eqS x (strOf (octD (ov x.data.toList).toNat))) = true then some (ov x.data.toList).toNat else none
theorem numV_yes {x : ByteArray} {m : Nat} (hm : m < 65536) (hx : x = strOf (octD m)) : numV x = some m := by
  have e : (ov x.data.toList).toNat = m := by rw [hx, strOf_list, octD_ov]; exact Int.toNat_natCast m
  unfold numV
  rw [e, decide_eq_true hm, (eqS_iff _ _).2 hx]
  rfl
theorem numV_no {x : ByteArray} (h : ∀ m, m < 65536 → x ≠ strOf (octD m)) : numV x = none := by
  unfold numV
  rw [if_neg]
  intro hc
  rw [Bool.and_eq_true, decide_eq_true_eq, eqS_iff] at hc
  exact h _ hc.1 hc.2
theorem numV_bd {x : ByteArray} {m : Nat} (h : numV x = some m) : m < 65536 ∧ x = strOf (octD m) := by
  unfold numV at h
  split at h
  · rename_i hc
    rw [Bool.and_eq_true, decide_eq_true_eq, eqS_iff] at hc
    cases h
    exact hc
  · cases h
def wordT (x : ByteArray) : Tk := if keptB x = true then ⟨5, 0, x⟩ else ⟨1, 0, x⟩
/-- A number's token; n: what stands there if the digits are none. -/
def numT (bad : Tk) (x : ByteArray) : Tk := match numV x with
  | some m => ⟨2, m, ⟨#[]⟩⟩
  | none => bad
def badS : Tk := ⟨2, -1, ⟨#[]⟩⟩
def badI : Tk := ⟨0, 0, ⟨#[]⟩⟩
theorem badS_ok : badS.ok = false := by decide
theorem badI_ok : badI.ok = false := by decide
/-- The place behind the token that begins at a place. -/
def oneE (s : ByteArray) (k : Nat) : Nat :=
  if smB (bAt s.data.toList k) = true then runN ldB s.data.toList k
  else if dgB (bAt s.data.toList k) = true then runN dgB s.data.toList k
  else if (bAt s.data.toList k == 46 && (decide (k + 1 < s.size) && smB (bAt s.data.toList (k + 1)))) = true then runN ldB s.data.toList (k + 1)
  else k + 1
/-- The token that begins at a place. -/
def oneT (bad : Tk) (s : ByteArray) (k : Nat) : Tk :=
  if smB (bAt s.data.toList k) = true then wordT (s.extract k (oneE s k))
  else if dgB (bAt s.data.toList k) = true then numT bad (s.extract k (oneE s k))
  else if (bAt s.data.toList k == 46 && (decide (k + 1 < s.size) && smB (bAt s.data.toList (k + 1)))) = true then ⟨3, 0, s.extract k (oneE s k)⟩
  else ⟨4, 0, s.extract k (oneE s k)⟩
theorem ld_of_sm {c : Int} (h : smB c = true) : ldB c = true := by unfold ldB; rw [h]; rfl
theorem oneE_bd (s : ByteArray) (k : Nat) (h : k < s.size) : k < oneE s k ∧ oneE s k ≤ s.size := by
  have hl := size_len s
  have hk : k < s.data.toList.length := by omega
  unfold oneE
  split
  · rename_i h1
    rw [runN_yes hk (ld_of_sm h1)]
    have := runN_le (p := ldB) (l := s.data.toList) (k := k + 1) (by omega)
    omega
  · split
    · rename_i h1
      rw [runN_yes hk h1]
      have := runN_le (p := dgB) (l := s.data.toList) (k := k + 1) (by omega)
      omega
    · split
      · have := runN_le (p := ldB) (l := s.data.toList) (k := k + 1) (by omega)
        omega
      · omega
theorem oneT_same (a b : Tk) (ha : a.ok = false) (hb : b.ok = false) (s : ByteArray) (k : Nat) : (oneT a s k).ok = (oneT b s k).ok ∧ ((oneT b s k).ok = true → oneT a s k = oneT b s k) := by
  unfold oneT
  split
  · exact ⟨rfl, fun _ => rfl⟩
  · split
    · unfold numT
      cases numV (s.extract k (oneE s k)) with
      | some m => exact ⟨rfl, fun _ => rfl⟩
      | none => exact ⟨ha.trans hb.symm, fun h => by rw [hb] at h; cases h⟩
    · exact ⟨rfl, fun _ => rfl⟩
/-- The same, by so many steps. -/
def lexG (s : ByteArray) : Nat → Nat → List Tk → List Tk × Bool
  | 0, _, acc => (acc, true)
  | n + 1, k, acc =>
    if k < s.size then
      if bAt s.data.toList k = 59 then (acc, true)
      else if blB (bAt s.data.toList k) = true then lexG s n (k + 1) acc
      else if ((!(oneT badS s k).ok) || acc.length == 800) = true then ([], false)
      else lexG s n (oneE s k) (acc ++ [oneT badS s k])
    else (acc, true)
/-- More steps than bytes are left change nothing. -/
theorem lexG_more (s : ByteArray) : ∀ (n m k : Nat) (acc : List Tk), s.size - k ≤ n → s.size - k ≤ m → lexG s n k acc = lexG s m k acc := by
  intro n
  induction n with
  | zero =>
    intro m k acc hn hm
    have hk : ¬ k < s.size := by omega
    cases m with
    | zero => rfl
    | succ m => simp only [lexG, if_neg hk]
  | succ n ih =>
    intro m k acc hn hm
    by_cases hk : k < s.size
    · cases m with
      | zero => omega
      | succ m =>
        have := oneE_bd s k hk
        simp only [lexG]
        rw [ih m (k + 1) acc (by omega) (by omega), ih m (oneE s k) (acc ++ [oneT badS s k]) (by omega) (by omega)]
    · cases m with
      | zero => simp only [lexG, if_neg hk]
      | succ m => simp only [lexG, if_neg hk]
/-- What Lex answers, from a place on, behind so many tokens. -/
def lexR (s : ByteArray) (k : Nat) (acc : List Tk) : List Tk × Bool := lexG s (s.size - k) k acc
theorem lexR_eq (s : ByteArray) (k : Nat) (acc : List Tk) : lexR s k acc = if k < s.size then if bAt s.data.toList k = 59 then (acc, true) else if blB (bAt s.data.toList k) = true then lexR s (k + 1) acc else if ((!(oneT badS s k).ok) || acc.length == 800) = true then ([], false) else lexR s (oneE s k) (acc ++ [oneT badS s k]) else (acc, true) := by
  by_cases hk : k < s.size
  · have hb := oneE_bd s k hk
    unfold lexR
    obtain ⟨n, hn⟩ : ∃ n, s.size - k = n + 1 := ⟨s.size - k - 1, by omega⟩
    rw [hn]
    simp only [lexG]
    rw [lexG_more s n (s.size - (k + 1)) (k + 1) acc (by omega) (by omega), lexG_more s n (s.size - oneE s k) (oneE s k) (acc ++ [oneT badS s k]) (by omega) (by omega)]
  · unfold lexR
    have e : s.size - k = 0 := by omega
    rw [e, if_neg hk]
    rfl
theorem lexR_end {s : ByteArray} {k : Nat} {acc : List Tk} (h : ¬ k < s.size) : lexR s k acc = (acc, true) := by rw [lexR_eq, if_neg h]
theorem lexR_semi {s : ByteArray} {k : Nat} {acc : List Tk} (h : k < s.size) (h1 : bAt s.data.toList k = 59) : lexR s k acc = (acc, true) := by rw [lexR_eq, if_pos h, if_pos h1]
theorem lexR_blank {s : ByteArray} {k : Nat} {acc : List Tk} (h : k < s.size) (h1 : bAt s.data.toList k ≠ 59) (h2 : blB (bAt s.data.toList k) = true) : lexR s k acc = lexR s (k + 1) acc := by rw [lexR_eq, if_pos h, if_neg h1, if_pos h2]
theorem lexR_bad {s : ByteArray} {k : Nat} {acc : List Tk} (h : k < s.size) (h1 : bAt s.data.toList k ≠ 59) (h2 : blB (bAt s.data.toList k) = false) (h3 : (oneT badS s k).ok = false ∨ acc.length = 800) : lexR s k acc = ([], false) := by
  rw [lexR_eq, if_pos h, if_neg h1, if_neg (by rw [h2]; decide), if_pos]
  rcases h3 with h | h
  · rw [h]; rfl
  · rw [h]; simp
theorem lexR_next {s : ByteArray} {k : Nat} {acc : List Tk} (h : k < s.size) (h1 : bAt s.data.toList k ≠ 59) (h2 : blB (bAt s.data.toList k) = false) (h3 : (oneT badS s k).ok = true) (h4 : acc.length ≠ 800) : lexR s k acc = lexR s (oneE s k) (acc ++ [oneT badS s k]) := by
  rw [lexR_eq, if_pos h, if_neg h1, if_neg (by rw [h2]; decide), if_neg]
  rw [h3]
  simp [h4]
end Go.Proofs.YtmhcbehplhfgfaaDoor

namespace Go.Proofs.YtmhcbehplhfgfaaDoor
open Go.ChangeShapes Go.WideShapes Go.ChangeAt Go.RowKit
set_option linter.unusedVariables false
set_option maxRecDepth 8000

end Go.Proofs.YtmhcbehplhfgfaaDoor

namespace Go.Proofs.YtmhcbehplhfgfaaDoor
open Go.ChangeShapes Go.WideShapes Go.ChangeAt Go.RowKit
set_option linter.unusedVariables false
set_option maxRecDepth 8000

end Go.Proofs.YtmhcbehplhfgfaaDoor

namespace Go.Proofs.YtmhcbehplhfgfaaDoor
open Go.ChangeShapes Go.WideShapes Go.ChangeAt Go.RowKit
set_option linter.unusedVariables false
set_option maxRecDepth 8000

theorem results_row2 {P : Program} {fn : Func} {p u : Tmp} {ty : TypeId} (h : fn.results = #[.cell p ty, .tmp u]) (tmps : Array Value) (w : World) (g : Nat) (t : TypeId) (cs : Array Value) (fr : Nat × Nat) (d : TypeDesc)
    (hp : tmps.getD p undef = .pointer (some ⟨g, 0, none⟩)) (hg : w.heap[g]? = some (.cells cs t fr))
    (hu : P.underlying ty = some d) (hd : (match d with | .struct _ | .array _ _ => true | _ => false) = true) (hi : (P.info? ty).map (·.size) = some cs.size) :
    (results fn tmps).run P w = .ok (.tuple #[.agg cs, tmps.getD u undef]) w := by
  have hp' : tmps[p]?.getD undef = .pointer (some ⟨g, 0, none⟩) := by simpa using hp
  simp [results, h, hp', asAddr, run_loadVar_row w g t ty cs fr d hg hu hd hi]
theorem szK : (Tryd.prog.info? 91).map (·.size) = some 3 := by kernel_rfl
theorem tk_one (k n : Int) (x : ByteArray) : (#[Value.int .i64 k, .int .i64 n, .string x] : Array Value).all (·.oneCell') = true := by simp [Value.oneCell']
def T0c : Array Value := #[.int .i64 0, .int .i64 0, .string ⟨#[]⟩]
theorem wordT_v (x : ByteArray) : (keptB x = true → wordT x = ⟨5, 0, x⟩) ∧ (keptB x = false → wordT x = ⟨1, 0, x⟩) := by
  unfold wordT
  constructor
  · intro h; rw [h]; rfl
  · intro h; rw [h]; rfl
end Go.Proofs.YtmhcbehplhfgfaaDoor

namespace Go.Proofs.YtmhcbehplhfgfaaDoor
open Go.ChangeShapes Go.WideShapes Go.ChangeAt Go.RowKit
set_option linter.unusedVariables false
set_option maxRecDepth 8000

theorem below_row {w w' : World} {cs : Array Value} (h : Below w.heap.size w w') : Below w.heap.size w (w'.setRow w.heap.size cs) :=
  h.trans ⟨rfl, rfl, rfl, by simp [World.setRow], fun k hk => setRow_other _ _ _ _ (by omega)⟩
theorem extract_size (s : ByteArray) (a b : Nat) : (s.extract a b).size ≤ s.size := by
  rw [ByteArray.size_extract]
  omega
theorem numT_some {bad : Tk} {x : ByteArray} {m : Nat} (hm : m < 65536) (hx : x = strOf (octD m)) : numT bad x = ⟨2, m, ⟨#[]⟩⟩ := by unfold numT; rw [numV_yes hm hx]
theorem numT_none {bad : Tk} {x : ByteArray} (h : ∀ m, m < 65536 → x ≠ strOf (octD m)) : numT bad x = bad := by unfold numT; rw [numV_no h]
theorem one_sm {s : ByteArray} {k : Nat} (bad : Tk) (h1 : smB (bAt s.data.toList k) = true) : oneE s k = runN ldB s.data.toList k ∧ oneT bad s k = wordT (s.extract k (oneE s k)) := by
  constructor
  · unfold oneE; rw [if_pos h1]
  · unfold oneT; rw [if_pos h1]
theorem one_dg {s : ByteArray} {k : Nat} (bad : Tk) (h1 : smB (bAt s.data.toList k) = false) (h2 : dgB (bAt s.data.toList k) = true) : oneE s k = runN dgB s.data.toList k ∧ oneT bad s k = numT bad (s.extract k (oneE s k)) := by
  have n1 : ¬ smB (bAt s.data.toList k) = true := by rw [h1]; decide
  constructor
  · unfold oneE; rw [if_neg n1, if_pos h2]
  · unfold oneT; rw [if_neg n1, if_pos h2]
theorem one_dot {s : ByteArray} {k : Nat} (bad : Tk) (h1 : smB (bAt s.data.toList k) = false) (h2 : dgB (bAt s.data.toList k) = false) (h3 : bAt s.data.toList k = 46) (h4 : k + 1 < s.size) (h5 : smB (bAt s.data.toList (k + 1)) = true) : oneE s k = runN ldB s.data.toList (k + 1) ∧ oneT bad s k = ⟨3, 0, s.extract k (oneE s k)⟩ := by
  have n1 : ¬ smB (bAt s.data.toList k) = true := by rw [h1]; decide
  have n2 : ¬ dgB (bAt s.data.toList k) = true := by rw [h2]; decide
  have n3 : (bAt s.data.toList k == 46 && (decide (k + 1 < s.size) && smB (bAt s.data.toList (k + 1)))) = true := by rw [h3, h5, decide_eq_true h4]; rfl
  constructor
  · unfold oneE; rw [if_neg n1, if_neg n2, if_pos n3]
  · unfold oneT; rw [if_neg n1, if_neg n2, if_pos n3]
theorem one_mk {s : ByteArray} {k : Nat} (bad : Tk) (h1 : smB (bAt s.data.toList k) = false) (h2 : dgB (bAt s.data.toList k) = false) (h3 : bAt s.data.toList k = 46 → k + 1 < s.size → smB (bAt s.data.toList (k + 1)) = false) : oneE s k = k + 1 ∧ oneT bad s k = ⟨4, 0, s.extract k (k + 1)⟩ := by
  have n1 : ¬ smB (bAt s.data.toList k) = true := by rw [h1]; decide
  have n2 : ¬ dgB (bAt s.data.toList k) = true := by rw [h2]; decide
  have n3 : ¬ (bAt s.data.toList k == 46 && (decide (k + 1 < s.size) && smB (bAt s.data.toList (k + 1)))) = true := by
    intro h
    rw [Bool.and_eq_true, Bool.and_eq_true, beq_iff_eq, decide_eq_true_eq] at h
    rw [h3 h.1 h.2.1] at h
    exact absurd h.2.2 (by decide)
  have e : oneE s k = k + 1 := by unfold oneE; rw [if_neg n1, if_neg n2, if_neg n3]
  refine ⟨e, ?_⟩
  unfold oneT
  rw [if_neg n1, if_neg n2, if_neg n3, e]
end Go.Proofs.YtmhcbehplhfgfaaDoor

namespace Go.Proofs.YtmhcbehplhfgfaaDoor
open Go.ChangeShapes Go.WideShapes Go.ChangeAt Go.RowKit
set_option linter.unusedVariables false
set_option maxRecDepth 8000

theorem head_bAt {l : List UInt8} {k : Nat} {c : UInt8} {r : List UInt8} (h : l.drop k = c :: r) : k < l.length ∧ bAt l k = (c.toNat : Int) ∧ l.drop (k + 1) = r := by
  have hk : k < l.length := by
    by_cases hk : k < l.length
    · exact hk
    · rw [List.drop_eq_nil_of_le (by omega)] at h; cases h
  refine ⟨hk, ?_, ?_⟩
  · rw [drop_bAt hk] at h
    have e := (List.cons.inj h).1
    unfold bAt
    rw [e]
  · rw [drop_bAt hk] at h
    exact (List.cons.inj h).2
/-- What follows a token: nothing, or a blank. -/
def Gap (r : List UInt8) : Prop := r = [] ∨ ∃ q, r = 32 :: q
theorem runN_all {p : Int → Bool} {l x r : List UInt8} {k : Nat} (h : l.drop k = x ++ r) (hx : ∀ c ∈ x, p (c.toNat : Int) = true) (hr : Gap r) (h32 : p 32 = false) : runN p l k = k + x.length := by
  unfold runN
  rw [h, List.takeWhile_append_of_pos hx]
  have : r.takeWhile (fun c => p (c.toNat : Int)) = [] := by
    rcases hr with rfl | ⟨q, rfl⟩
    · rfl
    · rw [List.takeWhile_cons]
      have e : p ((32 : UInt8).toNat : Int) = false := h32
      rw [e]
      rfl
  rw [this, List.append_nil]
theorem ext_of {s : ByteArray} {x r : List UInt8} {k : Nat} (h : s.data.toList.drop k = x ++ r) : s.extract k (k + x.length) = strOf x := by
  apply bytes_inj
  rw [ByteArray.data_extract, Array.toList_extract, List.extract_eq_take_drop, h, strOf_list, Nat.add_sub_cancel_left, List.take_left]
/-- A name's form, opened. -/
theorem form_open {l : List UInt8} (h : formB l = true) : ∃ c r, l = c :: r ∧ smB (c.toNat : Int) = true ∧ (∀ x ∈ l, ldB (x.toNat : Int) = true) ∧ l.length ≤ 6 := by
  unfold formB at h
  rw [Bool.and_eq_true, inB_iff, List.all_eq_true] at h
  obtain ⟨h1, h2, h3⟩ := h
  match l, h2 with
  | c :: r, _ =>
    refine ⟨c, r, rfl, ?_, ?_, by omega⟩
    · have := h1 0 (List.mem_range.2 (by simp))
      unfold okAt at this
      rw [show decide (0 < 0) = false from rfl, Bool.false_and, Bool.or_false] at this
      exact this
    · intro x hx
      obtain ⟨i, hi, rfl⟩ := List.getElem_of_mem hx
      have := h1 i (List.mem_range.2 hi)
      unfold okAt bAt at this
      rw [List.getD_eq_getElem?_getD, List.getElem?_eq_getElem hi] at this
      simp only [Option.getD_some] at this
      unfold ldB
      rw [Bool.or_eq_true] at this ⊢
      rcases this with h | h
      · exact .inl h
      · rw [Bool.and_eq_true] at h; exact .inr h.2
theorem kept_form : ∀ x ∈ keptL, formB x.data.toList = true := by decide +kernel
theorem ld_32 : ldB 32 = false := by decide
theorem dg_32 : dgB 32 = false := by decide
theorem sm_bd {c : Int} (h : smB c = true) : 97 ≤ c ∧ c ≤ 122 := (inB_iff _ _ _).1 h
theorem dg_bd {c : Int} (h : dgB c = true) : 48 ≤ c ∧ c ≤ 57 := (inB_iff _ _ _).1 h
theorem bl_no {c : Int} (h : c ≠ 32) (h2 : c ≠ 9) : blB c = false := by unfold blB; rw [beq_eq_false_iff_ne.2 h, beq_eq_false_iff_ne.2 h2]; rfl
/-- How a token is read again. -/
def Again (s : ByteArray) (k : Nat) (t : Tk) : Prop := k < s.size ∧ bAt s.data.toList k ≠ 59 ∧ blB (bAt s.data.toList k) = false ∧ oneE s k = k + (tokL t).length ∧ oneT badS s k = t
theorem again_word {s : ByteArray} {k : Nat} {x : ByteArray} {r : List UInt8} {t : Tk} (hf : formB x.data.toList = true) (h : s.data.toList.drop k = x.data.toList ++ r) (hr : Gap r) (ht : tokL t = x.data.toList) (hw : wordT x = t) : Again s k t := by
  obtain ⟨c, q, e, hc, hall, _⟩ := form_open hf
  have h0 : s.data.toList.drop k = c :: (q ++ r) := by rw [h, e]; rfl
  obtain ⟨hk, hb, _⟩ := head_bAt h0
  have hs1 : smB (bAt s.data.toList k) = true := by rw [hb]; exact hc
  have hbd := sm_bd hs1
  obtain ⟨e1, e2⟩ := one_sm badS hs1
  have hrun := runN_all (p := ldB) h hall hr ld_32
  refine ⟨by rw [← size_len]; exact hk, by omega, bl_no (by omega) (by omega), ?_, ?_⟩
  · rw [e1, hrun, ht]
  · rw [e2, e1, hrun, ext_of h, strOf_of, hw]
theorem again_any {s : ByteArray} {k : Nat} {t : Tk} {r : List UInt8} (hok : t.ok = true) (h : s.data.toList.drop k = tokL t ++ r) (hr : Gap r) : Again s k t := by
  obtain ⟨tk, tn, tx⟩ := t
  have hok' := hok
  unfold Tk.ok at hok
  simp only at hok
  by_cases h2 : tk = 2
  · subst h2
    rw [if_pos (by decide), Bool.and_eq_true, inB_iff, decide_eq_true_eq] at hok
    obtain ⟨⟨n0, n1⟩, hz⟩ := hok
    obtain rfl := empty_of tx hz
    obtain ⟨m, rfl⟩ := Int.eq_ofNat_of_zero_le n0
    have hm : ((m : Int) % 65536).toNat = m := by omega
    have hT : tokL ⟨2, (m : Int), ⟨#[]⟩⟩ = octD m := by unfold tokL; rw [if_pos rfl]; simp only [hm]
    rw [hT] at h
    have hne := octD_ne m
    have hd := octD_dig m
    have hall : ∀ c ∈ octD m, dgB (c.toNat : Int) = true := fun c hc => inB_t _ _ _ (by have := (hd c hc).1; omega) (by have := (hd c hc).2; omega)
    match hl : octD m, hne with
    | c :: q, _ =>
      have h0 : s.data.toList.drop k = c :: (q ++ r) := by rw [h, hl]; rfl
      obtain ⟨hk, hb, _⟩ := head_bAt h0
      have hc := hd c (by rw [hl]; exact List.mem_cons_self)
      have hs1 : smB (bAt s.data.toList k) = false := by rw [hb]; exact inB_f _ _ _ (by omega)
      have hs2 : dgB (bAt s.data.toList k) = true := by rw [hb]; exact inB_t _ _ _ (by omega) (by omega)
      obtain ⟨e1, e2⟩ := one_dg badS hs1 hs2
      have hrun := runN_all (p := dgB) h hall hr dg_32
      refine ⟨by rw [← size_len]; exact hk, by omega, bl_no (by omega) (by omega), ?_, ?_⟩
      · rw [e1, hrun, hT]
      · rw [e2, e1, hrun, ext_of h, numT_some (by omega) rfl]
  · have h2b : (tk == 2) = false := beq_eq_false_iff_ne.2 h2
    rw [h2b, if_neg (by decide)] at hok
    have hT : tokL ⟨tk, tn, tx⟩ = tx.data.toList := by unfold tokL; rw [if_neg h2]
    rw [hT] at h
    by_cases hn : tn = 0
    · subst hn
      rw [if_neg (by decide)] at hok
      by_cases h1 : tk = 1
      · subst h1
        rw [if_pos (by decide)] at hok
        unfold nameB at hok
        rw [Bool.and_eq_true, Bool.not_eq_true'] at hok
        exact again_word hok.1 h hr hT ((wordT_v tx).2 hok.2)
      · have h1b : (tk == 1) = false := beq_eq_false_iff_ne.2 h1
        rw [h1b, if_neg (by decide)] at hok
        by_cases h3 : tk = 3
        · subst h3
          rw [if_pos (by decide)] at hok
          match hl : tx.data.toList with
          | [] => rw [hl] at hok; cases hok
          | c0 :: q =>
            rw [hl, dotB_cons, Bool.and_eq_true, beq_iff_eq] at hok
            obtain ⟨rfl, hf⟩ := hok
            obtain ⟨c, q2, e, hc, hall, _⟩ := form_open hf
            have h0 : s.data.toList.drop k = 46 :: (q ++ r) := by rw [h, hl]; rfl
            obtain ⟨hk, hb, hd1⟩ := head_bAt h0
            have h1' : s.data.toList.drop (k + 1) = c :: (q2 ++ r) := by rw [hd1, e]; rfl
            obtain ⟨hk1, hb1, _⟩ := head_bAt h1'
            have hb46 : bAt s.data.toList k = 46 := hb
            have s1 : smB (bAt s.data.toList k) = false := by rw [hb46]; decide
            have s2 : dgB (bAt s.data.toList k) = false := by rw [hb46]; decide
            have s3 : smB (bAt s.data.toList (k + 1)) = true := by rw [hb1]; exact hc
            have hl2 := size_len s
            obtain ⟨e1, e2⟩ := one_dot badS s1 s2 hb46 (by omega) s3
            have hrun := runN_all (p := ldB) hd1 hall hr ld_32
            have hend : oneE s k = k + tx.data.toList.length := by rw [e1, hrun, hl, List.length_cons]; omega
            refine ⟨by omega, by omega, bl_no (by omega) (by omega), ?_, ?_⟩
            · rw [hend, hT]
            · rw [e2, hend, ext_of h, strOf_of]
        · have h3b : (tk == 3) = false := beq_eq_false_iff_ne.2 h3
          rw [h3b, if_neg (by decide)] at hok
          by_cases h4 : tk = 4
          · subst h4
            rw [if_pos (by decide)] at hok
            match hl : tx.data.toList, hok with
            | [c], hok =>
              have hm : mkL.contains c = true := hok
              have h0 : s.data.toList.drop k = c :: r := by rw [h, hl]; rfl
              obtain ⟨hk, hb, hd1⟩ := head_bAt h0
              have fin : ∀ i : Fin 256, mkL.contains (UInt8.ofNat i.val) = true → smB (i.val : Int) = false ∧ dgB (i.val : Int) = false ∧ (i.val : Int) ≠ 59 ∧ blB (i.val : Int) = false := by decide +kernel
              have hf := fin ⟨c.toNat, c.toNat_lt⟩ (by show mkL.contains (UInt8.ofNat c.toNat) = true; rw [UInt8.ofNat_toNat]; exact hm)
              simp only at hf
              rw [← hb] at hf
              have hl2 := size_len s
              obtain ⟨e1, e2⟩ := one_mk badS hf.1 hf.2.1 (fun _ hk1 => by
                rcases hr with rfl | ⟨q, rfl⟩
                · have : s.data.toList.length ≤ k + 1 := by
                    have := congrArg List.length hd1
                    rw [List.length_drop] at this
                    simp at this
                    omega
                  omega
                · obtain ⟨_, hb1, _⟩ := head_bAt hd1
                  rw [hb1]; decide)
              refine ⟨by omega, hf.2.2.1, hf.2.2.2, ?_, ?_⟩
              · rw [e1, hT, hl]; rfl
              · have hx := ext_of h
                rw [hl] at hx
                have hx' : s.extract k (k + 1) = strOf [c] := hx
                rw [e2, hx', ← hl, strOf_of]
          · have h4b : (tk == 4) = false := beq_eq_false_iff_ne.2 h4
            rw [h4b, if_neg (by decide)] at hok
            by_cases h5 : tk = 5
            · subst h5
              rw [if_pos (by decide)] at hok
              have hin : tx ∈ keptL := hasS_iff.1 hok
              exact again_word (kept_form tx hin) h hr hT ((wordT_v tx).1 hok)
            · have h5b : (tk == 5) = false := beq_eq_false_iff_ne.2 h5
              rw [h5b, if_neg (by decide)] at hok
              cases hok
    · have hnb : (tn != 0) = true := by simp [hn]
      rw [hnb, if_pos (by decide)] at hok
      cases hok
end Go.Proofs.YtmhcbehplhfgfaaDoor

namespace Go.Proofs.YtmhcbehplhfgfaaDoor
open Go.ChangeShapes Go.WideShapes Go.ChangeAt Go.RowKit
set_option linter.unusedVariables false
set_option maxRecDepth 8000

def AllOk (ts : List Tk) : Prop := ∀ t ∈ ts, t.ok = true
theorem AllOk.at {ts : List Tk} (h : AllOk ts) {i : Nat} (hi : i < ts.length) : (tAt ts i).ok = true := by
  unfold tAt
  rw [List.getD_eq_getElem?_getD, List.getElem?_eq_getElem hi]
  exact h _ (List.getElem_mem _)
theorem AllOk.snoc {ts : List Tk} {t : Tk} (h : AllOk ts) (ht : t.ok = true) : AllOk (ts ++ [t]) := fun x hx => by
  rcases List.mem_append.1 hx with h1 | h1
  · exact h x h1
  · rw [List.mem_singleton] at h1; rw [h1]; exact ht
theorem kept_small : ∀ x ∈ keptL, x.size ≤ 7 := by decide +kernel
theorem ok_size {t : Tk} (h : t.ok = true) : t.s.size ≤ 7 := by
  obtain ⟨tk, tn, tx⟩ := t
  unfold Tk.ok at h
  simp only at h ⊢
  have hl := size_len tx
  split at h
  · rw [Bool.and_eq_true, decide_eq_true_eq] at h; omega
  · split at h
    · cases h
    · split at h
      · unfold nameB at h
        rw [Bool.and_eq_true] at h
        obtain ⟨_, _, _, _, _, h6⟩ := form_open h.1
        omega
      · split at h
        · match hx : tx.data.toList with
          | [] => rw [hx] at h; cases h
          | c0 :: q =>
            rw [hx, dotB_cons, Bool.and_eq_true] at h
            obtain ⟨_, _, _, _, _, h6⟩ := form_open h.2
            rw [hx, List.length_cons] at hl
            omega
        · split at h
          · match hx : tx.data.toList, h with
            | [c], _ => rw [hx] at hl; simp at hl; omega
          · split at h
            · exact kept_small tx (hasS_iff.1 h)
            · cases h
theorem ok_szL {ts : List Tk} (h : AllOk ts) : szL ts ≤ 7 * ts.length := by
  induction ts with
  | nil => simp [szL]
  | cons t r ih =>
    have h1 := ok_size (h t List.mem_cons_self)
    have h2 := ih (fun x hx => h x (List.mem_cons_of_mem _ hx))
    simp only [szL, List.length_cons]
    omega
/-- What Lex answers is right. -/
theorem lexR_ok (s : ByteArray) : ∀ (n k : Nat) (acc : List Tk), s.size - k ≤ n → AllOk acc → AllOk (lexR s k acc).1 := by
  intro n
  induction n with
  | zero =>
    intro k acc hn h8
    rw [lexR_end (by omega)]
    exact h8
  | succ n ih =>
    intro k acc hn h8
    by_cases hlt : k < s.size
    · by_cases h59 : bAt s.data.toList k = 59
      · rw [lexR_semi hlt h59]; exact h8
      · cases hbl : blB (bAt s.data.toList k)
        · cases hok : (oneT badS s k).ok
          · rw [lexR_bad hlt h59 hbl (.inl hok)]; intro x hx; cases hx
          · by_cases h800 : acc.length = 800
            · rw [lexR_bad hlt h59 hbl (.inr h800)]; intro x hx; cases hx
            · rw [lexR_next hlt h59 hbl hok h800]
              have := oneE_bd s k hlt
              exact ih _ _ (by omega) (h8.snoc hok)
        · rw [lexR_blank hlt h59 hbl]
          exact ih _ _ (by omega) h8
    · rw [lexR_end hlt]; exact h8
theorem lex_ok (s : ByteArray) : AllOk (lexR s 0 []).1 := lexR_ok s s.size 0 [] (by omega) (fun x hx => by cases hx)
theorem line_pre (ts : List Tk) (i : Nat) : ∀ d, ∃ r, lineT ts (i + d) = lineT ts i ++ r
  | 0 => ⟨[], by simp⟩
  | d + 1 => by
    obtain ⟨r, hr⟩ := line_pre ts i d
    refine ⟨r ++ (if i + d = 0 then [] else [32]) ++ tokL (tAt ts (i + d)), ?_⟩
    show lineT ts (i + d) ++ (if i + d = 0 then [] else [32]) ++ tokL (tAt ts (i + d)) = _
    rw [hr]
    simp [List.append_assoc]
theorem line_drop (ts : List Tk) (n i : Nat) (h : i < n) : (lineT ts n).drop (lineT ts i).length = (if i = 0 then [] else [32]) ++ (tokL (tAt ts i) ++ (lineT ts n).drop (lineT ts (i + 1)).length) := by
  obtain ⟨r, hr⟩ := line_pre ts (i + 1) (n - (i + 1))
  have e : i + 1 + (n - (i + 1)) = n := by omega
  rw [e] at hr
  have h1 : (lineT ts n).drop (lineT ts (i + 1)).length = r := by rw [hr, List.drop_left]
  rw [h1, hr]
  show (lineT ts i ++ (if i = 0 then [] else [32]) ++ tokL (tAt ts i) ++ r).drop (lineT ts i).length = _
  rw [List.append_assoc, List.append_assoc, List.drop_left]
theorem gap_at (ts : List Tk) (n i : Nat) (h : i ≤ n) (h0 : 0 < i) : Gap ((lineT ts n).drop (lineT ts i).length) := by
  by_cases e : i = n
  · subst e
    left
    rw [List.drop_length]
  · right
    rw [line_drop ts n i (by omega), if_neg (by omega)]
    exact ⟨_, rfl⟩
/-- The line of right tokens is read as these tokens. -/
theorem lex_from (ts : List Tk) (hok : AllOk ts) (h8 : ts.length ≤ 800) : ∀ d i, i + d = ts.length → lexR (strOf (lineOf ts)) (lineT ts i).length (ts.take i) = (ts, true) := by
  intro d
  induction d with
  | zero =>
    intro i hi
    obtain rfl : i = ts.length := by omega
    rw [List.take_length, lexR_end (by rw [strOf_size]; unfold lineOf; omega)]
  | succ d ih =>
    intro i hi
    have hlt : i < ts.length := by omega
    have hd := line_drop ts ts.length i hlt
    have hg := gap_at ts ts.length (i + 1) (by omega) (by omega)
    have hst : (strOf (lineOf ts)).data.toList = lineT ts ts.length := strOf_list _
    have step : ∀ k, (strOf (lineOf ts)).data.toList.drop k = tokL (tAt ts i) ++ (lineT ts ts.length).drop (lineT ts (i + 1)).length → k + (tokL (tAt ts i)).length = (lineT ts (i + 1)).length → lexR (strOf (lineOf ts)) k (ts.take i) = (ts, true) := by
      intro k hk hlen
      obtain ⟨a1, a2, a3, a4, a5⟩ := again_any (hok.at hlt) hk hg
      have hlen2 : (ts.take i).length = i := by rw [List.length_take]; omega
      rw [lexR_next a1 a2 a3 (by rw [a5]; exact hok.at hlt) (by omega), a4, a5, hlen]
      have et : ts.take i ++ [tAt ts i] = ts.take (i + 1) := by
        rw [List.take_succ_eq_append_getElem hlt]
        unfold tAt
        rw [List.getD_eq_getElem?_getD, List.getElem?_eq_getElem hlt]
        rfl
      rw [et]
      exact ih (i + 1) (by omega)
    have hsz : (lineT ts (i + 1)).length = (lineT ts i).length + (if i = 0 then ([] : List UInt8) else [32]).length + (tokL (tAt ts i)).length := by
      show (lineT ts i ++ (if i = 0 then [] else [32]) ++ tokL (tAt ts i)).length = _
      rw [List.length_append, List.length_append]
    by_cases h0 : i = 0
    · rw [if_pos h0, List.nil_append] at hd
      rw [if_pos h0] at hsz
      exact step _ (by rw [hst]; exact hd) (by rw [hsz]; simp)
    · rw [if_neg h0] at hd hsz
      have hd' : (lineT ts ts.length).drop (lineT ts i).length = 32 :: (tokL (tAt ts i) ++ (lineT ts ts.length).drop (lineT ts (i + 1)).length) := hd
      obtain ⟨hk, hb, hd1⟩ := head_bAt hd'
      have hb32 : bAt (strOf (lineOf ts)).data.toList (lineT ts i).length = 32 := by rw [hst]; exact hb
      have hls : (lineT ts i).length < (strOf (lineOf ts)).size := by rw [← size_len, hst]; exact hk
      rw [lexR_blank hls (by rw [hb32]; decide) (by rw [hb32]; decide)]
      exact step _ (by rw [hst]; exact hd1) (by rw [hsz]; simp)
theorem lex_line (ts : List Tk) (hok : AllOk ts) (h8 : ts.length ≤ 800) : lexR (strOf (lineOf ts)) 0 [] = (ts, true) := lex_from ts hok h8 ts.length 0 (by omega)
theorem line_small {ts : List Tk} (hok : AllOk ts) (h8 : ts.length ≤ 800) : (strOf (lineOf ts)).size ≤ 1048576 ∧ ts.length + szL ts ≤ 1048576 := by
  have h1 := lineT_len ts ts.length (Nat.le_refl _)
  rw [List.take_length] at h1
  have h2 := ok_szL hok
  rw [strOf_size]
  unfold lineOf
  omega
end Go.Proofs.YtmhcbehplhfgfaaDoor

namespace Go.Proofs.YtmhcbehplhfgfaaDoor
open Go.ChangeShapes Go.WideShapes Go.ChangeAt Go.RowKit
set_option linter.unusedVariables false
set_option maxRecDepth 8000

/-- A term. -/
structure Ex where
  k : Int
  n : Int
  s : ByteArray
  l : List Ex
theorem Ex.ind {p : Ex → Prop} (h : ∀ k n s l, (∀ e ∈ l, p e) → p ⟨k, n, s, l⟩) (e : Ex) : p e := by
  obtain ⟨k, n, s, l⟩ := e
  exact h k n s l (fun e he => Ex.ind h e)
/-- How much a term holds. -/
def Ex.sz : Ex → Nat
  | ⟨_, _, s, l⟩ => s.size + l.length + (l.map Ex.sz).sum
theorem Ex.sz_eq (k n : Int) (s : ByteArray) (l : List Ex) : (Ex.mk k n s l).sz = s.size + l.length + (l.map Ex.sz).sum := by rw [Ex.sz]
/-- How deep a term is. -/
def Ex.dp : Ex → Nat
  | ⟨_, _, _, l⟩ => 1 + (l.map Ex.dp).foldr max 0
theorem Ex.dp_lt (k n : Int) (s : ByteArray) (l : List Ex) (e : Ex) (h : e ∈ l) : e.dp < (Ex.mk k n s l).dp := by
  rw [Ex.dp]
  have : ∀ l : List Ex, e ∈ l → e.dp ≤ (l.map Ex.dp).foldr max 0 := by
    intro l
    induction l with
    | nil => intro h; cases h
    | cons a l ih =>
      intro h
      rw [List.map_cons, List.foldr_cons]
      rcases List.mem_cons.1 h with rfl | h
      · exact Nat.le_max_left _ _
      · exact Nat.le_trans (ih h) (Nat.le_max_right _ _)
  have := this l h
  omega
def X0 : Ex := ⟨0, 0, ⟨#[]⟩, []⟩
def xAt (l : List Ex) (i : Nat) : Ex := l.getD i X0
/-- The parts of a term lie at a: every block of them from B on. -/
def RdX (w : World) (B : Nat) : Ex → Option Addr → Prop
  | ⟨_, _, _, l⟩, a => l = [] ∨ ∃ b off, a = some ⟨b, off, none⟩ ∧ B ≤ b ∧ b < w.heap.size ∧ ∀ x ∈ l, ∀ i, l[i]? = some x → w.cell? ⟨b, off + i * 4, none⟩ = some (.int .i64 x.k) ∧ w.cell? ⟨b, off + i * 4 + 1, none⟩ = some (.int .i64 x.n) ∧ w.cell? ⟨b, off + i * 4 + 2, none⟩ = some (.string x.s) ∧ ∃ c cap, w.cell? ⟨b, off + i * 4 + 3, none⟩ = some (.slice c x.l.length cap) ∧ RdX w B x c
/-- One part, as it lies. -/
def OneX (w : World) (B b at_ : Nat) (x : Ex) : Prop := w.cell? ⟨b, at_, none⟩ = some (.int .i64 x.k) ∧ w.cell? ⟨b, at_ + 1, none⟩ = some (.int .i64 x.n) ∧ w.cell? ⟨b, at_ + 2, none⟩ = some (.string x.s) ∧ ∃ c cap, w.cell? ⟨b, at_ + 3, none⟩ = some (.slice c x.l.length cap) ∧ RdX w B x c
theorem xAt_get {l : List Ex} {i : Nat} (h : i < l.length) : xAt l i = l[i] := by
  unfold xAt
  rw [List.getD_eq_getElem?_getD, List.getElem?_eq_getElem h]
  rfl
theorem xAt_mem {l : List Ex} {i : Nat} (h : i < l.length) : xAt l i ∈ l := by rw [xAt_get h]; exact List.getElem_mem _
theorem RdX_eq (w : World) (B : Nat) (e : Ex) (a : Option Addr) : RdX w B e a ↔ (e.l = [] ∨ ∃ b off, a = some ⟨b, off, none⟩ ∧ B ≤ b ∧ b < w.heap.size ∧ ∀ i, i < e.l.length → OneX w B b (off + i * 4) (xAt e.l i)) := by
  obtain ⟨k, n, s, l⟩ := e
  rw [RdX]
  refine or_congr Iff.rfl (exists_congr fun b => exists_congr fun off => and_congr Iff.rfl (and_congr Iff.rfl (and_congr Iff.rfl ⟨fun h i hi => ?_, fun h x hx i hi => ?_⟩)))
  · exact h _ (xAt_mem hi) i (by rw [xAt_get hi]; exact List.getElem?_eq_getElem hi)
  · obtain ⟨hl, e⟩ := List.getElem?_eq_some_iff.1 hi
    have := h i hl
    rw [xAt_get hl, e] at this
    exact this
/-- What is kept of the blocks from B on keeps what is read there. -/
theorem RdX.keep {w w' : World} {B : Nat} (hs : w.heap.size ≤ w'.heap.size) (hc : ∀ b o v, B ≤ b → b < w.heap.size → w.cell? ⟨b, o, none⟩ = some v → w'.cell? ⟨b, o, none⟩ = some v) (e : Ex) : ∀ a, RdX w B e a → RdX w' B e a := by
  induction e using Ex.ind with
  | h k n s l ih =>
    intro a h
    rw [RdX_eq] at h ⊢
    rcases h with h | ⟨b, off, ha, h1, h2, h3⟩
    · exact .inl h
    · refine .inr ⟨b, off, ha, h1, Nat.lt_of_lt_of_le h2 hs, fun i hi => ?_⟩
      obtain ⟨c1, c2, c3, c, cap, c4, c5⟩ := h3 i hi
      exact ⟨hc _ _ _ h1 h2 c1, hc _ _ _ h1 h2 c2, hc _ _ _ h1 h2 c3, c, cap, hc _ _ _ h1 h2 c4, ih _ (xAt_mem hi) _ c5⟩
theorem RdX.later {w w' : World} {B : Nat} {e : Ex} {a : Option Addr} (h : RdX w B e a) (hb : Below w.heap.size w w') : RdX w' B e a :=
  RdX.keep hb.size (fun b o v _ hlt hc => (hb.cell (p := ⟨b, o, none⟩) hlt).trans hc) e a h
theorem RdX.lower {w : World} {B C : Nat} (hC : C ≤ B) (e : Ex) : ∀ a, RdX w B e a → RdX w C e a := by
  induction e using Ex.ind with
  | h k n s l ih =>
    intro a h
    rw [RdX_eq] at h ⊢
    rcases h with h | ⟨b, off, ha, h1, h2, h3⟩
    · exact .inl h
    · refine .inr ⟨b, off, ha, Nat.le_trans hC h1, h2, fun i hi => ?_⟩
      obtain ⟨c1, c2, c3, c, cap, c4, c5⟩ := h3 i hi
      exact ⟨c1, c2, c3, c, cap, c4, ih _ (xAt_mem hi) _ c5⟩
/-- What all parts hold. -/
def szX (l : List Ex) : Nat := (l.map Ex.sz).sum
theorem szX_take (l : List Ex) (k : Nat) (h : k < l.length) : szX (l.take (k + 1)) = szX (l.take k) + (xAt l k).sz := by
  unfold szX
  rw [List.take_succ_eq_append_getElem h, List.map_append, List.sum_append, xAt_get h]
  simp
theorem szX_le (l : List Ex) (k : Nat) : szX (l.take k) ≤ szX l := by
  induction l generalizing k with
  | nil => simp [szX]
  | cons a r ih =>
    cases k with
    | zero => simp [szX]
    | succ k =>
      have := ih k
      unfold szX at this ⊢
      simp only [List.take_succ_cons, List.map_cons, List.sum_cons]
      omega
theorem sz_is (e : Ex) : e.sz = e.s.size + e.l.length + szX e.l := by obtain ⟨k, n, s, l⟩ := e; exact Ex.sz_eq k n s l
/-- Every text and list within can be counted. -/
def Fit : Ex → Prop
  | ⟨_, _, s, l⟩ => s.size ≤ 9223372036854775807 ∧ l.length ≤ 9223372036854775807 ∧ ∀ x ∈ l, Fit x
theorem Fit_eq (e : Ex) : Fit e ↔ (e.s.size ≤ 9223372036854775807 ∧ e.l.length ≤ 9223372036854775807 ∧ ∀ i, i < e.l.length → Fit (xAt e.l i)) := by
  obtain ⟨k, n, s, l⟩ := e
  rw [Fit]
  refine and_congr Iff.rfl (and_congr Iff.rfl ⟨fun h i hi => h _ (xAt_mem hi), fun h x hx => ?_⟩)
  obtain ⟨i, hi, rfl⟩ := List.getElem_of_mem hx
  have := h i hi
  rw [xAt_get hi] at this
  exact this
end Go.Proofs.YtmhcbehplhfgfaaDoor

namespace Go.Proofs.YtmhcbehplhfgfaaDoor
open Go.ChangeShapes Go.WideShapes Go.ChangeAt Go.RowKit
set_option linter.unusedVariables false
set_option maxRecDepth 8000

/-- Is a term right, but for its parts? -/
def Ex.here (e : Ex) : Bool :=
  if ((e.k != 1 && (e.k != 11 && e.n != 0)) || (e.k != 2 && (e.k != 12 && !eqS e.s E0))) = true then false
  else if e.k = 1 then inB e.n 0 65535 && e.l.length == 0
  else if e.k = 2 ∨ e.k = 12 then nameB e.s && e.l.length == 0
  else if e.k = 3 then e.l.length == 0
  else if e.k = 4 then e.l.length == 1
  else if 5 ≤ e.k ∧ e.k ≤ 10 then e.l.length == 2
  else if e.k = 11 then inB e.n 0 9 && e.l.length == 0
  else false
/-- Is a term right, so deep at most? -/
def okF : Nat → Bool → Ex → Bool
  | 0, _, _ => false
  | d + 1, p, e => e.here && (!(p && (e.k == 11 || e.k == 12)) && e.l.all (okF d p))
def mkS (c : UInt8) : ByteArray := ⟨#[c]⟩
def mkT (c : UInt8) : Tk := ⟨4, 0, mkS c⟩
def sgnC (k : Int) : UInt8 := if k = 5 then 43 else if k = 6 then 45 else if k = 7 then 42 else if k = 8 then 47 else if k = 9 then 38 else 124
def sgnK (s : ByteArray) : Option Int :=
  if eqS (mkS 43) s = true then some 5 else if eqS (mkS 45) s = true then some 6 else if eqS (mkS 42) s = true then some 7
  else if eqS (mkS 47) s = true then some 8 else if eqS (mkS 38) s = true then some 9 else if eqS (mkS 124) s = true then some 10 else none
/-- The tokens of a plain term. -/
def toksF : Nat → Ex → List Tk
  | 0, _ => []
  | d + 1, e => if e.k = 1 then [⟨2, e.n, E0⟩] else if e.k = 2 then [⟨1, 0, e.s⟩] else if e.k = 3 then [mkT 46]
    else if e.k = 4 then mkT 45 :: toksF d (xAt e.l 0)
    else mkT 60 :: (toksF d (xAt e.l 0) ++ (mkT (sgnC e.k) :: (toksF d (xAt e.l 1) ++ [mkT 62])))
/-- Tokens read: a term and what is left. -/
def readF : Nat → List Tk → Option (Ex × List Tk)
  | 0, _ => none
  | _ + 1, [] => none
  | d + 1, t :: r =>
    if t.k = 2 then some (⟨1, t.n, E0, []⟩, r) else if t.k = 1 then some (⟨2, 0, t.s, []⟩, r)
    else if eqS t.s (mkS 46) = true then some (⟨3, 0, E0, []⟩, r)
    else if eqS t.s (mkS 45) = true then
      match readF d r with
      | none => none
      | some (a, q) => some (⟨4, 0, E0, [a]⟩, q)
    else if eqS t.s (mkS 60) = true then
      match readF d r with
      | none => none
      | some (a, []) => none
      | some (a, t1 :: q1) =>
        match readF d q1 with
        | none => none
        | some (b, []) => none
        | some (b, t2 :: q2) => if eqS t2.s (mkS 62) = true then (match sgnK t1.s with | none => none | some k => some (⟨k, 0, E0, [a, b]⟩, q2)) else none
    else none
theorem sgn_back {k : Int} (h : 5 ≤ k ∧ k ≤ 10) : sgnK (mkS (sgnC k)) = some k := by
  have : k = 5 ∨ k = 6 ∨ k = 7 ∨ k = 8 ∨ k = 9 ∨ k = 10 := by omega
  rcases this with rfl | rfl | rfl | rfl | rfl | rfl <;> decide +kernel
theorem sgnK_some {s : ByteArray} {k : Int} (h : sgnK s = some k) : (5 ≤ k ∧ k ≤ 10) ∧ s = mkS (sgnC k) := by
  unfold sgnK at h
  repeat' (split at h)
  all_goals first
    | (cases h; done)
    | (rename_i he; rw [eqS_iff] at he; cases h; exact ⟨by omega, he.symm⟩)
/-- The forms of a plain term. -/
theorem plain_cases {d : Nat} {e : Ex} (h : okF (d + 1) true e = true) : (∃ n : Int, (0 ≤ n ∧ n ≤ 65535) ∧ e = ⟨1, n, E0, []⟩) ∨ (∃ s, nameB s = true ∧ e = ⟨2, 0, s, []⟩) ∨ e = ⟨3, 0, E0, []⟩ ∨ (∃ a, okF d true a = true ∧ e = ⟨4, 0, E0, [a]⟩) ∨ (∃ k a b, (5 ≤ k ∧ k ≤ 10) ∧ okF d true a = true ∧ okF d true b = true ∧ e = ⟨k, 0, E0, [a, b]⟩) := by
  obtain ⟨k, n, s, l⟩ := e
  simp only [okF, Bool.and_eq_true, Bool.true_and, Bool.not_eq_true', Bool.or_eq_false_iff, beq_eq_false_iff_ne] at h
  obtain ⟨h1, ⟨h11, h12⟩, hall⟩ := h
  unfold Ex.here at h1
  simp only at h1
  split at h1
  · cases h1
  · rename_i hg
    have hg : ((k != 1 && (k != 11 && n != 0)) || (k != 2 && (k != 12 && !eqS s E0))) = false := by simpa using hg
    rw [Bool.or_eq_false_iff] at hg
    have hn : k ≠ 1 → n = 0 := fun hk => by have := hg.1; simpa [hk, h11] using this
    have hs : k ≠ 2 → s = E0 := fun hk => by
      have := hg.2
      have h3 : eqS s E0 = true := by simpa [hk, h12] using this
      exact (eqS_iff _ _).1 h3
    split at h1
    · rename_i e; subst e
      rw [Bool.and_eq_true, beq_iff_eq, List.length_eq_zero_iff] at h1
      obtain ⟨hi, rfl⟩ := h1
      exact .inl ⟨n, (inB_iff _ _ _).1 hi, by rw [hs (by decide)]⟩
    · rename_i k1
      split at h1
      · rename_i e
        obtain rfl : k = 2 := by rcases e with e | e; exact e; exact absurd e h12
        rw [Bool.and_eq_true, beq_iff_eq, List.length_eq_zero_iff] at h1
        obtain ⟨hi, rfl⟩ := h1
        exact .inr (.inl ⟨s, hi, by rw [hn (by decide)]⟩)
      · rename_i k2
        have k2 : k ≠ 2 := fun e => k2 (.inl e)
        obtain rfl := hn k1
        obtain rfl := hs k2
        split at h1
        · rename_i e; subst e
          rw [beq_iff_eq, List.length_eq_zero_iff] at h1
          subst h1
          exact .inr (.inr (.inl rfl))
        · split at h1
          · rename_i e; subst e
            rw [beq_iff_eq] at h1
            match l, h1 with
            | [a], _ => exact .inr (.inr (.inr (.inl ⟨a, by simpa using hall, rfl⟩)))
          · split at h1
            · rename_i e
              rw [beq_iff_eq] at h1
              match l, h1 with
              | [a, b], _ =>
                have : okF d true a = true ∧ okF d true b = true := by simpa using hall
                exact .inr (.inr (.inr (.inr ⟨k, a, b, e, this.1, this.2, rfl⟩)))
            · cases h1
theorem plain_num {d : Nat} {n : Int} (h : 0 ≤ n ∧ n ≤ 65535) : okF (d + 1) true ⟨1, n, E0, []⟩ = true := by
  have : inB n 0 65535 = true := (inB_iff _ _ _).2 h
  simp [okF, Ex.here, this, show eqS E0 E0 = true from (eqS_iff _ _).2 rfl]
theorem plain_sym {d : Nat} {s : ByteArray} (h : nameB s = true) : okF (d + 1) true ⟨2, 0, s, []⟩ = true := by
  simp [okF, Ex.here, h]
theorem plain_here (d : Nat) : okF (d + 1) true ⟨3, 0, E0, []⟩ = true := by
  simp [okF, Ex.here, show eqS E0 E0 = true from (eqS_iff _ _).2 rfl]
theorem plain_neg {d : Nat} {a : Ex} (h : okF d true a = true) : okF (d + 1) true ⟨4, 0, E0, [a]⟩ = true := by
  simp [okF, Ex.here, h, show eqS E0 E0 = true from (eqS_iff _ _).2 rfl]
theorem plain_two {d : Nat} {k : Int} {a b : Ex} (hk : 5 ≤ k ∧ k ≤ 10) (ha : okF d true a = true) (hb : okF d true b = true) : okF (d + 1) true ⟨k, 0, E0, [a, b]⟩ = true := by
  have : k = 5 ∨ k = 6 ∨ k = 7 ∨ k = 8 ∨ k = 9 ∨ k = 10 := by omega
  rcases this with rfl | rfl | rfl | rfl | rfl | rfl <;> simp [okF, Ex.here, ha, hb, show eqS E0 E0 = true from (eqS_iff _ _).2 rfl]
theorem toks_num (d : Nat) (n : Int) : toksF (d + 1) ⟨1, n, E0, []⟩ = [⟨2, n, E0⟩] := rfl
theorem toks_sym (d : Nat) (s : ByteArray) : toksF (d + 1) ⟨2, 0, s, []⟩ = [⟨1, 0, s⟩] := rfl
theorem toks_here (d : Nat) : toksF (d + 1) ⟨3, 0, E0, []⟩ = [mkT 46] := rfl
theorem toks_neg (d : Nat) (a : Ex) : toksF (d + 1) ⟨4, 0, E0, [a]⟩ = mkT 45 :: toksF d a := rfl
theorem toks_two (d : Nat) {k : Int} (hk : 5 ≤ k ∧ k ≤ 10) (a b : Ex) : toksF (d + 1) ⟨k, 0, E0, [a, b]⟩ = mkT 60 :: (toksF d a ++ (mkT (sgnC k) :: (toksF d b ++ [mkT 62]))) := by
  have : k = 5 ∨ k = 6 ∨ k = 7 ∨ k = 8 ∨ k = 9 ∨ k = 10 := by omega
  rcases this with rfl | rfl | rfl | rfl | rfl | rfl <;> rfl
/-- A plain term comes back of its tokens. -/
theorem read_toks : ∀ (d : Nat) (e : Ex) (r : List Tk), okF d true e = true → readF d (toksF d e ++ r) = some (e, r) := by
  intro d
  induction d with
  | zero => intro e r h; cases h
  | succ d ih =>
    intro e r h
    rcases plain_cases h with ⟨n, hn, rfl⟩ | ⟨s, hs, rfl⟩ | rfl | ⟨a, ha, rfl⟩ | ⟨k, a, b, hk, ha, hb, rfl⟩
    · rw [toks_num]; rfl
    · rw [toks_sym]; rfl
    · rw [toks_here, List.cons_append]
      simp only [readF]
      rw [if_neg (by decide +kernel), if_neg (by decide +kernel), if_pos (by decide +kernel)]
      rfl
    · rw [toks_neg, List.cons_append]
      simp only [readF]
      rw [if_neg (by decide +kernel), if_neg (by decide +kernel), if_neg (by decide +kernel), if_pos (by decide +kernel), ih a r ha]
    · rw [toks_two d hk, List.cons_append, List.append_assoc, List.cons_append, List.append_assoc]
      simp only [readF]
      rw [if_neg (by decide +kernel), if_neg (by decide +kernel), if_neg (by decide +kernel), if_neg (by decide +kernel), if_pos (by decide +kernel), ih a _ ha]
      simp only
      rw [ih b _ hb]
      simp only [List.cons_append, List.nil_append]
      rw [if_pos (by decide +kernel), show (mkT (sgnC k)).s = mkS (sgnC k) from rfl, sgn_back hk]
theorem mark_of {t : Tk} (h : t.ok = true) (h2 : t.k ≠ 2) (h1 : t.k ≠ 1) {c : UInt8} (hs : t.s = mkS c) (hc : smB (c.toNat : Int) = false) (hm : formB [] = false) : t = mkT c := by
  obtain ⟨k, n, s⟩ := t
  simp only at h2 h1 hs
  subst hs
  unfold Tk.ok at h
  simp only at h
  rw [if_neg (by simpa using h2)] at h
  split at h
  · cases h
  · rename_i hn
    have hn : n = 0 := by simpa using hn
    subst hn
    rw [if_neg (by simpa using h1)] at h
    split at h
    · have e : dotB [c] = true := h
      rw [dotB_cons, hm, Bool.and_false] at e
      cases e
    · split at h
      · rename_i e
        have e : k = 4 := by simpa using e
        rw [e]; rfl
      · split at h
        · have hk := kept_form _ (hasS_iff.1 h)
          obtain ⟨c0, r, e, h3, _⟩ := form_open hk
          have e2 : [c] = c0 :: r := e
          cases e2
          rw [hc] at h3; cases h3
        · cases h
theorem num_of {t : Tk} (h : t.ok = true) (h2 : t.k = 2) : (0 ≤ t.n ∧ t.n ≤ 65535) ∧ t = ⟨2, t.n, E0⟩ := by
  obtain ⟨k, n, s⟩ := t
  simp only at h2
  subst h2
  unfold Tk.ok at h
  simp only [beq_self_eq_true, if_true, Bool.and_eq_true, decide_eq_true_eq] at h
  refine ⟨(inB_iff _ _ _).1 h.1, ?_⟩
  have e : s = E0 := by
    have hl := size_len s
    rw [h.2, List.length_eq_zero_iff] at hl
    exact bytes_inj (by rw [hl]; rfl)
  rw [e]
theorem sym_of {t : Tk} (h : t.ok = true) (h1 : t.k = 1) : nameB t.s = true ∧ t = ⟨1, 0, t.s⟩ := by
  obtain ⟨k, n, s⟩ := t
  simp only at h1
  subst h1
  unfold Tk.ok at h
  simp only at h
  rw [if_neg (by decide)] at h
  split at h
  · cases h
  · rename_i hn
    have hn : n = 0 := by simpa using hn
    rw [if_pos (by decide)] at h
    exact ⟨h, by rw [hn]⟩
theorem name_one {c : UInt8} (hc : smB (c.toNat : Int) = false) : formB [c] = false := by
  cases h : formB [c] with
  | false => rfl
  | true =>
    obtain ⟨c0, r, e, h3, _⟩ := form_open h
    cases e
    rw [hc] at h3; cases h3
/-- A right token whose text is one sign that is no letter is that mark. -/
theorem one_mark {t : Tk} (h : t.ok = true) {c : UInt8} (hs : t.s = mkS c) (hc : smB (c.toNat : Int) = false) : t = mkT c := by
  by_cases h2 : t.k = 2
  · obtain ⟨_, e⟩ := num_of h h2
    rw [e] at hs
    have : (0 : Nat) = 1 := congrArg ByteArray.size hs
    cases this
  · by_cases h1 : t.k = 1
    · obtain ⟨hn, _⟩ := sym_of h h1
      rw [hs] at hn
      have e : nameB (mkS c) = (formB [c] && !keptB (mkS c)) := rfl
      rw [e, name_one hc] at hn
      cases hn
    · exact mark_of h h2 h1 hs hc (by decide)
theorem sgn_small {k : Int} (h : 5 ≤ k ∧ k ≤ 10) : smB ((sgnC k).toNat : Int) = false := by
  have : k = 5 ∨ k = 6 ∨ k = 7 ∨ k = 8 ∨ k = 9 ∨ k = 10 := by omega
  rcases this with rfl | rfl | rfl | rfl | rfl | rfl <;> decide
end Go.Proofs.YtmhcbehplhfgfaaDoor

namespace Go.Proofs.YtmhcbehplhfgfaaDoor
open Go.ChangeShapes Go.WideShapes Go.ChangeAt Go.RowKit
set_option linter.unusedVariables false
set_option maxRecDepth 8000

/-- A term's value, its parts lying at b. -/
def Ex.cs (e : Ex) (b : Option Addr) (cap : Nat) : Array Value := #[.int .i64 e.k, .int .i64 e.n, .string e.s, .slice b e.l.length cap]
section
variable {H : Type} {enc : TypeId × Value → H} {W : World} {b0 base : Nat} {spare : TypeId → Bool} {held : Bool}
theorem trod_four {P : Program} {t : TypeId} {f0 f1 f2 f3 : Field} {fuel : Nat} {cs : List Value} {x : DataW H × List MemPlace} (ht : P.underlying t = some (.struct #[f0, f1, f2, f3])) (h : DataW.trod enc P W base spare held fuel t cs = some x) :
    ∃ y0 y1 y2 y3 n, fuel = n + 1 ∧ cs.length = P.cellsOf t ∧ DataW.trod enc P W base spare held n f0.type ((cs.drop f0.offset).take (P.cellsOf f0.type)) = some y0 ∧ DataW.trod enc P W base spare held n f1.type ((cs.drop f1.offset).take (P.cellsOf f1.type)) = some y1 ∧ DataW.trod enc P W base spare held n f2.type ((cs.drop f2.offset).take (P.cellsOf f2.type)) = some y2 ∧ DataW.trod enc P W base spare held n f3.type ((cs.drop f3.offset).take (P.cellsOf f3.type)) = some y3 := by
  obtain ⟨xs, n, hf, rfl, hl, hlen, hfs⟩ := DataW.trod_struct ht h
  match xs, hlen with
  | [y0, y1, y2, y3], _ => exact ⟨y0, y1, y2, y3, n, hf, hl, by simpa using hfs 0 f0 rfl, by simpa using hfs 1 f1 rfl, by simpa using hfs 2 f2 rfl, by simpa using hfs 3 f3 rfl⟩
theorem trod_ex : ∀ (fuel : Nat) (cs : List Value) (x : DataW H × List MemPlace), DataW.trod enc Tryd.prog W base spare held fuel 24 cs = some x → ∃ (e : Ex) (b : Option Addr) (cap : Nat), cs = [.int .i64 e.k, .int .i64 e.n, .string e.s, .slice b e.l.length cap] ∧ RdX W 0 e b ∧ Fit e := by
  intro fuel
  induction fuel using Nat.strongRecOn with
  | ind fuel ih =>
    intro cs x h
    obtain ⟨y0, y1, y2, y3, n, hf, hl, h0, h1, h2, h3⟩ := trod_four Tryd.underlying24 h
    have hc : Tryd.prog.cellsOf 24 = 4 := by kernel_rfl
    have hc3 : Tryd.prog.cellsOf 3 = 1 := by kernel_rfl
    have hc9 : Tryd.prog.cellsOf 9 = 1 := by kernel_rfl
    have hcl : Tryd.prog.cellsOf 22 = 1 := by kernel_rfl
    rw [hc] at hl
    match cs, hl with
    | [c0, c1, c2, c3], _ =>
      obtain ⟨m, e0, _, w0⟩ := DataW.trod_int Tryd.underlying3 h0
      obtain ⟨r, e1, _, w1⟩ := DataW.trod_int Tryd.underlying3 h1
      obtain ⟨s, e2, _, w2⟩ := DataW.trod_string Tryd.underlying9 h2
      simp only [hc3, hc9] at e0 e1 e2
      simp at e0 e1 e2
      subst e0 e1 e2
      have hs9 : s.size ≤ 9223372036854775807 := by have := w2; unfold maxLen at this; omega
      rcases DataW.trod_slice Tryd.underlying22 h3 with ⟨hcs, _⟩ | ⟨a, len, cap, elems, rest, q, hq, hcs, _, hb, hl, hm, hel, hx, _, _⟩
      · simp only [hcl] at hcs
        simp at hcs
        subst hcs
        exact ⟨⟨m, r, s, []⟩, none, 0, rfl, (RdX_eq _ _ _ _).2 (.inl rfl), (Fit_eq _).2 ⟨hs9, by simp, fun i hi => by simp at hi⟩⟩
      · simp only [hcl] at hcs
        simp at hcs
        subst hcs
        have each : ∀ i, i < len → ∃ t : Ex, (W.cell? (a.add (i * 4)) = some (.int .i64 t.k) ∧ W.cell? (a.add (i * 4 + 1)) = some (.int .i64 t.n) ∧ W.cell? (a.add (i * 4 + 2)) = some (.string t.s) ∧ ∃ c cap, W.cell? (a.add (i * 4 + 3)) = some (.slice c t.l.length cap) ∧ RdX W 0 t c) ∧ Fit t := fun i hi => by
          have h4 := hx i hi
          rw [List.getElem?_eq_getElem (by omega), Option.bind_eq_some_iff] at h4
          obtain ⟨cs', p1, p2⟩ := h4
          rw [hc] at p1
          obtain ⟨_, hlen', hcell⟩ := World.cells?_some p1
          obtain ⟨t, c, cap', hcs', hrd, hft⟩ := ih q (by omega) cs' _ p2
          refine ⟨t, ⟨?_, ?_, ?_, c, cap', ?_, hrd⟩, hft⟩
          · have e := hcell 0 (by omega); rw [_root_.Go.Deep.add_add, hcs'] at e; simpa using e
          · have e := hcell 1 (by omega); rw [_root_.Go.Deep.add_add, hcs'] at e; simpa using e
          · have e := hcell 2 (by omega); rw [_root_.Go.Deep.add_add, hcs'] at e; simpa using e
          · have e := hcell 3 (by omega); rw [_root_.Go.Deep.add_add, hcs'] at e; simpa using e
        obtain ⟨T, hT⟩ := @_root_.Go.Deep.choose_lt Ex ⟨X0⟩ _ _ each
        have hL : ((List.range len).map T).length = len := by simp
        have hat : ∀ i, i < len → xAt ((List.range len).map T) i = T i := fun i hi => by
          unfold xAt
          rw [List.getD_eq_getElem?_getD, List.getElem?_map, List.getElem?_range hi]
          rfl
        refine ⟨⟨m, r, s, (List.range len).map T⟩, some a, cap, by simp [hL], (RdX_eq _ _ _ _).2 ?_, (Fit_eq _).2 ⟨hs9, ?_, fun i hi => ?_⟩⟩
        · by_cases h0 : len = 0
          · subst h0; exact .inl rfl
          · right
            obtain ⟨b, off, spot⟩ := a
            have h00 := (hT 0 (by omega)).1.1
            have hspot : spot = none := by simpa [Addr.add] using World.cell?_spot h00
            subst hspot
            have hadd : ∀ j, (⟨b, off, none⟩ : Addr).add j = ⟨b, off + j, none⟩ := fun j => by
              unfold Addr.add
              by_cases hj : j = 0
              · subst hj; simp
              · simp [hj]
            refine ⟨b, off, rfl, Nat.zero_le _, World.block_lt_of_cell? W _ h00, fun i hi => ?_⟩
            have hi : i < len := by simpa using hi
            show OneX W 0 b (off + i * 4) (xAt ((List.range len).map T) i)
            rw [hat i hi]
            have h3 := (hT i hi).1
            rw [hadd, hadd, hadd, hadd] at h3
            exact h3
        · show ((List.range len).map T).length ≤ _
          rw [hL]; unfold maxLen at hm; omega
        · have hi : i < len := by simpa using hi
          show Fit (xAt ((List.range len).map T) i)
          rw [hat i hi]
          exact (hT i hi).2
theorem open_ex {r : Reach} {v : Value} {d : DataW H} {p : List MemPlace} (hv : Value.okWide Tryd.prog W r b0 24 v) (h : DataW.Trod enc Tryd.prog W base spare held 24 v d p) : ∃ (e : Ex) (b : Option Addr) (cap : Nat), v = .agg (e.cs b cap) ∧ RdX W 0 e b ∧ Fit e := by
  obtain ⟨cs, rfl, hsz⟩ := okWide_struct Tryd.underlying24 hv
  obtain ⟨fuel, hf⟩ := h
  obtain ⟨e, b, cap, hcs, h1, h2⟩ := trod_ex _ _ _ hf
  refine ⟨e, b, cap, ?_, h1, h2⟩
  have : cs.toList = [.int .i64 e.k, .int .i64 e.n, .string e.s, .slice b e.l.length cap] := by simpa [Value.cells] using hcs
  unfold Ex.cs
  rw [← Array.toArray_toList (xs := cs), this]
end
end Go.Proofs.YtmhcbehplhfgfaaDoor

namespace Go.Proofs.YtmhcbehplhfgfaaDoor
open Go.ChangeShapes Go.WideShapes Go.ChangeAt Go.RowKit
set_option linter.unusedVariables false
set_option maxRecDepth 8000
set_option linter.unusedSimpArgs false

/-- The same, by a term's own fields. -/
def hereV (k n : Int) (s : ByteArray) (ll : Nat) : Bool := Ex.here ⟨k, n, s, List.replicate ll X0⟩
theorem here_is (e : Ex) : e.here = hereV e.k e.n e.s e.l.length := by
  unfold hereV Ex.here
  simp only [List.length_replicate]
theorem emp_E (s : ByteArray) (h : s ≠ E0) : s.toList.isEmpty = false ∧ eqS s E0 = false := by
  refine ⟨emp_no s (fun e => h (empty_of s e)), ?_⟩
  cases he : eqS s E0 with
  | false => rfl
  | true => exact absurd ((eqS_iff _ _).1 he) h
theorem eqE : eqS E0 E0 = true := (eqS_iff _ _).2 rfl
theorem eqE1 : eqS ⟨#[]⟩ E0 = true := eqE
def HereG (k n : Int) (s : ByteArray) (ll : Nat) : Prop := ∀ (b : Option Addr) (cap : Nat) (w : World), Calls Tryd.prog 62 #[.agg #[.int .i64 k, .int .i64 n, .string s, .slice b ll cap]] w fun r w' => r = .returned (.bool (hereV k n s ll)) ∧ Below w.heap.size w w'
set_option maxHeartbeats 2000000 in
theorem here1_s (n : Int) (s : ByteArray) (ll : Nat) (h : s ≠ E0) (hs : s.size ≤ 1099511627776) (hl : ll ≤ 9223372036854775807) : HereG (1) n s ll := by
  intro b cap w
  have B0 := hide (below_new w (.cells #[.int .i64 1, .int .i64 n, .string s, .slice b ll cap] 31))
  obtain ⟨h1, h2⟩ := emp_E s h
  have V : hereV (1) n s ll = false := by simp [hereV, Ex.here, eqE, eqE1, *]
  rw [V]
  clear V
  go_enter Tryd.func62, Tryd.ntmps62
  go_wp2
  go_ret
  exact ⟨rfl, unhide B0⟩
set_option maxHeartbeats 2000000 in
theorem here1_0 (n : Int) (s : ByteArray) (ll : Nat) (hs : s.size ≤ 1099511627776) (hl : ll ≤ 9223372036854775807) : HereG (1) n ⟨#[]⟩ ll := by
  intro b cap w
  have B0 := hide (below_new w (.cells #[.int .i64 1, .int .i64 n, .string ⟨#[]⟩, .slice b ll cap] 31))
  have V : hereV (1) n ⟨#[]⟩ ll = (inB n 0 65535 && ll == 0) := by simp [hereV, Ex.here, eqE, eqE1, *]
  rw [V]
  clear V
  have Q := hide (fun w => in_any n 0 65535 w)
  generalize inB n 0 65535 = q at *
  by_cases h0 : ll = 0
  · subst h0
    cases q <;> (go_enter Tryd.func62, Tryd.ntmps62; go_wp2_with (go_at_call 19; refine (unhide Q _).mono ?_; rintro e w' ⟨rfl, hw'⟩; rw [hw']; clear hw' w'); go_ret; exact ⟨rfl, unhide B0⟩)
  · have h1 : (ll == 0) = false := beq_eq_false_iff_ne.2 h0
    have h2 : ((ll : Int) == 0) = false := beq_eq_false_iff_ne.2 (by omega)
    rw [h1]
    clear h1 h0
    cases q <;> (go_enter Tryd.func62, Tryd.ntmps62; go_wp2_with (go_at_call 19; refine (unhide Q _).mono ?_; rintro e w' ⟨rfl, hw'⟩; rw [hw']; clear hw' w'); go_ret; exact ⟨rfl, unhide B0⟩)
set_option maxHeartbeats 2000000 in
theorem here11_s (n : Int) (s : ByteArray) (ll : Nat) (h : s ≠ E0) (hs : s.size ≤ 1099511627776) (hl : ll ≤ 9223372036854775807) : HereG (11) n s ll := by
  intro b cap w
  have B0 := hide (below_new w (.cells #[.int .i64 11, .int .i64 n, .string s, .slice b ll cap] 31))
  obtain ⟨h1, h2⟩ := emp_E s h
  have V : hereV (11) n s ll = false := by simp [hereV, Ex.here, eqE, eqE1, *]
  rw [V]
  clear V
  go_enter Tryd.func62, Tryd.ntmps62
  go_wp2
  go_ret
  exact ⟨rfl, unhide B0⟩
set_option maxHeartbeats 2000000 in
theorem here11_0 (n : Int) (s : ByteArray) (ll : Nat) (hs : s.size ≤ 1099511627776) (hl : ll ≤ 9223372036854775807) : HereG (11) n ⟨#[]⟩ ll := by
  intro b cap w
  have B0 := hide (below_new w (.cells #[.int .i64 11, .int .i64 n, .string ⟨#[]⟩, .slice b ll cap] 31))
  have V : hereV (11) n ⟨#[]⟩ ll = (inB n 0 9 && ll == 0) := by simp [hereV, Ex.here, eqE, eqE1, *]
  rw [V]
  clear V
  have Q := hide (fun w => in_any n 0 9 w)
  generalize inB n 0 9 = q at *
  by_cases h0 : ll = 0
  · subst h0
    cases q <;> (go_enter Tryd.func62, Tryd.ntmps62; go_wp2_with (go_at_call 19; refine (unhide Q _).mono ?_; rintro e w' ⟨rfl, hw'⟩; rw [hw']; clear hw' w'); go_ret; exact ⟨rfl, unhide B0⟩)
  · have h1 : (ll == 0) = false := beq_eq_false_iff_ne.2 h0
    have h2 : ((ll : Int) == 0) = false := beq_eq_false_iff_ne.2 (by omega)
    rw [h1]
    clear h1 h0
    cases q <;> (go_enter Tryd.func62, Tryd.ntmps62; go_wp2_with (go_at_call 19; refine (unhide Q _).mono ?_; rintro e w' ⟨rfl, hw'⟩; rw [hw']; clear hw' w'); go_ret; exact ⟨rfl, unhide B0⟩)
set_option maxHeartbeats 2000000 in
theorem here2_n (n : Int) (s : ByteArray) (ll : Nat) (h : n ≠ 0) (hs : s.size ≤ 1099511627776) (hl : ll ≤ 9223372036854775807) : HereG (2) n s ll := by
  intro b cap w
  have B0 := hide (below_new w (.cells #[.int .i64 2, .int .i64 n, .string s, .slice b ll cap] 31))
  have V : hereV (2) n s ll = false := by simp [hereV, Ex.here, eqE, eqE1, *]
  rw [V]
  clear V
  go_enter Tryd.func62, Tryd.ntmps62
  go_wp2
  go_ret
  exact ⟨rfl, unhide B0⟩
set_option maxHeartbeats 2000000 in
theorem here2_0 (n : Int) (s : ByteArray) (ll : Nat) (hs : s.size ≤ 1099511627776) (hl : ll ≤ 9223372036854775807) : HereG (2) 0 s ll := by
  intro b cap w
  have B0 := hide (below_new w (.cells #[.int .i64 2, .int .i64 0, .string s, .slice b ll cap] 31))
  have V : hereV (2) 0 s ll = (nameB s && ll == 0) := by simp [hereV, Ex.here, eqE, eqE1, *]
  rw [V]
  clear V
  have Q := hide (nameS_any s (w.alloc (.cells #[.int .i64 2, .int .i64 0, .string s, .slice b ll cap] 31)) hs)
  generalize nameB s = q at *
  by_cases h0 : ll = 0
  · subst h0
    cases q <;> (go_enter Tryd.func62, Tryd.ntmps62; go_wp2_with (go_at_call 28; refine (unhide Q).mono ?_; rintro e w' ⟨rfl, hb⟩); go_ret; exact ⟨rfl, (unhide B0).trans (hb.mono (unhide B0).size)⟩)
  · have h1 : (ll == 0) = false := beq_eq_false_iff_ne.2 h0
    have h2 : ((ll : Int) == 0) = false := beq_eq_false_iff_ne.2 (by omega)
    rw [h1]
    clear h1 h0
    cases q <;> (go_enter Tryd.func62, Tryd.ntmps62; go_wp2_with (go_at_call 28; refine (unhide Q).mono ?_; rintro e w' ⟨rfl, hb⟩); go_ret; exact ⟨rfl, (unhide B0).trans (hb.mono (unhide B0).size)⟩)
set_option maxHeartbeats 2000000 in
theorem here12_n (n : Int) (s : ByteArray) (ll : Nat) (h : n ≠ 0) (hs : s.size ≤ 1099511627776) (hl : ll ≤ 9223372036854775807) : HereG (12) n s ll := by
  intro b cap w
  have B0 := hide (below_new w (.cells #[.int .i64 12, .int .i64 n, .string s, .slice b ll cap] 31))
  have V : hereV (12) n s ll = false := by simp [hereV, Ex.here, eqE, eqE1, *]
  rw [V]
  clear V
  go_enter Tryd.func62, Tryd.ntmps62
  go_wp2
  go_ret
  exact ⟨rfl, unhide B0⟩
set_option maxHeartbeats 2000000 in
theorem here12_0 (n : Int) (s : ByteArray) (ll : Nat) (hs : s.size ≤ 1099511627776) (hl : ll ≤ 9223372036854775807) : HereG (12) 0 s ll := by
  intro b cap w
  have B0 := hide (below_new w (.cells #[.int .i64 12, .int .i64 0, .string s, .slice b ll cap] 31))
  have V : hereV (12) 0 s ll = (nameB s && ll == 0) := by simp [hereV, Ex.here, eqE, eqE1, *]
  rw [V]
  clear V
  have Q := hide (nameS_any s (w.alloc (.cells #[.int .i64 12, .int .i64 0, .string s, .slice b ll cap] 31)) hs)
  generalize nameB s = q at *
  by_cases h0 : ll = 0
  · subst h0
    cases q <;> (go_enter Tryd.func62, Tryd.ntmps62; go_wp2_with (go_at_call 28; refine (unhide Q).mono ?_; rintro e w' ⟨rfl, hb⟩); go_ret; exact ⟨rfl, (unhide B0).trans (hb.mono (unhide B0).size)⟩)
  · have h1 : (ll == 0) = false := beq_eq_false_iff_ne.2 h0
    have h2 : ((ll : Int) == 0) = false := beq_eq_false_iff_ne.2 (by omega)
    rw [h1]
    clear h1 h0
    cases q <;> (go_enter Tryd.func62, Tryd.ntmps62; go_wp2_with (go_at_call 28; refine (unhide Q).mono ?_; rintro e w' ⟨rfl, hb⟩); go_ret; exact ⟨rfl, (unhide B0).trans (hb.mono (unhide B0).size)⟩)
set_option maxHeartbeats 2000000 in
theorem here3_n (n : Int) (s : ByteArray) (ll : Nat) (h : n ≠ 0) (hs : s.size ≤ 1099511627776) (hl : ll ≤ 9223372036854775807) : HereG (3) n s ll := by
  intro b cap w
  have B0 := hide (below_new w (.cells #[.int .i64 3, .int .i64 n, .string s, .slice b ll cap] 31))
  have V : hereV (3) n s ll = false := by simp [hereV, Ex.here, eqE, eqE1, *]
  rw [V]
  clear V
  go_enter Tryd.func62, Tryd.ntmps62
  go_wp2
  go_ret
  exact ⟨rfl, unhide B0⟩
set_option maxHeartbeats 2000000 in
theorem here3_s (n : Int) (s : ByteArray) (ll : Nat) (h : s ≠ E0) (hs : s.size ≤ 1099511627776) (hl : ll ≤ 9223372036854775807) : HereG (3) 0 s ll := by
  intro b cap w
  have B0 := hide (below_new w (.cells #[.int .i64 3, .int .i64 0, .string s, .slice b ll cap] 31))
  obtain ⟨h1, h2⟩ := emp_E s h
  have V : hereV (3) 0 s ll = false := by simp [hereV, Ex.here, eqE, eqE1, *]
  rw [V]
  clear V
  go_enter Tryd.func62, Tryd.ntmps62
  go_wp2
  go_ret
  exact ⟨rfl, unhide B0⟩
set_option maxHeartbeats 2000000 in
theorem here3_0 (n : Int) (s : ByteArray) (ll : Nat) (hs : s.size ≤ 1099511627776) (hl : ll ≤ 9223372036854775807) : HereG (3) 0 ⟨#[]⟩ ll := by
  intro b cap w
  have B0 := hide (below_new w (.cells #[.int .i64 3, .int .i64 0, .string ⟨#[]⟩, .slice b ll cap] 31))
  have V : hereV (3) 0 ⟨#[]⟩ ll = (ll == 0) := by simp [hereV, Ex.here, eqE, eqE1, *]
  rw [V]
  clear V
  by_cases h0 : ll = 0
  · subst h0
    go_enter Tryd.func62, Tryd.ntmps62
    go_wp2
    go_ret
    exact ⟨rfl, unhide B0⟩
  · have h1 : (ll == 0) = false := beq_eq_false_iff_ne.2 h0
    have h2 : ((ll : Int) == 0) = false := beq_eq_false_iff_ne.2 (by omega)
    rw [h1]
    clear h1 h0
    go_enter Tryd.func62, Tryd.ntmps62
    go_wp2
    go_ret
    exact ⟨rfl, unhide B0⟩
set_option maxHeartbeats 2000000 in
theorem here4_n (n : Int) (s : ByteArray) (ll : Nat) (h : n ≠ 0) (hs : s.size ≤ 1099511627776) (hl : ll ≤ 9223372036854775807) : HereG (4) n s ll := by
  intro b cap w
  have B0 := hide (below_new w (.cells #[.int .i64 4, .int .i64 n, .string s, .slice b ll cap] 31))
  have V : hereV (4) n s ll = false := by simp [hereV, Ex.here, eqE, eqE1, *]
  rw [V]
  clear V
  go_enter Tryd.func62, Tryd.ntmps62
  go_wp2
  go_ret
  exact ⟨rfl, unhide B0⟩
set_option maxHeartbeats 2000000 in
theorem here4_s (n : Int) (s : ByteArray) (ll : Nat) (h : s ≠ E0) (hs : s.size ≤ 1099511627776) (hl : ll ≤ 9223372036854775807) : HereG (4) 0 s ll := by
  intro b cap w
  have B0 := hide (below_new w (.cells #[.int .i64 4, .int .i64 0, .string s, .slice b ll cap] 31))
  obtain ⟨h1, h2⟩ := emp_E s h
  have V : hereV (4) 0 s ll = false := by simp [hereV, Ex.here, eqE, eqE1, *]
  rw [V]
  clear V
  go_enter Tryd.func62, Tryd.ntmps62
  go_wp2
  go_ret
  exact ⟨rfl, unhide B0⟩
set_option maxHeartbeats 2000000 in
theorem here4_0 (n : Int) (s : ByteArray) (ll : Nat) (hs : s.size ≤ 1099511627776) (hl : ll ≤ 9223372036854775807) : HereG (4) 0 ⟨#[]⟩ ll := by
  intro b cap w
  have B0 := hide (below_new w (.cells #[.int .i64 4, .int .i64 0, .string ⟨#[]⟩, .slice b ll cap] 31))
  have V : hereV (4) 0 ⟨#[]⟩ ll = (ll == 1) := by simp [hereV, Ex.here, eqE, eqE1, *]
  rw [V]
  clear V
  by_cases h0 : ll = 1
  · subst h0
    go_enter Tryd.func62, Tryd.ntmps62
    go_wp2
    go_ret
    exact ⟨rfl, unhide B0⟩
  · have h1 : (ll == 1) = false := beq_eq_false_iff_ne.2 h0
    have h2 : ((ll : Int) == 1) = false := beq_eq_false_iff_ne.2 (by omega)
    rw [h1]
    clear h1 h0
    go_enter Tryd.func62, Tryd.ntmps62
    go_wp2
    go_ret
    exact ⟨rfl, unhide B0⟩
set_option maxHeartbeats 2000000 in
theorem here5_n (n : Int) (s : ByteArray) (ll : Nat) (h : n ≠ 0) (hs : s.size ≤ 1099511627776) (hl : ll ≤ 9223372036854775807) : HereG (5) n s ll := by
  intro b cap w
  have B0 := hide (below_new w (.cells #[.int .i64 5, .int .i64 n, .string s, .slice b ll cap] 31))
  have V : hereV (5) n s ll = false := by simp [hereV, Ex.here, eqE, eqE1, *]
  rw [V]
  clear V
  go_enter Tryd.func62, Tryd.ntmps62
  go_wp2
  go_ret
  exact ⟨rfl, unhide B0⟩
set_option maxHeartbeats 2000000 in
theorem here5_s (n : Int) (s : ByteArray) (ll : Nat) (h : s ≠ E0) (hs : s.size ≤ 1099511627776) (hl : ll ≤ 9223372036854775807) : HereG (5) 0 s ll := by
  intro b cap w
  have B0 := hide (below_new w (.cells #[.int .i64 5, .int .i64 0, .string s, .slice b ll cap] 31))
  obtain ⟨h1, h2⟩ := emp_E s h
  have V : hereV (5) 0 s ll = false := by simp [hereV, Ex.here, eqE, eqE1, *]
  rw [V]
  clear V
  go_enter Tryd.func62, Tryd.ntmps62
  go_wp2
  go_ret
  exact ⟨rfl, unhide B0⟩
set_option maxHeartbeats 2000000 in
theorem here5_0 (n : Int) (s : ByteArray) (ll : Nat) (hs : s.size ≤ 1099511627776) (hl : ll ≤ 9223372036854775807) : HereG (5) 0 ⟨#[]⟩ ll := by
  intro b cap w
  have B0 := hide (below_new w (.cells #[.int .i64 5, .int .i64 0, .string ⟨#[]⟩, .slice b ll cap] 31))
  have V : hereV (5) 0 ⟨#[]⟩ ll = (ll == 2) := by simp [hereV, Ex.here, eqE, eqE1, *]
  rw [V]
  clear V
  by_cases h0 : ll = 2
  · subst h0
    go_enter Tryd.func62, Tryd.ntmps62
    go_wp2
    go_ret
    exact ⟨rfl, unhide B0⟩
  · have h1 : (ll == 2) = false := beq_eq_false_iff_ne.2 h0
    have h2 : ((ll : Int) == 2) = false := beq_eq_false_iff_ne.2 (by omega)
    rw [h1]
    clear h1 h0
    go_enter Tryd.func62, Tryd.ntmps62
    go_wp2
    go_ret
    exact ⟨rfl, unhide B0⟩
set_option maxHeartbeats 2000000 in
theorem here6_n (n : Int) (s : ByteArray) (ll : Nat) (h : n ≠ 0) (hs : s.size ≤ 1099511627776) (hl : ll ≤ 9223372036854775807) : HereG (6) n s ll := by
  intro b cap w
  have B0 := hide (below_new w (.cells #[.int .i64 6, .int .i64 n, .string s, .slice b ll cap] 31))
  have V : hereV (6) n s ll = false := by simp [hereV, Ex.here, eqE, eqE1, *]
  rw [V]
  clear V
  go_enter Tryd.func62, Tryd.ntmps62
  go_wp2
  go_ret
  exact ⟨rfl, unhide B0⟩
set_option maxHeartbeats 2000000 in
theorem here6_s (n : Int) (s : ByteArray) (ll : Nat) (h : s ≠ E0) (hs : s.size ≤ 1099511627776) (hl : ll ≤ 9223372036854775807) : HereG (6) 0 s ll := by
  intro b cap w
  have B0 := hide (below_new w (.cells #[.int .i64 6, .int .i64 0, .string s, .slice b ll cap] 31))
  obtain ⟨h1, h2⟩ := emp_E s h
  have V : hereV (6) 0 s ll = false := by simp [hereV, Ex.here, eqE, eqE1, *]
  rw [V]
  clear V
  go_enter Tryd.func62, Tryd.ntmps62
  go_wp2
  go_ret
  exact ⟨rfl, unhide B0⟩
set_option maxHeartbeats 2000000 in
theorem here6_0 (n : Int) (s : ByteArray) (ll : Nat) (hs : s.size ≤ 1099511627776) (hl : ll ≤ 9223372036854775807) : HereG (6) 0 ⟨#[]⟩ ll := by
  intro b cap w
  have B0 := hide (below_new w (.cells #[.int .i64 6, .int .i64 0, .string ⟨#[]⟩, .slice b ll cap] 31))
  have V : hereV (6) 0 ⟨#[]⟩ ll = (ll == 2) := by simp [hereV, Ex.here, eqE, eqE1, *]
  rw [V]
  clear V
  by_cases h0 : ll = 2
  · subst h0
    go_enter Tryd.func62, Tryd.ntmps62
    go_wp2
    go_ret
    exact ⟨rfl, unhide B0⟩
  · have h1 : (ll == 2) = false := beq_eq_false_iff_ne.2 h0
    have h2 : ((ll : Int) == 2) = false := beq_eq_false_iff_ne.2 (by omega)
    rw [h1]
    clear h1 h0
    go_enter Tryd.func62, Tryd.ntmps62
    go_wp2
    go_ret
    exact ⟨rfl, unhide B0⟩
set_option maxHeartbeats 2000000 in
theorem here7_n (n : Int) (s : ByteArray) (ll : Nat) (h : n ≠ 0) (hs : s.size ≤ 1099511627776) (hl : ll ≤ 9223372036854775807) : HereG (7) n s ll := by
  intro b cap w
  have B0 := hide (below_new w (.cells #[.int .i64 7, .int .i64 n, .string s, .slice b ll cap] 31))
  have V : hereV (7) n s ll = false := by simp [hereV, Ex.here, eqE, eqE1, *]
  rw [V]
  clear V
  go_enter Tryd.func62, Tryd.ntmps62
  go_wp2
  go_ret
  exact ⟨rfl, unhide B0⟩
set_option maxHeartbeats 2000000 in
theorem here7_s (n : Int) (s : ByteArray) (ll : Nat) (h : s ≠ E0) (hs : s.size ≤ 1099511627776) (hl : ll ≤ 9223372036854775807) : HereG (7) 0 s ll := by
  intro b cap w
  have B0 := hide (below_new w (.cells #[.int .i64 7, .int .i64 0, .string s, .slice b ll cap] 31))
  obtain ⟨h1, h2⟩ := emp_E s h
  have V : hereV (7) 0 s ll = false := by simp [hereV, Ex.here, eqE, eqE1, *]
  rw [V]
  clear V
  go_enter Tryd.func62, Tryd.ntmps62
  go_wp2
  go_ret
  exact ⟨rfl, unhide B0⟩
set_option maxHeartbeats 2000000 in
theorem here7_0 (n : Int) (s : ByteArray) (ll : Nat) (hs : s.size ≤ 1099511627776) (hl : ll ≤ 9223372036854775807) : HereG (7) 0 ⟨#[]⟩ ll := by
  intro b cap w
  have B0 := hide (below_new w (.cells #[.int .i64 7, .int .i64 0, .string ⟨#[]⟩, .slice b ll cap] 31))
  have V : hereV (7) 0 ⟨#[]⟩ ll = (ll == 2) := by simp [hereV, Ex.here, eqE, eqE1, *]
  rw [V]
  clear V
  by_cases h0 : ll = 2
  · subst h0
    go_enter Tryd.func62, Tryd.ntmps62
    go_wp2
    go_ret
    exact ⟨rfl, unhide B0⟩
  · have h1 : (ll == 2) = false := beq_eq_false_iff_ne.2 h0
    have h2 : ((ll : Int) == 2) = false := beq_eq_false_iff_ne.2 (by omega)
    rw [h1]
    clear h1 h0
    go_enter Tryd.func62, Tryd.ntmps62
    go_wp2
    go_ret
    exact ⟨rfl, unhide B0⟩
set_option maxHeartbeats 2000000 in
theorem here8_n (n : Int) (s : ByteArray) (ll : Nat) (h : n ≠ 0) (hs : s.size ≤ 1099511627776) (hl : ll ≤ 9223372036854775807) : HereG (8) n s ll := by
  intro b cap w
  have B0 := hide (below_new w (.cells #[.int .i64 8, .int .i64 n, .string s, .slice b ll cap] 31))
  have V : hereV (8) n s ll = false := by simp [hereV, Ex.here, eqE, eqE1, *]
  rw [V]
  clear V
  go_enter Tryd.func62, Tryd.ntmps62
  go_wp2
  go_ret
  exact ⟨rfl, unhide B0⟩
set_option maxHeartbeats 2000000 in
theorem here8_s (n : Int) (s : ByteArray) (ll : Nat) (h : s ≠ E0) (hs : s.size ≤ 1099511627776) (hl : ll ≤ 9223372036854775807) : HereG (8) 0 s ll := by
  intro b cap w
  have B0 := hide (below_new w (.cells #[.int .i64 8, .int .i64 0, .string s, .slice b ll cap] 31))
  obtain ⟨h1, h2⟩ := emp_E s h
  have V : hereV (8) 0 s ll = false := by simp [hereV, Ex.here, eqE, eqE1, *]
  rw [V]
  clear V
  go_enter Tryd.func62, Tryd.ntmps62
  go_wp2
  go_ret
  exact ⟨rfl, unhide B0⟩
set_option maxHeartbeats 2000000 in
theorem here8_0 (n : Int) (s : ByteArray) (ll : Nat) (hs : s.size ≤ 1099511627776) (hl : ll ≤ 9223372036854775807) : HereG (8) 0 ⟨#[]⟩ ll := by
  intro b cap w
  have B0 := hide (below_new w (.cells #[.int .i64 8, .int .i64 0, .string ⟨#[]⟩, .slice b ll cap] 31))
  have V : hereV (8) 0 ⟨#[]⟩ ll = (ll == 2) := by simp [hereV, Ex.here, eqE, eqE1, *]
  rw [V]
  clear V
  by_cases h0 : ll = 2
  · subst h0
    go_enter Tryd.func62, Tryd.ntmps62
    go_wp2
    go_ret
    exact ⟨rfl, unhide B0⟩
  · have h1 : (ll == 2) = false := beq_eq_false_iff_ne.2 h0
    have h2 : ((ll : Int) == 2) = false := beq_eq_false_iff_ne.2 (by omega)
    rw [h1]
    clear h1 h0
    go_enter Tryd.func62, Tryd.ntmps62
    go_wp2
    go_ret
    exact ⟨rfl, unhide B0⟩
set_option maxHeartbeats 2000000 in
theorem here9_n (n : Int) (s : ByteArray) (ll : Nat) (h : n ≠ 0) (hs : s.size ≤ 1099511627776) (hl : ll ≤ 9223372036854775807) : HereG (9) n s ll := by
  intro b cap w
  have B0 := hide (below_new w (.cells #[.int .i64 9, .int .i64 n, .string s, .slice b ll cap] 31))
  have V : hereV (9) n s ll = false := by simp [hereV, Ex.here, eqE, eqE1, *]
  rw [V]
  clear V
  go_enter Tryd.func62, Tryd.ntmps62
  go_wp2
  go_ret
  exact ⟨rfl, unhide B0⟩
set_option maxHeartbeats 2000000 in
theorem here9_s (n : Int) (s : ByteArray) (ll : Nat) (h : s ≠ E0) (hs : s.size ≤ 1099511627776) (hl : ll ≤ 9223372036854775807) : HereG (9) 0 s ll := by
  intro b cap w
  have B0 := hide (below_new w (.cells #[.int .i64 9, .int .i64 0, .string s, .slice b ll cap] 31))
  obtain ⟨h1, h2⟩ := emp_E s h
  have V : hereV (9) 0 s ll = false := by simp [hereV, Ex.here, eqE, eqE1, *]
  rw [V]
  clear V
  go_enter Tryd.func62, Tryd.ntmps62
  go_wp2
  go_ret
  exact ⟨rfl, unhide B0⟩
set_option maxHeartbeats 2000000 in
theorem here9_0 (n : Int) (s : ByteArray) (ll : Nat) (hs : s.size ≤ 1099511627776) (hl : ll ≤ 9223372036854775807) : HereG (9) 0 ⟨#[]⟩ ll := by
  intro b cap w
  have B0 := hide (below_new w (.cells #[.int .i64 9, .int .i64 0, .string ⟨#[]⟩, .slice b ll cap] 31))
  have V : hereV (9) 0 ⟨#[]⟩ ll = (ll == 2) := by simp [hereV, Ex.here, eqE, eqE1, *]
  rw [V]
  clear V
  by_cases h0 : ll = 2
  · subst h0
    go_enter Tryd.func62, Tryd.ntmps62
    go_wp2
    go_ret
    exact ⟨rfl, unhide B0⟩
  · have h1 : (ll == 2) = false := beq_eq_false_iff_ne.2 h0
    have h2 : ((ll : Int) == 2) = false := beq_eq_false_iff_ne.2 (by omega)
    rw [h1]
    clear h1 h0
    go_enter Tryd.func62, Tryd.ntmps62
    go_wp2
    go_ret
    exact ⟨rfl, unhide B0⟩
set_option maxHeartbeats 2000000 in
theorem here10_n (n : Int) (s : ByteArray) (ll : Nat) (h : n ≠ 0) (hs : s.size ≤ 1099511627776) (hl : ll ≤ 9223372036854775807) : HereG (10) n s ll := by
  intro b cap w
  have B0 := hide (below_new w (.cells #[.int .i64 10, .int .i64 n, .string s, .slice b ll cap] 31))
  have V : hereV (10) n s ll = false := by simp [hereV, Ex.here, eqE, eqE1, *]
  rw [V]
  clear V
  go_enter Tryd.func62, Tryd.ntmps62
  go_wp2
  go_ret
  exact ⟨rfl, unhide B0⟩
set_option maxHeartbeats 2000000 in
theorem here10_s (n : Int) (s : ByteArray) (ll : Nat) (h : s ≠ E0) (hs : s.size ≤ 1099511627776) (hl : ll ≤ 9223372036854775807) : HereG (10) 0 s ll := by
  intro b cap w
  have B0 := hide (below_new w (.cells #[.int .i64 10, .int .i64 0, .string s, .slice b ll cap] 31))
  obtain ⟨h1, h2⟩ := emp_E s h
  have V : hereV (10) 0 s ll = false := by simp [hereV, Ex.here, eqE, eqE1, *]
  rw [V]
  clear V
  go_enter Tryd.func62, Tryd.ntmps62
  go_wp2
  go_ret
  exact ⟨rfl, unhide B0⟩
set_option maxHeartbeats 2000000 in
theorem here10_0 (n : Int) (s : ByteArray) (ll : Nat) (hs : s.size ≤ 1099511627776) (hl : ll ≤ 9223372036854775807) : HereG (10) 0 ⟨#[]⟩ ll := by
  intro b cap w
  have B0 := hide (below_new w (.cells #[.int .i64 10, .int .i64 0, .string ⟨#[]⟩, .slice b ll cap] 31))
  have V : hereV (10) 0 ⟨#[]⟩ ll = (ll == 2) := by simp [hereV, Ex.here, eqE, eqE1, *]
  rw [V]
  clear V
  by_cases h0 : ll = 2
  · subst h0
    go_enter Tryd.func62, Tryd.ntmps62
    go_wp2
    go_ret
    exact ⟨rfl, unhide B0⟩
  · have h1 : (ll == 2) = false := beq_eq_false_iff_ne.2 h0
    have h2 : ((ll : Int) == 2) = false := beq_eq_false_iff_ne.2 (by omega)
    rw [h1]
    clear h1 h0
    go_enter Tryd.func62, Tryd.ntmps62
    go_wp2
    go_ret
    exact ⟨rfl, unhide B0⟩
set_option maxHeartbeats 2000000 in
theorem here_n (n : Int) (s : ByteArray) (ll : Nat) (k : Int) (h1 : k ≠ 1) (h2 : k ≠ 2) (h3 : k ≠ 3) (h4 : k ≠ 4) (h5 : k ≠ 5) (h6 : k ≠ 6) (h7 : k ≠ 7) (h8 : k ≠ 8) (h9 : k ≠ 9) (h10 : k ≠ 10) (h11 : k ≠ 11) (h12 : k ≠ 12) (h : n ≠ 0) (hs : s.size ≤ 1099511627776) (hl : ll ≤ 9223372036854775807) : HereG k n s ll := by
  intro b cap w
  have B0 := hide (below_new w (.cells #[.int .i64 k, .int .i64 n, .string s, .slice b ll cap] 31))
  have g1 : (k == 1) = false := beq_eq_false_iff_ne.2 h1
  have g2 : (k == 2) = false := beq_eq_false_iff_ne.2 h2
  have g3 : (k == 3) = false := beq_eq_false_iff_ne.2 h3
  have g4 : (k == 4) = false := beq_eq_false_iff_ne.2 h4
  have g5 : (k == 5) = false := beq_eq_false_iff_ne.2 h5
  have g6 : (k == 6) = false := beq_eq_false_iff_ne.2 h6
  have g7 : (k == 7) = false := beq_eq_false_iff_ne.2 h7
  have g8 : (k == 8) = false := beq_eq_false_iff_ne.2 h8
  have g9 : (k == 9) = false := beq_eq_false_iff_ne.2 h9
  have g10 : (k == 10) = false := beq_eq_false_iff_ne.2 h10
  have g11 : (k == 11) = false := beq_eq_false_iff_ne.2 h11
  have g12 : (k == 12) = false := beq_eq_false_iff_ne.2 h12
  have m1 : (k != 1) = true := by simp [h1]
  have m2 : (k != 2) = true := by simp [h2]
  have m11 : (k != 11) = true := by simp [h11]
  have m12 : (k != 12) = true := by simp [h12]
  have V : hereV k n s ll = false := by unfold hereV Ex.here; simp only; split; rfl; repeat (first | rfl | rw [if_neg (by omega)])
  rw [V]
  clear V
  go_enter Tryd.func62, Tryd.ntmps62
  go_wp2
  go_ret
  exact ⟨rfl, unhide B0⟩
set_option maxHeartbeats 2000000 in
theorem here_s (n : Int) (s : ByteArray) (ll : Nat) (k : Int) (h1 : k ≠ 1) (h2 : k ≠ 2) (h3 : k ≠ 3) (h4 : k ≠ 4) (h5 : k ≠ 5) (h6 : k ≠ 6) (h7 : k ≠ 7) (h8 : k ≠ 8) (h9 : k ≠ 9) (h10 : k ≠ 10) (h11 : k ≠ 11) (h12 : k ≠ 12) (h : s ≠ E0) (hs : s.size ≤ 1099511627776) (hl : ll ≤ 9223372036854775807) : HereG k 0 s ll := by
  intro b cap w
  have B0 := hide (below_new w (.cells #[.int .i64 k, .int .i64 0, .string s, .slice b ll cap] 31))
  have g1 : (k == 1) = false := beq_eq_false_iff_ne.2 h1
  have g2 : (k == 2) = false := beq_eq_false_iff_ne.2 h2
  have g3 : (k == 3) = false := beq_eq_false_iff_ne.2 h3
  have g4 : (k == 4) = false := beq_eq_false_iff_ne.2 h4
  have g5 : (k == 5) = false := beq_eq_false_iff_ne.2 h5
  have g6 : (k == 6) = false := beq_eq_false_iff_ne.2 h6
  have g7 : (k == 7) = false := beq_eq_false_iff_ne.2 h7
  have g8 : (k == 8) = false := beq_eq_false_iff_ne.2 h8
  have g9 : (k == 9) = false := beq_eq_false_iff_ne.2 h9
  have g10 : (k == 10) = false := beq_eq_false_iff_ne.2 h10
  have g11 : (k == 11) = false := beq_eq_false_iff_ne.2 h11
  have g12 : (k == 12) = false := beq_eq_false_iff_ne.2 h12
  have m1 : (k != 1) = true := by simp [h1]
  have m2 : (k != 2) = true := by simp [h2]
  have m11 : (k != 11) = true := by simp [h11]
  have m12 : (k != 12) = true := by simp [h12]
  obtain ⟨hh1, hh2⟩ := emp_E s h
  have V : hereV k 0 s ll = false := by unfold hereV Ex.here; simp only; split; rfl; repeat (first | rfl | rw [if_neg (by omega)])
  rw [V]
  clear V
  go_enter Tryd.func62, Tryd.ntmps62
  go_wp2
  go_ret
  exact ⟨rfl, unhide B0⟩
set_option maxHeartbeats 2000000 in
theorem here_0 (n : Int) (s : ByteArray) (ll : Nat) (k : Int) (h1 : k ≠ 1) (h2 : k ≠ 2) (h3 : k ≠ 3) (h4 : k ≠ 4) (h5 : k ≠ 5) (h6 : k ≠ 6) (h7 : k ≠ 7) (h8 : k ≠ 8) (h9 : k ≠ 9) (h10 : k ≠ 10) (h11 : k ≠ 11) (h12 : k ≠ 12) (hs : s.size ≤ 1099511627776) (hl : ll ≤ 9223372036854775807) : HereG k 0 ⟨#[]⟩ ll := by
  intro b cap w
  have B0 := hide (below_new w (.cells #[.int .i64 k, .int .i64 0, .string ⟨#[]⟩, .slice b ll cap] 31))
  have g1 : (k == 1) = false := beq_eq_false_iff_ne.2 h1
  have g2 : (k == 2) = false := beq_eq_false_iff_ne.2 h2
  have g3 : (k == 3) = false := beq_eq_false_iff_ne.2 h3
  have g4 : (k == 4) = false := beq_eq_false_iff_ne.2 h4
  have g5 : (k == 5) = false := beq_eq_false_iff_ne.2 h5
  have g6 : (k == 6) = false := beq_eq_false_iff_ne.2 h6
  have g7 : (k == 7) = false := beq_eq_false_iff_ne.2 h7
  have g8 : (k == 8) = false := beq_eq_false_iff_ne.2 h8
  have g9 : (k == 9) = false := beq_eq_false_iff_ne.2 h9
  have g10 : (k == 10) = false := beq_eq_false_iff_ne.2 h10
  have g11 : (k == 11) = false := beq_eq_false_iff_ne.2 h11
  have g12 : (k == 12) = false := beq_eq_false_iff_ne.2 h12
  have m1 : (k != 1) = true := by simp [h1]
  have m2 : (k != 2) = true := by simp [h2]
  have m11 : (k != 11) = true := by simp [h11]
  have m12 : (k != 12) = true := by simp [h12]
  have V : hereV k 0 ⟨#[]⟩ ll = false := by unfold hereV Ex.here; simp only; split; rfl; repeat (first | rfl | rw [if_neg (by omega)])
  rw [V]
  clear V
  go_enter Tryd.func62, Tryd.ntmps62
  go_wp2
  go_ret
  exact ⟨rfl, unhide B0⟩
theorem hereS_any (e : Ex) (b : Option Addr) (cap : Nat) (w : World) (hs : e.s.size ≤ 1099511627776) (hl : e.l.length ≤ 9223372036854775807) : Calls Tryd.prog 62 #[.agg (e.cs b cap)] w fun r w' => r = .returned (.bool e.here) ∧ Below w.heap.size w w' := by
  rw [here_is]
  unfold Ex.cs
  obtain ⟨k, n, s, l⟩ := e
  simp only at hs hl ⊢
  generalize l.length = ll at *
  revert b cap w
  show HereG k n s ll
  by_cases c1 : k = 1
  · subst c1
    by_cases h : s = E0
    · subst h; exact here1_0 n E0 ll hs hl
    · exact here1_s n s ll h hs hl
  by_cases c11 : k = 11
  · subst c11
    by_cases h : s = E0
    · subst h; exact here11_0 n E0 ll hs hl
    · exact here11_s n s ll h hs hl
  by_cases c2 : k = 2
  · subst c2
    by_cases h : n = 0
    · subst h; exact here2_0 0 s ll hs hl
    · exact here2_n n s ll h hs hl
  by_cases c12 : k = 12
  · subst c12
    by_cases h : n = 0
    · subst h; exact here12_0 0 s ll hs hl
    · exact here12_n n s ll h hs hl
  by_cases c3 : k = 3
  · subst c3
    by_cases h : n = 0
    · subst h
      by_cases h : s = E0
      · subst h; exact here3_0 0 E0 ll hs hl
      · exact here3_s 0 s ll h hs hl
    · exact here3_n n s ll h hs hl
  by_cases c4 : k = 4
  · subst c4
    by_cases h : n = 0
    · subst h
      by_cases h : s = E0
      · subst h; exact here4_0 0 E0 ll hs hl
      · exact here4_s 0 s ll h hs hl
    · exact here4_n n s ll h hs hl
  by_cases c5 : k = 5
  · subst c5
    by_cases h : n = 0
    · subst h
      by_cases h : s = E0
      · subst h; exact here5_0 0 E0 ll hs hl
      · exact here5_s 0 s ll h hs hl
    · exact here5_n n s ll h hs hl
  by_cases c6 : k = 6
  · subst c6
    by_cases h : n = 0
    · subst h
      by_cases h : s = E0
      · subst h; exact here6_0 0 E0 ll hs hl
      · exact here6_s 0 s ll h hs hl
    · exact here6_n n s ll h hs hl
  by_cases c7 : k = 7
  · subst c7
    by_cases h : n = 0
    · subst h
      by_cases h : s = E0
      · subst h; exact here7_0 0 E0 ll hs hl
      · exact here7_s 0 s ll h hs hl
    · exact here7_n n s ll h hs hl
  by_cases c8 : k = 8
  · subst c8
    by_cases h : n = 0
    · subst h
      by_cases h : s = E0
      · subst h; exact here8_0 0 E0 ll hs hl
      · exact here8_s 0 s ll h hs hl
    · exact here8_n n s ll h hs hl
  by_cases c9 : k = 9
  · subst c9
    by_cases h : n = 0
    · subst h
      by_cases h : s = E0
      · subst h; exact here9_0 0 E0 ll hs hl
      · exact here9_s 0 s ll h hs hl
    · exact here9_n n s ll h hs hl
  by_cases c10 : k = 10
  · subst c10
    by_cases h : n = 0
    · subst h
      by_cases h : s = E0
      · subst h; exact here10_0 0 E0 ll hs hl
      · exact here10_s 0 s ll h hs hl
    · exact here10_n n s ll h hs hl
  by_cases h : n = 0
  · subst h
    by_cases h : s = E0
    · subst h; exact here_0 0 E0 ll k c1 c2 c3 c4 c5 c6 c7 c8 c9 c10 c11 c12 hs hl
    · exact here_s 0 s ll k c1 c2 c3 c4 c5 c6 c7 c8 c9 c10 c11 c12 h hs hl
  · exact here_n n s ll k c1 c2 c3 c4 c5 c6 c7 c8 c9 c10 c11 c12 h hs hl
end Go.Proofs.YtmhcbehplhfgfaaDoor

namespace Go.Proofs.YtmhcbehplhfgfaaDoor
open Go.ChangeShapes Go.WideShapes Go.ChangeAt Go.RowKit
set_option linter.unusedVariables false
set_option maxRecDepth 8000

/-- What is left of so much. -/
def lessX (left : Int) (z : Nat) : Int := if left - (z : Int) < 0 then -1 else left - (z : Int)
def SzP (e : Ex) : Prop := ∀ (b : Option Addr) (cap : Nat) (left : Int) (w : World), RdX w 0 e b → Fit e → 0 ≤ left → left ≤ 1048576 → Calls Tryd.prog 18 #[.agg (e.cs b cap), .int .i64 left] w fun r w' => r = .returned (.int .i64 (lessX left e.sz)) ∧ Below w.heap.size w w'
set_option maxHeartbeats 1000000 in
theorem szXS_of (e : Ex) (ih : ∀ i, i < e.l.length → SzP (xAt e.l i)) (b : Option Addr) (cap : Nat) (left : Int) (w : World) (hr : RdX w 0 e b) (hf : Fit e) (h0 : 0 ≤ left) (h1 : left ≤ 1048576) : Calls Tryd.prog 25 #[.slice b e.l.length cap, .int .i64 left] w fun r w' => r = .returned (.int .i64 (lessX left (e.l.length + szX e.l))) ∧ Below w.heap.size w w' := by
  obtain ⟨_, hm, hfi⟩ := (Fit_eq e).1 hf
  rw [RdX_eq] at hr
  generalize e.l = l at *
  clear hf
  obtain ⟨len, hl⟩ : ∃ len, l.length = len := ⟨_, rfl⟩
  rw [hl] at hm ih hfi hr ⊢
  by_cases hbig : left - (len : Int) < 0
  · have E := hide (show lessX left (len + szX l) = -1 by unfold lessX; rw [if_pos (by omega)])
    rw [unhide E]
    go_enter Tryd.func25, Tryd.ntmps25
    go_wp2
    go_ret
    exact ⟨rfl, Below.refl _ _⟩
  · obtain ⟨T, hT⟩ : ∃ T, lessX left (len + szX l) = T := ⟨_, rfl⟩
    have HT := hide hT
    rw [hT]
    clear hT
    go_enter Tryd.func25, Tryd.ntmps25
    go_wp2
    go_loopw [1, 5] (fun lv i wr => ∃ k : Nat, k ≤ len ∧ i = .int .i64 k ∧ 0 ≤ left - (len : Int) - (szX (l.take k) : Int) ∧ lv = .int .i64 (left - len - szX (l.take k)) ∧ Below w.heap.size w wr) (fun _ i _ => len - (intOf i).toNat)
    case atStart => exact ⟨0, Nat.zero_le _, rfl, by simp [szX]; omega, by simp [szX], Below.refl _ _⟩
    case round =>
      obtain ⟨k, hk, rfl, hs, rfl, hb⟩ := hrel
      by_cases hlt : k < len
      · rcases hr with h00 | ⟨b, off, rfl, _, hbl, hc⟩
        · rw [h00] at hl; simp at hl; omega
        obtain ⟨c0, c1, c2, c, cap', c3, c4⟩ := hc k (by omega)
        have d0 : wr.cell? ⟨b, off + k * 4, none⟩ = _ := (hb.cell (p := ⟨b, _, none⟩) hbl).trans c0
        have d1 : wr.cell? ⟨b, off + k * 4 + 1, none⟩ = _ := (hb.cell (p := ⟨b, _, none⟩) hbl).trans c1
        have d2 : wr.cell? ⟨b, off + k * 4 + 2, none⟩ = _ := (hb.cell (p := ⟨b, _, none⟩) hbl).trans c2
        have d3 : wr.cell? ⟨b, off + k * 4 + 3, none⟩ = _ := (hb.cell (p := ⟨b, _, none⟩) hbl).trans c3
        have HS := hide (ih k hlt c cap' (left - len - szX (l.take k)) wr (c4.later hb) (hfi k hlt) hs (by omega))
        have ST := hide (szX_take l k (by omega))
        have SL := hide (szX_le l (k + 1))
        clear c0 c1 c2 c3 c4 hc
        unfold Ex.cs at HS
        generalize hzs : (xAt l k).sz = z at HS ST
        generalize (xAt l k).s = ss at d2 HS
        generalize (xAt l k).k = kk at d0 HS
        generalize (xAt l k).n = nn at d1 HS
        generalize (xAt l k).l.length = ll at d3 HS
        by_cases hneg : left - (len : Int) - (szX (l.take k) : Int) - (z : Int) < 0
        · have E := hide (show T = -1 by rw [← unhide HT]; unfold lessX; rw [if_pos]; have := unhide ST; have := unhide SL; omega)
          have E2 : lessX (left - (len : Int) - (szX (l.take k) : Int)) z = -1 := by unfold lessX; rw [if_pos hneg]
          rw [E2] at HS
          go_wp2_with (go_at_call 18; refine (unhide HS).mono ?_; rintro e w1 ⟨rfl, hb1⟩)
          go_ret
          exact ⟨by rw [unhide E]; rfl, hb.trans (hb1.mono hb.size)⟩
        · have E2 : lessX (left - (len : Int) - (szX (l.take k) : Int)) z = left - (len : Int) - (szX (l.take k) : Int) - (z : Int) := by unfold lessX; rw [if_neg hneg]
          rw [E2] at HS
          go_wp2_with (go_at_call 18; refine (unhide HS).mono ?_; rintro e w1 ⟨rfl, hb1⟩)
          go_roundw
          case rel =>
            refine ⟨k + 1, by omega, by go_num, ?_, ?_, hb.trans (hb1.mono hb.size)⟩
            · rw [unhide ST]; omega
            · rw [unhide ST]; congr 1; omega
          case measure => simp [intOf]; omega
      · obtain rfl : k = len := by omega
        have E := hide (show l.take k = l by rw [← hl, List.take_length])
        rw [unhide E] at hs
        have E2 := hide (show T = left - (k : Int) - (szX (l.take k) : Int) by rw [← unhide HT]; unfold lessX; rw [unhide E, if_neg (by omega)]; omega)
        go_wp2
        go_ret
        exact ⟨by rw [unhide E2]; rfl, hb⟩
set_option maxHeartbeats 1000000 in
theorem szX_any (e : Ex) : SzP e := by
  induction e using Ex.ind with
  | h k n s l ih =>
    intro b cap left w hr hf h0 h1
    have hs := ((Fit_eq _).1 hf).1
    have HZ := hide (fun (w1 : World) (hb : Below w.heap.size w w1) (lv : Int) (h2 : 0 ≤ lv) (h3 : lv ≤ 1048576) => szXS_of ⟨k, n, s, l⟩ (fun i hi => ih _ (xAt_mem hi)) b cap lv w1 (hr.later hb) hf h2 h3)
    have SZ := hide (sz_is ⟨k, n, s, l⟩)
    have e1 : (Ex.mk k n s l).s = s := rfl
    have e2 : (Ex.mk k n s l).l = l := rfl
    rw [e1] at hs
    rw [e1, e2] at SZ
    rw [e2] at HZ
    unfold Ex.cs
    simp only
    rw [unhide SZ]
    clear hr hf ih SZ e1 e2
    generalize hll : l.length = ll at *
    generalize szX l = zz at *
    have hbW : Below w.heap.size w (w.alloc (.cells #[.int .i64 k, .int .i64 n, .string s, .slice b ll cap] 24)) := (Below.refl _ _).alloc (Nat.le_refl _) _
    have HB := hide hbW
    by_cases hneg : left - (s.size : Int) < 0
    · have E := hide (show lessX left (s.size + ll + zz) = -1 by unfold lessX; rw [if_pos (by omega)])
      rw [unhide E]
      clear HZ hbW
      go_enter Tryd.func18, Tryd.ntmps18
      go_wp2
      go_ret
      exact ⟨rfl, unhide HB⟩
    · have HS := hide (unhide HZ _ hbW (left - s.size) (by omega) (by omega))
      by_cases hneg2 : left - (s.size : Int) - ((ll + zz : Nat) : Int) < 0
      · have E := hide (show lessX left (s.size + ll + zz) = -1 by unfold lessX; rw [if_pos (by omega)])
        have E2 : lessX (left - s.size) (ll + zz) = -1 := by unfold lessX; rw [if_pos (by omega)]
        rw [E2] at HS
        rw [unhide E]
        clear HZ hbW
        go_enter Tryd.func18, Tryd.ntmps18
        go_wp2_with (go_at_call 25; refine (unhide HS).mono ?_; rintro e w1 ⟨rfl, hb1⟩)
        go_ret
        exact ⟨rfl, (unhide HB).trans (hb1.mono (unhide HB).size)⟩
      · have E := hide (show lessX left (s.size + ll + zz) = left - (s.size : Int) - ((ll + zz : Nat) : Int) by unfold lessX; rw [if_neg (by omega)]; omega)
        have E2 : lessX (left - s.size) (ll + zz) = left - (s.size : Int) - ((ll + zz : Nat) : Int) := by unfold lessX; rw [if_neg (by omega)]
        rw [E2] at HS
        rw [unhide E]
        have hp : 0 ≤ left - (s.size : Int) - ((ll + zz : Nat) : Int) := by omega
        clear HZ hbW
        generalize left - (s.size : Int) - ((ll + zz : Nat) : Int) = rest at *
        go_enter Tryd.func18, Tryd.ntmps18
        go_wp2_with (go_at_call 25; refine (unhide HS).mono ?_; rintro e w1 ⟨rfl, hb1⟩)
        go_ret
        exact ⟨rfl, (unhide HB).trans (hb1.mono (unhide HB).size)⟩
end Go.Proofs.YtmhcbehplhfgfaaDoor

namespace Go.Proofs.YtmhcbehplhfgfaaDoor
open Go.ChangeShapes Go.WideShapes Go.ChangeAt Go.RowKit
set_option linter.unusedVariables false
set_option maxRecDepth 8000

/-- The parts of a term lie at a, each list in a whole block of cells that is not frozen; F: the blocks. -/
def OwX (w : World) : Ex → Option Addr → List Nat → Prop
  | ⟨_, _, _, l⟩, a, F => (l = [] ∧ F = []) ∨ ∃ (b : Nat) (cs : Array Value) (t : TypeId) (Fs : List (List Nat)), a = some ⟨b, 0, none⟩ ∧ w.heap[b]? = some (.cells cs t (0, 0)) ∧ l.length * 4 ≤ cs.size ∧ Fs.length = l.length ∧ F = b :: Fs.flatten ∧ ∀ x ∈ l, ∀ i, l[i]? = some x → cs[i * 4]? = some (.int .i64 x.k) ∧ cs[i * 4 + 1]? = some (.int .i64 x.n) ∧ cs[i * 4 + 2]? = some (.string x.s) ∧ ∃ c cap, cs[i * 4 + 3]? = some (.slice c x.l.length cap) ∧ OwX w x c (Fs.getD i [])
/-- One part in a row, owned. -/
def OwOne (w : World) (cs : Array Value) (i : Nat) (x : Ex) (F : List Nat) : Prop := cs[i * 4]? = some (.int .i64 x.k) ∧ cs[i * 4 + 1]? = some (.int .i64 x.n) ∧ cs[i * 4 + 2]? = some (.string x.s) ∧ ∃ c cap, cs[i * 4 + 3]? = some (.slice c x.l.length cap) ∧ OwX w x c F
theorem OwX_eq (w : World) (e : Ex) (a : Option Addr) (F : List Nat) : OwX w e a F ↔ ((e.l = [] ∧ F = []) ∨ ∃ (b : Nat) (cs : Array Value) (t : TypeId) (Fs : List (List Nat)), a = some ⟨b, 0, none⟩ ∧ w.heap[b]? = some (.cells cs t (0, 0)) ∧ e.l.length * 4 ≤ cs.size ∧ Fs.length = e.l.length ∧ F = b :: Fs.flatten ∧ ∀ i, i < e.l.length → OwOne w cs i (xAt e.l i) (Fs.getD i [])) := by
  obtain ⟨k, n, s, l⟩ := e
  rw [OwX]
  refine or_congr Iff.rfl (exists_congr fun b => exists_congr fun cs => exists_congr fun t => exists_congr fun Fs => and_congr Iff.rfl (and_congr Iff.rfl (and_congr Iff.rfl (and_congr Iff.rfl (and_congr Iff.rfl ⟨fun h i hi => ?_, fun h x hx i hi => ?_⟩)))))
  · exact h _ (xAt_mem hi) i (by rw [xAt_get hi]; exact List.getElem?_eq_getElem hi)
  · obtain ⟨hl, e⟩ := List.getElem?_eq_some_iff.1 hi
    have := h i hl
    rw [xAt_get hl, e] at this
    exact this
theorem getD_flat {Fs : List (List Nat)} {i : Nat} {b : Nat} (h : b ∈ Fs.getD i []) : b ∈ Fs.flatten := by
  rw [List.getD_eq_getElem?_getD] at h
  by_cases hi : i < Fs.length
  · rw [List.getElem?_eq_getElem hi] at h
    exact List.mem_flatten.2 ⟨_, List.getElem_mem hi, h⟩
  · rw [List.getElem?_eq_none (by omega)] at h
    cases h
theorem OwX.keep {w w' : World} (e : Ex) : ∀ a F, (∀ b ∈ F, w'.heap[b]? = w.heap[b]?) → OwX w e a F → OwX w' e a F := by
  induction e using Ex.ind with
  | h k n s l ih =>
    intro a F hk h
    rw [OwX_eq] at h ⊢
    rcases h with h | ⟨b, cs, t, Fs, ha, hh, hz, hF, rfl, h3⟩
    · exact .inl h
    · refine .inr ⟨b, cs, t, Fs, ha, (hk b List.mem_cons_self).trans hh, hz, hF, rfl, fun i hi => ?_⟩
      obtain ⟨c1, c2, c3, c, cap, c4, c5⟩ := h3 i hi
      exact ⟨c1, c2, c3, c, cap, c4, ih _ (xAt_mem hi) _ _ (fun b hb => hk b (List.mem_cons_of_mem _ (getD_flat hb))) c5⟩
theorem OwX.lt {w : World} (e : Ex) : ∀ a F, OwX w e a F → ∀ b ∈ F, b < w.heap.size := by
  induction e using Ex.ind with
  | h k n s l ih =>
    intro a F h
    rw [OwX_eq] at h
    rcases h with ⟨_, rfl⟩ | ⟨b, cs, t, Fs, ha, hh, hz, hF, rfl, h3⟩
    · intro b hb; cases hb
    · intro x hx
      rcases List.mem_cons.1 hx with rfl | hx
      · exact (Array.getElem?_eq_some_iff.1 hh).1
      · obtain ⟨G, hG, hx⟩ := List.mem_flatten.1 hx
        obtain ⟨i, hi, rfl⟩ := List.getElem_of_mem hG
        have hi2 : i < l.length := hF ▸ hi
        obtain ⟨c1, c2, c3, c, cap, c4, c5⟩ := h3 i hi2
        rw [List.getD_eq_getElem?_getD, List.getElem?_eq_getElem hi] at c5
        exact ih _ (xAt_mem hi2) _ _ c5 _ hx
theorem OwX.later {w w' : World} {e : Ex} {a : Option Addr} {F : List Nat} (h : OwX w e a F) (hb : Below w.heap.size w w') : OwX w' e a F :=
  OwX.keep e a F (fun b hF => hb.block b (OwX.lt e a F h b hF)) h
theorem OwX.rd {w : World} {B : Nat} (e : Ex) : ∀ a F, (∀ b ∈ F, B ≤ b) → OwX w e a F → RdX w B e a := by
  induction e using Ex.ind with
  | h k n s l ih =>
    intro a F hB h
    rw [OwX_eq] at h
    rw [RdX_eq]
    rcases h with h | ⟨b, cs, t, Fs, ha, hh, hz, hF, rfl, h3⟩
    · exact .inl h.1
    · refine .inr ⟨b, 0, ha, hB b List.mem_cons_self, (Array.getElem?_eq_some_iff.1 hh).1, fun i hi => ?_⟩
      obtain ⟨c1, c2, c3, c, cap, c4, c5⟩ := h3 i hi
      unfold OneX
      simp only [Nat.zero_add]
      exact ⟨(Lib.cell_of_heap hh _).trans c1, (Lib.cell_of_heap hh _).trans c2, (Lib.cell_of_heap hh _).trans c3, c, cap, (Lib.cell_of_heap hh _).trans c4, ih _ (xAt_mem hi) _ _ (fun b hb => hB b (List.mem_cons_of_mem _ (getD_flat hb))) c5⟩
/-- The parts of a term lie at a, in blocks of its own from B on, no two the same. -/
def NewX (w : World) (B : Nat) (e : Ex) (a : Option Addr) : Prop := ∃ F, OwX w e a F ∧ F.Nodup ∧ ∀ b ∈ F, B ≤ b
section
variable {w w' : World} {B C : Nat} {e : Ex} {a : Option Addr}
theorem NewX.rd (h : NewX w B e a) : RdX w B e a := by obtain ⟨F, h1, _, h3⟩ := h; exact OwX.rd e a F h3 h1
theorem NewX.later (h : NewX w B e a) (hb : Below w.heap.size w w') : NewX w' B e a := by obtain ⟨F, h1, h2, h3⟩ := h; exact ⟨F, h1.later hb, h2, h3⟩
theorem NewX.lower (h : NewX w B e a) (hC : C ≤ B) : NewX w C e a := by obtain ⟨F, h1, h2, h3⟩ := h; exact ⟨F, h1, h2, fun b hb => Nat.le_trans hC (h3 b hb)⟩
theorem NewX.far (h : NewX w B e a) (p : Addr) (v : Value) (hp : p.block < B) : NewX (w.setCell p v) B e a := by
  obtain ⟨F, h1, h2, h3⟩ := h
  exact ⟨F, OwX.keep e a F (fun b hb => heap_setCell_other w p b v (by have := h3 b hb; omega)) h1, h2, h3⟩
theorem NewX.nil (w : World) (B : Nat) (k n : Int) (s : ByteArray) (a : Option Addr) : NewX w B ⟨k, n, s, []⟩ a := ⟨[], (OwX_eq _ _ _ _).2 (.inl ⟨rfl, rfl⟩), List.nodup_nil, fun b hb => by cases hb⟩
end
end Go.Proofs.YtmhcbehplhfgfaaDoor

namespace Go.Proofs.YtmhcbehplhfgfaaDoor
open Go.ChangeShapes Go.WideShapes Go.ChangeAt Go.RowKit
set_option linter.unusedVariables false
set_option maxRecDepth 8000

theorem infoX : (Tryd.prog.info? 31).map (fun i => (i.zero, i.size, i.bytes)) = some (some (.agg #[.int .i64 0, .int .i64 0, .string ⟨#[]⟩, .slice none 0 0]), 4, 56) := by kernel_rfl
theorem sz_part {l : List Ex} {i : Nat} (h : i < l.length) : (xAt l i).sz ≤ szX l := by
  have h1 := szX_take l i h
  have h2 := szX_le l (i + 1)
  omega
/-- One part in a list of cells, owned. -/
def OwIn (w : World) (cs : List Value) (i : Nat) (x : Ex) (F : List Nat) : Prop := cs[i * 4]? = some (.int .i64 x.k) ∧ cs[i * 4 + 1]? = some (.int .i64 x.n) ∧ cs[i * 4 + 2]? = some (.string x.s) ∧ ∃ c cap, cs[i * 4 + 3]? = some (.slice c x.l.length cap) ∧ OwX w x c F
theorem OwIn.keep {w w' : World} {cs : List Value} {i : Nat} {x : Ex} {F : List Nat} (h : OwIn w cs i x F) (hk : ∀ b ∈ F, w'.heap[b]? = w.heap[b]?) : OwIn w' cs i x F := by
  obtain ⟨h0, h1, h2, c, cap, h3, h4⟩ := h
  exact ⟨h0, h1, h2, c, cap, h3, OwX.keep _ _ _ hk h4⟩
/-- A row of cells at a block of its own, as it lies. -/
theorem ownsRow_heap {w : World} {B g n cap size : Nat} {t : TypeId} {cs : List Value} (h : w.ownsRow B t size (.slice (some ⟨g, 0, none⟩) n cap) n cs) : ∃ cur : Array Value, w.heap[g]? = some (.cells cur t (0, 0)) ∧ n * size ≤ cur.size ∧ ∀ j, j < n * size → cur[j]? = cs[j]? := by
  obtain ⟨h1, ⟨e, _⟩ | ⟨g', cap', cur, e, hg, hh, hn, hm, hz, ht⟩⟩ := h
  · cases e
  · cases e
    refine ⟨cur, hh, by rw [hz]; exact Nat.mul_le_mul_right _ hn, fun j hj => ?_⟩
    rw [← ht, List.getElem?_take, if_pos hj, Array.getElem?_toList]
/-- So many parts lie in the row of block g, each in blocks of its own between g and M. -/
def DoneX (w : World) (g : Nat) (l : List Ex) (n cap k M : Nat) : Prop := ∃ (cs : List Value) (Fs : List (List Nat)), w.ownsRow g 31 4 (.slice (some ⟨g, 0, none⟩) n cap) n cs ∧ Fs.length = k ∧ Fs.flatten.Nodup ∧ (∀ b ∈ Fs.flatten, g < b ∧ b < M) ∧ ∀ i, i < k → OwIn w cs i (xAt l i) (Fs.getD i [])
theorem ownsRow_later {w w' : World} {B g n cap m : Nat} {t : TypeId} {cs : List Value} (h : w.ownsRow B t m (.slice (some ⟨g, 0, none⟩) n cap) n cs) (hb : Below w.heap.size w w') : w'.ownsRow B t m (.slice (some ⟨g, 0, none⟩) n cap) n cs := by
  obtain ⟨h1, h2 | ⟨g, cap, cur, e, hg, hh, r⟩⟩ := h
  · exact ⟨h1, .inl h2⟩
  · exact ⟨h1, .inr ⟨g, cap, cur, e, hg, (hb.block g (Array.getElem?_eq_some_iff.1 hh).1).trans hh, r⟩⟩
theorem OwIn.lt {w : World} {cs : List Value} {i : Nat} {x : Ex} {F : List Nat} (h : OwIn w cs i x F) : ∀ b ∈ F, b < w.heap.size := by
  obtain ⟨_, _, _, c, cap, _, h⟩ := h
  exact OwX.lt _ _ _ h
theorem DoneX.later {w w' : World} {g n cap k M : Nat} {l : List Ex} (h : DoneX w g l n cap k M) (hb : Below w.heap.size w w') : DoneX w' g l n cap k M := by
  obtain ⟨cs, Fs, h1, h2, h3, h4, h5⟩ := h
  exact ⟨cs, Fs, ownsRow_later h1 hb, h2, h3, h4, fun i hi => (h5 i hi).keep fun b hF => hb.block b ((h5 i hi).lt b hF)⟩
theorem flat_snoc (Fs : List (List Nat)) (F : List Nat) : (Fs ++ [F]).flatten = Fs.flatten ++ F := by simp
theorem getD_snoc_lt {Fs : List (List Nat)} {F : List Nat} {i : Nat} (h : i < Fs.length) : (Fs ++ [F]).getD i [] = Fs.getD i [] := by
  rw [List.getD_eq_getElem?_getD, List.getD_eq_getElem?_getD, List.getElem?_append_left h]
theorem getD_snoc_eq {Fs : List (List Nat)} {F : List Nat} {i : Nat} (h : i = Fs.length) : (Fs ++ [F]).getD i [] = F := by
  rw [List.getD_eq_getElem?_getD, h, List.getElem?_append_right (Nat.le_refl _)]
  simp
theorem nodup_snoc {a b : List Nat} {M : Nat} (ha : a.Nodup) (hb : b.Nodup) (h1 : ∀ x ∈ a, x < M) (h2 : ∀ x ∈ b, M ≤ x) : (a ++ b).Nodup := by
  rw [List.nodup_append]
  exact ⟨ha, hb, fun x hx y hy e => by have := h1 x hx; have := h2 y hy; omega⟩
theorem DoneX.put {w : World} {g n cap k M M' : Nat} {l : List Ex} (h : DoneX w g l n cap k M) (hk : k < n) (hg : g < M) (hM : M ≤ M') (c : Option Addr) (cp : Nat) (hr : NewX w M (xAt l k) c) (hz : w.heap.size ≤ M') :
    DoneX ((((w.setCell ⟨g, k * 4, none⟩ (.int .i64 (xAt l k).k)).setCell ⟨g, k * 4 + 1, none⟩ (.int .i64 (xAt l k).n)).setCell ⟨g, k * 4 + 2, none⟩ (.string (xAt l k).s)).setCell ⟨g, k * 4 + 3, none⟩ (.slice c (xAt l k).l.length cp)) g l n cap (k + 1) M' := by
  obtain ⟨cs, Fs, h1, h2, h3, h4, h5⟩ := h
  obtain ⟨F, q1, q2, q3⟩ := hr
  have hlen : cs.length = n * 4 := h1.1
  have s1 := (World.ownsRow.stored h1 (k * 4) (.int .i64 (xAt l k).k)).1
  have s2 := (World.ownsRow.stored s1 (k * 4 + 1) (.int .i64 (xAt l k).n)).1
  have s3 := (World.ownsRow.stored s2 (k * 4 + 2) (.string (xAt l k).s)).1
  have s4 := (World.ownsRow.stored s3 (k * 4 + 3) (.slice c (xAt l k).l.length cp)).1
  have hkeep : ∀ b, g < b → ((((w.setCell ⟨g, k * 4, none⟩ (.int .i64 (xAt l k).k)).setCell ⟨g, k * 4 + 1, none⟩ (.int .i64 (xAt l k).n)).setCell ⟨g, k * 4 + 2, none⟩ (.string (xAt l k).s)).setCell ⟨g, k * 4 + 3, none⟩ (.slice c (xAt l k).l.length cp)).heap[b]? = w.heap[b]? := fun b hb => by
    rw [heap_setCell_other _ _ _ _ (by show b ≠ g; omega), heap_setCell_other _ _ _ _ (by show b ≠ g; omega), heap_setCell_other _ _ _ _ (by show b ≠ g; omega), heap_setCell_other _ _ _ _ (by show b ≠ g; omega)]
  refine ⟨_, Fs ++ [F], s4, by simp [h2], ?_, ?_, fun i hi => ?_⟩
  · rw [flat_snoc]
    exact nodup_snoc h3 q2 (fun x hx => (h4 x hx).2) q3
  · rw [flat_snoc]
    intro b hb
    rcases List.mem_append.1 hb with hb | hb
    · have := h4 b hb; exact ⟨this.1, by omega⟩
    · have := q3 b hb
      have := OwX.lt _ _ _ q1 b hb
      exact ⟨by omega, by omega⟩
  · by_cases hik : i = k
    · subst hik
      rw [getD_snoc_eq h2.symm]
      refine ⟨?_, ?_, ?_, c, cp, ?_, OwX.keep _ _ _ (fun b hb => hkeep b (by have := q3 b hb; omega)) q1⟩
      · rw [List.getElem?_set_ne (by omega), List.getElem?_set_ne (by omega), List.getElem?_set_ne (by omega), List.getElem?_set_self (by omega)]
      · rw [List.getElem?_set_ne (by omega), List.getElem?_set_ne (by omega), List.getElem?_set_self (by simp; omega)]
      · rw [List.getElem?_set_ne (by omega), List.getElem?_set_self (by simp; omega)]
      · rw [List.getElem?_set_self (by simp; omega)]
    · rw [getD_snoc_lt (by omega)]
      obtain ⟨p0, p1, p2, c', cap', p3, p4⟩ := (h5 i (by omega)).keep (w' := ((((w.setCell ⟨g, k * 4, none⟩ (.int .i64 (xAt l k).k)).setCell ⟨g, k * 4 + 1, none⟩ (.int .i64 (xAt l k).n)).setCell ⟨g, k * 4 + 2, none⟩ (.string (xAt l k).s)).setCell ⟨g, k * 4 + 3, none⟩ (.slice c (xAt l k).l.length cp))) (fun b hb => hkeep b (h4 b (getD_flat hb)).1)
      refine ⟨?_, ?_, ?_, c', cap', ?_, p4⟩
      · rw [List.getElem?_set_ne (by omega), List.getElem?_set_ne (by omega), List.getElem?_set_ne (by omega), List.getElem?_set_ne (by omega)]; exact p0
      · rw [List.getElem?_set_ne (by omega), List.getElem?_set_ne (by omega), List.getElem?_set_ne (by omega), List.getElem?_set_ne (by omega)]; exact p1
      · rw [List.getElem?_set_ne (by omega), List.getElem?_set_ne (by omega), List.getElem?_set_ne (by omega), List.getElem?_set_ne (by omega)]; exact p2
      · rw [List.getElem?_set_ne (by omega), List.getElem?_set_ne (by omega), List.getElem?_set_ne (by omega), List.getElem?_set_ne (by omega)]; exact p3
/-- A row whose parts are all there is the term's. -/
theorem DoneX.new {w : World} {g cap M : Nat} {e : Ex} (h : DoneX w g e.l e.l.length cap e.l.length M) : NewX w g e (some ⟨g, 0, none⟩) := by
  obtain ⟨cs, Fs, h1, h2, h3, h4, h5⟩ := h
  by_cases h0 : e.l.length = 0
  · obtain ⟨k, n, s, l⟩ := e
    obtain rfl : l = [] := List.length_eq_zero_iff.1 h0
    exact NewX.nil ..
  · obtain ⟨cur, hh, hz, hc⟩ := ownsRow_heap h1
    refine ⟨g :: Fs.flatten, (OwX_eq _ _ _ _).2 (.inr ⟨g, cur, 31, Fs, rfl, hh, hz, h2, rfl, fun i hi => ?_⟩), ?_, ?_⟩
    · obtain ⟨p0, p1, p2, c, cp, p3, p4⟩ := h5 i hi
      exact ⟨(hc _ (by omega)).trans p0, (hc _ (by omega)).trans p1, (hc _ (by omega)).trans p2, c, cp, (hc _ (by omega)).trans p3, p4⟩
    · exact List.nodup_cons.2 ⟨fun hb => by have := (h4 g hb).1; omega, h3⟩
    · intro b hb
      rcases List.mem_cons.1 hb with rfl | hb
      · exact Nat.le_refl _
      · exact Nat.le_of_lt (h4 b hb).1
def ToP (e : Ex) : Prop := ∀ (b : Option Addr) (cap : Nat) (w : World), RdX w 0 e b → e.sz ≤ 1048576 → Calls Tryd.prog 22 #[.agg (e.cs b cap)] w fun r w' => ∃ (c : Option Addr) (cap' : Nat), r = .returned (.agg (e.cs c cap')) ∧ NewX w' w.heap.size e c ∧ Below w.heap.size w w'
end Go.Proofs.YtmhcbehplhfgfaaDoor
