/- Terms as data: right ones, their tokens, tokens read; plain terms come back of their tokens, and tokens that are read are those of what is read; conditions stand as hypotheses of each. -/
import Derived.Test.YthgbpofcfmnpdaaDoorLyB
import Derived.Test.YthgbpofcfmnpdaaDoorExT
namespace Go.Proofs.YthgbpofcfmnpdaaDoor
open Go.ChangeShapes Go.WideShapes Go.ChangeAt Go.RowKit
set_option linter.unusedVariables false
set_option maxRecDepth 8000

/-- Is a term right, but for its parts? -/
def Ex.here (e : Ex) : Bool :=
  if ((e.k != 1 && (e.k != 11 && e.n != 0)) || (e.k != 2 && (e.k != 12 && !eqS e.s E0))) = true then false
  else if e.k = 1 then inB e.n 0 65535 && e.l.length == 0
  else if e.k = 2 ∨ e.k = 12 then nameB e.s && e.l.length == 0
  else if e.k = 3 then e.l.length == 0
  else if e.k = 4 then e.l.length == 1
  else if 5 ≤ e.k ∧ e.k ≤ 10 then e.l.length == 2
  else if e.k = 11 then inB e.n 0 9 && e.l.length == 0
  else false
/-- Is a term right, so deep at most? -/
def okF : Nat → Bool → Ex → Bool
  | 0, _, _ => false
  | d + 1, p, e => e.here && (!(p && (e.k == 11 || e.k == 12)) && e.l.all (okF d p))
def mkS (c : UInt8) : ByteArray := ⟨#[c]⟩
def mkT (c : UInt8) : Tk := ⟨4, 0, mkS c⟩
def sgnC (k : Int) : UInt8 := if k = 5 then 43 else if k = 6 then 45 else if k = 7 then 42 else if k = 8 then 47 else if k = 9 then 38 else 124
def sgnK (s : ByteArray) : Option Int :=
  if eqS (mkS 43) s = true then some 5 else if eqS (mkS 45) s = true then some 6 else if eqS (mkS 42) s = true then some 7
  else if eqS (mkS 47) s = true then some 8 else if eqS (mkS 38) s = true then some 9 else if eqS (mkS 124) s = true then some 10 else none
/-- The tokens of a plain term. -/
def toksF : Nat → Ex → List Tk
  | 0, _ => []
  | d + 1, e => if e.k = 1 then [⟨2, e.n, E0⟩] else if e.k = 2 then [⟨1, 0, e.s⟩] else if e.k = 3 then [mkT 46]
    else if e.k = 4 then mkT 45 :: toksF d (xAt e.l 0)
    else mkT 60 :: (toksF d (xAt e.l 0) ++ (mkT (sgnC e.k) :: (toksF d (xAt e.l 1) ++ [mkT 62])))
/-- Tokens read: a term and what is left. -/
def readF : Nat → List Tk → Option (Ex × List Tk)
  | 0, _ => none
  | _ + 1, [] => none
  | d + 1, t :: r =>
    if t.k = 2 then some (⟨1, t.n, E0, []⟩, r) else if t.k = 1 then some (⟨2, 0, t.s, []⟩, r)
    else if eqS t.s (mkS 46) = true then some (⟨3, 0, E0, []⟩, r)
    else if eqS t.s (mkS 45) = true then
      match readF d r with
      | none => none
      | some (a, q) => some (⟨4, 0, E0, [a]⟩, q)
    else if eqS t.s (mkS 60) = true then
      match readF d r with
      | none => none
      | some (a, []) => none
      | some (a, t1 :: q1) =>
        match readF d q1 with
        | none => none
        | some (b, []) => none
        | some (b, t2 :: q2) => if eqS t2.s (mkS 62) = true then (match sgnK t1.s with | none => none | some k => some (⟨k, 0, E0, [a, b]⟩, q2)) else none
    else none
theorem sgn_back {k : Int} (h : 5 ≤ k ∧ k ≤ 10) : sgnK (mkS (sgnC k)) = some k := by
  have : k = 5 ∨ k = 6 ∨ k = 7 ∨ k = 8 ∨ k = 9 ∨ k = 10 := by omega
  rcases this with rfl | rfl | rfl | rfl | rfl | rfl <;> decide +kernel
theorem sgnK_some {s : ByteArray} {k : Int} (h : sgnK s = some k) : (5 ≤ k ∧ k ≤ 10) ∧ s = mkS (sgnC k) := by
  unfold sgnK at h
  repeat' (split at h)
  all_goals first
    | (cases h; done)
    | (rename_i he; rw [eqS_iff] at he; cases h; exact ⟨by omega, he.symm⟩)
/-- The forms of a plain term. -/
theorem plain_cases {d : Nat} {e : Ex} (h : okF (d + 1) true e = true) : (∃ n : Int, (0 ≤ n ∧ n ≤ 65535) ∧ e = ⟨1, n, E0, []⟩) ∨ (∃ s, nameB s = true ∧ e = ⟨2, 0, s, []⟩) ∨ e = ⟨3, 0, E0, []⟩ ∨ (∃ a, okF d true a = true ∧ e = ⟨4, 0, E0, [a]⟩) ∨ (∃ k a b, (5 ≤ k ∧ k ≤ 10) ∧ okF d true a = true ∧ okF d true b = true ∧ e = ⟨k, 0, E0, [a, b]⟩) := by
  obtain ⟨k, n, s, l⟩ := e
  simp only [okF, Bool.and_eq_true, Bool.true_and, Bool.not_eq_true', Bool.or_eq_false_iff, beq_eq_false_iff_ne] at h
  obtain ⟨h1, ⟨h11, h12⟩, hall⟩ := h
  unfold Ex.here at h1
  simp only at h1
  split at h1
  · cases h1
  · rename_i hg
    have hg : ((k != 1 && (k != 11 && n != 0)) || (k != 2 && (k != 12 && !eqS s E0))) = false := by simpa using hg
    rw [Bool.or_eq_false_iff] at hg
    have hn : k ≠ 1 → n = 0 := fun hk => by have := hg.1; simpa [hk, h11] using this
    have hs : k ≠ 2 → s = E0 := fun hk => by
      have := hg.2
      have h3 : eqS s E0 = true := by simpa [hk, h12] using this
      exact (eqS_iff _ _).1 h3
    split at h1
    · rename_i e; subst e
      rw [Bool.and_eq_true, beq_iff_eq, List.length_eq_zero_iff] at h1
      obtain ⟨hi, rfl⟩ := h1
      exact .inl ⟨n, (inB_iff _ _ _).1 hi, by rw [hs (by decide)]⟩
    · rename_i k1
      split at h1
      · rename_i e
        obtain rfl : k = 2 := by rcases e with e | e; exact e; exact absurd e h12
        rw [Bool.and_eq_true, beq_iff_eq, List.length_eq_zero_iff] at h1
        obtain ⟨hi, rfl⟩ := h1
        exact .inr (.inl ⟨s, hi, by rw [hn (by decide)]⟩)
      · rename_i k2
        have k2 : k ≠ 2 := fun e => k2 (.inl e)
        obtain rfl := hn k1
        obtain rfl := hs k2
        split at h1
        · rename_i e; subst e
          rw [beq_iff_eq, List.length_eq_zero_iff] at h1
          subst h1
          exact .inr (.inr (.inl rfl))
        · split at h1
          · rename_i e; subst e
            rw [beq_iff_eq] at h1
            match l, h1 with
            | [a], _ => exact .inr (.inr (.inr (.inl ⟨a, by simpa using hall, rfl⟩)))
          · split at h1
            · rename_i e
              rw [beq_iff_eq] at h1
              match l, h1 with
              | [a, b], _ =>
                have : okF d true a = true ∧ okF d true b = true := by simpa using hall
                exact .inr (.inr (.inr (.inr ⟨k, a, b, e, this.1, this.2, rfl⟩)))
            · cases h1
theorem plain_num {d : Nat} {n : Int} (h : 0 ≤ n ∧ n ≤ 65535) : okF (d + 1) true ⟨1, n, E0, []⟩ = true := by
  have : inB n 0 65535 = true := (inB_iff _ _ _).2 h
  simp [okF, Ex.here, this, show eqS E0 E0 = true from (eqS_iff _ _).2 rfl]
theorem plain_sym {d : Nat} {s : ByteArray} (h : nameB s = true) : okF (d + 1) true ⟨2, 0, s, []⟩ = true := by
  simp [okF, Ex.here, h]
theorem plain_here (d : Nat) : okF (d + 1) true ⟨3, 0, E0, []⟩ = true := by
  simp [okF, Ex.here, show eqS E0 E0 = true from (eqS_iff _ _).2 rfl]
theorem plain_neg {d : Nat} {a : Ex} (h : okF d true a = true) : okF (d + 1) true ⟨4, 0, E0, [a]⟩ = true := by
  simp [okF, Ex.here, h, show eqS E0 E0 = true from (eqS_iff _ _).2 rfl]
theorem plain_two {d : Nat} {k : Int} {a b : Ex} (hk : 5 ≤ k ∧ k ≤ 10) (ha : okF d true a = true) (hb : okF d true b = true) : okF (d + 1) true ⟨k, 0, E0, [a, b]⟩ = true := by
  have : k = 5 ∨ k = 6 ∨ k = 7 ∨ k = 8 ∨ k = 9 ∨ k = 10 := by omega
  rcases this with rfl | rfl | rfl | rfl | rfl | rfl <;> simp [okF, Ex.here, ha, hb, show eqS E0 E0 = true from (eqS_iff _ _).2 rfl]
theorem toks_num (d : Nat) (n : Int) : toksF (d + 1) ⟨1, n, E0, []⟩ = [⟨2, n, E0⟩] := rfl
theorem toks_sym (d : Nat) (s : ByteArray) : toksF (d + 1) ⟨2, 0, s, []⟩ = [⟨1, 0, s⟩] := rfl
theorem toks_here (d : Nat) : toksF (d + 1) ⟨3, 0, E0, []⟩ = [mkT 46] := rfl
theorem toks_neg (d : Nat) (a : Ex) : toksF (d + 1) ⟨4, 0, E0, [a]⟩ = mkT 45 :: toksF d a := rfl
theorem toks_two (d : Nat) {k : Int} (hk : 5 ≤ k ∧ k ≤ 10) (a b : Ex) : toksF (d + 1) ⟨k, 0, E0, [a, b]⟩ = mkT 60 :: (toksF d a ++ (mkT (sgnC k) :: (toksF d b ++ [mkT 62]))) := by
  have : k = 5 ∨ k = 6 ∨ k = 7 ∨ k = 8 ∨ k = 9 ∨ k = 10 := by omega
  rcases this with rfl | rfl | rfl | rfl | rfl | rfl <;> rfl
/-- A plain term comes back of its tokens. -/
theorem read_toks : ∀ (d : Nat) (e : Ex) (r : List Tk), okF d true e = true → readF d (toksF d e ++ r) = some (e, r) := by
  intro d
  induction d with
  | zero => intro e r h; cases h
  | succ d ih =>
    intro e r h
    rcases plain_cases h with ⟨n, hn, rfl⟩ | ⟨s, hs, rfl⟩ | rfl | ⟨a, ha, rfl⟩ | ⟨k, a, b, hk, ha, hb, rfl⟩
    · rw [toks_num]; rfl
    · rw [toks_sym]; rfl
    · rw [toks_here, List.cons_append]
      simp only [readF]
      rw [if_neg (by decide +kernel), if_neg (by decide +kernel), if_pos (by decide +kernel)]
      rfl
    · rw [toks_neg, List.cons_append]
      simp only [readF]
      rw [if_neg (by decide +kernel), if_neg (by decide +kernel), if_neg (by decide +kernel), if_pos (by decide +kernel), ih a r ha]
    · rw [toks_two d hk, List.cons_append, List.append_assoc, List.cons_append, List.append_assoc]
      simp only [readF]
      rw [if_neg (by decide +kernel), if_neg (by decide +kernel), if_neg (by decide +kernel), if_neg (by decide +kernel), if_pos (by decide +kernel), ih a _ ha]
      simp only
      rw [ih b _ hb]
      simp only [List.cons_append, List.nil_append]
      rw [if_pos (by decide +kernel), show (mkT (sgnC k)).s = mkS (sgnC k) from rfl, sgn_back hk]
theorem mark_of {t : Tk} (h : t.ok = true) (h2 : t.k ≠ 2) (h1 : t.k ≠ 1) {c : UInt8} (hs : t.s = mkS c) (hc : smB (c.toNat : Int) = false) (hm : formB [] = false) : t = mkT c := by
  obtain ⟨k, n, s⟩ := t
  simp only at h2 h1 hs
  subst hs
  unfold Tk.ok at h
  simp only at h
  rw [if_neg (by simpa using h2)] at h
  split at h
  · cases h
  · rename_i hn
    have hn : n = 0 := by simpa using hn
    subst hn
    rw [if_neg (by simpa using h1)] at h
    split at h
    · have e : dotB [c] = true := h
      rw [dotB_cons, hm, Bool.and_false] at e
      cases e
    · split at h
      · rename_i e
        have e : k = 4 := by simpa using e
        rw [e]; rfl
      · split at h
        · have hk := kept_form _ (hasS_iff.1 h)
          obtain ⟨c0, r, e, h3, _⟩ := form_open hk
          have e2 : [c] = c0 :: r := e
          cases e2
          rw [hc] at h3; cases h3
        · cases h
theorem num_of {t : Tk} (h : t.ok = true) (h2 : t.k = 2) : (0 ≤ t.n ∧ t.n ≤ 65535) ∧ t = ⟨2, t.n, E0⟩ := by
  obtain ⟨k, n, s⟩ := t
  simp only at h2
  subst h2
  unfold Tk.ok at h
  simp only [beq_self_eq_true, if_true, Bool.and_eq_true, decide_eq_true_eq] at h
  refine ⟨(inB_iff _ _ _).1 h.1, ?_⟩
  have e : s = E0 := by
    have hl := size_len s
    rw [h.2, List.length_eq_zero_iff] at hl
    exact bytes_inj (by rw [hl]; rfl)
  rw [e]
theorem sym_of {t : Tk} (h : t.ok = true) (h1 : t.k = 1) : nameB t.s = true ∧ t = ⟨1, 0, t.s⟩ := by
  obtain ⟨k, n, s⟩ := t
  simp only at h1
  subst h1
  unfold Tk.ok at h
  simp only at h
  rw [if_neg (by decide)] at h
  split at h
  · cases h
  · rename_i hn
    have hn : n = 0 := by simpa using hn
    rw [if_pos (by decide)] at h
    exact ⟨h, by rw [hn]⟩
theorem name_one {c : UInt8} (hc : smB (c.toNat : Int) = false) : formB [c] = false := by
  cases h : formB [c] with
  | false => rfl
  | true =>
    obtain ⟨c0, r, e, h3, _⟩ := form_open h
    cases e
    rw [hc] at h3; cases h3
/-- A right token whose text is one sign that is no letter is that mark. -/
theorem one_mark {t : Tk} (h : t.ok = true) {c : UInt8} (hs : t.s = mkS c) (hc : smB (c.toNat : Int) = false) : t = mkT c := by
  by_cases h2 : t.k = 2
  · obtain ⟨_, e⟩ := num_of h h2
    rw [e] at hs
    have : (0 : Nat) = 1 := congrArg ByteArray.size hs
    cases this
  · by_cases h1 : t.k = 1
    · obtain ⟨hn, _⟩ := sym_of h h1
      rw [hs] at hn
      have e : nameB (mkS c) = (formB [c] && !keptB (mkS c)) := rfl
      rw [e, name_one hc] at hn
      cases hn
    · exact mark_of h h2 h1 hs hc (by decide)
theorem sgn_small {k : Int} (h : 5 ≤ k ∧ k ≤ 10) : smB ((sgnC k).toNat : Int) = false := by
  have : k = 5 ∨ k = 6 ∨ k = 7 ∨ k = 8 ∨ k = 9 ∨ k = 10 := by omega
  rcases this with rfl | rfl | rfl | rfl | rfl | rfl <;> decide
end Go.Proofs.YthgbpofcfmnpdaaDoor
