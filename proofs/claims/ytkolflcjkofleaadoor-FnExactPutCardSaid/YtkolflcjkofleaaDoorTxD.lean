/- Contracts over this seat's translation, laid together; conditions stand as hypotheses of each. -/
import Derived.Test.YtkolflcjkofleaaDoorTxA
import Derived.Test.YtkolflcjkofleaaDoorTxB
import Derived.Test.YtkolflcjkofleaaDoorTxC
import Derived.Laws.BitsAllLaws
import Derived.Deep.RegionWith
import Derived.Laws.AppendOwn
import Derived.Deep.RegionHeld
import Derived.Laws.Rows

namespace Go.Proofs.YtkolflcjkofleaaDoor
open Go.ChangeShapes Go.WideShapes Go.ChangeAt Go.RowKit
set_option linter.unusedVariables false
set_option linter.unusedSimpArgs false

/-- The forms of a right term. -/
theorem ok_sev {d : Nat} {e : Ex} (h : okF (d + 1) false e = true) : (∃ n : Int, (0 ≤ n ∧ n ≤ 65535) ∧ e = ⟨1, n, E0, []⟩) ∨ (∃ s, nameB s = true ∧ e = ⟨2, 0, s, []⟩) ∨ e = ⟨3, 0, E0, []⟩ ∨ (∃ n : Int, (0 ≤ n ∧ n ≤ 9) ∧ e = ⟨11, n, E0, []⟩) ∨ (∃ s, nameB s = true ∧ e = ⟨12, 0, s, []⟩) ∨ (∃ a, okF d false a = true ∧ e = ⟨4, 0, E0, [a]⟩) ∨ (∃ k a b, (5 ≤ k ∧ k ≤ 10) ∧ okF d false a = true ∧ okF d false b = true ∧ e = ⟨k, 0, E0, [a, b]⟩) := by
  obtain ⟨k, n, s, l⟩ := e
  simp only [okF, Bool.and_eq_true, Bool.false_and, Bool.not_false, true_and] at h
  obtain ⟨h1, hall⟩ := h
  unfold Ex.here at h1
  simp only at h1
  split at h1
  · cases h1
  · rename_i hg
    have hg : ((k != 1 && (k != 11 && n != 0)) || (k != 2 && (k != 12 && !eqS s E0))) = false := by simpa using hg
    rw [Bool.or_eq_false_iff] at hg
    have hn : k ≠ 1 → k ≠ 11 → n = 0 := fun hk hk2 => by have := hg.1; simpa [hk, hk2] using this
    have hs : k ≠ 2 → k ≠ 12 → s = E0 := fun hk hk2 => by
      have := hg.2
      have h3 : eqS s E0 = true := by simpa [hk, hk2] using this
      exact (eqS_iff _ _).1 h3
    split at h1
    · rename_i e; subst e
      rw [Bool.and_eq_true, beq_iff_eq, List.length_eq_zero_iff] at h1
      obtain ⟨hi, rfl⟩ := h1
      exact .inl ⟨n, (inB_iff _ _ _).1 hi, by rw [hs (by decide) (by decide)]⟩
    · rename_i k1
      split at h1
      · rename_i e
        rw [Bool.and_eq_true, beq_iff_eq, List.length_eq_zero_iff] at h1
        obtain ⟨hi, rfl⟩ := h1
        rcases e with rfl | rfl
        · exact .inr (.inl ⟨s, hi, by rw [hn (by decide) (by decide)]⟩)
        · exact .inr (.inr (.inr (.inr (.inl ⟨s, hi, by rw [hn (by decide) (by decide)]⟩))))
      · rename_i k2
        have k3 : k ≠ 2 := fun e => k2 (.inl e)
        have k4 : k ≠ 12 := fun e => k2 (.inr e)
        obtain rfl := hs k3 k4
        split at h1
        · rename_i e; subst e
          rw [beq_iff_eq, List.length_eq_zero_iff] at h1
          subst h1
          exact .inr (.inr (.inl (by rw [hn (by decide) (by decide)])))
        · split at h1
          · rename_i e; subst e
            rw [beq_iff_eq] at h1
            obtain rfl := hn (by decide) (by decide)
            match l, h1 with
            | [a], _ => exact .inr (.inr (.inr (.inr (.inr (.inl ⟨a, by simpa using hall, rfl⟩)))))
          · split at h1
            · rename_i e
              rw [beq_iff_eq] at h1
              obtain rfl := hn k1 (by omega)
              match l, h1 with
              | [a, b], _ =>
                have : okF d false a = true ∧ okF d false b = true := by simpa using hall
                exact .inr (.inr (.inr (.inr (.inr (.inr ⟨k, a, b, e, this.1, this.2, rfl⟩)))))
            · split at h1
              · rename_i e; subst e
                rw [Bool.and_eq_true, beq_iff_eq, List.length_eq_zero_iff] at h1
                obtain ⟨hi, rfl⟩ := h1
                exact .inr (.inr (.inr (.inl ⟨n, (inB_iff _ _ _).1 hi, rfl⟩)))
              · cases h1
theorem ok_num {d : Nat} {n : Int} (h : 0 ≤ n ∧ n ≤ 65535) : okF (d + 1) false ⟨1, n, E0, []⟩ = true := by
  have : inB n 0 65535 = true := (inB_iff _ _ _).2 h
  simp [okF, Ex.here, this, show eqS E0 E0 = true from (eqS_iff _ _).2 rfl]
theorem ok_neg {d : Nat} {a : Ex} (h : okF d false a = true) : okF (d + 1) false ⟨4, 0, E0, [a]⟩ = true := by
  simp [okF, Ex.here, h, show eqS E0 E0 = true from (eqS_iff _ _).2 rfl]
theorem ok_two {d : Nat} {k : Int} {a b : Ex} (hk : 5 ≤ k ∧ k ≤ 10) (ha : okF d false a = true) (hb : okF d false b = true) : okF (d + 1) false ⟨k, 0, E0, [a, b]⟩ = true := by
  have : k = 5 ∨ k = 6 ∨ k = 7 ∨ k = 8 ∨ k = 9 ∨ k = 10 := by omega
  rcases this with rfl | rfl | rfl | rfl | rfl | rfl <;> simp [okF, Ex.here, ha, hb, show eqS E0 E0 = true from (eqS_iff _ _).2 rfl]
theorem ok_more : ∀ (d : Nat) (p : Bool) (e : Ex), okF d p e = true → okF (d + 1) p e = true := by
  intro d
  induction d with
  | zero => intro p e h; rw [okF] at h; cases h
  | succ d ih =>
    intro p e h
    rw [okF] at h ⊢
    rw [Bool.and_eq_true, Bool.and_eq_true, List.all_eq_true] at h ⊢
    exact ⟨h.1, h.2.1, fun x hx => ih p x (h.2.2 x hx)⟩
theorem ok_upto {d D : Nat} {p : Bool} {e : Ex} (h : okF d p e = true) (hd : d ≤ D) : okF D p e = true := by
  obtain ⟨k, rfl⟩ := Nat.le.dest hd
  clear hd
  induction k with
  | zero => exact h
  | succ k ih => exact ok_more _ _ _ ih
/-- A number's rest of 65536. -/
def wr (n : Int) : Int := n % 65536
theorem wr_in (n : Int) : 0 ≤ wr n ∧ wr n ≤ 65535 := by unfold wr; omega
theorem wr_of {n : Int} (h : 0 ≤ n ∧ n ≤ 65535) : wr n = n := by unfold wr; omega
def numX (n : Int) : Ex := ⟨1, wr n, E0, []⟩
/-- The number of two words, by the kind; none where it is divided by nothing. -/
def two11 (k a b : Int) : Option Int :=
  if k = 5 then some (wr (a + b)) else if k = 6 then some (wr (a - b)) else if k = 7 then some (wr (a * b))
  else if k = 9 then some (bits .and .i64 a b) else if k = 10 then some (bits .or .i64 a b)
  else if b = 0 then none else some (a / b)
/-- A term and a number together. -/
def addX (a : Ex) (n : Int) : Ex := if wr n = 0 then a else ⟨5, 0, E0, [a, numX n]⟩
/-- What a term is beside the number that is added to it. -/
def prtX (e : Ex) : Ex × Int := if e.k = 5 ∧ (xAt e.l 1).k = 1 then (xAt e.l 0, (xAt e.l 1).n) else (e, 0)
def sumX (a : Ex) (n : Int) : Ex := addX (prtX a).1 ((prtX a).2 + n)
def subX (a b : Ex) : Ex :=
  if b.k = 1 then sumX a (-b.n)
  else if (prtX a).1.k = 11 ∧ (prtX b).1.k = 11 ∧ (prtX a).1.n = (prtX b).1.n then numX ((prtX a).2 - (prtX b).2)
  else ⟨6, 0, E0, [a, b]⟩
def negX (a : Ex) : Ex := if a.k = 1 then numX (-a.n) else ⟨4, 0, E0, [a]⟩
/-- What two that are folded make, without two numbers. -/
def mixX (k : Int) (a b : Ex) : Ex := if k = 6 then subX a b else if k = 5 ∧ a.k = 1 then sumX b a.n else if k = 5 ∧ b.k = 1 then sumX a b.n else ⟨k, 0, E0, [a, b]⟩
def foldN (k : Int) (a b : Ex) : Ex := if a.k = 1 ∧ b.k = 1 then (match two11 k a.n b.n with | some n => numX n | none => mixX k a b) else mixX k a b
def foldC (k n : Int) (s : ByteArray) : List Ex → Ex
  | [] => ⟨k, n, s, []⟩
  | [a] => negX a
  | a :: b :: _ => foldN k a b
/-- A term, folded. -/
def foldX : Ex → Ex
  | ⟨k, n, s, l⟩ => foldC k n s (l.map foldX)
theorem fold_leaf (k n : Int) (s : ByteArray) : foldX ⟨k, n, s, []⟩ = ⟨k, n, s, []⟩ := by rw [foldX]; rfl
theorem fold_neg (k n : Int) (s : ByteArray) (a : Ex) : foldX ⟨k, n, s, [a]⟩ = negX (foldX a) := by rw [foldX]; rfl
theorem fold_two (k n : Int) (s : ByteArray) (a b : Ex) : foldX ⟨k, n, s, [a, b]⟩ = foldN k (foldX a) (foldX b) := by rw [foldX]; rfl
theorem num_ok (d : Nat) (n : Int) : okF (d + 1) false (numX n) = true := ok_num (wr_in n)
theorem ok_pos {d : Nat} {e : Ex} (h : okF d false e = true) : ∃ c, d = c + 1 := by
  cases d with
  | zero => rw [okF] at h; cases h
  | succ c => exact ⟨c, rfl⟩
theorem add_ok {d : Nat} {a : Ex} (h : okF d false a = true) (n : Int) : okF (d + 1) false (addX a n) = true := by
  unfold addX
  split
  · exact ok_more _ _ _ h
  · obtain ⟨c, rfl⟩ := ok_pos h
    exact ok_two (by omega) h (num_ok c n)
/-- What a right term is beside its number: the same, or the first of two, where the second is a number. -/
theorem prt_cases {d : Nat} {a : Ex} (h : okF (d + 1) false a = true) : (prtX a = (a, 0) ∧ ¬ (a.k = 5 ∧ (xAt a.l 1).k = 1)) ∨ ∃ b m, (0 ≤ m ∧ m ≤ 65535) ∧ a = ⟨5, 0, E0, [b, ⟨1, m, E0, []⟩]⟩ ∧ prtX a = (b, m) ∧ okF d false b = true := by
  by_cases hc : a.k = 5 ∧ (xAt a.l 1).k = 1
  · right
    rcases ok_sev h with ⟨n, hn, rfl⟩ | ⟨s, hs, rfl⟩ | rfl | ⟨n, hn, rfl⟩ | ⟨s, hs, rfl⟩ | ⟨a, ha, rfl⟩ | ⟨k, a, b, hk, ha, hb, rfl⟩
    · exact absurd (show (1 : Int) = 5 from hc.1) (by decide)
    · exact absurd (show (2 : Int) = 5 from hc.1) (by decide)
    · exact absurd (show (3 : Int) = 5 from hc.1) (by decide)
    · exact absurd (show (11 : Int) = 5 from hc.1) (by decide)
    · exact absurd (show (12 : Int) = 5 from hc.1) (by decide)
    · exact absurd (show (4 : Int) = 5 from hc.1) (by decide)
    obtain rfl : k = 5 := hc.1
    have hb1 : b.k = 1 := hc.2
    obtain ⟨c, rfl⟩ := ok_pos hb
    rcases ok_sev hb with ⟨n, hn, rfl⟩ | ⟨s, hs, rfl⟩ | rfl | ⟨n, hn, rfl⟩ | ⟨s, hs, rfl⟩ | ⟨a', ha', rfl⟩ | ⟨k, a', b', hk, ha', hb', rfl⟩
    · exact ⟨a, n, hn, rfl, rfl, ha⟩
    · exact absurd (show (2 : Int) = 1 from hb1) (by decide)
    · exact absurd (show (3 : Int) = 1 from hb1) (by decide)
    · exact absurd (show (11 : Int) = 1 from hb1) (by decide)
    · exact absurd (show (12 : Int) = 1 from hb1) (by decide)
    · exact absurd (show (4 : Int) = 1 from hb1) (by decide)
    · have : k = 1 := hb1
      omega
  · left
    unfold prtX
    rw [if_neg hc]
    exact ⟨rfl, hc⟩
theorem sum_ok {d : Nat} {a : Ex} (h : okF d false a = true) (n : Int) : okF (d + 1) false (sumX a n) = true := by
  obtain ⟨c, rfl⟩ := ok_pos h
  unfold sumX
  rcases prt_cases h with ⟨e, _⟩ | ⟨b, m, hm, rfl, e, hb⟩
  · rw [e]; exact add_ok h _
  · rw [e]; exact ok_more _ _ _ (add_ok hb _)
theorem sub_ok {d : Nat} {a b : Ex} (ha : okF d false a = true) (hb : okF d false b = true) : okF (d + 1) false (subX a b) = true := by
  unfold subX
  split
  · exact sum_ok ha _
  · split
    · exact num_ok d _
    · exact ok_two (by omega) ha hb
theorem mix_ok {d : Nat} {k : Int} {a b : Ex} (hk : 5 ≤ k ∧ k ≤ 10) (ha : okF d false a = true) (hb : okF d false b = true) : okF (d + 1) false (mixX k a b) = true := by
  unfold mixX
  split
  · exact sub_ok ha hb
  · split
    · exact sum_ok hb _
    · split
      · exact sum_ok ha _
      · exact ok_two hk ha hb
theorem foldN_ok {d : Nat} {k : Int} {a b : Ex} (hk : 5 ≤ k ∧ k ≤ 10) (ha : okF d false a = true) (hb : okF d false b = true) : okF (d + 1) false (foldN k a b) = true := by
  unfold foldN
  split
  · split
    · exact num_ok d _
    · exact mix_ok hk ha hb
  · exact mix_ok hk ha hb
theorem neg_ok {d : Nat} {a : Ex} (h : okF d false a = true) : okF (d + 1) false (negX a) = true := by
  unfold negX
  split
  · exact num_ok d _
  · exact ok_neg h
/-- What is folded is right, and no deeper. -/
theorem fold_ok : ∀ (d : Nat) (e : Ex), okF d false e = true → okF d false (foldX e) = true := by
  intro d
  induction d with
  | zero => intro e h; rw [okF] at h; cases h
  | succ d ih =>
    intro e h
    have h0 := h
    rcases ok_sev h with ⟨n, hn, rfl⟩ | ⟨s, hs, rfl⟩ | rfl | ⟨n, hn, rfl⟩ | ⟨s, hs, rfl⟩ | ⟨a, ha, rfl⟩ | ⟨k, a, b, hk, ha, hb, rfl⟩
    · rw [fold_leaf]; exact h0
    · rw [fold_leaf]; exact h0
    · rw [fold_leaf]; exact h0
    · rw [fold_leaf]; exact h0
    · rw [fold_leaf]; exact h0
    · rw [fold_neg]; exact neg_ok (ih a ha)
    · rw [fold_two]; exact foldN_ok hk (ih a ha) (ih b hb)
/-- Folded no further. -/
def Nf (e : Ex) : Prop := foldX e = e
theorem num_nf (n : Int) : Nf (numX n) := by unfold Nf numX; exact fold_leaf _ _ _
theorem nf_two {k : Int} {a b : Ex} (ha : Nf a) (hb : Nf b) (h : foldN k a b = ⟨k, 0, E0, [a, b]⟩) : Nf ⟨k, 0, E0, [a, b]⟩ := by
  unfold Nf at *
  rw [fold_two, ha, hb, h]
theorem ex_sz {a b : Ex} (h : a = b) : a.dp = b.dp := by rw [h]
theorem ne_two (k : Int) (a b : Ex) : a ≠ ⟨k, 0, E0, [a, b]⟩ := fun h => by
  have h1 := Ex.dp_lt k 0 E0 [a, b] a (by simp)
  rw [← h] at h1
  omega
/-- A term with a number, neither 0 nor two numbers nor a third together: folded no further. -/
theorem add_nf {d : Nat} {a : Ex} (ho : okF (d + 1) false a = true) (h1 : a.k ≠ 1) (hp : prtX a = (a, 0)) (ha : Nf a) (n : Int) : Nf (addX a n) := by
  unfold addX
  split
  · exact ha
  · rename_i hz
    refine nf_two ha (num_nf n) ?_
    unfold foldN
    rw [if_neg (fun h => h1 h.1)]
    unfold mixX
    rw [if_neg (by decide), if_neg (fun h => h1 h.2), if_pos ⟨rfl, rfl⟩]
    unfold sumX
    rw [hp]
    show addX a (0 + wr n) = _
    have e : wr (0 + wr n) = wr n := by unfold wr; omega
    unfold addX numX
    rw [e, if_neg hz]
/-- A folded one's first of two, where the second is a number: it has no number of its own. -/
theorem prt_nf {d : Nat} {b : Ex} {m : Int} (hb : okF (d + 1) false b = true) (hm : 0 ≤ m ∧ m ≤ 65535) (h : Nf ⟨5, 0, E0, [b, ⟨1, m, E0, []⟩]⟩) (hbn : Nf b) : b.k ≠ 1 ∧ prtX b = (b, 0) := by
  unfold Nf at h hbn
  rw [fold_two, fold_leaf, hbn] at h
  unfold foldN at h
  have h1 : b.k ≠ 1 := fun h1 => by
    rw [if_pos ⟨h1, rfl⟩] at h
    simp only [two11, if_true] at h
    unfold numX at h
    injection h with h2
    cases h2
  refine ⟨h1, ?_⟩
  rw [if_neg (fun c => h1 c.1)] at h
  unfold mixX at h
  rw [if_neg (by decide), if_neg (fun c => h1 c.2), if_pos ⟨rfl, rfl⟩] at h
  unfold sumX addX at h
  rcases prt_cases hb with ⟨e, _⟩ | ⟨c, q, hq, rfl, e, hc⟩
  · exact e
  · rw [e] at h
    simp only at h
    split at h
    · exfalso
      have h3 := Ex.dp_lt 5 0 E0 [c, ⟨1, q, E0, []⟩] c (by simp)
      have h4 := Ex.dp_lt 5 0 E0 [⟨5, 0, E0, [c, ⟨1, q, E0, []⟩]⟩, ⟨1, m, E0, []⟩] ⟨5, 0, E0, [c, ⟨1, q, E0, []⟩]⟩ (by simp)
      rw [← h] at h4
      omega
    · exfalso
      injection h with _ _ _ h5
      injection h5 with h6 _
      exact ne_two _ _ _ h6
theorem sum_nf {d : Nat} {a : Ex} (ho : okF (d + 1) false a = true) (h1 : a.k ≠ 1) (ha : Nf a) (hsub : ∀ b m, a = ⟨5, 0, E0, [b, ⟨1, m, E0, []⟩]⟩ → Nf b) (n : Int) : Nf (sumX a n) := by
  unfold sumX
  rcases prt_cases ho with ⟨e, _⟩ | ⟨b, m, hm, rfl, e, hb⟩
  · rw [e]; exact add_nf ho h1 e ha _
  · rw [e]
    obtain ⟨c, rfl⟩ := ok_pos hb
    have hbn := hsub b m rfl
    obtain ⟨q1, q2⟩ := prt_nf hb hm ha hbn
    exact add_nf hb q1 q2 hbn _
end Go.Proofs.YtkolflcjkofleaaDoor

namespace Go.Proofs.YtkolflcjkofleaaDoor
open Go.ChangeShapes Go.WideShapes Go.ChangeAt Go.RowKit
set_option linter.unusedVariables false
set_option linter.unusedSimpArgs false

/-- Folded no further, with all its parts. -/
def Nh : Ex → Prop
  | ⟨k, n, s, l⟩ => Nf ⟨k, n, s, l⟩ ∧ ∀ x ∈ l, Nh x
theorem Nh_eq (e : Ex) : Nh e ↔ (Nf e ∧ ∀ x ∈ e.l, Nh x) := by
  obtain ⟨k, n, s, l⟩ := e
  rw [Nh]
theorem Nh.nf {e : Ex} (h : Nh e) : Nf e := ((Nh_eq e).1 h).1
theorem nh_leaf (k n : Int) (s : ByteArray) : Nh ⟨k, n, s, []⟩ := (Nh_eq _).2 ⟨fold_leaf _ _ _, fun x hx => by cases hx⟩
theorem nh_num (n : Int) : Nh (numX n) := nh_leaf _ _ _
theorem nh_two {k : Int} {a b : Ex} (ha : Nh a) (hb : Nh b) (h : Nf ⟨k, 0, E0, [a, b]⟩) : Nh ⟨k, 0, E0, [a, b]⟩ := (Nh_eq _).2 ⟨h, fun x hx => by
  have hx : x = a ∨ x = b := by simpa using hx
  rcases hx with rfl | rfl
  · exact ha
  · exact hb⟩
theorem add_nh {d : Nat} {a : Ex} (ho : okF (d + 1) false a = true) (h1 : a.k ≠ 1) (hp : prtX a = (a, 0)) (ha : Nh a) (n : Int) : Nh (addX a n) := by
  have h := add_nf ho h1 hp ha.nf n
  unfold addX at h ⊢
  split
  · exact ha
  · rename_i hz
    rw [if_neg hz] at h
    exact nh_two ha (nh_num n) h
theorem sum_nh {d : Nat} {a : Ex} (ho : okF (d + 1) false a = true) (h1 : a.k ≠ 1) (ha : Nh a) (n : Int) : Nh (sumX a n) := by
  unfold sumX
  rcases prt_cases ho with ⟨e, _⟩ | ⟨b, m, hm, rfl, e, hb⟩
  · rw [e]; exact add_nh ho h1 e ha _
  · rw [e]
    obtain ⟨c, rfl⟩ := ok_pos hb
    have hbn : Nh b := ((Nh_eq _).1 ha).2 b (by simp)
    obtain ⟨q1, q2⟩ := prt_nf hb hm ha.nf hbn.nf
    exact add_nh hb q1 q2 hbn _
theorem ok_k1 {d : Nat} {e : Ex} (h : okF (d + 1) false e = true) (h1 : e.k = 1) : ∃ n : Int, (0 ≤ n ∧ n ≤ 65535) ∧ e = ⟨1, n, E0, []⟩ := by
  rcases ok_sev h with ⟨n, hn, rfl⟩ | ⟨s, hs, rfl⟩ | rfl | ⟨n, hn, rfl⟩ | ⟨s, hs, rfl⟩ | ⟨a, ha, rfl⟩ | ⟨k, a, b, hk, ha, hb, rfl⟩
  · exact ⟨n, hn, rfl⟩
  · exact absurd (show (2 : Int) = 1 from h1) (by decide)
  · exact absurd (show (3 : Int) = 1 from h1) (by decide)
  · exact absurd (show (11 : Int) = 1 from h1) (by decide)
  · exact absurd (show (12 : Int) = 1 from h1) (by decide)
  · exact absurd (show (4 : Int) = 1 from h1) (by decide)
  · have : k = 1 := h1
    omega
theorem ok_k11 {d : Nat} {e : Ex} (h : okF (d + 1) false e = true) (h1 : e.k = 11) : ∃ n : Int, (0 ≤ n ∧ n ≤ 9) ∧ e = ⟨11, n, E0, []⟩ := by
  rcases ok_sev h with ⟨n, hn, rfl⟩ | ⟨s, hs, rfl⟩ | rfl | ⟨n, hn, rfl⟩ | ⟨s, hs, rfl⟩ | ⟨a, ha, rfl⟩ | ⟨k, a, b, hk, ha, hb, rfl⟩
  · exact absurd (show (1 : Int) = 11 from h1) (by decide)
  · exact absurd (show (2 : Int) = 11 from h1) (by decide)
  · exact absurd (show (3 : Int) = 11 from h1) (by decide)
  · exact ⟨n, hn, rfl⟩
  · exact absurd (show (12 : Int) = 11 from h1) (by decide)
  · exact absurd (show (4 : Int) = 11 from h1) (by decide)
  · have : k = 11 := h1
    omega
theorem two11_some {k a b : Int} (hk : k = 5 ∨ k = 6) : ∃ n, two11 k a b = some n := by
  rcases hk with rfl | rfl
  · exact ⟨_, rfl⟩
  · exact ⟨_, rfl⟩
/-- What two that are folded make is folded no further. -/
theorem foldN_nh {d : Nat} {k : Int} {a b : Ex} (hk : 5 ≤ k ∧ k ≤ 10) (oa : okF (d + 1) false a = true) (ob : okF (d + 1) false b = true) (ha : Nh a) (hb : Nh b) : Nh (foldN k a b) := by
  by_cases hab : a.k = 1 ∧ b.k = 1
  · cases ht : two11 k a.n b.n with
    | some n =>
      have e : foldN k a b = numX n := by unfold foldN; rw [if_pos hab, ht]
      rw [e]
      exact nh_num n
    | none =>
      have k5 : k ≠ 5 := fun e => by obtain ⟨n, hn⟩ := two11_some (a := a.n) (b := b.n) (k := k) (.inl e); rw [hn] at ht; cases ht
      have k6 : k ≠ 6 := fun e => by obtain ⟨n, hn⟩ := two11_some (a := a.n) (b := b.n) (k := k) (.inr e); rw [hn] at ht; cases ht
      have e : foldN k a b = ⟨k, 0, E0, [a, b]⟩ := by
        unfold foldN
        rw [if_pos hab, ht]
        unfold mixX
        rw [if_neg k6, if_neg (fun h => k5 h.1), if_neg (fun h => k5 h.1)]
      rw [e]
      exact nh_two ha hb (nf_two ha.nf hb.nf e)
  · have e : foldN k a b = mixX k a b := by unfold foldN; rw [if_neg hab]
    rw [e]
    unfold mixX
    split
    · rename_i k6
      subst k6
      unfold subX
      split
      · rename_i hb1
        exact sum_nh oa (fun h => hab ⟨h, hb1⟩) ha _
      · split
        · exact nh_num _
        · rename_i hb1 hs
          refine nh_two ha hb (nf_two ha.nf hb.nf ?_)
          rw [e]
          unfold mixX subX
          rw [if_pos rfl, if_neg hb1, if_neg hs]
    · split
      · rename_i k6 h5
        exact sum_nh ob (fun h => hab ⟨h5.2, h⟩) hb _
      · split
        · rename_i k6 h5 h5b
          exact sum_nh oa (fun h => hab ⟨h, h5b.2⟩) ha _
        · rename_i k6 h5 h5b
          refine nh_two ha hb (nf_two ha.nf hb.nf ?_)
          rw [e]
          unfold mixX
          rw [if_neg k6, if_neg h5, if_neg h5b]
theorem neg_nh {a : Ex} (ha : Nh a) : Nh (negX a) := by
  unfold negX
  split
  · exact nh_num _
  · rename_i h1
    refine (Nh_eq _).2 ⟨?_, fun x hx => ?_⟩
    · unfold Nf
      rw [fold_neg, ha.nf]
      unfold negX
      rw [if_neg h1]
    · have hx : x = a := by simpa using hx
      subst hx
      exact ha
theorem fold_nh : ∀ (d : Nat) (e : Ex), okF d false e = true → Nh (foldX e) := by
  intro d
  induction d with
  | zero => intro e h; rw [okF] at h; cases h
  | succ d ih =>
    intro e h
    rcases ok_sev h with ⟨n, hn, rfl⟩ | ⟨s, hs, rfl⟩ | rfl | ⟨n, hn, rfl⟩ | ⟨s, hs, rfl⟩ | ⟨a, ha, rfl⟩ | ⟨k, a, b, hk, ha, hb, rfl⟩
    · rw [fold_leaf]; exact nh_leaf _ _ _
    · rw [fold_leaf]; exact nh_leaf _ _ _
    · rw [fold_leaf]; exact nh_leaf _ _ _
    · rw [fold_leaf]; exact nh_leaf _ _ _
    · rw [fold_leaf]; exact nh_leaf _ _ _
    · rw [fold_neg]; exact neg_nh (ih a ha)
    · rw [fold_two]
      have oa := fold_ok d a ha
      have ob := fold_ok d b hb
      obtain ⟨c, rfl⟩ := ok_pos ha
      exact foldN_nh hk oa ob (ih a ha) (ih b hb)
/-- Folded twice it is as folded once. -/
theorem fold_twice {d : Nat} {e : Ex} (h : okF d false e = true) : foldX (foldX e) = foldX e := (fold_nh d e h).nf
/-- What a term is worth, by what its parts are worth; S: sections, G: names elsewhere. -/
def worthC (S : Int → Option Int) (G : ByteArray → Option Int) (k n : Int) (s : ByteArray) : List (Option Int) → Option Int
  | [] => if k = 1 then some n else if k = 11 then S n else if k = 12 then G s else none
  | [a] => a.map (fun v => wr (-v))
  | a :: b :: _ => a.bind fun x => b.bind fun y => two11 k x y
def worthX (S : Int → Option Int) (G : ByteArray → Option Int) : Ex → Option Int
  | ⟨k, n, s, l⟩ => worthC S G k n s (l.map (worthX S G))
section
variable {S : Int → Option Int} {G : ByteArray → Option Int}
theorem worth_num (n : Int) (s : ByteArray) : worthX S G ⟨1, n, s, []⟩ = some n := by rw [worthX]; rfl
theorem worth_sect (n : Int) (s : ByteArray) : worthX S G ⟨11, n, s, []⟩ = S n := by rw [worthX]; rfl
theorem worth_glob (n : Int) (s : ByteArray) : worthX S G ⟨12, n, s, []⟩ = G s := by rw [worthX]; rfl
theorem worth_sym (n : Int) (s : ByteArray) : worthX S G ⟨2, n, s, []⟩ = none := by rw [worthX]; rfl
theorem worth_here (n : Int) (s : ByteArray) : worthX S G ⟨3, n, s, []⟩ = none := by rw [worthX]; rfl
theorem worth_neg (k n : Int) (s : ByteArray) (a : Ex) : worthX S G ⟨k, n, s, [a]⟩ = (worthX S G a).map (fun v => wr (-v)) := by rw [worthX]; rfl
theorem worth_two (k n : Int) (s : ByteArray) (a b : Ex) : worthX S G ⟨k, n, s, [a, b]⟩ = (worthX S G a).bind fun x => (worthX S G b).bind fun y => two11 k x y := by rw [worthX]; rfl
theorem bits_w {d s : Int} (hd : 0 ≤ d ∧ d ≤ 65535) (hs : 0 ≤ s ∧ s ≤ 65535) : (0 ≤ bits .and .i64 d s ∧ bits .and .i64 d s ≤ 65535) ∧ (0 ≤ bits .or .i64 d s ∧ bits .or .i64 d s ≤ 65535) := by
  obtain ⟨a, rfl⟩ := Int.eq_ofNat_of_zero_le hd.1
  obtain ⟨b, rfl⟩ := Int.eq_ofNat_of_zero_le hs.1
  have h := bits_nat .i64 16 (by decide) (fun n h0 h1 => by rw [IntKind.wrap_i64]; omega) a b (by omega) (by omega)
  rw [h.1, h.2]
  have h1 : a ||| b < 2 ^ 16 := Nat.or_lt_two_pow (by omega) (by omega)
  have h2 : a &&& b ≤ a := Nat.and_le_left
  omega
theorem two11_in {k a b n : Int} (hk : 5 ≤ k ∧ k ≤ 10) (ha : 0 ≤ a ∧ a ≤ 65535) (hb : 0 ≤ b ∧ b ≤ 65535) (h : two11 k a b = some n) : 0 ≤ n ∧ n ≤ 65535 := by
  unfold two11 at h
  split at h
  · cases h; exact wr_in _
  · split at h
    · cases h; exact wr_in _
    · split at h
      · cases h; exact wr_in _
      · split at h
        · cases h
          exact (bits_w ha hb).1
        · split at h
          · cases h
            exact (bits_w ha hb).2
          · split at h
            · cases h
            · cases h
              have h1 : a / b ≤ a := Int.ediv_le_self _ ha.1
              have h2 : 0 ≤ a / b := Int.ediv_nonneg ha.1 hb.1
              omega
theorem worth_in (hS : ∀ n v, S n = some v → 0 ≤ v ∧ v ≤ 65535) (hG : ∀ s v, G s = some v → 0 ≤ v ∧ v ≤ 65535) : ∀ (d : Nat) (e : Ex) (v : Int), okF d false e = true → worthX S G e = some v → 0 ≤ v ∧ v ≤ 65535 := by
  intro d
  induction d with
  | zero => intro e v h; rw [okF] at h; cases h
  | succ d ih =>
    intro e v h hv
    rcases ok_sev h with ⟨n, hn, rfl⟩ | ⟨s, hs, rfl⟩ | rfl | ⟨n, hn, rfl⟩ | ⟨s, hs, rfl⟩ | ⟨a, ha, rfl⟩ | ⟨k, a, b, hk, ha, hb, rfl⟩
    · rw [worth_num] at hv; cases hv; exact hn
    · rw [worth_sym] at hv; cases hv
    · rw [worth_here] at hv; cases hv
    · rw [worth_sect] at hv; exact hS _ _ hv
    · rw [worth_glob] at hv; exact hG _ _ hv
    · rw [worth_neg] at hv
      obtain ⟨u, _, rfl⟩ := Option.map_eq_some_iff.1 hv
      exact wr_in _
    · rw [worth_two] at hv
      obtain ⟨x, hx, hv⟩ := Option.bind_eq_some_iff.1 hv
      obtain ⟨y, hy, hv⟩ := Option.bind_eq_some_iff.1 hv
      exact two11_in hk (ih a x ha hx) (ih b y hb hy) hv
theorem worth_add {a : Ex} {v : Int} (hv : worthX S G a = some v) (hi : 0 ≤ v ∧ v ≤ 65535) (n : Int) : worthX S G (addX a n) = some (wr (v + n)) := by
  unfold addX
  split
  · rename_i hz
    rw [hv]
    congr 1
    unfold wr at *
    omega
  · rw [worth_two, hv]
    unfold numX
    rw [worth_num]
    show two11 5 v (wr n) = _
    show some (wr (v + wr n)) = _
    congr 1
    unfold wr
    omega
theorem prt_ok {d : Nat} {a : Ex} (h : okF (d + 1) false a = true) : ∃ c, okF (c + 1) false (prtX a).1 = true := by
  rcases prt_cases h with ⟨e, _⟩ | ⟨b, m, hm, rfl, e, hb⟩
  · rw [e]; exact ⟨d, h⟩
  · rw [e]
    obtain ⟨c, rfl⟩ := ok_pos hb
    exact ⟨c, hb⟩
theorem worth_prt (hS : ∀ n v, S n = some v → 0 ≤ v ∧ v ≤ 65535) (hG : ∀ s v, G s = some v → 0 ≤ v ∧ v ≤ 65535) {d : Nat} {a : Ex} {v : Int} (ho : okF (d + 1) false a = true) (hv : worthX S G a = some v) : ∃ u, worthX S G (prtX a).1 = some u ∧ (0 ≤ u ∧ u ≤ 65535) ∧ v = wr (u + (prtX a).2) := by
  have hi := worth_in hS hG (d + 1) a v ho hv
  rcases prt_cases ho with ⟨e, _⟩ | ⟨b, m, hm, rfl, e, hb⟩
  · rw [e]
    exact ⟨v, hv, hi, by unfold wr; simp only; omega⟩
  · rw [e]
    rw [worth_two, worth_num] at hv
    obtain ⟨x, hx, hv⟩ := Option.bind_eq_some_iff.1 hv
    refine ⟨x, hx, worth_in hS hG d b x hb hx, ?_⟩
    have hv : some (wr (x + m)) = some v := hv
    cases hv
    rfl
theorem worth_sum (hS : ∀ n v, S n = some v → 0 ≤ v ∧ v ≤ 65535) (hG : ∀ s v, G s = some v → 0 ≤ v ∧ v ≤ 65535) {d : Nat} {a : Ex} {v : Int} (ho : okF (d + 1) false a = true) (hv : worthX S G a = some v) (n : Int) : worthX S G (sumX a n) = some (wr (v + n)) := by
  obtain ⟨u, hu, hi, rfl⟩ := worth_prt hS hG ho hv
  unfold sumX
  rw [worth_add hu hi]
  congr 1
  unfold wr
  omega
theorem worth_sub (hS : ∀ n v, S n = some v → 0 ≤ v ∧ v ≤ 65535) (hG : ∀ s v, G s = some v → 0 ≤ v ∧ v ≤ 65535) {d : Nat} {a b : Ex} {x y : Int} (oa : okF (d + 1) false a = true) (ob : okF (d + 1) false b = true) (hx : worthX S G a = some x) (hy : worthX S G b = some y) : worthX S G (subX a b) = some (wr (x - y)) := by
  unfold subX
  split
  · rename_i hb1
    obtain ⟨m, hm, rfl⟩ := ok_k1 ob hb1
    rw [worth_num] at hy
    cases hy
    rw [worth_sum hS hG oa hx]
    rfl
  · split
    · rename_i hs
      obtain ⟨u, hu, _, rfl⟩ := worth_prt hS hG oa hx
      obtain ⟨q, hq, _, rfl⟩ := worth_prt hS hG ob hy
      obtain ⟨c, oc⟩ := prt_ok oa
      obtain ⟨c', oc'⟩ := prt_ok ob
      obtain ⟨n, _, en⟩ := ok_k11 oc hs.1
      obtain ⟨n', _, en'⟩ := ok_k11 oc' hs.2.1
      have hnn := hs.2.2
      rw [en, en'] at hnn
      have hnn : n = n' := hnn
      subst hnn
      rw [en, worth_sect] at hu
      rw [en', worth_sect, hu] at hq
      cases hq
      unfold numX
      rw [worth_num]
      congr 1
      unfold wr
      omega
    · rw [worth_two, hx, hy]
      rfl
theorem worth_foldN (hS : ∀ n v, S n = some v → 0 ≤ v ∧ v ≤ 65535) (hG : ∀ s v, G s = some v → 0 ≤ v ∧ v ≤ 65535) {d : Nat} {k v : Int} {a b : Ex} {x y : Int} (hk : 5 ≤ k ∧ k ≤ 10) (oa : okF (d + 1) false a = true) (ob : okF (d + 1) false b = true) (hx : worthX S G a = some x) (hy : worthX S G b = some y) (ht : two11 k x y = some v) : worthX S G (foldN k a b) = some v := by
  have ix := worth_in hS hG _ a x oa hx
  have iy := worth_in hS hG _ b y ob hy
  have mix : worthX S G (mixX k a b) = some v := by
    unfold mixX
    split
    · rename_i h6
      subst h6
      rw [worth_sub hS hG oa ob hx hy]
      exact ht
    · split
      · rename_i h5
        obtain ⟨rfl, ha1⟩ := h5
        obtain ⟨m, hm, rfl⟩ := ok_k1 oa ha1
        rw [worth_num] at hx
        cases hx
        rw [worth_sum hS hG ob hy]
        rw [← ht]
        show some (wr (y + x)) = some (wr (x + y))
        rw [Int.add_comm]
      · split
        · rename_i h5
          obtain ⟨rfl, hb1⟩ := h5
          obtain ⟨m, hm, rfl⟩ := ok_k1 ob hb1
          rw [worth_num] at hy
          cases hy
          rw [worth_sum hS hG oa hx]
          exact ht
        · rw [worth_two, hx, hy]
          exact ht
  unfold foldN
  split
  · rename_i hab
    obtain ⟨m, hm, rfl⟩ := ok_k1 oa hab.1
    obtain ⟨m', hm', rfl⟩ := ok_k1 ob hab.2
    rw [worth_num] at hx hy
    cases hx
    cases hy
    simp only [ht]
    unfold numX
    rw [worth_num, wr_of (two11_in hk hm hm' ht)]
  · exact mix
/-- What is folded is worth the same. -/
theorem fold_worth (hS : ∀ n v, S n = some v → 0 ≤ v ∧ v ≤ 65535) (hG : ∀ s v, G s = some v → 0 ≤ v ∧ v ≤ 65535) : ∀ (d : Nat) (e : Ex) (v : Int), okF d false e = true → worthX S G e = some v → worthX S G (foldX e) = some v := by
  intro d
  induction d with
  | zero => intro e v h; rw [okF] at h; cases h
  | succ d ih =>
    intro e v h hv
    rcases ok_sev h with ⟨n, hn, rfl⟩ | ⟨s, hs, rfl⟩ | rfl | ⟨n, hn, rfl⟩ | ⟨s, hs, rfl⟩ | ⟨a, ha, rfl⟩ | ⟨k, a, b, hk, ha, hb, rfl⟩
    · rw [fold_leaf]; exact hv
    · rw [fold_leaf]; exact hv
    · rw [fold_leaf]; exact hv
    · rw [fold_leaf]; exact hv
    · rw [fold_leaf]; exact hv
    · rw [worth_neg] at hv
      obtain ⟨u, hu, rfl⟩ := Option.map_eq_some_iff.1 hv
      have hu2 := ih a u ha hu
      have oa := fold_ok d a ha
      obtain ⟨c, rfl⟩ := ok_pos ha
      rw [fold_neg]
      unfold negX
      split
      · rename_i h1
        obtain ⟨m, hm, em⟩ := ok_k1 oa h1
        rw [em, worth_num] at hu2
        cases hu2
        rw [em]
        unfold numX
        rw [worth_num]
      · rw [worth_neg, hu2]
        rfl
    · rw [worth_two] at hv
      obtain ⟨x, hx, hv⟩ := Option.bind_eq_some_iff.1 hv
      obtain ⟨y, hy, hv⟩ := Option.bind_eq_some_iff.1 hv
      have oa := fold_ok d a ha
      have ob := fold_ok d b hb
      have ix := ih a x ha hx
      have iy := ih b y hb hy
      obtain ⟨c, rfl⟩ := ok_pos ha
      rw [fold_two]
      exact worth_foldN hS hG hk oa ob ix iy hv
end
end Go.Proofs.YtkolflcjkofleaaDoor

namespace Go.Proofs.YtkolflcjkofleaaDoor
open Go.ChangeShapes Go.WideShapes Go.ChangeAt Go.RowKit
set_option linter.unusedVariables false
set_option maxRecDepth 8000
set_option linter.unusedSimpArgs false

/-- The cursor, while draws go on that began at w. -/
structure Dz (w wr : World) (cb : Nat) (a : Option Addr) (len cap : Nat) (xs : List UInt8) : Prop where
  cur : Cur wr cb a len cap xs
  gr : w.grownBy wr (some cb)
  lt : cb < w.heap.size
  cd : xs = [] ∨ ∀ ad, a = some ad → ad.block < w.heap.size
section
variable {w wr w' : World} {cb : Nat} {a : Option Addr} {len cap : Nat} {xs : List UInt8}
theorem dz_new (hc : Cur w cb a len cap xs) : Dz w w cb a len cap xs := ⟨hc, grownBy_below (Below.refl _ _), hc.lt, hc.code⟩
theorem Dz.size (h : Dz w wr cb a len cap xs) : w.heap.size ≤ wr.heap.size := h.gr.size
theorem Dz.draw (h : Dz w wr cb a len cap xs) (hc : Cur w' cb a len cap xs) (hg : wr.grownBy w' (some cb)) : Dz w w' cb a len cap xs := ⟨hc, grownBy_trans h.gr hg, h.lt, h.cd⟩
theorem Dz.later (h : Dz w wr cb a len cap xs) (hb : Below wr.heap.size wr w') : Dz w w' cb a len cap xs := h.draw (h.cur.later hb) (grownBy_below hb)
theorem Dz.own {row : Option Nat} (h : Dz w wr cb a len cap xs) (hg : wr.grownBy w' row) (hr : ∀ g, row = some g → w.heap.size ≤ g) : Dz w w' cb a len cap xs := ⟨h.cur.past hg h.lt h.cd hr, grownBy_own h.gr hg hr, h.lt, h.cd⟩
theorem grownBy_row {W : World} {g : Nat} (cs : Array Value) : W.grownBy (W.setRow g cs) (some g) := ⟨rfl, rfl, rfl, by simp [World.setRow], fun k _ hk => setRow_other _ _ _ _ (fun e => hk (by rw [e]))⟩
theorem Dz.row (h : Dz w wr cb a len cap xs) (cs : Array Value) : Dz w (wr.setRow w.heap.size cs) cb a len cap xs := h.own (grownBy_row cs) (fun g e => by cases e; exact Nat.le_refl _)
/-- A block of the call's own stays while draws go on. -/
theorem Dz.blk {W : World} {g : Nat} {o : Obj} (h : Dz w wr cb a len cap xs) (hg : wr.grownBy W (some cb)) (hb : wr.heap[g]? = some o) (hge : w.heap.size ≤ g) : W.heap[g]? = some o :=
  (hg.block g (Array.getElem?_eq_some_iff.1 hb).1 (fun e => by have := h.lt; simp at e; omega)).trans hb
end
theorem lit_cell (L : List ByteArray) (W : World) (j : Nat) (h : j < L.length) : (W.alloc (.cells (L.map Value.string).toArray 9)).cell? ⟨W.heap.size, j, none⟩ = some (.string (L.getD j E0)) := by
  rw [World.cell?_alloc_at _ _ _ _ rfl, List.getElem?_toArray, List.getElem?_map, List.getElem?_eq_getElem h, List.getD_eq_getElem?_getD, List.getElem?_eq_getElem h]
  rfl
set_option maxHeartbeats 400000 in
theorem strD (L : List ByteArray) (n : Nat) (cb : Nat) (a : Option Addr) (len cap : Nat) (xs : List UInt8) (w0 : World) (hn : L.length = n) (h0 : 0 < n) (hm : n ≤ 1000) (hc : Cur w0 cb a len cap xs) :
    Calls Tryd.prog 66 #[.pointer (some ⟨cb, 0, none⟩), .slice (some ⟨w0.heap.size, 0, none⟩) n n] (w0.alloc (.cells (L.map Value.string).toArray 9)) fun e w' => ∃ j, j < n ∧ e = .returned (.string (L.getD j E0)) ∧ Cur w' cb a len cap xs ∧ w0.grownBy w' (some cb) := by
  have hlt := hc.lt
  have HC := hide (hc.later ((Below.refl _ _).alloc (Nat.le_refl _) (.cells (L.map Value.string).toArray 9)))
  have HT := hide (fun j (hj : j < n) => lit_cell L w0 j (by omega))
  have HZ : w0.heap.size < (w0.alloc (.cells (L.map Value.string).toArray 9)).heap.size := by simp
  have HG := hide (World.grownBy_alloc w0 (.cells (L.map Value.string).toArray 9) (some cb))
  clear hc
  generalize w0.alloc (.cells (L.map Value.string).toArray 9) = w at *
  go_enter Tryd.func66, Tryd.ntmps66
  go_wp2_with fail
  refine (below_any cb a len cap xs n w (by omega) (unhide HC)).mono ?_
  rintro e w1 ⟨x, hx0, hx1, rfl, hc1, hg1⟩
  obtain ⟨hx2, hx3⟩ := hx0 (by omega)
  obtain ⟨j, rfl⟩ := Int.eq_ofNat_of_zero_le hx2
  have hj : j < n := by omega
  have hcx : w1.cell? ⟨w0.heap.size, j, none⟩ = some (.string (L.getD j E0)) := (World.cell?_of_block (w := w) (hg1.block w0.heap.size HZ (by simp; omega))).trans (unhide HT j hj)
  obtain ⟨s, hs⟩ : ∃ s, L.getD j E0 = s := ⟨_, rfl⟩
  have HS := hide hs
  rw [hs] at hcx
  clear hx0 hx1 hs HT
  go_wp2
  go_ret
  exact ⟨j, hj, by rw [unhide HS]; rfl, hc1, grownBy_trans (unhide HG) hg1⟩
set_option maxHeartbeats 400000 in
theorem wordD (cb : Nat) (a : Option Addr) (len cap : Nat) (xs : List UInt8) (w : World) (hc : Cur w cb a len cap xs) :
    Calls Tryd.prog 60 #[.pointer (some ⟨cb, 0, none⟩)] w fun e w' => ∃ x : Int, 0 ≤ x ∧ x ≤ 65535 ∧ e = .returned (.int .i64 x) ∧ Cur w' cb a len cap xs ∧ w.grownBy w' (some cb) := by
  have D0 := hide (dz_new hc)
  go_enter Tryd.func60, Tryd.ntmps60
  go_wp2_with fail
  refine (below_any cb a len cap xs 65536 w (by omega) hc).mono ?_
  rintro e w1 ⟨x, hx0, hx1, rfl, hc1, hg1⟩
  obtain ⟨hx2, hx3⟩ := hx0 (by omega)
  have D1 := hide ((unhide D0).draw hc1 hg1)
  have hlt := hc1.lt
  have I1 := hide (int_any cb a len cap xs (some ⟨w1.heap.size, 0, none⟩) 11 11 [0, 1, 2, 3, 5, 8, 255, 32767, 32768, 65535, x] (w1.alloc (.cells ([0, 1, 2, 3, 5, 8, 255, 32767, 32768, 65535, x].map (Value.int .i64)).toArray 3)) (hc1.later ((Below.refl _ _).alloc (Nat.le_refl _) _)) (RdN_lit w1 _) (fun ad e => by cases e; show w1.heap.size ≠ cb; omega) rfl (by omega) (by omega))
  have G1 := hide (World.grownBy_alloc w1 (.cells ([0, 1, 2, 3, 5, 8, 255, 32767, 32768, 65535, x].map (Value.int .i64)).toArray 3) (some cb))
  have BD := hide (show ∀ j, j < 11 → 0 ≤ nAt [0, 1, 2, 3, 5, 8, 255, 32767, 32768, 65535, x] j ∧ nAt [0, 1, 2, 3, 5, 8, 255, 32767, 32768, 65535, x] j ≤ 65535 from fun j hj => by
    have hk : j = 0 ∨ j = 1 ∨ j = 2 ∨ j = 3 ∨ j = 4 ∨ j = 5 ∨ j = 6 ∨ j = 7 ∨ j = 8 ∨ j = 9 ∨ j = 10 := by omega
    rcases hk with rfl | rfl | rfl | rfl | rfl | rfl | rfl | rfl | rfl | rfl | rfl <;> simp [nAt] <;> omega)
  clear hc1 hg1 hx0 hx1 D0
  go_wp2_with fail
  refine (unhide I1).mono ?_
  rintro e w2 ⟨j, hj, rfl, hc2, hg2⟩
  have D2 := hide ((unhide D1).draw hc2 (grownBy_trans (unhide G1) hg2))
  obtain ⟨b0, b1⟩ := unhide BD j hj
  generalize nAt [0, 1, 2, 3, 5, 8, 255, 32767, 32768, 65535, x] j = y at *
  clear hc2 hg2 I1 G1 BD D1
  go_wp2
  go_ret
  exact ⟨y, b0, b1, rfl, (unhide D2).cur, (unhide D2).gr⟩
def L9a : List ByteArray := [⟨#[97]⟩, ⟨#[115, 116, 97, 114, 116]⟩, ⟨#[120, 49]⟩, ⟨#[114, 54]⟩]
def L9b : List ByteArray := [⟨#[46, 119, 111, 114, 100]⟩, ⟨#[46, 109, 97, 99, 114, 111]⟩, ⟨#[46, 120]⟩]
def L9c : List ByteArray := [⟨#[109, 111, 118]⟩, ⟨#[114, 48]⟩, ⟨#[104, 97, 108, 116]⟩]
def L9d : List ByteArray := [⟨#[58]⟩, ⟨#[44]⟩, ⟨#[40]⟩, ⟨#[41]⟩, ⟨#[46]⟩, ⟨#[60]⟩, ⟨#[64]⟩]
theorem ok9a : ∀ j : Fin 4, (Tk.mk 1 0 (L9a.getD j.val E0)).ok = true := by decide +kernel
theorem ok9b : ∀ j : Fin 3, (Tk.mk 3 0 (L9b.getD j.val E0)).ok = true := by decide +kernel
theorem ok9c : ∀ j : Fin 3, (Tk.mk 5 0 (L9c.getD j.val E0)).ok = true := by decide +kernel
theorem ok9d : ∀ j : Fin 7, (Tk.mk 4 0 (L9d.getD j.val E0)).ok = true := by decide +kernel
theorem ok9n (x : Int) (h0 : 0 ≤ x) (h1 : x ≤ 65535) : (Tk.mk 2 x ⟨#[]⟩).ok = true := by
  unfold Tk.ok
  simp only
  rw [if_pos (by decide), inB_t _ _ _ h0 h1]
  rfl
end Go.Proofs.YtkolflcjkofleaaDoor

namespace Go.Proofs.YtkolflcjkofleaaDoor
open Go.ChangeShapes Go.WideShapes Go.ChangeAt Go.RowKit
set_option linter.unusedVariables false
set_option maxRecDepth 8000
set_option linter.unusedSimpArgs false

theorem szE : (Tryd.prog.info? 26).map (·.size) = some 4 := by kernel_rfl
theorem ex_one (k n : Int) (x : ByteArray) (b : Option Addr) (i j : Nat) : (#[Value.int .i64 k, .int .i64 n, .string x, .slice b i j] : Array Value).all (·.oneCell') = true := by simp [Value.oneCell']
def E0x : Array Value := #[.int .i64 0, .int .i64 0, .string ⟨#[]⟩, .slice none 0 0]
theorem NewX.drawn {wr w' : World} {cb B : Nat} {e : Ex} {c : Option Addr} (h : NewX wr B e c) (hg : wr.grownBy w' (some cb)) (hB : cb < B) : NewX w' B e c := by
  obtain ⟨F, h1, h2, h3⟩ := h
  exact ⟨F, OwX.keep e c F (fun b hF => hg.block b (OwX.lt e c F h1 b hF) (fun e => by have := h3 b hF; simp at e; omega)) h1, h2, h3⟩
theorem NewX.row {wr : World} {B g : Nat} {e : Ex} {c : Option Addr} (h : NewX wr B e c) (cs : Array Value) (hg : g < B) : NewX (wr.setRow g cs) B e c := by
  obtain ⟨F, h1, h2, h3⟩ := h
  exact ⟨F, OwX.keep e c F (fun b hF => setRow_other _ _ _ _ (by have := h3 b hF; omega)) h1, h2, h3⟩
set_option maxHeartbeats 1000000 in
theorem numY (n y : Int) (hy : n % 65536 = y) (w : World) : Calls Tryd.prog 56 #[.int .i64 n] w fun e w' => e = .returned (.agg #[.int .i64 1, .int .i64 y, .string ⟨#[]⟩, .slice none 0 0]) ∧ Below w.heap.size w w' := by
  have B0 := hide (below_new w (.cells E0x 26))
  have R0 := hide (heap_alloc_new w (.cells E0x 26))
  unfold E0x at B0 R0
  go_enter Tryd.func56, Tryd.ntmps56
  go_wp2_with fail
  generalize w.alloc (Obj.cells #[.int .i64 0, .int .i64 0, .string ⟨#[]⟩, .slice none 0 0] 26) = W at *
  refine (wrapS_any n W).mono ?_
  rintro e w1 ⟨rfl, rfl⟩
  rw [hy]
  clear hy
  go_wp2_with (refine wpList_store_row rfl 26 _ _ rfl w.heap.size #[.int .i64 1, .int .i64 y, .string ⟨#[]⟩, .slice none 0 0] rfl rfl 26 _ (unhide R0) szE rfl (ex_one _ _ _ _ _ _) ?_)
  refine bodyPost_ret (results_cell_row (P := Tryd.prog) rfl _ _ w.heap.size 26 #[.int .i64 1, .int .i64 y, .string ⟨#[]⟩, .slice none 0 0] (0, 0) _ rfl (setRow_heap _ _ _ _ _ _ (unhide R0)) Tryd.underlying26 rfl szE) rfl ?_
  exact ⟨rfl, (unhide B0).grown (grownBy_row _) (unhide B0).size (fun k e => by cases e; exact Nat.le_refl _)⟩

theorem numD (n : Int) (w : World) : Calls Tryd.prog 56 #[.int .i64 n] w fun e w' => e = .returned (.agg #[.int .i64 1, .int .i64 (n % 65536), .string ⟨#[]⟩, .slice none 0 0]) ∧ Below w.heap.size w w' := numY n _ rfl w
def L10a : List ByteArray := [⟨#[97]⟩, ⟨#[98]⟩, ⟨#[99]⟩]
def L10b : List ByteArray := [⟨#[103]⟩, ⟨#[104]⟩]
theorem sz10a : ∀ j : Fin 3, (L10a.getD j.val E0).size ≤ 1 := by decide +kernel
theorem sz10b : ∀ j : Fin 2, (L10b.getD j.val E0).size ≤ 1 := by decide +kernel
set_option maxHeartbeats 4000000 in
theorem leafD (p : Bool) (cb : Nat) (a : Option Addr) (len cap : Nat) (xs : List UInt8) (w : World) (hc : Cur w cb a len cap xs) :
    Calls Tryd.prog 82 #[.pointer (some ⟨cb, 0, none⟩), .bool p] w fun e w' => ∃ (k n : Int) (s : ByteArray), s.size ≤ 1 ∧ e = .returned (.agg #[.int .i64 k, .int .i64 n, .string s, .slice none 0 0]) ∧ Cur w' cb a len cap xs ∧ w.grownBy w' (some cb) := by
  have D0 := hide ((dz_new hc).later (below_new w (.cells E0x 26)))
  have R0 := hide (heap_alloc_new w (.cells E0x 26))
  have ZE : (⟨#[]⟩ : ByteArray).size ≤ 1 := by decide
  unfold E0x at D0 R0
  clear hc
  go_enter Tryd.func82, Tryd.ntmps82
  go_wp2_with fail
  generalize w.alloc (Obj.cells #[.int .i64 0, .int .i64 0, .string ⟨#[]⟩, .slice none 0 0] 26) = W at *
  refine (below_any cb a len cap xs 7 W (by omega) (unhide D0).cur).mono ?_
  rintro e w1 ⟨x, hx0, hx1, rfl, hc1, hg1⟩
  obtain ⟨hx2, hx3⟩ := hx0 (by omega)
  have D1 := hide ((unhide D0).draw hc1 hg1)
  have R1 := hide ((unhide D0).blk hg1 (unhide R0) (Nat.le_refl _))
  have hlt := (unhide D1).lt
  have hcl := hc1.lt
  clear hx0 hx1 hc1 hg1 D0 R0
  have h5 : x = 0 ∨ x = 1 ∨ x = 2 ∨ x = 3 ∨ x = 4 ∨ (x = 5 ∨ x = 6) := by omega
  clear hx2 hx3
  rcases h5 with rfl | rfl | rfl | rfl | rfl | h5
  · have I1 := hide (int_any cb a len cap xs (some ⟨w1.heap.size, 0, none⟩) 7 7 [0, 1, 2, 5, 8, 100, 65535] (w1.alloc (.cells ([0, 1, 2, 5, 8, 100, 65535].map (Value.int .i64)).toArray 3)) ((unhide D1).cur.later ((Below.refl _ _).alloc (Nat.le_refl _) _)) (RdN_lit w1 _) (fun ad e => by cases e; show w1.heap.size ≠ cb; omega) rfl (by omega) (by omega))
    have G1 := hide (World.grownBy_alloc w1 (.cells ([0, 1, 2, 5, 8, 100, 65535].map (Value.int .i64)).toArray 3) (some cb))
    go_wp2_with fail
    refine (unhide I1).mono ?_
    rintro e w2 ⟨j, hj, rfl, hc2, hg2⟩
    have D2 := hide ((unhide D1).draw hc2 (grownBy_trans (unhide G1) hg2))
    have R2 := hide ((unhide D1).blk (grownBy_trans (unhide G1) hg2) (unhide R1) (Nat.le_refl _))
    generalize nAt [0, 1, 2, 5, 8, 100, 65535] j = y at *
    have N2 := hide (numD y w2)
    clear hc2 hg2 I1 G1 D1 R1
    go_wp2_with fail
    refine (unhide N2).mono ?_
    rintro e w3 ⟨rfl, hb3⟩
    have D3 := hide ((unhide D2).later hb3)
    have R3 := hide ((hb3.block _ (Array.getElem?_eq_some_iff.1 (unhide R2)).1).trans (unhide R2))
    generalize y % 65536 = z at *
    clear hb3 D2 R2 N2
    go_wp2_with (refine wpList_store_row rfl 26 _ _ rfl w.heap.size #[.int .i64 1, .int .i64 z, .string ⟨#[]⟩, .slice none 0 0] rfl rfl 26 _ (unhide R3) szE rfl (ex_one _ _ _ _ _ _) ?_)
    refine bodyPost_ret (results_cell_row (P := Tryd.prog) rfl _ _ w.heap.size 26 #[.int .i64 1, .int .i64 z, .string ⟨#[]⟩, .slice none 0 0] (0, 0) _ rfl (setRow_heap _ _ _ _ _ _ (unhide R3)) Tryd.underlying26 rfl szE) rfl ?_
    exact ⟨1, z, ⟨#[]⟩, ZE, rfl, ((unhide D3).row _).cur, ((unhide D3).row _).gr⟩
  · have I1 := hide (int_any cb a len cap xs (some ⟨w1.heap.size, 0, none⟩) 7 7 [0, 1, 2, 5, 8, 100, 65535] (w1.alloc (.cells ([0, 1, 2, 5, 8, 100, 65535].map (Value.int .i64)).toArray 3)) ((unhide D1).cur.later ((Below.refl _ _).alloc (Nat.le_refl _) _)) (RdN_lit w1 _) (fun ad e => by cases e; show w1.heap.size ≠ cb; omega) rfl (by omega) (by omega))
    have G1 := hide (World.grownBy_alloc w1 (.cells ([0, 1, 2, 5, 8, 100, 65535].map (Value.int .i64)).toArray 3) (some cb))
    go_wp2_with fail
    refine (unhide I1).mono ?_
    rintro e w2 ⟨j, hj, rfl, hc2, hg2⟩
    have D2 := hide ((unhide D1).draw hc2 (grownBy_trans (unhide G1) hg2))
    have R2 := hide ((unhide D1).blk (grownBy_trans (unhide G1) hg2) (unhide R1) (Nat.le_refl _))
    generalize nAt [0, 1, 2, 5, 8, 100, 65535] j = y at *
    have N2 := hide (numD y w2)
    clear hc2 hg2 I1 G1 D1 R1
    go_wp2_with fail
    refine (unhide N2).mono ?_
    rintro e w3 ⟨rfl, hb3⟩
    have D3 := hide ((unhide D2).later hb3)
    have R3 := hide ((hb3.block _ (Array.getElem?_eq_some_iff.1 (unhide R2)).1).trans (unhide R2))
    generalize y % 65536 = z at *
    clear hb3 D2 R2 N2
    go_wp2_with (refine wpList_store_row rfl 26 _ _ rfl w.heap.size #[.int .i64 1, .int .i64 z, .string ⟨#[]⟩, .slice none 0 0] rfl rfl 26 _ (unhide R3) szE rfl (ex_one _ _ _ _ _ _) ?_)
    refine bodyPost_ret (results_cell_row (P := Tryd.prog) rfl _ _ w.heap.size 26 #[.int .i64 1, .int .i64 z, .string ⟨#[]⟩, .slice none 0 0] (0, 0) _ rfl (setRow_heap _ _ _ _ _ _ (unhide R3)) Tryd.underlying26 rfl szE) rfl ?_
    exact ⟨1, z, ⟨#[]⟩, ZE, rfl, ((unhide D3).row _).cur, ((unhide D3).row _).gr⟩
  · have S1 := hide (strD L10a 3 cb a len cap xs w1 rfl (by omega) (by omega) (unhide D1).cur)
    go_wp2_with (first | (go_at_call 66; refine (unhide S1).mono ?_; rintro e w7 ⟨j, hj, rfl, hc2, hg2⟩; have D7 := hide ((unhide D1).draw hc2 hg2); have R7 := hide ((unhide D1).blk hg2 (unhide R1) (Nat.le_refl _)); have OK := hide (sz10a ⟨j, hj⟩); clear hc2 hg2; simp only at OK; generalize L10a.getD j E0 = sx at *) | (refine wpList_store_row rfl 26 _ _ rfl w.heap.size #[.int .i64 2, .int .i64 0, .string sx, .slice none 0 0] rfl rfl 26 _ (unhide R7) szE rfl (ex_one _ _ _ _ _ _) ?_))
    refine bodyPost_ret (results_cell_row (P := Tryd.prog) rfl _ _ w.heap.size 26 #[.int .i64 2, .int .i64 0, .string sx, .slice none 0 0] (0, 0) _ rfl (setRow_heap _ _ _ _ _ _ (unhide R7)) Tryd.underlying26 rfl szE) rfl ?_
    exact ⟨2, 0, sx, unhide OK, rfl, ((unhide D7).row _).cur, ((unhide D7).row _).gr⟩
  · have S1 := hide (strD L10a 3 cb a len cap xs w1 rfl (by omega) (by omega) (unhide D1).cur)
    go_wp2_with (first | (go_at_call 66; refine (unhide S1).mono ?_; rintro e w7 ⟨j, hj, rfl, hc2, hg2⟩; have D7 := hide ((unhide D1).draw hc2 hg2); have R7 := hide ((unhide D1).blk hg2 (unhide R1) (Nat.le_refl _)); have OK := hide (sz10a ⟨j, hj⟩); clear hc2 hg2; simp only at OK; generalize L10a.getD j E0 = sx at *) | (refine wpList_store_row rfl 26 _ _ rfl w.heap.size #[.int .i64 2, .int .i64 0, .string sx, .slice none 0 0] rfl rfl 26 _ (unhide R7) szE rfl (ex_one _ _ _ _ _ _) ?_))
    refine bodyPost_ret (results_cell_row (P := Tryd.prog) rfl _ _ w.heap.size 26 #[.int .i64 2, .int .i64 0, .string sx, .slice none 0 0] (0, 0) _ rfl (setRow_heap _ _ _ _ _ _ (unhide R7)) Tryd.underlying26 rfl szE) rfl ?_
    exact ⟨2, 0, sx, unhide OK, rfl, ((unhide D7).row _).cur, ((unhide D7).row _).gr⟩
  · go_wp2_with (refine wpList_store_row rfl 26 _ _ rfl w.heap.size #[.int .i64 3, .int .i64 0, .string ⟨#[]⟩, .slice none 0 0] rfl rfl 26 _ (unhide R1) szE rfl (ex_one _ _ _ _ _ _) ?_)
    refine bodyPost_ret (results_cell_row (P := Tryd.prog) rfl _ _ w.heap.size 26 #[.int .i64 3, .int .i64 0, .string ⟨#[]⟩, .slice none 0 0] (0, 0) _ rfl (setRow_heap _ _ _ _ _ _ (unhide R1)) Tryd.underlying26 rfl szE) rfl ?_
    exact ⟨3, 0, ⟨#[]⟩, ZE, rfl, ((unhide D1).row _).cur, ((unhide D1).row _).gr⟩
  · have h0 : ¬ x = 0 := by omega
    have h1 : ¬ x = 1 := by omega
    have h2 : ¬ x = 2 := by omega
    have h3 : ¬ x = 3 := by omega
    have h4 : ¬ x = 4 := by omega
    clear h5
    have WD := hide (wordD cb a len cap xs w1 (unhide D1).cur)
    have ON := hide (once_any cb a len cap xs 2 w1 (by omega) (unhide D1).cur)
    cases p
    · clear WD
      go_wp2_with fail
      refine (unhide ON).mono ?_
      rintro e w2 ⟨q, rfl, hc2, hg2⟩
      have D2 := hide ((unhide D1).draw hc2 hg2)
      have R2 := hide ((unhide D1).blk hg2 (unhide R1) (Nat.le_refl _))
      clear hc2 hg2 ON D1 R1
      cases q
      · have S1 := hide (strD L10b 2 cb a len cap xs w2 rfl (by omega) (by omega) (unhide D2).cur)
        go_wp2_with (first | (go_at_call 66; refine (unhide S1).mono ?_; rintro e w7 ⟨j, hj, rfl, hc2, hg2⟩; have D7 := hide ((unhide D2).draw hc2 hg2); have R7 := hide ((unhide D2).blk hg2 (unhide R2) (Nat.le_refl _)); have OK := hide (sz10b ⟨j, hj⟩); clear hc2 hg2; simp only at OK; generalize L10b.getD j E0 = sx at *) | (refine wpList_store_row rfl 26 _ _ rfl w.heap.size #[.int .i64 12, .int .i64 0, .string sx, .slice none 0 0] rfl rfl 26 _ (unhide R7) szE rfl (ex_one _ _ _ _ _ _) ?_))
        refine bodyPost_ret (results_cell_row (P := Tryd.prog) rfl _ _ w.heap.size 26 #[.int .i64 12, .int .i64 0, .string sx, .slice none 0 0] (0, 0) _ rfl (setRow_heap _ _ _ _ _ _ (unhide R7)) Tryd.underlying26 rfl szE) rfl ?_
        exact ⟨12, 0, sx, unhide OK, rfl, ((unhide D7).row _).cur, ((unhide D7).row _).gr⟩
      · have BL := hide (below_any cb a len cap xs 3 w2 (by omega) (unhide D2).cur)
        go_wp2_with (first | (go_at_call 57; refine (unhide BL).mono ?_; rintro e w7 ⟨y, _, _, rfl, hc2, hg2⟩; have D7 := hide ((unhide D2).draw hc2 hg2); have R7 := hide ((unhide D2).blk hg2 (unhide R2) (Nat.le_refl _)); clear hc2 hg2) | (refine wpList_store_row rfl 26 _ _ rfl w.heap.size #[.int .i64 11, .int .i64 y, .string ⟨#[]⟩, .slice none 0 0] rfl rfl 26 _ (unhide R7) szE rfl (ex_one _ _ _ _ _ _) ?_))
        refine bodyPost_ret (results_cell_row (P := Tryd.prog) rfl _ _ w.heap.size 26 #[.int .i64 11, .int .i64 y, .string ⟨#[]⟩, .slice none 0 0] (0, 0) _ rfl (setRow_heap _ _ _ _ _ _ (unhide R7)) Tryd.underlying26 rfl szE) rfl ?_
        exact ⟨11, y, ⟨#[]⟩, ZE, rfl, ((unhide D7).row _).cur, ((unhide D7).row _).gr⟩
    · clear ON
      go_wp2_with fail
      refine (unhide WD).mono ?_
      rintro e w2 ⟨y, _, _, rfl, hc2, hg2⟩
      have D2 := hide ((unhide D1).draw hc2 hg2)
      have R2 := hide ((unhide D1).blk hg2 (unhide R1) (Nat.le_refl _))
      have N2 := hide (numD y w2)
      clear hc2 hg2 WD D1 R1
      go_wp2_with fail
      refine (unhide N2).mono ?_
      rintro e w3 ⟨rfl, hb3⟩
      have D3 := hide ((unhide D2).later hb3)
      have R3 := hide ((hb3.block _ (Array.getElem?_eq_some_iff.1 (unhide R2)).1).trans (unhide R2))
      generalize y % 65536 = z at *
      clear hb3 D2 R2 N2
      go_wp2_with (refine wpList_store_row rfl 26 _ _ rfl w.heap.size #[.int .i64 1, .int .i64 z, .string ⟨#[]⟩, .slice none 0 0] rfl rfl 26 _ (unhide R3) szE rfl (ex_one _ _ _ _ _ _) ?_)
      refine bodyPost_ret (results_cell_row (P := Tryd.prog) rfl _ _ w.heap.size 26 #[.int .i64 1, .int .i64 z, .string ⟨#[]⟩, .slice none 0 0] (0, 0) _ rfl (setRow_heap _ _ _ _ _ _ (unhide R3)) Tryd.underlying26 rfl szE) rfl ?_
      exact ⟨1, z, ⟨#[]⟩, ZE, rfl, ((unhide D3).row _).cur, ((unhide D3).row _).gr⟩
end Go.Proofs.YtkolflcjkofleaaDoor

namespace Go.Proofs.YtkolflcjkofleaaDoor
open Go.ChangeShapes Go.WideShapes Go.ChangeAt Go.RowKit
set_option linter.unusedVariables false
set_option maxRecDepth 8000
set_option linter.unusedSimpArgs false

/-- The parts of a term in blocks of its own from B on, all below C. -/
def HalfX (w : World) (B C : Nat) (e : Ex) (a : Option Addr) : Prop := ∃ F, OwX w e a F ∧ F.Nodup ∧ ∀ b ∈ F, B ≤ b ∧ b < C
theorem NewX.half {w : World} {B : Nat} {e : Ex} {a : Option Addr} (h : NewX w B e a) : HalfX w B w.heap.size e a := by
  obtain ⟨F, h1, h2, h3⟩ := h
  exact ⟨F, h1, h2, fun b hb => ⟨h3 b hb, OwX.lt e a F h1 b hb⟩⟩
theorem HalfX.upto {w : World} {B C D : Nat} {e : Ex} {a : Option Addr} (h : HalfX w B C e a) (hD : C ≤ D) : HalfX w B D e a := by
  obtain ⟨F, h1, h2, h3⟩ := h
  exact ⟨F, h1, h2, fun b hb => ⟨(h3 b hb).1, Nat.lt_of_lt_of_le (h3 b hb).2 hD⟩⟩
theorem HalfX.later {w w' : World} {B C : Nat} {e : Ex} {a : Option Addr} (h : HalfX w B C e a) (hb : Below w.heap.size w w') : HalfX w' B C e a := by
  obtain ⟨F, h1, h2, h3⟩ := h
  exact ⟨F, h1.later hb, h2, h3⟩
theorem HalfX.drawn {w w' : World} {B C cb : Nat} {e : Ex} {a : Option Addr} (h : HalfX w B C e a) (hg : w.grownBy w' (some cb)) (hB : cb < B) : HalfX w' B C e a := by
  obtain ⟨F, h1, h2, h3⟩ := h
  exact ⟨F, OwX.keep e a F (fun b hF => hg.block b (OwX.lt e a F h1 b hF) (fun e => by have := (h3 b hF).1; simp at e; omega)) h1, h2, h3⟩
theorem HalfX.new {w : World} {B C : Nat} {e : Ex} {a : Option Addr} (h : HalfX w B C e a) : NewX w B e a := by
  obtain ⟨F, h1, h2, h3⟩ := h
  exact ⟨F, h1, h2, fun b hb => (h3 b hb).1⟩
theorem NewX.one {w : World} {B : Nat} {x : Ex} {c : Option Addr} {cp : Nat} (h : NewX w B x c) (hB : B ≤ w.heap.size) (k n : Int) (s : ByteArray) (t : TypeId) : NewX (w.alloc (.cells #[.int .i64 x.k, .int .i64 x.n, .string x.s, .slice c x.l.length cp] t)) B ⟨k, n, s, [x]⟩ (some ⟨w.heap.size, 0, none⟩) := by
  obtain ⟨F, h1, h2, h3⟩ := h
  have hl := OwX.lt x c F h1
  refine ⟨w.heap.size :: F, (OwX_eq _ _ _ _).2 (.inr ⟨w.heap.size, _, t, [F], rfl, Array.getElem?_push_size, by simp, rfl, by simp, fun i hi => ?_⟩), List.nodup_cons.2 ⟨fun h => by have := hl _ h; omega, h2⟩, fun b hb => ?_⟩
  · have hi : i < 1 := hi
    obtain rfl : i = 0 := by omega
    exact ⟨rfl, rfl, rfl, c, cp, rfl, OwX.later h1 ((Below.refl _ _).alloc (Nat.le_refl _) _)⟩
  · rcases List.mem_cons.1 hb with rfl | hb
    · exact hB
    · exact h3 b hb
theorem HalfX.two {w : World} {B C : Nat} {x y : Ex} {c d : Option Addr} {cp dp : Nat} (h : HalfX w B C x c) (k : NewX w C y d) (hB : B ≤ C) (hC : C ≤ w.heap.size) (k' n : Int) (s : ByteArray) (t : TypeId) : NewX (w.alloc (.cells #[.int .i64 x.k, .int .i64 x.n, .string x.s, .slice c x.l.length cp, .int .i64 y.k, .int .i64 y.n, .string y.s, .slice d y.l.length dp] t)) B ⟨k', n, s, [x, y]⟩ (some ⟨w.heap.size, 0, none⟩) := by
  obtain ⟨F, h1, h2, h3⟩ := h
  obtain ⟨G, k1, k2, k3⟩ := k
  have hl := OwX.lt x c F h1
  have kl := OwX.lt y d G k1
  refine ⟨w.heap.size :: (F ++ G), (OwX_eq _ _ _ _).2 (.inr ⟨w.heap.size, _, t, [F, G], rfl, Array.getElem?_push_size, by simp, rfl, by simp, fun i hi => ?_⟩), List.nodup_cons.2 ⟨fun h => ?_, List.nodup_append.2 ⟨h2, k2, fun a ha b hb e => ?_⟩⟩, fun b hb => ?_⟩
  · have hi : i < 2 := hi
    have hb := (Below.refl w.heap.size w).alloc (Nat.le_refl _) (.cells #[.int .i64 x.k, .int .i64 x.n, .string x.s, .slice c x.l.length cp, .int .i64 y.k, .int .i64 y.n, .string y.s, .slice d y.l.length dp] t)
    have hi2 : i = 0 ∨ i = 1 := by omega
    rcases hi2 with rfl | rfl
    · exact ⟨rfl, rfl, rfl, c, cp, rfl, OwX.later h1 hb⟩
    · exact ⟨rfl, rfl, rfl, d, dp, rfl, OwX.later k1 hb⟩
  · rcases List.mem_append.1 h with h | h
    · have := hl _ h; omega
    · have := kl _ h; omega
  · subst e
    have := (h3 _ ha).2
    have := k3 _ hb
    omega
  · rcases List.mem_cons.1 hb with rfl | hb
    · omega
    · rcases List.mem_append.1 hb with hb | hb
      · exact (h3 b hb).1
      · have := k3 b hb; omega
theorem sz_one (k n : Int) (x : Ex) : (Ex.mk k n ⟨#[]⟩ [x]).sz = 1 + x.sz := by
  rw [Ex.sz_eq]
  show 0 + 1 + (x.sz + 0) = _
  omega
theorem sz_two (k n : Int) (x y : Ex) : (Ex.mk k n ⟨#[]⟩ [x, y]).sz = 2 + x.sz + y.sz := by
  rw [Ex.sz_eq]
  show 0 + 2 + (x.sz + (y.sz + 0)) = _
  omega
theorem sz_leaf (k n : Int) (s : ByteArray) : (Ex.mk k n s []).sz = s.size := by
  rw [Ex.sz_eq]
  rfl
/-- How large a drawn term can be. -/
def szD : Nat → Nat
  | 0 => 1
  | d + 1 => 2 + 2 * szD d
def DrX (n : Nat) (cb : Nat) (a : Option Addr) (len cap : Nat) (xs : List UInt8) (w : World) (r : Ending) (w' : World) : Prop :=
  ∃ (e : Ex) (c : Option Addr) (cp : Nat), r = .returned (.agg (e.cs c cp)) ∧ e.sz ≤ n ∧ NewX w' w.heap.size e c ∧ Cur w' cb a len cap xs ∧ w.grownBy w' (some cb)
def DrP (d : Nat) : Prop := ∀ (m : Int) (hm : m = (d : Int)) (p : Bool) (cb : Nat) (a : Option Addr) (len cap : Nat) (xs : List UInt8) (w : World), Cur w cb a len cap xs → Calls Tryd.prog 55 #[.pointer (some ⟨cb, 0, none⟩), .int .i64 m, .bool p] w (DrX (szD d) cb a len cap xs w)
theorem szD_pos (d : Nat) : 1 ≤ szD d := by cases d <;> unfold szD <;> omega
set_option maxHeartbeats 2000000 in
theorem drawX0 : DrP 0 := by
  rintro m rfl p cb a len cap xs w hc
  have D0 := hide ((dz_new hc).later (below_new w (.cells E0x 26)))
  have R0 := hide (heap_alloc_new w (.cells E0x 26))
  unfold E0x at D0 R0
  have LF := hide (leafD p cb a len cap xs _ (unhide D0).cur)
  clear hc
  go_enter Tryd.func55, Tryd.ntmps55
  go_wp2_with fail
  generalize w.alloc (Obj.cells #[.int .i64 0, .int .i64 0, .string ⟨#[]⟩, .slice none 0 0] 26) = W at *
  refine (unhide LF).mono ?_
  rintro e w1 ⟨k, n, s, hs, rfl, hc1, hg1⟩
  have D1 := hide ((unhide D0).draw hc1 hg1)
  have R1 := hide ((unhide D0).blk hg1 (unhide R0) (Nat.le_refl _))
  clear hc1 hg1 D0 R0 LF
  go_wp2_with (refine wpList_store_row rfl 26 _ _ rfl w.heap.size #[.int .i64 k, .int .i64 n, .string s, .slice none 0 0] rfl rfl 26 _ (unhide R1) szE rfl (ex_one _ _ _ _ _ _) ?_)
  refine bodyPost_ret (results_cell_row (P := Tryd.prog) rfl _ _ w.heap.size 26 #[.int .i64 k, .int .i64 n, .string s, .slice none 0 0] (0, 0) _ rfl (setRow_heap _ _ _ _ _ _ (unhide R1)) Tryd.underlying26 rfl szE) rfl ?_
  exact ⟨⟨k, n, s, []⟩, none, 0, rfl, by rw [sz_leaf]; exact hs, NewX.nil _ _ _ _ _ _, ((unhide D1).row _).cur, ((unhide D1).row _).gr⟩
set_option maxHeartbeats 8000000 in
theorem drawXS (d : Nat) (hd : d ≤ 3) (ih : DrP d) : DrP (d + 1) := by
  rintro m hm p cb a len cap xs w hc
  have hm0 : ¬ m = 0 := by omega
  have hm1 : 0 < m := by omega
  have hm2 : m ≤ 4 := by omega
  have hmd : m - 1 = (d : Int) := by omega
  have D0 := hide ((dz_new hc).later (below_new w (.cells E0x 26)))
  have R0 := hide (heap_alloc_new w (.cells E0x 26))
  have hZ0 : w.heap.size < (w.alloc (.cells E0x 26)).heap.size := by simp
  have IH := hide (fun wr (h : Cur wr cb a len cap xs) => ih (m - 1) hmd p cb a len cap xs wr h)
  have hsz : szD (d + 1) = 2 + 2 * szD d := by rw [szD]
  have hsp := szD_pos d
  unfold DrX
  unfold DrX at IH
  rw [hsz]
  generalize szD d = z at *
  unfold E0x at D0 R0 hZ0
  clear hc ih hmd hm
  go_enter Tryd.func55, Tryd.ntmps55
  go_wp2_with fail
  generalize w.alloc (Obj.cells #[.int .i64 0, .int .i64 0, .string ⟨#[]⟩, .slice none 0 0] 26) = W at *
  refine (once_any cb a len cap xs 3 W (by omega) (unhide D0).cur).mono ?_
  rintro e w1 ⟨q, rfl, hc1, hg1⟩
  have D1 := hide ((unhide D0).draw hc1 hg1)
  have R1 := hide ((unhide D0).blk hg1 (unhide R0) (Nat.le_refl _))
  have hlt := (unhide D1).lt
  have hcl := hc1.lt
  have hZ1 : w.heap.size < w1.heap.size := Nat.lt_of_lt_of_le hZ0 hg1.size
  clear hc1 hg1 D0 R0 hZ0
  cases q
  case true =>
    have LF := hide (leafD p cb a len cap xs _ (unhide D1).cur)
    clear IH
    go_wp2_with fail
    refine (unhide LF).mono ?_
    rintro e w2 ⟨k, n, s, hs, rfl, hc2, hg2⟩
    have D2 := hide ((unhide D1).draw hc2 hg2)
    have R2 := hide ((unhide D1).blk hg2 (unhide R1) (Nat.le_refl _))
    clear hc2 hg2 D1 R1 LF
    go_wp2_with (refine wpList_store_row rfl 26 _ _ rfl w.heap.size #[.int .i64 k, .int .i64 n, .string s, .slice none 0 0] rfl rfl 26 _ (unhide R2) szE rfl (ex_one _ _ _ _ _ _) ?_)
    refine bodyPost_ret (results_cell_row (P := Tryd.prog) rfl _ _ w.heap.size 26 #[.int .i64 k, .int .i64 n, .string s, .slice none 0 0] (0, 0) _ rfl (setRow_heap _ _ _ _ _ _ (unhide R2)) Tryd.underlying26 rfl szE) rfl ?_
    exact ⟨⟨k, n, s, []⟩, none, 0, rfl, by rw [sz_leaf]; omega, NewX.nil _ _ _ _ _ _, ((unhide D2).row _).cur, ((unhide D2).row _).gr⟩
  case false =>
    have I1 := hide (int_any cb a len cap xs (some ⟨w1.heap.size, 0, none⟩) 10 10 [5, 5, 5, 6, 6, 4, 7, 8, 9, 10] (w1.alloc (.cells ([5, 5, 5, 6, 6, 4, 7, 8, 9, 10].map (Value.int .i64)).toArray 3)) ((unhide D1).cur.later ((Below.refl _ _).alloc (Nat.le_refl _) _)) (RdN_lit w1 _) (fun ad e => by cases e; show w1.heap.size ≠ cb; omega) rfl (by omega) (by omega))
    have G1 := hide (World.grownBy_alloc w1 (.cells ([5, 5, 5, 6, 6, 4, 7, 8, 9, 10].map (Value.int .i64)).toArray 3) (some cb))
    go_wp2_with fail
    refine (unhide I1).mono ?_
    rintro e w2 ⟨j, hj, rfl, hc2, hg2⟩
    have D2 := hide ((unhide D1).draw hc2 (grownBy_trans (unhide G1) hg2))
    have R2 := hide ((unhide D1).blk (grownBy_trans (unhide G1) hg2) (unhide R1) (Nat.le_refl _))
    have hZ2 : w.heap.size < w2.heap.size := Nat.lt_of_lt_of_le hZ1 (Nat.le_trans (unhide G1).size hg2.size)
    generalize nAt [5, 5, 5, 6, 6, 4, 7, 8, 9, 10] j = k at *
    have N2 := hide (unhide IH w2 (unhide D2).cur)
    clear hc2 hg2 I1 G1 D1 R1 hj
    go_wp2_with fail
    refine (unhide N2).mono ?_
    rintro e w3 ⟨x, c, cp, rfl, hsx, hnx, hc3, hg3⟩
    have D3 := hide ((unhide D2).draw hc3 hg3)
    have R3 := hide ((unhide D2).blk hg3 (unhide R2) (Nat.le_refl _))
    have hZ3 : w.heap.size < w3.heap.size := Nat.lt_of_lt_of_le hZ2 hg3.size
    have hb4 := below_new w3 (.cells #[.int .i64 x.k, .int .i64 x.n, .string x.s, .slice c x.l.length cp] 26)
    have hg4 : (w3.alloc (.cells #[.int .i64 x.k, .int .i64 x.n, .string x.s, .slice c x.l.length cp] 26)).heap[w3.heap.size]? = some (.cells #[.int .i64 x.k, .int .i64 x.n, .string x.s, .slice c x.l.length cp] 26 (0, 0)) := Array.getElem?_push_size
    have hz4 : (w3.alloc (.cells #[.int .i64 x.k, .int .i64 x.n, .string x.s, .slice c x.l.length cp] 26)).heap.size = w3.heap.size + 1 := by simp
    have X3 := hide ((hnx.lower (show w.heap.size + 1 ≤ w2.heap.size by omega)).half)
    unfold Ex.cs
    clear hnx hc3 hg3 N2 D2 R2
    obtain ⟨w4, hw4⟩ : ∃ w4, w3.alloc (.cells #[.int .i64 x.k, .int .i64 x.n, .string x.s, .slice c x.l.length cp] 26) = w4 := ⟨_, rfl⟩
    rw [hw4] at hb4 hg4 hz4
    have D4 := hide ((unhide D3).later hb4)
    have R4 := hide ((hb4.block _ (Array.getElem?_eq_some_iff.1 (unhide R3)).1).trans (unhide R3))
    have X4 := hide (((unhide X3).later hb4).upto (show w3.heap.size ≤ w4.heap.size by omega))
    have G4 := hide hg4
    have y0 := Lib.cell_of_heap hg4 0
    have y1 := Lib.cell_of_heap hg4 1
    have y2 := Lib.cell_of_heap hg4 2
    have y3 := Lib.cell_of_heap hg4 3
    have HZ4 := hide hz4
    clear hb4 hg4 hz4 D3 R3 X3
    by_cases h4 : k = 4
    · subst h4
      have N4 := hide (NewX.one (cp := cp) (unhide X4).new (by have := unhide HZ4; omega) 4 0 ⟨#[]⟩ 26)
      have hb5 := below_new w4 (.cells #[.int .i64 x.k, .int .i64 x.n, .string x.s, .slice c x.l.length cp] 26)
      have D5 := hide ((unhide D4).later hb5)
      have R5 := hide ((hb5.block _ (Array.getElem?_eq_some_iff.1 (unhide R4)).1).trans (unhide R4))
      clear hb5 D4 R4 X4 IH
      go_wp2_with (refine wpList_store_row rfl 26 _ _ rfl w.heap.size #[.int .i64 4, .int .i64 0, .string ⟨#[]⟩, .slice (some ⟨w4.heap.size, 0, none⟩) 1 1] rfl rfl 26 _ (unhide R5) szE rfl (ex_one _ _ _ _ _ _) ?_)
      refine bodyPost_ret (results_cell_row (P := Tryd.prog) rfl _ _ w.heap.size 26 #[.int .i64 4, .int .i64 0, .string ⟨#[]⟩, .slice (some ⟨w4.heap.size, 0, none⟩) 1 1] (0, 0) _ rfl (setRow_heap _ _ _ _ _ _ (unhide R5)) Tryd.underlying26 rfl szE) rfl ?_
      exact ⟨⟨4, 0, ⟨#[]⟩, [x]⟩, _, _, rfl, by rw [sz_one]; omega, ((unhide N4).row _ (Nat.lt_succ_self _)).lower (Nat.le_succ _), ((unhide D5).row _).cur, ((unhide D5).row _).gr⟩
    · have N4 := hide (unhide IH w4 (unhide D4).cur)
      go_wp2_with fail
      refine (unhide N4).mono ?_
      rintro e w5 ⟨y, c2, cp2, rfl, hsy, hny, hc5, hg5⟩
      have D5 := hide ((unhide D4).draw hc5 hg5)
      have R5 := hide ((unhide D4).blk hg5 (unhide R4) (Nat.le_refl _))
      have G5 := hide ((unhide D4).blk hg5 (unhide G4) (Nat.le_of_lt hZ3))
      have X5 := hide ((unhide X4).drawn hg5 (Nat.lt_succ_of_lt hlt))
      have hz5 := hg5.size
      have hb6 := below_new w5 (.cells #[.int .i64 y.k, .int .i64 y.n, .string y.s, .slice c2 y.l.length cp2] 26)
      have hg6 : (w5.alloc (.cells #[.int .i64 y.k, .int .i64 y.n, .string y.s, .slice c2 y.l.length cp2] 26)).heap[w5.heap.size]? = some (.cells #[.int .i64 y.k, .int .i64 y.n, .string y.s, .slice c2 y.l.length cp2] 26 (0, 0)) := Array.getElem?_push_size
      have hz6 : (w5.alloc (.cells #[.int .i64 y.k, .int .i64 y.n, .string y.s, .slice c2 y.l.length cp2] 26)).heap.size = w5.heap.size + 1 := by simp
      have Y5 := hide hny
      unfold Ex.cs
      clear hny hc5 hg5 N4 D4 R4 G4 X4 IH y0 y1 y2 y3 hw4
      obtain ⟨w6, hw6⟩ : ∃ w6, w5.alloc (.cells #[.int .i64 y.k, .int .i64 y.n, .string y.s, .slice c2 y.l.length cp2] 26) = w6 := ⟨_, rfl⟩
      rw [hw6] at hb6 hg6 hz6
      have D6 := hide ((unhide D5).later hb6)
      have R6 := hide ((hb6.block _ (Array.getElem?_eq_some_iff.1 (unhide R5)).1).trans (unhide R5))
      have G6 := hide ((hb6.block _ (Array.getElem?_eq_some_iff.1 (unhide G5)).1).trans (unhide G5))
      have X6 := hide ((unhide X5).later hb6)
      have Y6 := hide ((unhide Y5).later hb6)
      have HZ6 := hide hz6
      clear hz6
      have N6 := hide (HalfX.two (cp := cp) (dp := cp2) (unhide X6) (unhide Y6) (by have := unhide HZ4; omega) (by have := unhide HZ4; have := unhide HZ6; omega) k 0 ⟨#[]⟩ 26)
      have y0 := Lib.cell_of_heap (unhide G6) 0
      have y1 := Lib.cell_of_heap (unhide G6) 1
      have y2 := Lib.cell_of_heap (unhide G6) 2
      have y3 := Lib.cell_of_heap (unhide G6) 3
      have z0 := Lib.cell_of_heap hg6 0
      have z1 := Lib.cell_of_heap hg6 1
      have z2 := Lib.cell_of_heap hg6 2
      have z3 := Lib.cell_of_heap hg6 3
      have hb7 := below_new w6 (.cells #[.int .i64 x.k, .int .i64 x.n, .string x.s, .slice c x.l.length cp, .int .i64 y.k, .int .i64 y.n, .string y.s, .slice c2 y.l.length cp2] 26)
      have D7 := hide ((unhide D6).later hb7)
      have R7 := hide ((hb7.block _ (Array.getElem?_eq_some_iff.1 (unhide R6)).1).trans (unhide R6))
      clear hb6 hb7 hg6 D5 R5 G5 X5 Y5 D6 R6 X6 Y6
      go_wp2_with (refine wpList_store_row rfl 26 _ _ rfl w.heap.size #[.int .i64 k, .int .i64 0, .string ⟨#[]⟩, .slice (some ⟨w6.heap.size, 0, none⟩) 2 2] rfl rfl 26 _ (unhide R7) szE rfl (ex_one _ _ _ _ _ _) ?_)
      refine bodyPost_ret (results_cell_row (P := Tryd.prog) rfl _ _ w.heap.size 26 #[.int .i64 k, .int .i64 0, .string ⟨#[]⟩, .slice (some ⟨w6.heap.size, 0, none⟩) 2 2] (0, 0) _ rfl (setRow_heap _ _ _ _ _ _ (unhide R7)) Tryd.underlying26 rfl szE) rfl ?_
      exact ⟨⟨k, 0, ⟨#[]⟩, [x, y]⟩, _, _, rfl, by rw [sz_two]; omega, ((unhide N6).row _ (Nat.lt_succ_self _)).lower (Nat.le_succ _), ((unhide D7).row _).cur, ((unhide D7).row _).gr⟩
theorem drawX3 : DrP 3 := drawXS 2 (by omega) (drawXS 1 (by omega) (drawXS 0 (by omega) drawX0))
theorem drawX4 : DrP 4 := drawXS 3 (by omega) drawX3
end Go.Proofs.YtkolflcjkofleaaDoor

namespace Go.Proofs.YtkolflcjkofleaaDoor
open Go.ChangeShapes Go.WideShapes Go.ChangeAt Go.RowKit
set_option linter.unusedVariables false
set_option linter.unusedSimpArgs false

section
variable {P : Program} {w : World}
/-- What an append leaves lies where it lay, or behind all there was. -/
theorem append_to (base : Nat) (t ty e : TypeId) (i : TypeInfo) (z : Value) (size bytes : Nat) (ht : P.underlying t = some (.slice e)) (hi : P.info? e = some i) (hz : i.zero = some z)
    (hsize : i.size = size) (hby : i.bytes = bytes) (hzs : z.cells.size = size) (hsz : 0 < size)
    (v : Value) (n : Nat) (xs : List Value) (hown : w.ownsRow base e size v n xs)
    (a : Addr) (m c : Nat) (news : List Value) (hl : news.length = m * size) (hnews : ∀ j u, news[j]? = some u → w.cell? (a.add j) = some u) (h1 : ∀ u ∈ news, u.oneCell' = true)
    (h63 : n + m ≤ maxLen) (hbytes : (n + m) * bytes ≤ 140737488355328) (hbase : base ≤ w.heap.size) (hm : 0 < m) :
    ∃ v' w', (Builtin.append_ #[t, t] ty #[v, .slice (some a) m c]).run P w = .ok v' w' ∧ w'.ownsRow base e size v' (n + m) (xs ++ news) ∧ w.grownBy w' v.ownBlock ∧ (∃ g cap, v' = .slice (some ⟨g, 0, none⟩) (n + m) cap ∧ (v.ownBlock = some g ∨ g = w.heap.size)) := by
  obtain ⟨v', w', hr, h2, h3, _⟩ := run_append_own (P := P) w base t ty e i z size bytes ht hi hz hsize hby hzs hsz v n xs hown a m c news hl hnews h1 h63 hbytes hbase
  refine ⟨v', w', hr, h2, h3, ?_⟩
  subst hsize
  subst hby
  have hs : n + m ≤ 9223372036854775807 := by simp only [maxLen] at h63; omega
  rcases hown.2 with ⟨rfl, rfl⟩ | ⟨g, cap, cur, rfl, hbg, hg, hnc, hcm, hcs, htake⟩
  · have k := run_append_nil (P := P) w t ty e i z ht hi hz a m c news hl hnews hm (by omega) (by have hb := hbytes; simp only [Nat.zero_add] at hb; omega)
    rw [hr] at k
    injection k with k1 k2
    exact ⟨_, _, by rw [k1, Nat.zero_add], .inr rfl⟩
  · by_cases hroom : n + m ≤ cap
    · have hfit : n * i.size + news.length ≤ cur.size := by rw [hl, hcs, ← Nat.add_mul]; exact Nat.mul_le_mul_right _ hroom
      have k := run_append_room (P := P) w t ty e i ht hi g n cap cur hg a m c news hl hnews h1 hroom hfit
      rw [hr] at k
      injection k with k1 k2
      exact ⟨_, _, k1, .inl rfl⟩
    · have k := run_append_grow (P := P) w t ty e i z ht hi hz ⟨g, 0, none⟩ n cap xs hown.1 (hown.cells (g := g) rfl) a m c news hl hnews (by omega) (by omega) (growslice_fits (by omega) hbytes)
      rw [hr] at k
      injection k with k1 k2
      exact ⟨_, _, k1, .inr rfl⟩
theorem wp_append_to {o : Oper} {a : Act} {K : Act → World → Prop} {Q : Exit → Act → World → Prop} (s x : Operand) (t : TypeId)
    (ho : o.op = .call { callee := .builtin .append, args := #[s, x], argTypes := #[t, t] })
    (base : Nat) (e : TypeId) (i : TypeInfo) (z : Value) (size bytes : Nat) (ht : P.underlying t = some (.slice e)) (hi : P.info? e = some i) (hz : i.zero = some z)
    (hsize : i.size = size) (hby : i.bytes = bytes) (hzs : z.cells.size = size) (hsz : 0 < size)
    (v : Value) (n : Nat) (xs : List Value) (hs : a.eval s = v) (hown : w.ownsRow base e size v n xs)
    (ad : Addr) (m c : Nat) (news : List Value) (hx : a.eval x = .slice (some ad) m c) (hl : news.length = m * size) (hnews : ∀ j u, news[j]? = some u → w.cell? (ad.add j) = some u) (h1 : ∀ u ∈ news, u.oneCell' = true)
    (h63 : n + m ≤ maxLen) (hbytes : (n + m) * bytes ≤ 140737488355328) (hbase : base ≤ w.heap.size) (hm : 0 < m)
    (h : ∀ g cap w', w'.ownsRow base e size (.slice (some ⟨g, 0, none⟩) (n + m) cap) (n + m) (xs ++ news) → w.grownBy w' v.ownBlock → (v.ownBlock = some g ∨ g = w.heap.size) → K (a.put o.dst (.slice (some ⟨g, 0, none⟩) (n + m : Nat) cap)) w') : o.wp P a w K Q := by
  obtain ⟨v', w', hr, h2, h3, g, cap, rfl, h4⟩ := append_to (P := P) (w := w) base t o.type e i z size bytes ht hi hz hsize hby hzs hsz v n xs hown ad m c news hl hnews h1 h63 hbytes hbase hm
  unfold Oper.wp execOp
  simp only [ho, resolve, invoke, builtin, Sem.run_bind, Sem.run_pure, Result.andThen_ok, List.map_toArray, List.map_cons, List.map_nil, hs, hx, hr]
  exact h g cap w' h2 h3 h4
theorem wpList_append_to {ops : Array Oper} {rest : List Oper} {o : Oper} {a : Act} {Q : Exit → Act → World → Prop} (hgd : o.guard = none) (s x : Operand) (t : TypeId)
    (ho : o.op = .call { callee := .builtin .append, args := #[s, x], argTypes := #[t, t] })
    (base : Nat) (e : TypeId) (i : TypeInfo) (z : Value) (size bytes : Nat) (ht : P.underlying t = some (.slice e)) (hi : P.info? e = some i) (hz : i.zero = some z)
    (hsize : i.size = size) (hby : i.bytes = bytes) (hzs : z.cells.size = size) (hsz : 0 < size)
    (v : Value) (n : Nat) (xs : List Value) (hs : a.eval s = v) (hown : w.ownsRow base e size v n xs)
    (ad : Addr) (m c : Nat) (news : List Value) (hx : a.eval x = .slice (some ad) m c) (hl : news.length = m * size) (hnews : ∀ j u, news[j]? = some u → w.cell? (ad.add j) = some u) (h1 : ∀ u ∈ news, u.oneCell' = true)
    (h63 : n + m ≤ maxLen) (hbytes : (n + m) * bytes ≤ 140737488355328) (hbase : base ≤ w.heap.size) (hm : 0 < m)
    (h : ∀ g cap w', w'.ownsRow base e size (.slice (some ⟨g, 0, none⟩) (n + m) cap) (n + m) (xs ++ news) → w.grownBy w' v.ownBlock → (v.ownBlock = some g ∨ g = w.heap.size) → wpList P ops Q rest (a.put o.dst (.slice (some ⟨g, 0, none⟩) (n + m : Nat) cap)) w') : wpList P ops Q (o :: rest) a w :=
  wpList_plain hgd fun _ hK => wp_append_to s x t ho base e i z size bytes ht hi hz hsize hby hzs hsz v n xs hs hown ad m c news hx hl hnews h1 h63 hbytes hbase hm fun g cap w' h2 h3 h4 => hK _ _ (h g cap w' h2 h3 h4)
end
/-- The cells of a term's own row. -/
def exL (x : Ex) (c : Option Addr) (cp : Nat) : List Value := [.int .i64 x.k, .int .i64 x.n, .string x.s, .slice c x.l.length cp]
theorem HalfX.beyond {w w' : World} {B C cb : Nat} {e : Ex} {a : Option Addr} (h : HalfX w B C e a) (hg : w.grownBy w' (some cb)) (hB : C ≤ cb) : HalfX w' B C e a := by
  obtain ⟨F, h1, h2, h3⟩ := h
  exact ⟨F, OwX.keep e a F (fun b hF => hg.block b (OwX.lt e a F h1 b hF) (fun e => by have := (h3 b hF).2; simp at e; omega)) h1, h2, h3⟩
theorem row_take {w : World} {B g n cap : Nat} {t : TypeId} {cs : List Value} (h : w.ownsRow B t 4 (.slice (some ⟨g, 0, none⟩) n cap) n cs) : ∃ cur : Array Value, w.heap[g]? = some (.cells cur t (0, 0)) ∧ n * 4 ≤ cur.size ∧ B ≤ g ∧ ∀ j, j < n * 4 → cur[j]? = cs[j]? := by
  obtain ⟨hl, h | ⟨g', cap', cur, he, hB, hh, hc, hm, hz, ht⟩⟩ := h
  · cases h.1
  · cases he
    refine ⟨cur, hh, by rw [hz]; exact Nat.mul_le_mul_right _ hc, hB, fun j hj => ?_⟩
    rw [← ht, List.getElem?_take_of_lt hj]
    simp
theorem HalfX.row1 {w : World} {B M : Nat} {x : Ex} {c : Option Addr} {cp g cap : Nat} {t : TypeId} (h : HalfX w B M x c) (ho : w.ownsRow M t 4 (.slice (some ⟨g, 0, none⟩) 1 cap) 1 (exL x c cp)) (hB : B ≤ M) (k n : Int) (s : ByteArray) : NewX w B ⟨k, n, s, [x]⟩ (some ⟨g, 0, none⟩) := by
  obtain ⟨F, h1, h2, h3⟩ := h
  obtain ⟨cur, hh, hz, hg, hc⟩ := row_take ho
  refine ⟨g :: F, (OwX_eq _ _ _ _).2 (.inr ⟨g, cur, t, [F], rfl, hh, hz, rfl, by simp, fun i hi => ?_⟩), List.nodup_cons.2 ⟨fun h => by have := (h3 _ h).2; omega, h2⟩, fun b hb => ?_⟩
  · have hi : i < 1 := hi
    obtain rfl : i = 0 := by omega
    exact ⟨(hc 0 (by omega)).trans rfl, (hc 1 (by omega)).trans rfl, (hc 2 (by omega)).trans rfl, c, cp, (hc 3 (by omega)).trans rfl, h1⟩
  · rcases List.mem_cons.1 hb with rfl | hb
    · omega
    · exact (h3 b hb).1
theorem HalfX.row2 {w : World} {B M C D : Nat} {x y : Ex} {c d : Option Addr} {cp dp g cap : Nat} {t : TypeId} (h : HalfX w B M x c) (k : HalfX w C D y d) (ho : w.ownsRow M t 4 (.slice (some ⟨g, 0, none⟩) 2 cap) 2 (exL x c cp ++ exL y d dp)) (hB : B ≤ M) (hM : M ≤ C) (hg : g < C ∨ D ≤ g) (k' n : Int) (s : ByteArray) : NewX w B ⟨k', n, s, [x, y]⟩ (some ⟨g, 0, none⟩) := by
  obtain ⟨F, h1, h2, h3⟩ := h
  obtain ⟨G, k1, k2, k3⟩ := k
  obtain ⟨cur, hh, hz, hgM, hc⟩ := row_take ho
  refine ⟨g :: (F ++ G), (OwX_eq _ _ _ _).2 (.inr ⟨g, cur, t, [F, G], rfl, hh, hz, rfl, by simp, fun i hi => ?_⟩), List.nodup_cons.2 ⟨fun h => ?_, List.nodup_append.2 ⟨h2, k2, fun a ha b hb e => ?_⟩⟩, fun b hb => ?_⟩
  · have hi : i < 2 := hi
    have hi2 : i = 0 ∨ i = 1 := by omega
    rcases hi2 with rfl | rfl
    · exact ⟨(hc 0 (by omega)).trans rfl, (hc 1 (by omega)).trans rfl, (hc 2 (by omega)).trans rfl, c, cp, (hc 3 (by omega)).trans rfl, h1⟩
    · exact ⟨(hc 4 (by omega)).trans rfl, (hc 5 (by omega)).trans rfl, (hc 6 (by omega)).trans rfl, d, dp, (hc 7 (by omega)).trans rfl, k1⟩
  · rcases List.mem_append.1 h with h | h
    · have := (h3 _ h).2; omega
    · have := k3 _ h; omega
  · subst e
    have := (h3 _ ha).2
    have := (k3 _ hb).1
    omega
  · rcases List.mem_cons.1 hb with rfl | hb
    · omega
    · rcases List.mem_append.1 hb with hb | hb
      · exact (h3 b hb).1
      · have := (k3 b hb).1; omega
end Go.Proofs.YtkolflcjkofleaaDoor

namespace Go.Proofs.YtkolflcjkofleaaDoor
open Go.ChangeShapes Go.WideShapes Go.ChangeAt Go.RowKit
set_option linter.unusedVariables false
set_option linter.unusedSimpArgs false

theorem below_drew {w : World} : Below w.heap.size w w.drew := ⟨rfl, rfl, rfl, Nat.le_refl _, fun _ _ => rfl⟩
theorem row_keep {w w' : World} {g : Nat} {o : Obj} (h : w.heap[g]? = some o) (hb : Below w.heap.size w w') : w'.heap[g]? = some o := (hb.block g (Array.getElem?_eq_some_iff.1 h).1).trans h
/-- A load of a whole row in a guarded place. -/
theorem yields_loadG {P : Program} {ops : Array Oper} {S : World → Prop} {o : Oper} {a : Act} (hw : Region.wanted o (yielded ops a.tmps) = true) (ty : TypeId) (x : Operand) (ho : o.op = .load ty x) (g : Nat) (hx : a.eval x = .pointer (some ⟨g, 0, none⟩)) (t : TypeId) (cs : Array Value) (d : TypeDesc)
    (hS : ∀ w, S w → w.heap[g]? = some (.cells cs t (0, 0))) (hu : P.underlying ty = some d) (hd : (match d with | .struct _ | .array _ _ => true | _ => false) = true) (hi : (P.info? ty).map (·.size) = some cs.size) : YieldsIf P ops S o (.agg cs) a := by
  refine .inl ⟨hw, fun w hw => ?_⟩
  simp only [execOp, ho, hx, Instr.loadAt, Instr.sureAddr, Sem.run_bind, Sem.run_pure, Result.andThen_ok, run_loadVar_row w g t ty cs (0, 0) d (hS w hw) hu hd hi]
end Go.Proofs.YtkolflcjkofleaaDoor

namespace Go.Proofs.YtkolflcjkofleaaDoor
open Go.ChangeShapes Go.WideShapes Go.ChangeAt Go.RowKit
set_option linter.unusedVariables false
set_option maxRecDepth 8000
set_option linter.unusedSimpArgs false

/-- The parts of a term lie at a, no two blocks the same, each as P says. -/
def PX (w : World) (P : Nat → Prop) (e : Ex) (a : Option Addr) : Prop := ∃ F, OwX w e a F ∧ F.Nodup ∧ ∀ b ∈ F, P b
section
variable {w w' : World} {P Q R : Nat → Prop} {e : Ex} {a : Option Addr}
theorem PX.of {B : Nat} (h : NewX w B e a) : PX w (B ≤ ·) e a := h
theorem PX.new {B : Nat} (h : PX w P e a) (hP : ∀ b, P b → B ≤ b) : NewX w B e a := by obtain ⟨F, h1, h2, h3⟩ := h; exact ⟨F, h1, h2, fun b hb => hP b (h3 b hb)⟩
theorem PX.later (h : PX w P e a) (hb : Below w.heap.size w w') : PX w' P e a := by obtain ⟨F, h1, h2, h3⟩ := h; exact ⟨F, h1.later hb, h2, h3⟩
theorem PX.low (h : PX w P e a) : PX w (fun b => P b ∧ b < w.heap.size) e a := by obtain ⟨F, h1, h2, h3⟩ := h; exact ⟨F, h1, h2, fun b hb => ⟨h3 b hb, OwX.lt e a F h1 b hb⟩⟩
theorem PX.mono (h : PX w P e a) (hP : ∀ b, P b → Q b) : PX w Q e a := by obtain ⟨F, h1, h2, h3⟩ := h; exact ⟨F, h1, h2, fun b hb => hP b (h3 b hb)⟩
theorem PX.row {g : Nat} (h : PX w P e a) (cs : Array Value) (hg : ¬ P g) : PX (w.setRow g cs) P e a := by
  obtain ⟨F, h1, h2, h3⟩ := h
  exact ⟨F, OwX.keep e a F (fun b hb => setRow_other _ _ _ _ (fun e => hg (by rw [← e]; exact h3 b hb))) h1, h2, h3⟩
theorem PX.rd (h : PX w P e a) : RdX w 0 e a := by obtain ⟨F, h1, h2, h3⟩ := h; exact OwX.rd e a F (fun _ _ => Nat.zero_le _) h1
theorem PX.leaf (w : World) (P : Nat → Prop) (k n : Int) (s : ByteArray) (a : Option Addr) : PX w P ⟨k, n, s, []⟩ a := ⟨[], (OwX_eq _ _ _ _).2 (.inl ⟨rfl, rfl⟩), List.nodup_nil, fun b hb => by cases hb⟩
end
/-- The cells of a term. -/
def xR (x : Ex) (c : Option Addr) (cp : Nat) : Array Value := #[.int .i64 x.k, .int .i64 x.n, .string x.s, .slice c x.l.length cp]
def xR2 (x : Ex) (c : Option Addr) (cp : Nat) (y : Ex) (d : Option Addr) (dp : Nat) : Array Value := #[.int .i64 x.k, .int .i64 x.n, .string x.s, .slice c x.l.length cp, .int .i64 y.k, .int .i64 y.n, .string y.s, .slice d y.l.length dp]
theorem PX.one {w : World} {P : Nat → Prop} {x : Ex} {c : Option Addr} {cp : Nat} (h : PX w P x c) (hP : P w.heap.size) (k n : Int) (s : ByteArray) (t : TypeId) : PX (w.alloc (.cells (xR x c cp) t)) P ⟨k, n, s, [x]⟩ (some ⟨w.heap.size, 0, none⟩) := by
  obtain ⟨F, h1, h2, h3⟩ := h
  have hl := OwX.lt x c F h1
  refine ⟨w.heap.size :: F, (OwX_eq _ _ _ _).2 (.inr ⟨w.heap.size, _, t, [F], rfl, Array.getElem?_push_size, by simp [xR], rfl, by simp, fun i hi => ?_⟩), List.nodup_cons.2 ⟨fun h => by have := hl _ h; omega, h2⟩, fun b hb => ?_⟩
  · have hi : i < 1 := hi
    obtain rfl : i = 0 := by omega
    exact ⟨rfl, rfl, rfl, c, cp, rfl, OwX.later h1 ((Below.refl _ _).alloc (Nat.le_refl _) _)⟩
  · rcases List.mem_cons.1 hb with rfl | hb
    · exact hP
    · exact h3 b hb
theorem PX.two {w : World} {P Q R : Nat → Prop} {x y : Ex} {c d : Option Addr} {cp dp : Nat} (h : PX w P x c) (k : PX w Q y d) (hPQ : ∀ b, P b → ¬ Q b) (hP : ∀ b, P b → R b) (hQ : ∀ b, Q b → R b) (hR : R w.heap.size) (k' n : Int) (s : ByteArray) (t : TypeId) : PX (w.alloc (.cells (xR2 x c cp y d dp) t)) R ⟨k', n, s, [x, y]⟩ (some ⟨w.heap.size, 0, none⟩) := by
  obtain ⟨F, h1, h2, h3⟩ := h
  obtain ⟨G, k1, k2, k3⟩ := k
  have hl := OwX.lt x c F h1
  have kl := OwX.lt y d G k1
  refine ⟨w.heap.size :: (F ++ G), (OwX_eq _ _ _ _).2 (.inr ⟨w.heap.size, _, t, [F, G], rfl, Array.getElem?_push_size, by simp [xR2], rfl, by simp, fun i hi => ?_⟩), List.nodup_cons.2 ⟨fun h => ?_, List.nodup_append.2 ⟨h2, k2, fun a ha b hb e => ?_⟩⟩, fun b hb => ?_⟩
  · have hi : i < 2 := hi
    have hb := (Below.refl w.heap.size w).alloc (Nat.le_refl _) (.cells (xR2 x c cp y d dp) t)
    have hi2 : i = 0 ∨ i = 1 := by omega
    rcases hi2 with rfl | rfl
    · exact ⟨rfl, rfl, rfl, c, cp, rfl, OwX.later h1 hb⟩
    · exact ⟨rfl, rfl, rfl, d, dp, rfl, OwX.later k1 hb⟩
  · rcases List.mem_append.1 h with h | h
    · have := hl _ h; omega
    · have := kl _ h; omega
  · subst e
    exact hPQ _ (h3 _ ha) (k3 _ hb)
  · rcases List.mem_cons.1 hb with rfl | hb
    · exact hR
    · rcases List.mem_append.1 hb with hb | hb
      · exact hP b (h3 b hb)
      · exact hQ b (k3 b hb)
/-- Of a term of two: its row, and its parts. -/
theorem PX.parts {w : World} {P : Nat → Prop} {k n : Int} {s : ByteArray} {x y : Ex} {a : Option Addr} (h : PX w P ⟨k, n, s, [x, y]⟩ a) : ∃ b c cp d dp, a = some ⟨b, 0, none⟩ ∧ b < w.heap.size ∧ (w.cell? ⟨b, 0, none⟩ = some (.int .i64 x.k) ∧ w.cell? ⟨b, 1, none⟩ = some (.int .i64 x.n) ∧ w.cell? ⟨b, 2, none⟩ = some (.string x.s) ∧ w.cell? ⟨b, 3, none⟩ = some (.slice c x.l.length cp)) ∧ (w.cell? ⟨b, 4, none⟩ = some (.int .i64 y.k) ∧ w.cell? ⟨b, 5, none⟩ = some (.int .i64 y.n) ∧ w.cell? ⟨b, 6, none⟩ = some (.string y.s) ∧ w.cell? ⟨b, 7, none⟩ = some (.slice d y.l.length dp)) ∧ PX w P x c ∧ PX w P y d := by
  obtain ⟨F, h1, h2, h3⟩ := h
  rcases (OwX_eq _ _ _ _).1 h1 with ⟨h0, _⟩ | ⟨b, cs, t, Fs, ha, hh, hz, hF, rfl, hc⟩
  · cases h0
  · obtain ⟨a0, a1, a2, c, cp, a3, oc⟩ := hc 0 (by simp)
    obtain ⟨b0, b1, b2, d, dp, b3, od⟩ := hc 1 (by simp)
    have hF : Fs.length = 2 := hF
    match Fs, hF with
    | [F0, F1], _ =>
      have hn := (List.nodup_cons.1 h2).2
      simp only [List.flatten_cons, List.flatten_nil, List.append_nil] at hn
      obtain ⟨n0, n1, _⟩ := List.nodup_append.1 hn
      refine ⟨b, c, cp, d, dp, ha, (Array.getElem?_eq_some_iff.1 hh).1, ⟨(Lib.cell_of_heap hh _).trans a0, (Lib.cell_of_heap hh _).trans a1, (Lib.cell_of_heap hh _).trans a2, (Lib.cell_of_heap hh _).trans a3⟩, ⟨(Lib.cell_of_heap hh _).trans b0, (Lib.cell_of_heap hh _).trans b1, (Lib.cell_of_heap hh _).trans b2, (Lib.cell_of_heap hh _).trans b3⟩, ⟨F0, oc, n0, fun q hq => h3 q ?_⟩, ⟨F1, od, n1, fun q hq => h3 q ?_⟩⟩
      · exact List.mem_cons_of_mem _ (by simp [hq])
      · exact List.mem_cons_of_mem _ (by simp [hq])
/-- A term answered, its blocks as P says. -/
def GiR (e : Ex) (P : Nat → Prop) (w : World) (r : Ending) (w' : World) : Prop := ∃ (c : Option Addr) (cp : Nat), r = .returned (.agg (e.cs c cp)) ∧ PX w' P e c ∧ Below w.heap.size w w'
end Go.Proofs.YtkolflcjkofleaaDoor

namespace Go.Proofs.YtkolflcjkofleaaDoor
open Go.ChangeShapes Go.WideShapes Go.ChangeAt Go.RowKit
set_option linter.unusedVariables false
set_option maxRecDepth 8000
set_option linter.unusedSimpArgs false

def TwoR (k a b : Int) (w : World) (r : Ending) (w' : World) : Prop := w' = w ∧ r = .returned (.tuple #[.int .i64 ((two11 k a b).getD 0), .bool (two11 k a b).isSome])
set_option maxHeartbeats 2000000 in
theorem twoS_any (k a b : Int) (hk : 5 ≤ k ∧ k ≤ 10) (ha : 0 ≤ a ∧ a ≤ 65535) (hb : 0 ≤ b ∧ b ≤ 65535) (w : World) : Calls Tryd.prog 78 #[.int .i64 k, .int .i64 a, .int .i64 b] w (TwoR k a b w) := by
  have hm0 : 0 ≤ a * b := Int.mul_nonneg ha.1 hb.1
  have hm1 : a * b ≤ 65535 * 65535 := Int.mul_le_mul ha.2 hb.2 hb.1 (by decide)
  have hm2 : a * b ≤ 4294836225 := by omega
  have hn1 : -9223372036854775808 ≤ a * b := by omega
  have hn2 : a * b ≤ 9223372036854775807 := by omega
  unfold TwoR
  have : k = 5 ∨ k = 6 ∨ k = 7 ∨ k = 8 ∨ k = 9 ∨ k = 10 := by omega
  clear hk
  rcases this with rfl | rfl | rfl | rfl | rfl | rfl
  · have E := hide (show two11 5 a b = some ((a + b) % 65536) from rfl)
    rw [unhide E]
    go_enter Tryd.func78, Tryd.ntmps78
    go_wp2_with (go_at_call 83; refine (wrapS_any _ _).mono ?_; rintro e w' ⟨rfl, hw'⟩; rw [hw']; clear hw' w')
    go_ret2
    exact ⟨rfl, rfl⟩
  · have E := hide (show two11 6 a b = some ((a - b) % 65536) from rfl)
    rw [unhide E]
    go_enter Tryd.func78, Tryd.ntmps78
    go_wp2_with (go_at_call 83; refine (wrapS_any _ _).mono ?_; rintro e w' ⟨rfl, hw'⟩; rw [hw']; clear hw' w')
    go_ret2
    exact ⟨rfl, rfl⟩
  · have E := hide (show two11 7 a b = some ((a * b) % 65536) from rfl)
    rw [unhide E]
    go_enter Tryd.func78, Tryd.ntmps78
    go_wp2_with (go_at_call 83; refine (wrapS_any _ _).mono ?_; rintro e w' ⟨rfl, hw'⟩; rw [hw']; clear hw' w')
    go_ret2
    exact ⟨rfl, rfl⟩
  · by_cases h0 : b = 0
    · subst h0
      rw [show two11 8 a 0 = none from rfl]
      go_enter Tryd.func78, Tryd.ntmps78
      go_wp2
      go_ret2
      exact ⟨rfl, rfl⟩
    · have g0 : (b == 0) = false := beq_eq_false_iff_ne.2 h0
      have E := hide (show two11 8 a b = some (a / b) by unfold two11; rw [if_neg (by decide), if_neg (by decide), if_neg (by decide), if_neg (by decide), if_neg (by decide), if_neg h0])
      rw [unhide E]
      go_enter Tryd.func78, Tryd.ntmps78
      go_wp2
      go_ret2
      exact ⟨rfl, rfl⟩
  · have E := hide (show two11 9 a b = some (bits .and .i64 a b) from rfl)
    rw [unhide E]
    go_enter Tryd.func78, Tryd.ntmps78
    go_wp2
    go_ret2
    exact ⟨rfl, rfl⟩
  · have E := hide (show two11 10 a b = some (bits .or .i64 a b) from rfl)
    rw [unhide E]
    go_enter Tryd.func78, Tryd.ntmps78
    go_wp2
    go_ret2
    exact ⟨rfl, rfl⟩
/-- The rows of a function of one term: the argument, and what is answered. -/
structure Bx (w wr : World) (pr : Array Value) : Prop where
  bel : Below w.heap.size w wr
  lt : w.heap.size + 2 ≤ wr.heap.size
  box : wr.heap[w.heap.size]? = some (.cells pr 26 (0, 0))
  res : wr.heap[w.heap.size + 1]? = some (.cells #[.int .i64 0, .int .i64 0, .string ⟨#[]⟩, .slice none 0 0] 26 (0, 0))
theorem Bx.later {w wr w' : World} {pr : Array Value} (h : Bx w wr pr) (hb : Below wr.heap.size wr w') : Bx w w' pr := ⟨h.bel.trans (hb.mono h.bel.size), Nat.le_trans h.lt hb.size, row_keep h.box hb, row_keep h.res hb⟩
theorem Bx.new (w : World) (pr : Array Value) : Bx w ((w.alloc (.cells pr 26)).alloc (.cells #[.int .i64 0, .int .i64 0, .string ⟨#[]⟩, .slice none 0 0] 26)) pr := by
  have hb := ((Below.refl w.heap.size w).alloc (Nat.le_refl _) (.cells pr 26)).alloc (by simp) (.cells #[.int .i64 0, .int .i64 0, .string ⟨#[]⟩, .slice none 0 0] 26)
  have h1 : (w.alloc (.cells pr 26)).heap.size = w.heap.size + 1 := by simp
  refine ⟨hb, by simp, ?_, ?_⟩
  · exact row_keep (heap_alloc_new w _) (below_new _ _)
  · rw [← h1]; exact Array.getElem?_push_size
/-- Neither of these two rows. -/
def Ow (w : World) (P : Nat → Prop) (b : Nat) : Prop := P b ∧ (b < w.heap.size ∨ w.heap.size + 2 ≤ b)
theorem ow_no (w : World) (P : Nat → Prop) : ¬ Ow w P (w.heap.size + 1) := fun h => by have := h.2; omega
theorem ow_in {w : World} {P : Nat → Prop} (hP : ∀ b, w.heap.size ≤ b → P b) {b : Nat} (h : w.heap.size + 2 ≤ b) : Ow w P b := ⟨hP b (by omega), .inr h⟩
theorem PX.ow {w w' : World} {P : Nat → Prop} {e : Ex} {c : Option Addr} (h : PX w P e c) (hb : Below w.heap.size w w') : PX w' (Ow w P) e c := (h.low.mono (fun b hb => ⟨hb.1, .inl hb.2⟩)).later hb
theorem Bx.end {w wr : World} {pr : Array Value} {P : Nat → Prop} {x : Ex} {c : Option Addr} {cp : Nat} (h : Bx w wr pr) (hx : PX wr (Ow w P) x c) (row : Array Value) : GiR x P w (.returned (.agg #[.int .i64 x.k, .int .i64 x.n, .string x.s, .slice c x.l.length cp])) (wr.setRow (w.heap.size + 1) row) :=
  ⟨c, cp, rfl, (hx.row _ (ow_no w P)).mono (fun b hb => hb.1), h.bel.grown (grownBy_row _) h.bel.size (fun k e => by cases e; omega)⟩
set_option maxHeartbeats 4000000 in
theorem addS_any (a : Ex) (c : Option Addr) (cp : Nat) (n : Int) (P : Nat → Prop) (w : World) (h : PX w P a c) (hP : ∀ b, w.heap.size ≤ b → P b) : Calls Tryd.prog 93 #[.agg (a.cs c cp), .int .i64 n] w (GiR (addX a n) P w) := by
  have X0 := hide (Bx.new w #[.int .i64 a.k, .int .i64 a.n, .string a.s, .slice c a.l.length cp])
  have A0 := hide (h.ow (unhide X0).bel)
  have HP := hide hP
  generalize hX : GiR (addX a n) P w = X
  have HX := hide hX
  unfold Ex.cs
  clear h hP hX
  by_cases hz : n % 65536 = 0
  · have EQ0 := hide (show addX a n = a by unfold addX wr; rw [if_pos hz])
    rw [unhide EQ0] at HX
    go_enter Tryd.func93, Tryd.ntmps93
    go_wp2_with fail
    generalize (w.alloc (.cells #[.int .i64 a.k, .int .i64 a.n, .string a.s, .slice c a.l.length cp] 26)).alloc (.cells #[.int .i64 0, .int .i64 0, .string ⟨#[]⟩, .slice none 0 0] 26) = W at *
    refine (wrapS_any _ _).mono ?_
    rintro e w' ⟨rfl, hw'⟩
    rw [hw', hz]
    clear hw' w'
    go_wp2_with (first | (refine wpList_load_row rfl 26 _ rfl w.heap.size rfl 26 #[.int .i64 a.k, .int .i64 a.n, .string a.s, .slice c a.l.length cp] (0, 0) _ (unhide X0).box Tryd.underlying26 rfl (by kernel_rfl) ?_) | (refine wpList_store_row rfl 26 _ _ rfl (w.heap.size + 1) #[.int .i64 a.k, .int .i64 a.n, .string a.s, .slice c a.l.length cp] rfl rfl 26 _ (unhide X0).res szE rfl (ex_one _ _ _ _ _ _) ?_))
    refine bodyPost_ret (results_cell_row (P := Tryd.prog) rfl _ _ (w.heap.size + 1) 26 #[.int .i64 a.k, .int .i64 a.n, .string a.s, .slice c a.l.length cp] (0, 0) _ rfl (setRow_heap _ _ _ _ _ _ (unhide X0).res) Tryd.underlying26 rfl szE) rfl ?_
    rw [← unhide HX]
    exact (unhide X0).end (unhide A0) _
  · have hzb : (n % 65536 == 0) = false := beq_eq_false_iff_ne.2 hz
    have EQ0 := hide (show addX a n = ⟨5, 0, ⟨#[]⟩, [a, numX n]⟩ by unfold addX; rw [if_neg (show ¬ wr n = 0 from hz)]; rfl)
    rw [unhide EQ0] at HX
    go_enter Tryd.func93, Tryd.ntmps93
    go_wp2_with (go_at_call 83; refine (wrapS_any _ _).mono ?_; rintro e w' ⟨rfl, hw'⟩; rw [hw']; clear hw' w')
    generalize (w.alloc (.cells #[.int .i64 a.k, .int .i64 a.n, .string a.s, .slice c a.l.length cp] 26)).alloc (.cells #[.int .i64 0, .int .i64 0, .string ⟨#[]⟩, .slice none 0 0] 26) = W at *
    have X1 := hide ((unhide X0).later (below_drew (w := W)))
    have A1 := hide ((unhide A0).later (below_drew (w := W)))
    have D1 := hide (unhide X1).box
    clear X0 A0
    refine wp_region_held_drew (S := fun v => v.heap[w.heap.size]? = some (.cells #[.int .i64 a.k, .int .i64 a.n, .string a.s, .slice c a.l.length cp] 26 (0, 0))) (by kernel_rfl) (unhide D1) (fun hS => ?_)
    have HS := hide hS
    clear hS
    generalize W.drew = W1 at *
    refine wpAnyH_take (i := 0) (v := .agg #[.int .i64 a.k, .int .i64 a.n, .string a.s, .slice c a.l.length cp]) rfl (by kernel_rfl) (by kernel_rfl) (by kernel_rfl) (fun _ _ _ h => h) (yields_loadG (by rfl) 26 _ rfl w.heap.size rfl 26 #[.int .i64 a.k, .int .i64 a.n, .string a.s, .slice c a.l.length cp] _ (fun w h => h) Tryd.underlying26 rfl (by kernel_rfl)) (unhide HS) ?_
    go_simp
    refine wpAnyH_take (i := 1) (v := .int .i64 n) rfl (by kernel_rfl) (by kernel_rfl) (by kernel_rfl) (fun _ _ _ h => h) (Or.inl ⟨by rfl, fun w hc => ?_⟩) (unhide HS) ?_
    · clear hc; go_simp
    go_simp
    refine wpAnyH_ready (rs := [2]) (by kernel_rfl) (by simp) ?_
    refine AllReadyH.cons rfl (fun K2 hK => ?_) AllReadyH.nil
    go_simp
    refine (numD n _).mono ?_
    rintro r w2 ⟨rfl, hb2⟩
    have X2 := hide ((unhide X1).later hb2)
    have A2 := hide ((unhide A1).later hb2)
    have D2 := hide (unhide X2).box
    refine hK.out _ _ (unhide D2) (fun hS => ?_)
    clear HS
    have HS := hide hS
    clear hS hK K2
    clear hb2 X1 A1 D1
    refine wpAnyH_ready (rs := [3]) (by kernel_rfl) (by simp) ?_
    refine AllReadyH.cons rfl (fun K2 hK => ?_) AllReadyH.nil
    go_simp
    have hb3 := below_new w2 (.cells #[.int .i64 a.k, .int .i64 a.n, .string a.s, .slice c a.l.length cp, .int .i64 1, .int .i64 (n % 65536), .string ⟨#[]⟩, .slice none 0 0] 26)
    have hP3 := ow_in (unhide HP) (unhide X2).lt
    have A3 := hide (show PX (w2.alloc (.cells #[.int .i64 a.k, .int .i64 a.n, .string a.s, .slice c a.l.length cp, .int .i64 1, .int .i64 (n % 65536), .string ⟨#[]⟩, .slice none 0 0] 26)) (Ow w P) ⟨5, 0, ⟨#[]⟩, [a, numX n]⟩ (some ⟨w2.heap.size, 0, none⟩) from (unhide A2).two (k' := 5) (n := 0) (s := ⟨#[]⟩) (cp := cp) (dp := 0) (t := 26) (PX.leaf w2 (fun _ => False) 1 (wr n) (⟨#[]⟩ : ByteArray) none) (fun _ _ h => h) (fun _ h => h) (fun _ h => h.elim) hP3)
    have X3 := hide ((unhide X2).later hb3)
    have D3 := hide (unhide X3).box
    clear hb3 hP3 X2 A2 D2
    generalize w2.alloc (.cells #[.int .i64 a.k, .int .i64 a.n, .string a.s, .slice c a.l.length cp, .int .i64 1, .int .i64 (n % 65536), .string ⟨#[]⟩, .slice none 0 0] 26) = w3 at *
    generalize w2.heap.size = g2 at *
    refine hK.out _ _ (unhide D3) (fun hS => ?_)
    clear HS
    have HS := hide hS
    clear hS hK K2
    refine wpAnyH_take (i := 4) (v := .agg #[.int .i64 5, .int .i64 0, .string ⟨#[]⟩, .slice (some ⟨g2, 0, none⟩) 2 2]) rfl (by kernel_rfl) (by kernel_rfl) (by kernel_rfl) (fun _ _ _ h => h) (Or.inl ⟨by rfl, fun w hc => ?_⟩) (unhide HS) ?_
    · clear hc; go_simp
    go_simp
    refine wpAnyH_ready (rs := [5]) (by kernel_rfl) (by simp) ?_
    refine AllReadyH.cons rfl (fun K2 hK => ?_) AllReadyH.nil
    rw [if_pos (by rfl)]
    refine wp_store_row 26 _ _ rfl (w.heap.size + 1) #[.int .i64 5, .int .i64 0, .string ⟨#[]⟩, .slice (some ⟨g2, 0, none⟩) 2 2] rfl rfl 26 _ (unhide X3).res szE rfl (ex_one _ _ _ _ _ _) ?_
    refine hK.out _ _ ((setRow_other _ _ _ _ (by omega)).trans (unhide D3)) (fun hS => ?_)
    clear HS
    have HS := hide hS
    clear hS hK K2
    refine wpAnyH_done (by kernel_rfl) ?_ _
    clear HS D3
    go_wp2
    refine bodyPost_ret (results_cell_row (P := Tryd.prog) rfl _ _ (w.heap.size + 1) 26 #[.int .i64 5, .int .i64 0, .string ⟨#[]⟩, .slice (some ⟨g2, 0, none⟩) 2 2] (0, 0) _ rfl (setRow_heap _ _ _ _ _ _ (unhide X3).res) Tryd.underlying26 rfl szE) rfl ?_
    rw [← unhide HX]
    exact (unhide X3).end (unhide A3) _
end Go.Proofs.YtkolflcjkofleaaDoor

namespace Go.Proofs.YtkolflcjkofleaaDoor
open Go.ChangeShapes Go.WideShapes Go.ChangeAt Go.RowKit
set_option linter.unusedVariables false
set_option maxRecDepth 8000
set_option linter.unusedSimpArgs false

theorem two_new2 (w : World) (o1 o2 : Obj) : ((w.alloc o1).alloc o2).heap[w.heap.size + 1]? = some o2 ∧ Below w.heap.size w ((w.alloc o1).alloc o2) := by
  have h1 : (w.alloc o1).heap.size = w.heap.size + 1 := by simp
  refine ⟨?_, ((Below.refl _ _).alloc (Nat.le_refl _) _).alloc (by simp) _⟩
  rw [← h1]
  exact Array.getElem?_push_size
def PrR (e : Ex) (P : Nat → Prop) (w : World) (r : Ending) (w' : World) : Prop := ∃ (c : Option Addr) (cp : Nat), r = .returned (.tuple #[.agg ((prtX e).1.cs c cp), .int .i64 (prtX e).2]) ∧ PX w' P (prtX e).1 c ∧ Below w.heap.size w w'
theorem Bx.pend {w wr : World} {pr : Array Value} {P : Nat → Prop} {e x : Ex} {m : Int} {c : Option Addr} {cp : Nat} (h : Bx w wr pr) (hp : prtX e = (x, m)) (hx : PX wr (Ow w P) x c) (row : Array Value) : PrR e P w (.returned (.tuple #[.agg #[.int .i64 x.k, .int .i64 x.n, .string x.s, .slice c x.l.length cp], .int .i64 m])) (wr.setRow (w.heap.size + 1) row) := by
  unfold PrR
  rw [hp]
  exact ⟨c, cp, rfl, (hx.row _ (ow_no w P)).mono (fun b hb => hb.1), h.bel.grown (grownBy_row _) h.bel.size (fun k e => by cases e; omega)⟩
set_option maxHeartbeats 4000000 in
theorem prtS_no (e : Ex) (c : Option Addr) (cp : Nat) (P : Nat → Prop) (w : World) (h : PX w P e c) (hp : prtX e = (e, 0)) (h5 : e.k ≠ 5) : Calls Tryd.prog 92 #[.agg (e.cs c cp)] w (PrR e P w) := by
  have X1 := hide (two_new2 w (.cells #[.int .i64 e.k, .int .i64 e.n, .string e.s, .slice c e.l.length cp] 26) (.cells #[.int .i64 e.k, .int .i64 e.n, .string e.s, .slice c e.l.length cp] 26)).symm
  have A1 := hide (h.later (unhide X1).1)
  have g5 : (e.k == 5) = false := beq_eq_false_iff_ne.2 h5
  have PP := hide hp
  generalize hX : PrR e P w = X
  have HX := hide hX
  unfold Ex.cs
  clear h hX hp
  go_enter Tryd.func92, Tryd.ntmps92
  go_wp2
  refine bodyPost_ret (results_row2 (P := Tryd.prog) rfl _ _ (w.heap.size + 1) 26 #[.int .i64 e.k, .int .i64 e.n, .string e.s, .slice c e.l.length cp] (0, 0) _ rfl (unhide X1).2 Tryd.underlying26 rfl szE) rfl ?_
  rw [← unhide HX]
  unfold PrR
  rw [unhide PP]
  exact ⟨c, cp, rfl, unhide A1, (unhide X1).1⟩
set_option maxHeartbeats 4000000 in
theorem prtS_no2 (e x y : Ex) (c : Option Addr) (cp : Nat) (P : Nat → Prop) (w : World) (h : PX w P e c) (hp : prtX e = (e, 0)) (hk : e.k = 5) (hl : e.l = [x, y]) (h1 : y.k ≠ 1) : Calls Tryd.prog 92 #[.agg (e.cs c cp)] w (PrR e P w) := by
  obtain ⟨k, n, s, l⟩ := e
  obtain rfl : k = 5 := hk
  obtain rfl : l = [x, y] := hl
  have g1 : (y.k == 1) = false := beq_eq_false_iff_ne.2 h1
  have X1 := hide (two_new2 w (.cells #[.int .i64 5, .int .i64 n, .string s, .slice c 2 cp] 26) (.cells #[.int .i64 5, .int .i64 n, .string s, .slice c 2 cp] 26)).symm
  have A1 := hide (h.later (unhide X1).1)
  have PP := hide hp
  have BZ := hide (two_new2 w (.cells #[.int .i64 5, .int .i64 n, .string s, .slice c 2 cp] 26) (.cells #[.int .i64 0, .int .i64 0, .string ⟨#[]⟩, .slice none 0 0] 26)).2
  have A2 := h.later (unhide BZ)
  obtain ⟨blk, d, dp, f, fp, rfl, hlt, ⟨a0, a1, a2, a3⟩, ⟨b0, b1, b2, b3⟩, _, _⟩ := A2.parts
  generalize hX : PrR ⟨5, n, s, [x, y]⟩ P w = X
  have HX := hide hX
  unfold Ex.cs
  clear h hX hp A2 h1
  go_enter Tryd.func92, Tryd.ntmps92
  go_wp2
  refine bodyPost_ret (results_row2 (P := Tryd.prog) rfl _ _ (w.heap.size + 1) 26 #[.int .i64 5, .int .i64 n, .string s, .slice (some ⟨blk, 0, none⟩) 2 cp] (0, 0) _ rfl (unhide X1).2 Tryd.underlying26 rfl szE) rfl ?_
  rw [← unhide HX]
  unfold PrR
  rw [unhide PP]
  exact ⟨_, cp, rfl, unhide A1, (unhide X1).1⟩
set_option maxHeartbeats 4000000 in
theorem prtS_yes (x : Ex) (m : Int) (c : Option Addr) (cp : Nat) (P : Nat → Prop) (w : World) (h : PX w P ⟨5, 0, E0, [x, ⟨1, m, E0, []⟩]⟩ c) : Calls Tryd.prog 92 #[.agg ((Ex.mk 5 0 E0 [x, ⟨1, m, E0, []⟩]).cs c cp)] w (PrR ⟨5, 0, E0, [x, ⟨1, m, E0, []⟩]⟩ P w) := by
  obtain ⟨blk, d, dp, f, fp, rfl, hlt0, _, _, _, _⟩ := h.parts
  have X0 := hide (Bx.new w #[.int .i64 5, .int .i64 0, .string ⟨#[]⟩, .slice (some ⟨blk, 0, none⟩) 2 cp])
  have A0 := h.ow (unhide X0).bel
  obtain ⟨blk', d, dp, f, fp, e', hlt, ⟨a0, a1, a2, a3⟩, ⟨b0, b1, b2, b3⟩, hx, _⟩ := A0.parts
  cases e'
  have HA := hide hx
  have PP := hide (show prtX ⟨5, 0, E0, [x, ⟨1, m, E0, []⟩]⟩ = (x, m) from rfl)
  generalize hX : PrR ⟨5, 0, E0, [x, ⟨1, m, E0, []⟩]⟩ P w = X
  have HX := hide hX
  show Calls Tryd.prog 92 #[.agg #[.int .i64 5, .int .i64 0, .string ⟨#[]⟩, .slice (some ⟨blk, 0, none⟩) 2 cp]] w X
  clear h hX A0 hx
  go_enter Tryd.func92, Tryd.ntmps92
  go_wp2
  generalize (w.alloc (.cells #[.int .i64 5, .int .i64 0, .string ⟨#[]⟩, .slice (some ⟨blk, 0, none⟩) 2 cp] 26)).alloc (.cells #[.int .i64 0, .int .i64 0, .string ⟨#[]⟩, .slice none 0 0] 26) = W at *
  have X1 := hide ((unhide X0).later (below_drew (w := W)))
  have A1 := hide ((unhide HA).later (below_drew (w := W)))
  have D1 := hide (show (fun v => v.heap[w.heap.size]? = some (.cells #[.int .i64 5, .int .i64 0, .string ⟨#[]⟩, .slice (some ⟨blk, 0, none⟩) 2 cp] 26 (0, 0)) ∧ (v.cell? ⟨blk, 0, none⟩ = some (.int .i64 x.k) ∧ v.cell? ⟨blk, 1, none⟩ = some (.int .i64 x.n) ∧ v.cell? ⟨blk, 2, none⟩ = some (.string x.s) ∧ v.cell? ⟨blk, 3, none⟩ = some (.slice d x.l.length dp)) ∧ v.cell? ⟨blk, 5, none⟩ = some (.int .i64 m)) W.drew from ⟨(unhide X1).box, ⟨a0, a1, a2, a3⟩, b1⟩)
  clear X0 HA a0 a1 a2 a3 b0 b1 b2 b3
  refine wp_region_held_drew (S := fun v => v.heap[w.heap.size]? = some (.cells #[.int .i64 5, .int .i64 0, .string ⟨#[]⟩, .slice (some ⟨blk, 0, none⟩) 2 cp] 26 (0, 0)) ∧ (v.cell? ⟨blk, 0, none⟩ = some (.int .i64 x.k) ∧ v.cell? ⟨blk, 1, none⟩ = some (.int .i64 x.n) ∧ v.cell? ⟨blk, 2, none⟩ = some (.string x.s) ∧ v.cell? ⟨blk, 3, none⟩ = some (.slice d x.l.length dp)) ∧ v.cell? ⟨blk, 5, none⟩ = some (.int .i64 m)) (by kernel_rfl) (unhide D1) (fun hS => ?_)
  have HS := hide hS
  clear hS
  generalize W.drew = W1 at *
  refine wpAnyH_take (i := 0) (v := .pointer (some ⟨w.heap.size, 3, none⟩)) rfl (by kernel_rfl) (by kernel_rfl) (by kernel_rfl) (fun _ _ _ h => h) (Or.inl ⟨by rfl, fun w hc => ?_⟩) (unhide HS) ?_
  · clear hc; go_simp
  go_simp
  refine wpAnyH_take (i := 1) (v := .slice (some ⟨blk, 0, none⟩) 2 cp) rfl (by kernel_rfl) (by kernel_rfl) (by kernel_rfl) (fun _ _ _ h => h) (Or.inl ⟨by rfl, fun w hc => ?_⟩) (unhide HS) ?_
  · have q := Lib.cell_of_heap hc.1 3; clear hc; go_simp
  go_simp
  refine wpAnyH_take (i := 2) (v := .pointer (some ⟨blk, 0, none⟩)) rfl (by kernel_rfl) (by kernel_rfl) (by kernel_rfl) (fun _ _ _ h => h) (Or.inl ⟨by rfl, fun w hc => ?_⟩) (unhide HS) ?_
  · clear hc; go_simp
  go_simp
  refine wpAnyH_take (i := 3) (v := .agg #[.int .i64 x.k, .int .i64 x.n, .string x.s, .slice d x.l.length dp]) rfl (by kernel_rfl) (by kernel_rfl) (by kernel_rfl) (fun _ _ _ h => h) (Or.inl ⟨by rfl, fun w hc => ?_⟩) (unhide HS) ?_
  · obtain ⟨_, ⟨h0, h1, h2, h3⟩, _⟩ := hc; go_simp
  go_simp
  refine wpAnyH_take (i := 4) (v := .pointer (some ⟨w.heap.size, 3, none⟩)) rfl (by kernel_rfl) (by kernel_rfl) (by kernel_rfl) (fun _ _ _ h => h) (Or.inl ⟨by rfl, fun w hc => ?_⟩) (unhide HS) ?_
  · clear hc; go_simp
  go_simp
  refine wpAnyH_take (i := 5) (v := .slice (some ⟨blk, 0, none⟩) 2 cp) rfl (by kernel_rfl) (by kernel_rfl) (by kernel_rfl) (fun _ _ _ h => h) (Or.inl ⟨by rfl, fun w hc => ?_⟩) (unhide HS) ?_
  · have q := Lib.cell_of_heap hc.1 3; clear hc; go_simp
  go_simp
  refine wpAnyH_take (i := 6) (v := .pointer (some ⟨blk, 4, none⟩)) rfl (by kernel_rfl) (by kernel_rfl) (by kernel_rfl) (fun _ _ _ h => h) (Or.inl ⟨by rfl, fun w hc => ?_⟩) (unhide HS) ?_
  · clear hc; go_simp
  go_simp
  refine wpAnyH_take (i := 7) (v := .pointer (some ⟨blk, 5, none⟩)) rfl (by kernel_rfl) (by kernel_rfl) (by kernel_rfl) (fun _ _ _ h => h) (Or.inl ⟨by rfl, fun w hc => ?_⟩) (unhide HS) ?_
  · clear hc; go_simp
  go_simp
  refine wpAnyH_take (i := 8) (v := .int .i64 m) rfl (by kernel_rfl) (by kernel_rfl) (by kernel_rfl) (fun _ _ _ h => h) (Or.inl ⟨by rfl, fun w hc => ?_⟩) (unhide HS) ?_
  · obtain ⟨_, _, h0⟩ := hc; go_simp
  go_simp
  refine wpAnyH_ready (rs := [9]) (by kernel_rfl) (by simp) ?_
  refine AllReadyH.cons rfl (fun K2 hK => ?_) AllReadyH.nil
  rw [if_pos (by rfl)]
  refine wp_store_row 26 _ _ rfl (w.heap.size + 1) #[.int .i64 x.k, .int .i64 x.n, .string x.s, .slice d x.l.length dp] rfl rfl 26 _ (unhide X1).res szE rfl (ex_one _ _ _ _ _ _) ?_
  have KE := fun (i : Nat) => (World.cell?_of_block (a := ⟨blk, i, none⟩) (setRow_other W1 (w.heap.size + 1) blk #[.int .i64 x.k, .int .i64 x.n, .string x.s, .slice d x.l.length dp] (by omega)))
  refine hK.out _ _ (⟨(setRow_other _ _ _ _ (by omega)).trans (unhide D1).1, ⟨(KE 0).trans (unhide D1).2.1.1, (KE 1).trans (unhide D1).2.1.2.1, (KE 2).trans (unhide D1).2.1.2.2.1, (KE 3).trans (unhide D1).2.1.2.2.2⟩, (KE 5).trans (unhide D1).2.2⟩) (fun hS => ?_)
  clear HS
  have HS := hide hS
  clear hS hK K2
  clear KE
  refine wpAnyH_take (i := 10) (v := .int .i64 m) rfl (by kernel_rfl) (by kernel_rfl) (by kernel_rfl) (fun _ _ _ h => h) (Or.inl ⟨by rfl, fun w hc => ?_⟩) (unhide HS) ?_
  · clear hc; go_simp
  go_simp
  refine wpAnyH_done (by kernel_rfl) ?_ _
  clear HS D1
  go_wp2
  refine bodyPost_ret (results_row2 (P := Tryd.prog) rfl _ _ (w.heap.size + 1) 26 #[.int .i64 x.k, .int .i64 x.n, .string x.s, .slice d x.l.length dp] (0, 0) _ rfl (setRow_heap _ _ _ _ _ _ (unhide X1).res) Tryd.underlying26 rfl szE) rfl ?_
  rw [← unhide HX]
  exact (unhide X1).pend (unhide PP) (unhide A1) _
theorem prtS_any {d : Nat} (e : Ex) (ho : okF (d + 1) false e = true) (c : Option Addr) (cp : Nat) (P : Nat → Prop) (w : World) (h : PX w P e c) : Calls Tryd.prog 92 #[.agg (e.cs c cp)] w (PrR e P w) := by
  rcases prt_cases ho with ⟨hp, hn⟩ | ⟨b, m, hm, rfl, _, _⟩
  · by_cases h5 : e.k = 5
    · rcases ok_sev ho with ⟨n, hn, rfl⟩ | ⟨s, hs, rfl⟩ | rfl | ⟨n, hn, rfl⟩ | ⟨s, hs, rfl⟩ | ⟨a, ha, rfl⟩ | ⟨k, a, b, hk, ha, hb, rfl⟩
      · exact absurd (show (1 : Int) = 5 from h5) (by decide)
      · exact absurd (show (2 : Int) = 5 from h5) (by decide)
      · exact absurd (show (3 : Int) = 5 from h5) (by decide)
      · exact absurd (show (11 : Int) = 5 from h5) (by decide)
      · exact absurd (show (12 : Int) = 5 from h5) (by decide)
      · exact absurd (show (4 : Int) = 5 from h5) (by decide)
      · exact prtS_no2 _ a b c cp P w h hp h5 rfl (fun e1 => hn ⟨h5, e1⟩)
    · exact prtS_no e c cp P w h hp h5
  · exact prtS_yes b m c cp P w h
end Go.Proofs.YtkolflcjkofleaaDoor
