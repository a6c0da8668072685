/- Whether two terms are the same, as data; conditions stand as hypotheses of each. -/
import Derived.Test.YthgbpofcfmnpdaaDoorExT
namespace Go.Proofs.YthgbpofcfmnpdaaDoor
open Go.ChangeShapes Go.WideShapes Go.ChangeAt Go.RowKit
set_option linter.unusedVariables false
set_option maxRecDepth 8000

def eqB (a b : ByteArray) : Bool := a.toList == b.toList
theorem eqB_iff (a b : ByteArray) : eqB a b = true ↔ a = b := by
  unfold eqB
  rw [ByteArray.toList_eq, ByteArray.toList_eq, beq_iff_eq]
  exact ⟨fun h => bytes_inj h, fun h => by rw [h]⟩
/-- The same but for the parts. -/
def headX (a b : Ex) : Bool := a.k == b.k && (a.n == b.n && (eqB a.s b.s && a.l.length == b.l.length))
theorem headX_iff (a b : Ex) : headX a b = true ↔ a.k = b.k ∧ a.n = b.n ∧ a.s = b.s ∧ a.l.length = b.l.length := by
  unfold headX
  simp only [Bool.and_eq_true, beq_iff_eq, eqB_iff]
/-- Whether two terms are the same. -/
def sameX : Ex → Ex → Bool
  | ⟨k, n, s, l⟩ => fun b => headX ⟨k, n, s, l⟩ b && ((l.map sameX).zip b.l).all (fun p => p.1 p.2)
theorem sameX_eq (a b : Ex) : sameX a b = (headX a b && ((a.l.map sameX).zip b.l).all (fun p => p.1 p.2)) := by
  obtain ⟨k, n, s, l⟩ := a
  rw [sameX]
theorem sameX_iff (a : Ex) : ∀ b, sameX a b = true ↔ a = b := by
  induction a using Ex.ind with
  | h k n s l ih =>
    intro b
    rw [sameX_eq, Bool.and_eq_true, headX_iff, List.all_eq_true]
    constructor
    · rintro ⟨⟨h1, h2, h3, h4⟩, h5⟩
      obtain ⟨bk, bn, bs, bl⟩ := b
      simp only at h1 h2 h3 h4 h5
      subst h1 h2 h3
      congr 1
      apply List.ext_getElem h4
      intro i hi hj
      have hm : (sameX l[i], bl[i]) ∈ (l.map sameX).zip bl := by
        have hz : i < ((l.map sameX).zip bl).length := by simp; omega
        have := List.getElem_mem hz
        simpa using this
      exact (ih _ (List.getElem_mem hi) _).1 (h5 _ hm)
    · rintro rfl
      refine ⟨⟨rfl, rfl, rfl, rfl⟩, fun p hp => ?_⟩
      simp only at hp
      obtain ⟨i, hi, rfl⟩ := List.getElem_of_mem hp
      simp only [List.length_zip, List.length_map] at hi
      simp only [List.getElem_zip, List.getElem_map]
      exact (ih _ (List.getElem_mem (by omega)) _).2 rfl
/-- The first so many parts are the same. -/
def sameN (l m : List Ex) (k : Nat) : Bool := (List.range k).all (fun i => sameX (xAt l i) (xAt m i))
theorem sameN_0 (l m : List Ex) : sameN l m 0 = true := rfl
theorem sameN_s (l m : List Ex) (k : Nat) : sameN l m (k + 1) = (sameN l m k && sameX (xAt l k) (xAt m k)) := by
  unfold sameN
  rw [List.range_succ, List.all_append]
  simp
theorem sameN_part {l m : List Ex} {k n : Nat} (hk : k < n) (h : sameX (xAt l k) (xAt m k) = false) : sameN l m n = false := by
  unfold sameN
  rw [List.all_eq_false]
  exact ⟨k, by simpa using hk, by rw [h]; decide⟩
theorem sameX_n (a b : Ex) : sameX a b = (headX a b && sameN a.l b.l a.l.length) := by
  rw [Bool.eq_iff_iff, sameX_iff]
  constructor
  · rintro rfl
    rw [Bool.and_eq_true]
    refine ⟨(headX_iff _ _).2 ⟨rfl, rfl, rfl, rfl⟩, ?_⟩
    unfold sameN
    rw [List.all_eq_true]
    intro i _
    exact (sameX_iff _ _).2 rfl
  · intro h
    rw [Bool.and_eq_true, headX_iff] at h
    obtain ⟨⟨h1, h2, h3, h4⟩, h5⟩ := h
    unfold sameN at h5
    rw [List.all_eq_true] at h5
    obtain ⟨ak, an, as_, al⟩ := a
    obtain ⟨bk, bn, bs, bl⟩ := b
    simp only at h1 h2 h3 h4 h5
    subst h1 h2 h3
    congr 1
    apply List.ext_getElem h4
    intro i hi hj
    have := (sameX_iff _ _).1 (h5 i (by simpa using hi))
    rwa [xAt_get hi, xAt_get hj] at this
end Go.Proofs.YthgbpofcfmnpdaaDoor
