/- Contracts of the laws' copy of bytes and what is owned behind a call, over this seat's translation; conditions stand as hypotheses of each. -/
import Derived.Test.YtjpbjbnialehbaaPutC
namespace Go.Proofs.Ytjpbjbnialehbaa
open Go.ChangeShapes Go.WideShapes Go.ChangeAt Go.RowKit
set_option linter.unusedVariables false
set_option maxRecDepth 8000

theorem own_of_rowIs {w : World} {b n : Nat} {xs : List UInt8} {B : Nat} (h : w.rowIs b 5 n (bVal xs)) (hn : xs.length = n) (hm : n ≤ maxLen) (hB : B ≤ b) : OwnB w B (.slice (some ⟨b, 0, none⟩) n n) xs := by
  obtain ⟨c, hc, hs, hv⟩ := h
  refine ⟨by rw [cellsB_length]; omega, .inr ⟨b, n, c, by rw [hn], hB, hc, by omega, hm, by omega, ?_⟩⟩
  rw [hn, Nat.mul_one, List.take_of_length_le (by simp; omega)]
  apply List.ext_getElem?
  intro i
  by_cases hi : i < n
  · rw [Array.getElem?_toList, hv i hi]
    simp only [cellsB, List.getElem?_map, List.getElem?_eq_getElem (show i < xs.length by omega), Option.map_some, bVal, bAt, List.getD_eq_getElem?_getD, Option.getD_some]
  · rw [List.getElem?_eq_none (by simp; omega), List.getElem?_eq_none (by rw [cellsB_length]; omega)]

theorem OwnB.rd1 {w : World} {B : Nat} {a : Option Addr} {n cap : Nat} {ys : List UInt8} (h : OwnB w B (.slice a n cap) ys) : Rd w a ys := by
  obtain ⟨a', cap', e, _, _, hr, _⟩ := h.rd
  cases e
  exact hr

theorem OwnB.keep {w w' : World} {B : Nat} {v : Value} {ys : List UInt8} (h : OwnB w B v ys) (hs : ∀ g, v.ownBlock = some g → g < w.heap.size → w'.heap[g]? = w.heap[g]?) : OwnB w' B v ys := by
  obtain ⟨h1, h2 | ⟨g, cap, cur, rfl, hg, hh, r⟩⟩ := h
  · exact ⟨h1, .inl h2⟩
  · exact ⟨h1, .inr ⟨g, cap, cur, rfl, hg, (hs g rfl (Array.getElem?_eq_some_iff.1 hh).1).trans hh, r⟩⟩
theorem OwnB.later {w w' : World} {B : Nat} {v : Value} {ys : List UInt8} (h : OwnB w B v ys) (hb : Below w.heap.size w w') : OwnB w' B v ys := h.keep fun g _ hg => hb.block g hg
theorem OwnB.past {w w' : World} {B : Nat} {v : Value} {ys : List UInt8} {b : Nat} (h : OwnB w B v ys) (hb : w.grownBy w' (some b)) (hne : v.ownBlock ≠ some b) : OwnB w' B v ys :=
  h.keep fun g hv hg => hb.block g hg (by rw [← hv]; exact hne)
theorem OwnB.lt {w : World} {B : Nat} {v : Value} {ys : List UInt8} (h : OwnB w B v ys) {g : Nat} (hg : v.ownBlock = some g) : B ≤ g ∧ g < w.heap.size := World.ownsRow.lt h g hg

/-- An owned slice that is not empty, written out. -/
theorem OwnB.form {w : World} {B : Nat} {v : Value} {ys : List UInt8} (h : OwnB w B v ys) (h0 : 0 < ys.length) : ∃ g cap, v = .slice (some ⟨g, 0, none⟩) ys.length cap ∧ B ≤ g ∧ g < w.heap.size ∧ ys.length ≤ cap ∧ cap ≤ maxLen := by
  obtain ⟨_, ⟨_, h2⟩ | ⟨g, cap, cur, rfl, hg, hh, hn, hm, r⟩⟩ := h
  · omega
  · exact ⟨g, cap, rfl, hg, (Array.getElem?_eq_some_iff.1 hh).1, hn, hm⟩

theorem Rd.past {w w' : World} {a : Option Addr} {xs : List UInt8} {b : Nat} (h : Rd w a xs) (hb : w.grownBy w' (some b)) (hne : ∀ ad, a = some ad → ad.block ≠ b) : Rd w' a xs := by
  rcases h with h | ⟨c, off, rfl, hlt, hc⟩
  · exact .inl h
  · exact .inr ⟨c, off, rfl, Nat.lt_of_lt_of_le hlt hb.size, fun i hi => (World.cell?_of_block (w := w) (hb.block c hlt (by have := hne _ rfl; simpa using this))).trans (hc i hi)⟩
theorem Rd.lt {w : World} {ad : Addr} {xs : List UInt8} (h : Rd w (some ad) xs) (h0 : 0 < xs.length) : ad.block < w.heap.size := by
  rcases h with rfl | ⟨c, off, e, hlt, _⟩
  · simp at h0
  · cases e; exact hlt
end Go.Proofs.Ytjpbjbnialehbaa
