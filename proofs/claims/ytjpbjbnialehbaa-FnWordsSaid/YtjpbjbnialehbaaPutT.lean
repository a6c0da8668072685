/- Contracts of PutText (the program's and the model's), over this seat's translation; conditions stand as hypotheses of each. -/
import Derived.Test.YtjpbjbnialehbaaOwnC
import Derived.Lib.AppendStr
namespace Go.Proofs.Ytjpbjbnialehbaa
open Go.ChangeShapes Go.WideShapes Go.ChangeAt Go.RowKit
set_option linter.unusedVariables false
set_option maxRecDepth 8000

theorem strCells_eq (s : ByteArray) : Lib.strCells s = cellsB s.data.toList := rfl

set_option maxHeartbeats 400000 in
theorem putTI_big (a : Option Addr) (len cap : Nat) (s : ByteArray) (xs : List UInt8) (w : World) (hl : xs.length = len) (hm : len ≤ 1099511627776) (hs : 1000 < s.size) (hs2 : s.size ≤ 9223372036854775807) (hr : Rd w a xs) :
    Calls Try.prog 12 #[.slice a len cap, .string s] w fun e w' => ∃ v, e = .returned v ∧ v ≠ .slice none 0 0 ∧ OwnB w' w.heap.size v xs ∧ Below w.heap.size w w' := by
  go_enter Try.func12, Try.ntmps12
  go_wp2_with fail
  refine (putWords_any a len cap none 0 0 xs [] w hl hm rfl (by omega) hr (.inl rfl)).mono ?_
  rintro e w1 ⟨rfl, own1, hb1⟩
  go_wp2
  go_ret
  refine ⟨_, rfl, by simp, ?_, hb1⟩
  unfold OwnB
  rw [hl]
  simpa [wordB] using own1

set_option maxHeartbeats 400000 in
theorem putTI_small (a : Option Addr) (len cap : Nat) (s : ByteArray) (xs : List UInt8) (w : World) (hl : xs.length = len) (hm : len ≤ 1099511627000) (hs : s.size ≤ 1000) (hr : Rd w a xs) :
    Calls Try.prog 12 #[.slice a len cap, .string s] w fun e w' => ∃ v, e = .returned v ∧ v ≠ .slice none 0 0 ∧ OwnB w' w.heap.size v (xs ++ [lo s.size, hi8 s.size] ++ s.data.toList) ∧ Below w.heap.size w w' := by
  obtain ⟨i0, hi, hz0, hz1, hz2⟩ := info_parts Try.info5
  have hz : (w.alloc (Obj.cells #[Value.int .i64 (s.size : Int)] 3)).heap.size = w.heap.size + 1 := by simp
  have hN : RdN (w.alloc (Obj.cells #[Value.int .i64 (s.size : Int)] 3)) (some ⟨w.heap.size, 0, none⟩) [(s.size : Int)] := .inr ⟨w.heap.size, 0, rfl, by rw [hz]; omega, fun i hi => by
    obtain rfl : i = 0 := by simp at hi; omega
    simp [nAt]⟩
  have HN := hide hN
  have HZ := hide hz
  clear hN hz
  go_enter Try.func12, Try.ntmps12
  go_wp2_with fail
  refine (putWords_any a len cap _ 1 1 xs [(s.size : Int)] _ hl (by omega) rfl (by omega) (hr.alloc _) (unhide HN)).mono ?_
  rintro e w1 ⟨rfl, own1, hb1⟩
  rw [unhide HZ] at own1 hb1
  have O1 := hide (ownsRow_base own1 (show w.heap.size ≤ w.heap.size + 1 by omega))
  have hB1 : Below w.heap.size w w1 := ((Below.refl w.heap.size w).alloc (Nat.le_refl _) _).trans (hb1.mono (by omega))
  have s1 := hB1.size
  clear own1 hr hb1
  go_wp2_with (at_builtin; refine Lib.wpList_append_own_string _ rfl (.tmp 14) (.tmp 15) 22 9 rfl w.heap.size 5 i0 Try.underlying22 Try.underlying9 hi hz0 hz1 hz2 (.slice (some ⟨w.heap.size + 1, 0, none⟩) (len + 2 * 1) (len + 2 * 1)) (len + 2 * 1) (cellsB (xs ++ wordB [(s.size : Int)])) rfl (unhide O1) s rfl (by unfold maxLen; omega) (by omega) (by omega) ?_; intro v2 w2 hown2 hgrow2 hnil)
  go_ret
  have B2 : Below w.heap.size w w2 := hB1.grown hgrow2 (by omega) (fun k h => by simp [Value.ownBlock] at h; omega)
  refine ⟨v2, rfl, fun h => ?_, ?_, B2⟩
  · exact absurd (hnil.1 h).1 (by simp)
  · unfold OwnB
    rw [strCells_eq, ← cellsB_append] at hown2
    have e1 : (xs ++ [lo (s.size : Int), hi8 (s.size : Int)] ++ s.data.toList).length = len + 2 * 1 + s.size := by rw [List.length_append, List.length_append, hl]; rfl
    rw [e1]
    exact hown2

theorem OwnB.formN {w : World} {B : Nat} {v : Value} {ys : List UInt8} (h : OwnB w B v ys) (h0 : v ≠ .slice none 0 0) : ∃ g cap, v = .slice (some ⟨g, 0, none⟩) ys.length cap ∧ B ≤ g ∧ g < w.heap.size ∧ ys.length ≤ cap ∧ cap ≤ maxLen := by
  obtain ⟨_, ⟨h1, h2⟩ | ⟨g, cap, cur, rfl, hg, hh, hn, hm, r⟩⟩ := h
  · exact absurd h1 h0
  · exact ⟨g, cap, rfl, hg, (Array.getElem?_eq_some_iff.1 hh).1, hn, hm⟩

end Go.Proofs.Ytjpbjbnialehbaa
