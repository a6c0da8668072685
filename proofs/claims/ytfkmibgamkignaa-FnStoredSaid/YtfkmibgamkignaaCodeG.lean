/- The contract of chapter 4's model (Encode), over a trial's translation; no condition. -/
import Derived.Test.YtfkmibgamkignaaCodeC
import Derived.Test.YtfkmibgamkignaaCodeD
import Derived.Test.YtfkmibgamkignaaCodeE
import Derived.Test.YtfkmibgamkignaaCodeF
namespace Go.Proofs.Ytfkmibgamkignaa
open Go.ChangeShapes Go.WideShapes Go.ChangeAt Go.RowKit
set_option linter.unusedVariables false
set_option maxRecDepth 8000

theorem encS_no (op sm sr sx dm dr dx n : Int) (w : World) (hok : Is.ok ⟨op, ⟨sm, sr, sx⟩, ⟨dm, dr, dx⟩, n⟩ = false) :
    Calls Try.prog 79 #[.agg #[.int .i64 op, .int .i64 sm, .int .i64 sr, .int .i64 sx, .int .i64 dm, .int .i64 dr, .int .i64 dx, .int .i64 n]] w fun e w' => ∃ v, e = .returned v ∧ v ≠ .slice none 0 0 ∧ OwnN w' w.heap.size v [] ∧ Below w.heap.size w w' := by
  have HB := hide (box_below w (Obj.cells #[.int .i64 op, .int .i64 sm, .int .i64 sr, .int .i64 sx, .int .i64 dm, .int .i64 dr, .int .i64 dx, .int .i64 n] 92))
  have HZ := hide (show (w.alloc (Obj.cells #[.int .i64 op, .int .i64 sm, .int .i64 sr, .int .i64 sx, .int .i64 dm, .int .i64 dr, .int .i64 dx, .int .i64 n] 92)).heap.size = w.heap.size + 1 by simp)
  go_enter Try.func79, Try.ntmps79
  go_wp2_with fail
  refine (insOk_any ⟨op, ⟨sm, sr, sx⟩, ⟨dm, dr, dx⟩, n⟩ _).mono ?_
  rintro e w1 ⟨rfl, hb⟩
  rw [hok]
  rw [unhide HZ] at hb
  have s1 := hb.size
  rw [unhide HZ] at s1
  have B1 := hide (unhide HB _ hb)
  clear hb
  go_wp2
  go_ret
  exact ⟨.slice (some ⟨w1.heap.size, 0, none⟩) 0 0, rfl, by simp, (ownN_empty w1).base (by omega), (unhide B1).alloc (by omega) _⟩

theorem encS_any (i : Is) (w : World) : Calls Try.prog 79 #[i.v] w fun e w' => ∃ v, e = .returned v ∧ v ≠ .slice none 0 0 ∧ OwnN w' w.heap.size v i.enc ∧ Below w.heap.size w w' := by
  obtain ⟨op, ⟨sm, sr, sx⟩, ⟨dm, dr, dx⟩, n⟩ := i
  cases hok : Is.ok ⟨op, ⟨sm, sr, sx⟩, ⟨dm, dr, dx⟩, n⟩
  · unfold Is.enc
    rw [hok]
    exact encS_no op sm sr sx dm dr dx n w hok
  · have h := (is_ok hok).1
    simp only at h
    obtain ⟨k, rfl⟩ := Int.eq_ofNat_of_zero_le (show 0 ≤ op by omega)
    unfold Is.enc
    rw [if_pos hok]
    by_cases h1 : (k : Int) ≤ 6
    · exact encS_A k sm sr sx dm dr dx n w hok h1
    by_cases h2 : (k : Int) ≤ 14
    · exact encS_B k sm sr sx dm dr dx n w hok (by omega) h2
    by_cases h3 : (k : Int) = 15
    · exact encS_C k sm sr sx dm dr dx n w hok h3
    by_cases h4 : (k : Int) = 16
    · exact encS_D k sm sr sx dm dr dx n w hok h4
    by_cases h5 : (k : Int) = 23
    · exact encS_D2 k sm sr sx dm dr dx n w hok h5
    by_cases h6 : (k : Int) ≤ 21
    · exact encS_E k sm sr sx dm dr dx n w hok (by omega) h6
    · exact encS_F k sm sr sx dm dr dx n w hok (by omega)
end Go.Proofs.Ytfkmibgamkignaa
