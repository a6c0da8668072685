/- Contracts of GetText (the program's and the model's), over this seat's translation; conditions stand as hypotheses of each. -/
import Derived.Test.YtjpbjbnialehbaaGetC
import Derived.Laws.IdiomStrings
namespace Go.Proofs.Ytjpbjbnialehbaa
open Go.ChangeShapes Go.WideShapes Go.ChangeAt Go.RowKit
set_option linter.unusedVariables false
set_option maxRecDepth 8000

/-- The text of k bytes from place n on. -/
def txt (xs : List UInt8) (n k : Nat) : ByteArray := ⟨((xs.drop n).take k).toArray⟩

theorem txt_conv (w : World) (b off : Nat) (xs : List UInt8) (hc : ∀ i, i < xs.length → w.cell? ⟨b, off + i, none⟩ = some (.int .u8 (bAt xs i))) (n k cap : Nat) (h : n + k ≤ xs.length) :
    (convert 22 9 (.slice (some ⟨b, off + n, none⟩) k cap)).run Try.prog w = .ok (.string (txt xs n k)) w := by
  have hlen : ((xs.drop n).take k).length = k := by simp; omega
  have := run_convert_bytes_back (P := Try.prog) w 22 9 5 ⟨b, off + n, none⟩ cap ((xs.drop n).take k) Try.underlying22 Try.underlying5 Try.underlying9 (fun j hj => by
    have hj' : j < k := by omega
    have h2 := hc (n + j) (by omega)
    have e : bAt xs (n + j) = ((((xs.drop n).take k)[j]'hj).toNat : Int) := by
      unfold bAt
      rw [List.getD_eq_getElem?_getD, List.getElem?_eq_getElem (by omega)]
      simp
    rw [e] at h2
    unfold Addr.add
    by_cases h0 : j = 0
    · subst h0; simpa using h2
    · simpa [h0, Nat.add_assoc] using h2)
  rw [hlen] at this
  exact this

set_option maxHeartbeats 400000 in
theorem getTI_no (a : Option Addr) (len cap : Nat) (at_ : Int) (w : World) (hm : len ≤ 9223372036854775807) (h0 : -9223372036854775808 ≤ at_) (h1 : at_ ≤ 9223372036854775807) (h : Hid (at_ < 0 ∨ (len : Int) < at_ + 2)) :
    Calls Try.prog 13 #[.slice a len cap, .int .i64 at_] w fun e w' => e = .returned (.tuple #[.string ⟨#[]⟩, .int .i64 0, .bool false]) ∧ w' = w := by
  go_enter Try.func13, Try.ntmps13
  go_wp2_with fail
  refine (getWI_no a len cap at_ w hm h0 h1 h.out).mono ?_
  rintro e w1 ⟨rfl, hw⟩
  subst hw
  go_wp2
  go_ret3
  exact ⟨rfl, rfl⟩

set_option maxHeartbeats 400000 in
theorem getTI_bad (a : Option Addr) (len cap n k : Nat) (xs : List UInt8) (w : World) (hl : xs.length = len) (hm : len ≤ 9223372036854775807) (hr : Rd w a xs) (h : n + 2 ≤ len) (hk : Hid (wAt xs n = k)) (hbad : Hid (1000 < k ∨ len < n + 2 + k)) :
    Calls Try.prog 13 #[.slice a len cap, .int .i64 n] w fun e w' => e = .returned (.tuple #[.string ⟨#[]⟩, .int .i64 0, .bool false]) ∧ Below w.heap.size w w' := by
  by_cases h1 : 1000 < k
  · go_enter Try.func13, Try.ntmps13
    go_wp2_with fail
    refine (getWI_yes a len cap n xs w hl hm hr h).mono ?_
    rintro e w1 ⟨he, hb⟩
    rw [hk.out] at he
    subst he
    go_wp2
    go_ret3
    exact ⟨rfl, hb⟩
  · have h2 : len < n + 2 + k := by have := hbad.out; omega
    have h3 : (len : Int) - ((n : Int) + 2) < (k : Int) := by omega
    go_enter Try.func13, Try.ntmps13
    go_wp2_with fail
    refine (getWI_yes a len cap n xs w hl hm hr h).mono ?_
    rintro e w1 ⟨he, hb⟩
    rw [hk.out] at he
    subst he
    go_wp2
    go_ret3
    exact ⟨rfl, hb⟩

theorem txt_none (xs : List UInt8) (n m k : Nat) (h : k = 0) : txt xs n k = txt xs m k := by subst h; simp [txt]

set_option maxHeartbeats 400000 in
theorem getTI_yes (a : Option Addr) (len cap n k : Nat) (xs : List UInt8) (w : World) (hl : xs.length = len) (hm : len ≤ cap) (hm2 : cap ≤ 9223372036854775807) (hr : Rd w a xs) (h1 : k ≤ 1000) (h2 : n + 2 + k ≤ len) (hk : Hid (wAt xs n = k)) :
    Calls Try.prog 13 #[.slice a len cap, .int .i64 n] w fun e w' => e = .returned (.tuple #[.string (txt xs (n + 2) k), .int .i64 ((n : Int) + 2 + k), .bool true]) ∧ Below w.heap.size w w' := by
  have h3 : (k : Int) ≤ (len : Int) - ((n : Int) + 2) := by omega
  rcases hr with rfl | ⟨b, off, rfl, hb, hc⟩
  · simp at hl; omega
  have hdec : (decide (1000 < (k : Int)) || decide ((len : Int) - ((n : Int) + 2) < (k : Int))) = false := by simp; omega
  by_cases hcap : cap = n + 2
  · subst hcap
    go_enter Try.func13, Try.ntmps13
    go_wp2_with fail
    refine (getWI_yes _ len (n + 2) n xs w hl (by omega) (.inr ⟨b, off, rfl, hb, hc⟩) (by omega)).mono ?_
    rintro e w1 ⟨he, hb1⟩
    rw [hk.out] at he
    subst he
    have hcv := fun c => txt_conv w1 b off xs (fun i hi => (hb1.cell (p := ⟨b, off + i, none⟩) hb).trans (hc i hi)) 0 k c (by omega)
    simp only [Nat.add_zero, txt_none xs 0 (n + 2) k (show k = 0 by omega)] at hcv
    clear hc
    go_wp2
    go_ret3
    exact ⟨rfl, hb1⟩
  · go_enter Try.func13, Try.ntmps13
    go_wp2_with fail
    refine (getWI_yes _ len cap n xs w hl (by omega) (.inr ⟨b, off, rfl, hb, hc⟩) (by omega)).mono ?_
    rintro e w1 ⟨he, hb1⟩
    rw [hk.out] at he
    subst he
    have hcv := txt_conv w1 b off xs (fun i hi => (hb1.cell (p := ⟨b, off + i, none⟩) hb).trans (hc i hi)) (n + 2) k (cap - (n + 2)) (by omega)
    clear hc
    go_wp2
    go_ret3
    exact ⟨rfl, hb1⟩

theorem Below.of_same {B : Nat} {w w' : World} (h : w' = w) : Below B w w' := by subst h; exact Below.refl _ _

theorem hide {p : Prop} (h : p) : Hid p := h
theorem unhide {p : Prop} (h : Hid p) : p := h
end Go.Proofs.Ytjpbjbnialehbaa
