/- The line of tokens: what the model's LineOf answers; over this seat's translation; conditions stand as hypotheses of each. -/
import Derived.Test.YthgbpofcfmnpdaaDoorLiA
import Derived.Test.YthgbpofcfmnpdaaDoorOctT
namespace Go.Proofs.YthgbpofcfmnpdaaDoor
open Go.ChangeShapes Go.WideShapes Go.ChangeAt Go.RowKit
set_option linter.unusedVariables false
set_option maxRecDepth 8000

/-- The text of a token. -/
def tokL (t : Tk) : List UInt8 := if t.k = 2 then octD (t.n % 65536).toNat else t.s.data.toList
theorem octD_six (n : Int) : (octD (n % 65536).toNat).length ≤ 6 := octD_len _ 5 (by have := Int.emod_lt_of_pos n (show (0 : Int) < 65536 by omega); omega)
theorem tokL_len (t : Tk) : (tokL t).length ≤ t.s.size + 6 := by
  unfold tokL
  split
  · have := octD_six t.n; omega
  · rw [size_len]; omega
/-- The line of so many tokens. -/
def lineT (ts : List Tk) : Nat → List UInt8
  | 0 => []
  | k + 1 => lineT ts k ++ (if k = 0 then [] else [32]) ++ tokL (tAt ts k)
theorem lineT_len (ts : List Tk) : ∀ k, k ≤ ts.length → (lineT ts k).length ≤ szL (ts.take k) + 7 * k
  | 0, _ => by simp [lineT]
  | k + 1, h => by
    have h1 := lineT_len ts k (by omega)
    have h2 := tokL_len (tAt ts k)
    have h3 := szL_take ts k (by omega)
    have h4 : (if k = 0 then ([] : List UInt8) else [32]).length ≤ 1 := by split <;> simp
    simp only [lineT, List.length_append]
    omega
theorem szL_le (ts : List Tk) (k : Nat) : szL (ts.take k) ≤ szL ts := by
  induction ts generalizing k with
  | nil => simp
  | cons t r ih =>
    cases k with
    | zero => simp [szL]
    | succ k => simp only [List.take_succ_cons, szL]; have := ih k; omega
theorem szL_at (ts : List Tk) (k : Nat) (h : k < ts.length) : (tAt ts k).s.size ≤ szL ts := by
  have h1 := szL_take ts k h
  have h2 := szL_le ts (k + 1)
  omega
/-- What LineOf answers. -/
def lineOf (ts : List Tk) : List UInt8 := lineT ts ts.length
set_option maxHeartbeats 2000000 in
theorem lineS_any (a : Option Addr) (len cap : Nat) (ts : List Tk) (w : World) (hl : ts.length = len) (hm : len + szL ts ≤ 1048576) (hr : RdT w a ts) : Calls Tryd.prog 49 #[.slice a len cap] w fun e w' => e = .returned (.string (strOf (lineOf ts))) ∧ Below w.heap.size w w' := by
  unfold lineOf
  rw [hl]
  go_enter Tryd.func49, Tryd.ntmps49
  go_wp2
  go_loopw [3, 4] (fun s i wr => ∃ k : Nat, k ≤ len ∧ i = .int .i64 k ∧ s = .string (strOf (lineT ts k)) ∧ Below w.heap.size w wr) (fun _ i _ => len - (intOf i).toNat)
  case atStart => exact ⟨0, Nat.zero_le _, rfl, rfl, Below.refl _ _⟩
  case round =>
    obtain ⟨k, hk, rfl, rfl, hb⟩ := hrel
    by_cases hlt : k < len
    · rcases hr with h0 | ⟨b, off, rfl, hbl, hc⟩
      · rw [h0] at hl; simp at hl; omega
      obtain ⟨c0, c1, c2⟩ := hc k (by omega)
      have d0 : wr.cell? ⟨b, off + k * 3, none⟩ = _ := (hb.cell (p := ⟨b, _, none⟩) hbl).trans c0
      have d1 : wr.cell? ⟨b, off + k * 3 + 1, none⟩ = _ := (hb.cell (p := ⟨b, _, none⟩) hbl).trans c1
      have d2 : wr.cell? ⟨b, off + k * 3 + 2, none⟩ = _ := (hb.cell (p := ⟨b, _, none⟩) hbl).trans c2
      have OC := hide (octS_any (tAt ts k).n wr)
      have hz1 : (strOf (lineT ts k)).size ≤ 16777216 := by
        rw [strOf_size]
        have := lineT_len ts k (by omega)
        have := szL_le ts k
        omega
      have hz2 : (strOf (octD ((tAt ts k).n % 65536).toNat)).size ≤ 6 := by rw [strOf_size]; exact octD_six _
      have hz3 : (tAt ts k).s.size ≤ 1048576 := by have := szL_at ts k (by omega); omega
      have LT := hide (show strOf (lineT ts (k + 1)) = strOf (lineT ts k) ++ (if k = 0 then ⟨#[]⟩ else ⟨#[32]⟩) ++ strOf (tokL (tAt ts k)) by
        show strOf (lineT ts k ++ (if k = 0 then [] else [32]) ++ tokL (tAt ts k)) = _
        rw [← strOf_append, ← strOf_append]
        congr 2
        split <;> rfl)
      have TL := hide (show strOf (tokL (tAt ts k)) = if (tAt ts k).k = 2 then strOf (octD ((tAt ts k).n % 65536).toNat) else (tAt ts k).s by
        unfold tokL
        split
        · rfl
        · rw [strOf_of])
      rw [unhide TL] at LT
      clear c0 c1 c2 hc TL
      have HB := hide hb
      generalize strOf (lineT ts k) = S1 at hz1 LT ⊢
      generalize strOf (octD ((tAt ts k).n % 65536).toNat) = S2 at hz2 LT OC
      generalize (tAt ts k).s = ss at d2 LT hz3
      generalize (tAt ts k).k = kk at d0 LT
      generalize (tAt ts k).n = nn at d1 OC
      clear hb
      by_cases hk0 : k = 0
      · have LT0 := hide (show strOf (lineT ts (k + 1)) = S1 ++ (if kk = 2 then S2 else ss) by
          have := unhide LT
          rw [if_pos hk0] at this
          rw [this]
          congr 1
          apply ByteArray.ext
          rw [ByteArray.data_append]
          simp)
        have hg0 : decide (0 < k) = false := decide_eq_false (by omega)
        clear hk0
        by_cases hk2 : kk = 2
        · subst hk2
          have LT1 := hide (show strOf (lineT ts (k + 1)) = S1 ++ S2 from unhide LT0)
          clear LT LT0
          go_wp2_with (go_at_call 84; refine (unhide OC).mono ?_; rintro e w5 ⟨rfl, hb5⟩)
          go_roundw
          case rel => exact ⟨k + 1, by omega, by go_num, by rw [unhide LT1], (unhide HB).trans (hb5.mono (unhide HB).size)⟩
          case measure => simp [intOf]; omega
        · have LT1 := hide (show strOf (lineT ts (k + 1)) = S1 ++ ss from (unhide LT0).trans (by rw [if_neg hk2]))
          clear LT LT0 OC
          go_wp2
          go_roundw
          case rel => exact ⟨k + 1, by omega, by go_num, by rw [unhide LT1], unhide HB⟩
          case measure => simp [intOf]; omega
      · have hg0 : (0 : Int) < (k : Int) := by omega
        have LT0 := hide (show strOf (lineT ts (k + 1)) = S1 ++ ⟨#[32]⟩ ++ (if kk = 2 then S2 else ss) by have := unhide LT; rw [if_neg hk0] at this; exact this)
        by_cases hk2 : kk = 2
        · subst hk2
          have LT1 := hide (show strOf (lineT ts (k + 1)) = S1 ++ ⟨#[32]⟩ ++ S2 from unhide LT0)
          clear LT LT0
          go_wp2_with (go_at_call 84; refine (unhide OC).mono ?_; rintro e w5 ⟨rfl, hb5⟩)
          go_roundw
          case rel => exact ⟨k + 1, by omega, by go_num, by rw [unhide LT1], (unhide HB).trans (hb5.mono (unhide HB).size)⟩
          case measure => simp [intOf]; omega
        · have LT1 := hide (show strOf (lineT ts (k + 1)) = S1 ++ ⟨#[32]⟩ ++ ss from (unhide LT0).trans (by rw [if_neg hk2]))
          clear LT LT0 OC
          go_wp2
          go_roundw
          case rel => exact ⟨k + 1, by omega, by go_num, by rw [unhide LT1], unhide HB⟩
          case measure => simp [intOf]; omega
    · obtain rfl : k = len := by omega
      go_wp2
      go_ret
      exact ⟨rfl, hb⟩
end Go.Proofs.YthgbpofcfmnpdaaDoor
