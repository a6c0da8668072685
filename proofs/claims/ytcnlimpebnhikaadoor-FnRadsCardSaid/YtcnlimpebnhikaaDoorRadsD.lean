/- Letters come back of their words; the laws' comparison of ints; over this seat's translation; conditions stand as hypotheses of each. -/
import Derived.Test.YtcnlimpebnhikaaDoorRadsC
namespace Go.Proofs.YtcnlimpebnhikaaDoor
open Go.ChangeShapes Go.WideShapes Go.ChangeAt Go.RowKit
set_option linter.unusedVariables false

theorem lc_ne29 (x : Int) : lc x ≠ 29 := by
  unfold lc
  repeat' split
  all_goals omega
theorem tb_lc : ∀ i : Fin 256, 0 ≤ lc (i.val : Int) → tb (lc (i.val : Int)).toNat = UInt8.ofNat i.val := by decide +kernel

/-- The k-th letter; behind the last: a blank. -/
def padAt (xs : List UInt8) (k : Nat) : UInt8 := xs.getD k 32
theorem lcAt_good {xs : List UInt8} (h : AllL xs xs.length) (k : Nat) : 0 ≤ lcAt xs k ∧ lcAt xs k ≤ 39 ∧ lcAt xs k ≠ 29 ∧ tb (lcAt xs k).toNat = padAt xs k := by
  by_cases hk : k < xs.length
  · rw [lcAt_in hk]
    have h0 := h k hk hk
    have hb := (lc_bd (bAt xs k)).2
    have ht := tb_lc ⟨(xs.getD k 0).toNat, (xs.getD k 0).toNat_lt⟩ h0
    refine ⟨h0, hb, lc_ne29 _, ?_⟩
    have e : tb (lc (bAt xs k)).toNat = UInt8.ofNat (xs.getD k 0).toNat := ht
    rw [e]
    unfold padAt
    rw [List.getD_eq_getElem?_getD, List.getD_eq_getElem?_getD, List.getElem?_eq_getElem hk]
    simp
  · rw [lcAt_out hk]
    refine ⟨by omega, by omega, by omega, ?_⟩
    unfold padAt
    rw [List.getD_eq_getElem?_getD, List.getElem?_eq_none (by omega)]
    rfl
theorem word_good {xs : List UInt8} (h : AllL xs xs.length) (i : Nat) : WOk (wordAt xs i) ∧ w3 (wordAt xs i) = [padAt xs i, padAt xs (i + 1), padAt xs (i + 2)] := by
  obtain ⟨a0, a1, a2, a3⟩ := lcAt_good h i
  obtain ⟨b0, b1, b2, b3⟩ := lcAt_good h (i + 1)
  obtain ⟨c0, c1, c2, c3⟩ := lcAt_good h (i + 2)
  have e0 : wordAt xs i / 1600 = lcAt xs i := by unfold wordAt; omega
  have e1 : wordAt xs i / 40 % 40 = lcAt xs (i + 1) := by unfold wordAt; omega
  have e2 : wordAt xs i % 40 = lcAt xs (i + 2) := by unfold wordAt; omega
  have e3 : 0 ≤ wordAt xs i ∧ wordAt xs i ≤ 63999 := by unfold wordAt; omega
  unfold WOk w3
  rw [e0, e1, e2, a3, b3, c3]
  exact ⟨⟨e3.1, e3.2, a2, b2, c2⟩, rfl⟩
theorem radN_at (xs : List UInt8) (j : Nat) (h : j < (radN xs).length) : nAt (radN xs) j = wordAt xs (3 * j) := by
  unfold radN at h ⊢
  rw [radK_length] at h
  unfold nAt radK
  rw [List.getD_eq_getElem?_getD, List.getElem?_map, List.getElem?_range h]
  rfl
theorem bytes_pad {xs : List UInt8} (h : AllL xs xs.length) (k : Nat) (hk : k ≤ (radN xs).length) : bytesK (radN xs) k = (List.range (3 * k)).map (padAt xs) := by
  induction k with
  | zero => rfl
  | succ k ih =>
    rw [bytesK_succ, ih (by omega), radN_at xs k (by omega), (word_good h (3 * k)).2]
    have : 3 * (k + 1) = 3 * k + 1 + 1 + 1 := by omega
    rw [this, List.range_succ, List.range_succ, List.range_succ]
    simp
theorem trimR_pad (xs : List UInt8) (r : Nat) : trimR (xs ++ List.replicate r 32) = trimR xs := by
  induction r with
  | zero => simp
  | succ r ih =>
    rw [List.replicate_succ', ← List.append_assoc, trimR_snoc, if_pos rfl, ih]
theorem pad_eq (xs : List UInt8) (n : Nat) (h : xs.length ≤ n) : (List.range n).map (padAt xs) = xs ++ List.replicate (n - xs.length) 32 := by
  apply List.ext_getElem?
  intro i
  by_cases hi : i < n
  · rw [List.getElem?_map, List.getElem?_range hi]
    by_cases hx : i < xs.length
    · rw [List.getElem?_append_left hx, List.getElem?_eq_getElem hx]
      simp [padAt, hx]
    · rw [List.getElem?_append_right (by omega), List.getElem?_replicate, if_pos (by omega)]
      simp [padAt, hx]
  · rw [List.getElem?_eq_none (by simp; omega), List.getElem?_eq_none (by simp; omega)]
theorem back {xs : List UInt8} (h : Good xs) : GGood (radN xs) ∧ trimR (bytesK (radN xs) (radN xs).length) = trimR xs := by
  have hl : (radN xs).length = (xs.length + 2) / 3 := by unfold radN; rw [radK_length]
  have h6 := h.1
  refine ⟨⟨by omega, fun i hi => ?_⟩, ?_⟩
  · rw [radN_at xs i hi]
    exact (word_good h.2 (3 * i)).1
  · rw [bytes_pad h.2 _ (Nat.le_refl _), pad_eq xs _ (by omega), trimR_pad]
theorem trimR_pre (xs : List UInt8) : ∃ t, xs = trimR xs ++ t := by
  refine ⟨(xs.reverse.takeWhile (· == 32)).reverse, ?_⟩
  unfold trimR
  rw [← List.reverse_append, List.takeWhile_append_dropWhile, List.reverse_reverse]
theorem strOf_of (s : ByteArray) : strOf s.data.toList = s := by apply ByteArray.ext; simp [strOf]
theorem strOf_front (a t : List UInt8) : (strOf (a ++ t)).extract 0 a.length = strOf a := by
  apply ByteArray.ext
  simp [strOf, ByteArray.data_extract]
theorem str_ne {a b : ByteArray} (h : a ≠ b) : (a.toList == b.toList) = false := by
  rw [ByteArray.toList_eq, ByteArray.toList_eq]
  exact beq_eq_false_iff_ne.2 (fun e => h (bytes_inj e))
/-- What comes back of a text's words: it, or what stands ahead of its blanks. -/
theorem back_str {s : ByteArray} (h : Good s.data.toList) : gOk (rNs s.data.toList) = true ∧ (gStr (rNs s.data.toList) = s ∨ ((gStr (rNs s.data.toList)).toList == s.toList) = false ∧ (gStr (rNs s.data.toList)).size < s.size ∧ s.extract 0 (gStr (rNs s.data.toList)).size = gStr (rNs s.data.toList)) := by
  obtain ⟨h1, h2⟩ := back h
  have h3 := gOk_yes h1
  rw [(rOk_yes h).2]
  refine ⟨h3.1, ?_⟩
  rw [h3.2, h2]
  obtain ⟨t, ht⟩ := trimR_pre s.data.toList
  have hs : s = strOf (trimR s.data.toList ++ t) := by rw [← ht, strOf_of]
  cases t with
  | nil => left; rw [List.append_nil] at hs; exact hs.symm
  | cons c t =>
    right
    have hsz : s.size = (trimR s.data.toList).length + (t.length + 1) := by
      have := congrArg ByteArray.size hs
      rw [strOf_size] at this
      simpa using this
    have hlt : (strOf (trimR s.data.toList)).size < s.size := by rw [strOf_size]; omega
    refine ⟨str_ne (fun e => by rw [e] at hlt; omega), hlt, ?_⟩
    rw [strOf_size]
    have := strOf_front (trimR s.data.toList) (c :: t)
    rw [← hs] at this
    exact this

set_option maxHeartbeats 400000 in
theorem sameInts_any (a b : Option Addr) (len c1 c2 : Nat) (xs : List Int) (w : World) (hl : xs.length = len) (hm : len ≤ 1099511627776) (h1 : RdN w a xs) (h2 : RdN w b xs) :
    Calls Tryd.prog 12 #[.slice a len c1, .slice b len c2] w fun e w' => e = .returned (.bool true) ∧ Below w.heap.size w w' := by
  go_enter Tryd.func12, Tryd.ntmps12
  go_wp2
  go_loopw [5] (fun i wr => ∃ k : Nat, k ≤ len ∧ i = .int .i64 k ∧ Below w.heap.size w wr) (fun i _ => len - (intOf i).toNat)
  case atStart => exact ⟨0, Nat.zero_le _, rfl, Below.refl _ _⟩
  case round =>
    obtain ⟨k, hk, rfl, hbel⟩ := hrel
    by_cases hlt : k < len
    · rcases h1 with rfl | ⟨p, po, rfl, hp, hpc⟩
      · simp at hl; omega
      rcases h2 with h0 | ⟨q, qo, rfl, hq, hqc⟩
      · rw [h0] at hl; simp at hl; omega
      have e1 : wr.cell? ⟨p, po + k, none⟩ = some (.int .i64 (nAt xs k)) := (hbel.cell (p := ⟨p, po + k, none⟩) hp).trans (hpc k (by omega))
      have e2 : wr.cell? ⟨q, qo + k, none⟩ = some (.int .i64 (nAt xs k)) := (hbel.cell (p := ⟨q, qo + k, none⟩) hq).trans (hqc k (by omega))
      clear hpc hqc
      go_wp2_with fail
      go_quiet (fail)
      go_wp2
      go_roundw
      case rel => exact ⟨k + 1, by omega, by go_num, below_drewN hbel _⟩
      case measure => simp [intOf]; omega
    · go_wp2
      go_ret
      exact ⟨rfl, hbel⟩
end Go.Proofs.YtcnlimpebnhikaaDoor
