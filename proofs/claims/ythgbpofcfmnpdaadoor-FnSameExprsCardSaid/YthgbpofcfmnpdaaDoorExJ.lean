/- Whether a term is right but for its parts, by the model; over this seat's translation; conditions stand as hypotheses of each. -/
import Derived.Test.YthgbpofcfmnpdaaDoorExA
import Derived.Test.YthgbpofcfmnpdaaDoorExD
namespace Go.Proofs.YthgbpofcfmnpdaaDoor
open Go.ChangeShapes Go.WideShapes Go.ChangeAt Go.RowKit
set_option linter.unusedVariables false
set_option maxRecDepth 8000
set_option linter.unusedSimpArgs false

/-- The same, by a term's own fields. -/
def hereV (k n : Int) (s : ByteArray) (ll : Nat) : Bool := Ex.here ⟨k, n, s, List.replicate ll X0⟩
theorem here_is (e : Ex) : e.here = hereV e.k e.n e.s e.l.length := by
  unfold hereV Ex.here
  simp only [List.length_replicate]
theorem emp_E (s : ByteArray) (h : s ≠ E0) : s.toList.isEmpty = false ∧ eqS s E0 = false := by
  refine ⟨emp_no s (fun e => h (empty_of s e)), ?_⟩
  cases he : eqS s E0 with
  | false => rfl
  | true => exact absurd ((eqS_iff _ _).1 he) h
theorem eqE : eqS E0 E0 = true := (eqS_iff _ _).2 rfl
theorem eqE1 : eqS ⟨#[]⟩ E0 = true := eqE
def HereG (k n : Int) (s : ByteArray) (ll : Nat) : Prop := ∀ (b : Option Addr) (cap : Nat) (w : World), Calls Tryd.prog 97 #[.agg #[.int .i64 k, .int .i64 n, .string s, .slice b ll cap]] w fun r w' => r = .returned (.bool (hereV k n s ll)) ∧ Below w.heap.size w w'
set_option maxHeartbeats 2000000 in
theorem here1_s (n : Int) (s : ByteArray) (ll : Nat) (h : s ≠ E0) (hs : s.size ≤ 1099511627776) (hl : ll ≤ 9223372036854775807) : HereG (1) n s ll := by
  intro b cap w
  have B0 := hide (below_new w (.cells #[.int .i64 1, .int .i64 n, .string s, .slice b ll cap] 37))
  obtain ⟨h1, h2⟩ := emp_E s h
  have V : hereV (1) n s ll = false := by simp [hereV, Ex.here, eqE, eqE1, *]
  rw [V]
  clear V
  go_enter Tryd.func97, Tryd.ntmps97
  go_wp2
  go_ret
  exact ⟨rfl, unhide B0⟩
set_option maxHeartbeats 2000000 in
theorem here1_0 (n : Int) (s : ByteArray) (ll : Nat) (hs : s.size ≤ 1099511627776) (hl : ll ≤ 9223372036854775807) : HereG (1) n ⟨#[]⟩ ll := by
  intro b cap w
  have B0 := hide (below_new w (.cells #[.int .i64 1, .int .i64 n, .string ⟨#[]⟩, .slice b ll cap] 37))
  have V : hereV (1) n ⟨#[]⟩ ll = (inB n 0 65535 && ll == 0) := by simp [hereV, Ex.here, eqE, eqE1, *]
  rw [V]
  clear V
  have Q := hide (fun w => in_any n 0 65535 w)
  generalize inB n 0 65535 = q at *
  by_cases h0 : ll = 0
  · subst h0
    cases q <;> (go_enter Tryd.func97, Tryd.ntmps97; go_wp2_with (go_at_call 62; refine (unhide Q _).mono ?_; rintro e w' ⟨rfl, hw'⟩; rw [hw']; clear hw' w'); go_ret; exact ⟨rfl, unhide B0⟩)
  · have h1 : (ll == 0) = false := beq_eq_false_iff_ne.2 h0
    have h2 : ((ll : Int) == 0) = false := beq_eq_false_iff_ne.2 (by omega)
    rw [h1]
    clear h1 h0
    cases q <;> (go_enter Tryd.func97, Tryd.ntmps97; go_wp2_with (go_at_call 62; refine (unhide Q _).mono ?_; rintro e w' ⟨rfl, hw'⟩; rw [hw']; clear hw' w'); go_ret; exact ⟨rfl, unhide B0⟩)
set_option maxHeartbeats 2000000 in
theorem here11_s (n : Int) (s : ByteArray) (ll : Nat) (h : s ≠ E0) (hs : s.size ≤ 1099511627776) (hl : ll ≤ 9223372036854775807) : HereG (11) n s ll := by
  intro b cap w
  have B0 := hide (below_new w (.cells #[.int .i64 11, .int .i64 n, .string s, .slice b ll cap] 37))
  obtain ⟨h1, h2⟩ := emp_E s h
  have V : hereV (11) n s ll = false := by simp [hereV, Ex.here, eqE, eqE1, *]
  rw [V]
  clear V
  go_enter Tryd.func97, Tryd.ntmps97
  go_wp2
  go_ret
  exact ⟨rfl, unhide B0⟩
set_option maxHeartbeats 2000000 in
theorem here11_0 (n : Int) (s : ByteArray) (ll : Nat) (hs : s.size ≤ 1099511627776) (hl : ll ≤ 9223372036854775807) : HereG (11) n ⟨#[]⟩ ll := by
  intro b cap w
  have B0 := hide (below_new w (.cells #[.int .i64 11, .int .i64 n, .string ⟨#[]⟩, .slice b ll cap] 37))
  have V : hereV (11) n ⟨#[]⟩ ll = (inB n 0 9 && ll == 0) := by simp [hereV, Ex.here, eqE, eqE1, *]
  rw [V]
  clear V
  have Q := hide (fun w => in_any n 0 9 w)
  generalize inB n 0 9 = q at *
  by_cases h0 : ll = 0
  · subst h0
    cases q <;> (go_enter Tryd.func97, Tryd.ntmps97; go_wp2_with (go_at_call 62; refine (unhide Q _).mono ?_; rintro e w' ⟨rfl, hw'⟩; rw [hw']; clear hw' w'); go_ret; exact ⟨rfl, unhide B0⟩)
  · have h1 : (ll == 0) = false := beq_eq_false_iff_ne.2 h0
    have h2 : ((ll : Int) == 0) = false := beq_eq_false_iff_ne.2 (by omega)
    rw [h1]
    clear h1 h0
    cases q <;> (go_enter Tryd.func97, Tryd.ntmps97; go_wp2_with (go_at_call 62; refine (unhide Q _).mono ?_; rintro e w' ⟨rfl, hw'⟩; rw [hw']; clear hw' w'); go_ret; exact ⟨rfl, unhide B0⟩)
set_option maxHeartbeats 2000000 in
theorem here2_n (n : Int) (s : ByteArray) (ll : Nat) (h : n ≠ 0) (hs : s.size ≤ 1099511627776) (hl : ll ≤ 9223372036854775807) : HereG (2) n s ll := by
  intro b cap w
  have B0 := hide (below_new w (.cells #[.int .i64 2, .int .i64 n, .string s, .slice b ll cap] 37))
  have V : hereV (2) n s ll = false := by simp [hereV, Ex.here, eqE, eqE1, *]
  rw [V]
  clear V
  go_enter Tryd.func97, Tryd.ntmps97
  go_wp2
  go_ret
  exact ⟨rfl, unhide B0⟩
set_option maxHeartbeats 2000000 in
theorem here2_0 (n : Int) (s : ByteArray) (ll : Nat) (hs : s.size ≤ 1099511627776) (hl : ll ≤ 9223372036854775807) : HereG (2) 0 s ll := by
  intro b cap w
  have B0 := hide (below_new w (.cells #[.int .i64 2, .int .i64 0, .string s, .slice b ll cap] 37))
  have V : hereV (2) 0 s ll = (nameB s && ll == 0) := by simp [hereV, Ex.here, eqE, eqE1, *]
  rw [V]
  clear V
  have Q := hide (nameS_any s (w.alloc (.cells #[.int .i64 2, .int .i64 0, .string s, .slice b ll cap] 37)) hs)
  generalize nameB s = q at *
  by_cases h0 : ll = 0
  · subst h0
    cases q <;> (go_enter Tryd.func97, Tryd.ntmps97; go_wp2_with (go_at_call 63; refine (unhide Q).mono ?_; rintro e w' ⟨rfl, hb⟩); go_ret; exact ⟨rfl, (unhide B0).trans (hb.mono (unhide B0).size)⟩)
  · have h1 : (ll == 0) = false := beq_eq_false_iff_ne.2 h0
    have h2 : ((ll : Int) == 0) = false := beq_eq_false_iff_ne.2 (by omega)
    rw [h1]
    clear h1 h0
    cases q <;> (go_enter Tryd.func97, Tryd.ntmps97; go_wp2_with (go_at_call 63; refine (unhide Q).mono ?_; rintro e w' ⟨rfl, hb⟩); go_ret; exact ⟨rfl, (unhide B0).trans (hb.mono (unhide B0).size)⟩)
set_option maxHeartbeats 2000000 in
theorem here12_n (n : Int) (s : ByteArray) (ll : Nat) (h : n ≠ 0) (hs : s.size ≤ 1099511627776) (hl : ll ≤ 9223372036854775807) : HereG (12) n s ll := by
  intro b cap w
  have B0 := hide (below_new w (.cells #[.int .i64 12, .int .i64 n, .string s, .slice b ll cap] 37))
  have V : hereV (12) n s ll = false := by simp [hereV, Ex.here, eqE, eqE1, *]
  rw [V]
  clear V
  go_enter Tryd.func97, Tryd.ntmps97
  go_wp2
  go_ret
  exact ⟨rfl, unhide B0⟩
set_option maxHeartbeats 2000000 in
theorem here12_0 (n : Int) (s : ByteArray) (ll : Nat) (hs : s.size ≤ 1099511627776) (hl : ll ≤ 9223372036854775807) : HereG (12) 0 s ll := by
  intro b cap w
  have B0 := hide (below_new w (.cells #[.int .i64 12, .int .i64 0, .string s, .slice b ll cap] 37))
  have V : hereV (12) 0 s ll = (nameB s && ll == 0) := by simp [hereV, Ex.here, eqE, eqE1, *]
  rw [V]
  clear V
  have Q := hide (nameS_any s (w.alloc (.cells #[.int .i64 12, .int .i64 0, .string s, .slice b ll cap] 37)) hs)
  generalize nameB s = q at *
  by_cases h0 : ll = 0
  · subst h0
    cases q <;> (go_enter Tryd.func97, Tryd.ntmps97; go_wp2_with (go_at_call 63; refine (unhide Q).mono ?_; rintro e w' ⟨rfl, hb⟩); go_ret; exact ⟨rfl, (unhide B0).trans (hb.mono (unhide B0).size)⟩)
  · have h1 : (ll == 0) = false := beq_eq_false_iff_ne.2 h0
    have h2 : ((ll : Int) == 0) = false := beq_eq_false_iff_ne.2 (by omega)
    rw [h1]
    clear h1 h0
    cases q <;> (go_enter Tryd.func97, Tryd.ntmps97; go_wp2_with (go_at_call 63; refine (unhide Q).mono ?_; rintro e w' ⟨rfl, hb⟩); go_ret; exact ⟨rfl, (unhide B0).trans (hb.mono (unhide B0).size)⟩)
set_option maxHeartbeats 2000000 in
theorem here3_n (n : Int) (s : ByteArray) (ll : Nat) (h : n ≠ 0) (hs : s.size ≤ 1099511627776) (hl : ll ≤ 9223372036854775807) : HereG (3) n s ll := by
  intro b cap w
  have B0 := hide (below_new w (.cells #[.int .i64 3, .int .i64 n, .string s, .slice b ll cap] 37))
  have V : hereV (3) n s ll = false := by simp [hereV, Ex.here, eqE, eqE1, *]
  rw [V]
  clear V
  go_enter Tryd.func97, Tryd.ntmps97
  go_wp2
  go_ret
  exact ⟨rfl, unhide B0⟩
set_option maxHeartbeats 2000000 in
theorem here3_s (n : Int) (s : ByteArray) (ll : Nat) (h : s ≠ E0) (hs : s.size ≤ 1099511627776) (hl : ll ≤ 9223372036854775807) : HereG (3) 0 s ll := by
  intro b cap w
  have B0 := hide (below_new w (.cells #[.int .i64 3, .int .i64 0, .string s, .slice b ll cap] 37))
  obtain ⟨h1, h2⟩ := emp_E s h
  have V : hereV (3) 0 s ll = false := by simp [hereV, Ex.here, eqE, eqE1, *]
  rw [V]
  clear V
  go_enter Tryd.func97, Tryd.ntmps97
  go_wp2
  go_ret
  exact ⟨rfl, unhide B0⟩
set_option maxHeartbeats 2000000 in
theorem here3_0 (n : Int) (s : ByteArray) (ll : Nat) (hs : s.size ≤ 1099511627776) (hl : ll ≤ 9223372036854775807) : HereG (3) 0 ⟨#[]⟩ ll := by
  intro b cap w
  have B0 := hide (below_new w (.cells #[.int .i64 3, .int .i64 0, .string ⟨#[]⟩, .slice b ll cap] 37))
  have V : hereV (3) 0 ⟨#[]⟩ ll = (ll == 0) := by simp [hereV, Ex.here, eqE, eqE1, *]
  rw [V]
  clear V
  by_cases h0 : ll = 0
  · subst h0
    go_enter Tryd.func97, Tryd.ntmps97
    go_wp2
    go_ret
    exact ⟨rfl, unhide B0⟩
  · have h1 : (ll == 0) = false := beq_eq_false_iff_ne.2 h0
    have h2 : ((ll : Int) == 0) = false := beq_eq_false_iff_ne.2 (by omega)
    rw [h1]
    clear h1 h0
    go_enter Tryd.func97, Tryd.ntmps97
    go_wp2
    go_ret
    exact ⟨rfl, unhide B0⟩
set_option maxHeartbeats 2000000 in
theorem here4_n (n : Int) (s : ByteArray) (ll : Nat) (h : n ≠ 0) (hs : s.size ≤ 1099511627776) (hl : ll ≤ 9223372036854775807) : HereG (4) n s ll := by
  intro b cap w
  have B0 := hide (below_new w (.cells #[.int .i64 4, .int .i64 n, .string s, .slice b ll cap] 37))
  have V : hereV (4) n s ll = false := by simp [hereV, Ex.here, eqE, eqE1, *]
  rw [V]
  clear V
  go_enter Tryd.func97, Tryd.ntmps97
  go_wp2
  go_ret
  exact ⟨rfl, unhide B0⟩
set_option maxHeartbeats 2000000 in
theorem here4_s (n : Int) (s : ByteArray) (ll : Nat) (h : s ≠ E0) (hs : s.size ≤ 1099511627776) (hl : ll ≤ 9223372036854775807) : HereG (4) 0 s ll := by
  intro b cap w
  have B0 := hide (below_new w (.cells #[.int .i64 4, .int .i64 0, .string s, .slice b ll cap] 37))
  obtain ⟨h1, h2⟩ := emp_E s h
  have V : hereV (4) 0 s ll = false := by simp [hereV, Ex.here, eqE, eqE1, *]
  rw [V]
  clear V
  go_enter Tryd.func97, Tryd.ntmps97
  go_wp2
  go_ret
  exact ⟨rfl, unhide B0⟩
set_option maxHeartbeats 2000000 in
theorem here4_0 (n : Int) (s : ByteArray) (ll : Nat) (hs : s.size ≤ 1099511627776) (hl : ll ≤ 9223372036854775807) : HereG (4) 0 ⟨#[]⟩ ll := by
  intro b cap w
  have B0 := hide (below_new w (.cells #[.int .i64 4, .int .i64 0, .string ⟨#[]⟩, .slice b ll cap] 37))
  have V : hereV (4) 0 ⟨#[]⟩ ll = (ll == 1) := by simp [hereV, Ex.here, eqE, eqE1, *]
  rw [V]
  clear V
  by_cases h0 : ll = 1
  · subst h0
    go_enter Tryd.func97, Tryd.ntmps97
    go_wp2
    go_ret
    exact ⟨rfl, unhide B0⟩
  · have h1 : (ll == 1) = false := beq_eq_false_iff_ne.2 h0
    have h2 : ((ll : Int) == 1) = false := beq_eq_false_iff_ne.2 (by omega)
    rw [h1]
    clear h1 h0
    go_enter Tryd.func97, Tryd.ntmps97
    go_wp2
    go_ret
    exact ⟨rfl, unhide B0⟩
set_option maxHeartbeats 2000000 in
theorem here5_n (n : Int) (s : ByteArray) (ll : Nat) (h : n ≠ 0) (hs : s.size ≤ 1099511627776) (hl : ll ≤ 9223372036854775807) : HereG (5) n s ll := by
  intro b cap w
  have B0 := hide (below_new w (.cells #[.int .i64 5, .int .i64 n, .string s, .slice b ll cap] 37))
  have V : hereV (5) n s ll = false := by simp [hereV, Ex.here, eqE, eqE1, *]
  rw [V]
  clear V
  go_enter Tryd.func97, Tryd.ntmps97
  go_wp2
  go_ret
  exact ⟨rfl, unhide B0⟩
set_option maxHeartbeats 2000000 in
theorem here5_s (n : Int) (s : ByteArray) (ll : Nat) (h : s ≠ E0) (hs : s.size ≤ 1099511627776) (hl : ll ≤ 9223372036854775807) : HereG (5) 0 s ll := by
  intro b cap w
  have B0 := hide (below_new w (.cells #[.int .i64 5, .int .i64 0, .string s, .slice b ll cap] 37))
  obtain ⟨h1, h2⟩ := emp_E s h
  have V : hereV (5) 0 s ll = false := by simp [hereV, Ex.here, eqE, eqE1, *]
  rw [V]
  clear V
  go_enter Tryd.func97, Tryd.ntmps97
  go_wp2
  go_ret
  exact ⟨rfl, unhide B0⟩
set_option maxHeartbeats 2000000 in
theorem here5_0 (n : Int) (s : ByteArray) (ll : Nat) (hs : s.size ≤ 1099511627776) (hl : ll ≤ 9223372036854775807) : HereG (5) 0 ⟨#[]⟩ ll := by
  intro b cap w
  have B0 := hide (below_new w (.cells #[.int .i64 5, .int .i64 0, .string ⟨#[]⟩, .slice b ll cap] 37))
  have V : hereV (5) 0 ⟨#[]⟩ ll = (ll == 2) := by simp [hereV, Ex.here, eqE, eqE1, *]
  rw [V]
  clear V
  by_cases h0 : ll = 2
  · subst h0
    go_enter Tryd.func97, Tryd.ntmps97
    go_wp2
    go_ret
    exact ⟨rfl, unhide B0⟩
  · have h1 : (ll == 2) = false := beq_eq_false_iff_ne.2 h0
    have h2 : ((ll : Int) == 2) = false := beq_eq_false_iff_ne.2 (by omega)
    rw [h1]
    clear h1 h0
    go_enter Tryd.func97, Tryd.ntmps97
    go_wp2
    go_ret
    exact ⟨rfl, unhide B0⟩
set_option maxHeartbeats 2000000 in
theorem here6_n (n : Int) (s : ByteArray) (ll : Nat) (h : n ≠ 0) (hs : s.size ≤ 1099511627776) (hl : ll ≤ 9223372036854775807) : HereG (6) n s ll := by
  intro b cap w
  have B0 := hide (below_new w (.cells #[.int .i64 6, .int .i64 n, .string s, .slice b ll cap] 37))
  have V : hereV (6) n s ll = false := by simp [hereV, Ex.here, eqE, eqE1, *]
  rw [V]
  clear V
  go_enter Tryd.func97, Tryd.ntmps97
  go_wp2
  go_ret
  exact ⟨rfl, unhide B0⟩
set_option maxHeartbeats 2000000 in
theorem here6_s (n : Int) (s : ByteArray) (ll : Nat) (h : s ≠ E0) (hs : s.size ≤ 1099511627776) (hl : ll ≤ 9223372036854775807) : HereG (6) 0 s ll := by
  intro b cap w
  have B0 := hide (below_new w (.cells #[.int .i64 6, .int .i64 0, .string s, .slice b ll cap] 37))
  obtain ⟨h1, h2⟩ := emp_E s h
  have V : hereV (6) 0 s ll = false := by simp [hereV, Ex.here, eqE, eqE1, *]
  rw [V]
  clear V
  go_enter Tryd.func97, Tryd.ntmps97
  go_wp2
  go_ret
  exact ⟨rfl, unhide B0⟩
set_option maxHeartbeats 2000000 in
theorem here6_0 (n : Int) (s : ByteArray) (ll : Nat) (hs : s.size ≤ 1099511627776) (hl : ll ≤ 9223372036854775807) : HereG (6) 0 ⟨#[]⟩ ll := by
  intro b cap w
  have B0 := hide (below_new w (.cells #[.int .i64 6, .int .i64 0, .string ⟨#[]⟩, .slice b ll cap] 37))
  have V : hereV (6) 0 ⟨#[]⟩ ll = (ll == 2) := by simp [hereV, Ex.here, eqE, eqE1, *]
  rw [V]
  clear V
  by_cases h0 : ll = 2
  · subst h0
    go_enter Tryd.func97, Tryd.ntmps97
    go_wp2
    go_ret
    exact ⟨rfl, unhide B0⟩
  · have h1 : (ll == 2) = false := beq_eq_false_iff_ne.2 h0
    have h2 : ((ll : Int) == 2) = false := beq_eq_false_iff_ne.2 (by omega)
    rw [h1]
    clear h1 h0
    go_enter Tryd.func97, Tryd.ntmps97
    go_wp2
    go_ret
    exact ⟨rfl, unhide B0⟩
set_option maxHeartbeats 2000000 in
theorem here7_n (n : Int) (s : ByteArray) (ll : Nat) (h : n ≠ 0) (hs : s.size ≤ 1099511627776) (hl : ll ≤ 9223372036854775807) : HereG (7) n s ll := by
  intro b cap w
  have B0 := hide (below_new w (.cells #[.int .i64 7, .int .i64 n, .string s, .slice b ll cap] 37))
  have V : hereV (7) n s ll = false := by simp [hereV, Ex.here, eqE, eqE1, *]
  rw [V]
  clear V
  go_enter Tryd.func97, Tryd.ntmps97
  go_wp2
  go_ret
  exact ⟨rfl, unhide B0⟩
set_option maxHeartbeats 2000000 in
theorem here7_s (n : Int) (s : ByteArray) (ll : Nat) (h : s ≠ E0) (hs : s.size ≤ 1099511627776) (hl : ll ≤ 9223372036854775807) : HereG (7) 0 s ll := by
  intro b cap w
  have B0 := hide (below_new w (.cells #[.int .i64 7, .int .i64 0, .string s, .slice b ll cap] 37))
  obtain ⟨h1, h2⟩ := emp_E s h
  have V : hereV (7) 0 s ll = false := by simp [hereV, Ex.here, eqE, eqE1, *]
  rw [V]
  clear V
  go_enter Tryd.func97, Tryd.ntmps97
  go_wp2
  go_ret
  exact ⟨rfl, unhide B0⟩
set_option maxHeartbeats 2000000 in
theorem here7_0 (n : Int) (s : ByteArray) (ll : Nat) (hs : s.size ≤ 1099511627776) (hl : ll ≤ 9223372036854775807) : HereG (7) 0 ⟨#[]⟩ ll := by
  intro b cap w
  have B0 := hide (below_new w (.cells #[.int .i64 7, .int .i64 0, .string ⟨#[]⟩, .slice b ll cap] 37))
  have V : hereV (7) 0 ⟨#[]⟩ ll = (ll == 2) := by simp [hereV, Ex.here, eqE, eqE1, *]
  rw [V]
  clear V
  by_cases h0 : ll = 2
  · subst h0
    go_enter Tryd.func97, Tryd.ntmps97
    go_wp2
    go_ret
    exact ⟨rfl, unhide B0⟩
  · have h1 : (ll == 2) = false := beq_eq_false_iff_ne.2 h0
    have h2 : ((ll : Int) == 2) = false := beq_eq_false_iff_ne.2 (by omega)
    rw [h1]
    clear h1 h0
    go_enter Tryd.func97, Tryd.ntmps97
    go_wp2
    go_ret
    exact ⟨rfl, unhide B0⟩
set_option maxHeartbeats 2000000 in
theorem here8_n (n : Int) (s : ByteArray) (ll : Nat) (h : n ≠ 0) (hs : s.size ≤ 1099511627776) (hl : ll ≤ 9223372036854775807) : HereG (8) n s ll := by
  intro b cap w
  have B0 := hide (below_new w (.cells #[.int .i64 8, .int .i64 n, .string s, .slice b ll cap] 37))
  have V : hereV (8) n s ll = false := by simp [hereV, Ex.here, eqE, eqE1, *]
  rw [V]
  clear V
  go_enter Tryd.func97, Tryd.ntmps97
  go_wp2
  go_ret
  exact ⟨rfl, unhide B0⟩
set_option maxHeartbeats 2000000 in
theorem here8_s (n : Int) (s : ByteArray) (ll : Nat) (h : s ≠ E0) (hs : s.size ≤ 1099511627776) (hl : ll ≤ 9223372036854775807) : HereG (8) 0 s ll := by
  intro b cap w
  have B0 := hide (below_new w (.cells #[.int .i64 8, .int .i64 0, .string s, .slice b ll cap] 37))
  obtain ⟨h1, h2⟩ := emp_E s h
  have V : hereV (8) 0 s ll = false := by simp [hereV, Ex.here, eqE, eqE1, *]
  rw [V]
  clear V
  go_enter Tryd.func97, Tryd.ntmps97
  go_wp2
  go_ret
  exact ⟨rfl, unhide B0⟩
set_option maxHeartbeats 2000000 in
theorem here8_0 (n : Int) (s : ByteArray) (ll : Nat) (hs : s.size ≤ 1099511627776) (hl : ll ≤ 9223372036854775807) : HereG (8) 0 ⟨#[]⟩ ll := by
  intro b cap w
  have B0 := hide (below_new w (.cells #[.int .i64 8, .int .i64 0, .string ⟨#[]⟩, .slice b ll cap] 37))
  have V : hereV (8) 0 ⟨#[]⟩ ll = (ll == 2) := by simp [hereV, Ex.here, eqE, eqE1, *]
  rw [V]
  clear V
  by_cases h0 : ll = 2
  · subst h0
    go_enter Tryd.func97, Tryd.ntmps97
    go_wp2
    go_ret
    exact ⟨rfl, unhide B0⟩
  · have h1 : (ll == 2) = false := beq_eq_false_iff_ne.2 h0
    have h2 : ((ll : Int) == 2) = false := beq_eq_false_iff_ne.2 (by omega)
    rw [h1]
    clear h1 h0
    go_enter Tryd.func97, Tryd.ntmps97
    go_wp2
    go_ret
    exact ⟨rfl, unhide B0⟩
set_option maxHeartbeats 2000000 in
theorem here9_n (n : Int) (s : ByteArray) (ll : Nat) (h : n ≠ 0) (hs : s.size ≤ 1099511627776) (hl : ll ≤ 9223372036854775807) : HereG (9) n s ll := by
  intro b cap w
  have B0 := hide (below_new w (.cells #[.int .i64 9, .int .i64 n, .string s, .slice b ll cap] 37))
  have V : hereV (9) n s ll = false := by simp [hereV, Ex.here, eqE, eqE1, *]
  rw [V]
  clear V
  go_enter Tryd.func97, Tryd.ntmps97
  go_wp2
  go_ret
  exact ⟨rfl, unhide B0⟩
set_option maxHeartbeats 2000000 in
theorem here9_s (n : Int) (s : ByteArray) (ll : Nat) (h : s ≠ E0) (hs : s.size ≤ 1099511627776) (hl : ll ≤ 9223372036854775807) : HereG (9) 0 s ll := by
  intro b cap w
  have B0 := hide (below_new w (.cells #[.int .i64 9, .int .i64 0, .string s, .slice b ll cap] 37))
  obtain ⟨h1, h2⟩ := emp_E s h
  have V : hereV (9) 0 s ll = false := by simp [hereV, Ex.here, eqE, eqE1, *]
  rw [V]
  clear V
  go_enter Tryd.func97, Tryd.ntmps97
  go_wp2
  go_ret
  exact ⟨rfl, unhide B0⟩
set_option maxHeartbeats 2000000 in
theorem here9_0 (n : Int) (s : ByteArray) (ll : Nat) (hs : s.size ≤ 1099511627776) (hl : ll ≤ 9223372036854775807) : HereG (9) 0 ⟨#[]⟩ ll := by
  intro b cap w
  have B0 := hide (below_new w (.cells #[.int .i64 9, .int .i64 0, .string ⟨#[]⟩, .slice b ll cap] 37))
  have V : hereV (9) 0 ⟨#[]⟩ ll = (ll == 2) := by simp [hereV, Ex.here, eqE, eqE1, *]
  rw [V]
  clear V
  by_cases h0 : ll = 2
  · subst h0
    go_enter Tryd.func97, Tryd.ntmps97
    go_wp2
    go_ret
    exact ⟨rfl, unhide B0⟩
  · have h1 : (ll == 2) = false := beq_eq_false_iff_ne.2 h0
    have h2 : ((ll : Int) == 2) = false := beq_eq_false_iff_ne.2 (by omega)
    rw [h1]
    clear h1 h0
    go_enter Tryd.func97, Tryd.ntmps97
    go_wp2
    go_ret
    exact ⟨rfl, unhide B0⟩
set_option maxHeartbeats 2000000 in
theorem here10_n (n : Int) (s : ByteArray) (ll : Nat) (h : n ≠ 0) (hs : s.size ≤ 1099511627776) (hl : ll ≤ 9223372036854775807) : HereG (10) n s ll := by
  intro b cap w
  have B0 := hide (below_new w (.cells #[.int .i64 10, .int .i64 n, .string s, .slice b ll cap] 37))
  have V : hereV (10) n s ll = false := by simp [hereV, Ex.here, eqE, eqE1, *]
  rw [V]
  clear V
  go_enter Tryd.func97, Tryd.ntmps97
  go_wp2
  go_ret
  exact ⟨rfl, unhide B0⟩
set_option maxHeartbeats 2000000 in
theorem here10_s (n : Int) (s : ByteArray) (ll : Nat) (h : s ≠ E0) (hs : s.size ≤ 1099511627776) (hl : ll ≤ 9223372036854775807) : HereG (10) 0 s ll := by
  intro b cap w
  have B0 := hide (below_new w (.cells #[.int .i64 10, .int .i64 0, .string s, .slice b ll cap] 37))
  obtain ⟨h1, h2⟩ := emp_E s h
  have V : hereV (10) 0 s ll = false := by simp [hereV, Ex.here, eqE, eqE1, *]
  rw [V]
  clear V
  go_enter Tryd.func97, Tryd.ntmps97
  go_wp2
  go_ret
  exact ⟨rfl, unhide B0⟩
set_option maxHeartbeats 2000000 in
theorem here10_0 (n : Int) (s : ByteArray) (ll : Nat) (hs : s.size ≤ 1099511627776) (hl : ll ≤ 9223372036854775807) : HereG (10) 0 ⟨#[]⟩ ll := by
  intro b cap w
  have B0 := hide (below_new w (.cells #[.int .i64 10, .int .i64 0, .string ⟨#[]⟩, .slice b ll cap] 37))
  have V : hereV (10) 0 ⟨#[]⟩ ll = (ll == 2) := by simp [hereV, Ex.here, eqE, eqE1, *]
  rw [V]
  clear V
  by_cases h0 : ll = 2
  · subst h0
    go_enter Tryd.func97, Tryd.ntmps97
    go_wp2
    go_ret
    exact ⟨rfl, unhide B0⟩
  · have h1 : (ll == 2) = false := beq_eq_false_iff_ne.2 h0
    have h2 : ((ll : Int) == 2) = false := beq_eq_false_iff_ne.2 (by omega)
    rw [h1]
    clear h1 h0
    go_enter Tryd.func97, Tryd.ntmps97
    go_wp2
    go_ret
    exact ⟨rfl, unhide B0⟩
set_option maxHeartbeats 2000000 in
theorem here_n (n : Int) (s : ByteArray) (ll : Nat) (k : Int) (h1 : k ≠ 1) (h2 : k ≠ 2) (h3 : k ≠ 3) (h4 : k ≠ 4) (h5 : k ≠ 5) (h6 : k ≠ 6) (h7 : k ≠ 7) (h8 : k ≠ 8) (h9 : k ≠ 9) (h10 : k ≠ 10) (h11 : k ≠ 11) (h12 : k ≠ 12) (h : n ≠ 0) (hs : s.size ≤ 1099511627776) (hl : ll ≤ 9223372036854775807) : HereG k n s ll := by
  intro b cap w
  have B0 := hide (below_new w (.cells #[.int .i64 k, .int .i64 n, .string s, .slice b ll cap] 37))
  have g1 : (k == 1) = false := beq_eq_false_iff_ne.2 h1
  have g2 : (k == 2) = false := beq_eq_false_iff_ne.2 h2
  have g3 : (k == 3) = false := beq_eq_false_iff_ne.2 h3
  have g4 : (k == 4) = false := beq_eq_false_iff_ne.2 h4
  have g5 : (k == 5) = false := beq_eq_false_iff_ne.2 h5
  have g6 : (k == 6) = false := beq_eq_false_iff_ne.2 h6
  have g7 : (k == 7) = false := beq_eq_false_iff_ne.2 h7
  have g8 : (k == 8) = false := beq_eq_false_iff_ne.2 h8
  have g9 : (k == 9) = false := beq_eq_false_iff_ne.2 h9
  have g10 : (k == 10) = false := beq_eq_false_iff_ne.2 h10
  have g11 : (k == 11) = false := beq_eq_false_iff_ne.2 h11
  have g12 : (k == 12) = false := beq_eq_false_iff_ne.2 h12
  have m1 : (k != 1) = true := by simp [h1]
  have m2 : (k != 2) = true := by simp [h2]
  have m11 : (k != 11) = true := by simp [h11]
  have m12 : (k != 12) = true := by simp [h12]
  have V : hereV k n s ll = false := by unfold hereV Ex.here; simp only; split; rfl; repeat (first | rfl | rw [if_neg (by omega)])
  rw [V]
  clear V
  go_enter Tryd.func97, Tryd.ntmps97
  go_wp2
  go_ret
  exact ⟨rfl, unhide B0⟩
set_option maxHeartbeats 2000000 in
theorem here_s (n : Int) (s : ByteArray) (ll : Nat) (k : Int) (h1 : k ≠ 1) (h2 : k ≠ 2) (h3 : k ≠ 3) (h4 : k ≠ 4) (h5 : k ≠ 5) (h6 : k ≠ 6) (h7 : k ≠ 7) (h8 : k ≠ 8) (h9 : k ≠ 9) (h10 : k ≠ 10) (h11 : k ≠ 11) (h12 : k ≠ 12) (h : s ≠ E0) (hs : s.size ≤ 1099511627776) (hl : ll ≤ 9223372036854775807) : HereG k 0 s ll := by
  intro b cap w
  have B0 := hide (below_new w (.cells #[.int .i64 k, .int .i64 0, .string s, .slice b ll cap] 37))
  have g1 : (k == 1) = false := beq_eq_false_iff_ne.2 h1
  have g2 : (k == 2) = false := beq_eq_false_iff_ne.2 h2
  have g3 : (k == 3) = false := beq_eq_false_iff_ne.2 h3
  have g4 : (k == 4) = false := beq_eq_false_iff_ne.2 h4
  have g5 : (k == 5) = false := beq_eq_false_iff_ne.2 h5
  have g6 : (k == 6) = false := beq_eq_false_iff_ne.2 h6
  have g7 : (k == 7) = false := beq_eq_false_iff_ne.2 h7
  have g8 : (k == 8) = false := beq_eq_false_iff_ne.2 h8
  have g9 : (k == 9) = false := beq_eq_false_iff_ne.2 h9
  have g10 : (k == 10) = false := beq_eq_false_iff_ne.2 h10
  have g11 : (k == 11) = false := beq_eq_false_iff_ne.2 h11
  have g12 : (k == 12) = false := beq_eq_false_iff_ne.2 h12
  have m1 : (k != 1) = true := by simp [h1]
  have m2 : (k != 2) = true := by simp [h2]
  have m11 : (k != 11) = true := by simp [h11]
  have m12 : (k != 12) = true := by simp [h12]
  obtain ⟨hh1, hh2⟩ := emp_E s h
  have V : hereV k 0 s ll = false := by unfold hereV Ex.here; simp only; split; rfl; repeat (first | rfl | rw [if_neg (by omega)])
  rw [V]
  clear V
  go_enter Tryd.func97, Tryd.ntmps97
  go_wp2
  go_ret
  exact ⟨rfl, unhide B0⟩
set_option maxHeartbeats 2000000 in
theorem here_0 (n : Int) (s : ByteArray) (ll : Nat) (k : Int) (h1 : k ≠ 1) (h2 : k ≠ 2) (h3 : k ≠ 3) (h4 : k ≠ 4) (h5 : k ≠ 5) (h6 : k ≠ 6) (h7 : k ≠ 7) (h8 : k ≠ 8) (h9 : k ≠ 9) (h10 : k ≠ 10) (h11 : k ≠ 11) (h12 : k ≠ 12) (hs : s.size ≤ 1099511627776) (hl : ll ≤ 9223372036854775807) : HereG k 0 ⟨#[]⟩ ll := by
  intro b cap w
  have B0 := hide (below_new w (.cells #[.int .i64 k, .int .i64 0, .string ⟨#[]⟩, .slice b ll cap] 37))
  have g1 : (k == 1) = false := beq_eq_false_iff_ne.2 h1
  have g2 : (k == 2) = false := beq_eq_false_iff_ne.2 h2
  have g3 : (k == 3) = false := beq_eq_false_iff_ne.2 h3
  have g4 : (k == 4) = false := beq_eq_false_iff_ne.2 h4
  have g5 : (k == 5) = false := beq_eq_false_iff_ne.2 h5
  have g6 : (k == 6) = false := beq_eq_false_iff_ne.2 h6
  have g7 : (k == 7) = false := beq_eq_false_iff_ne.2 h7
  have g8 : (k == 8) = false := beq_eq_false_iff_ne.2 h8
  have g9 : (k == 9) = false := beq_eq_false_iff_ne.2 h9
  have g10 : (k == 10) = false := beq_eq_false_iff_ne.2 h10
  have g11 : (k == 11) = false := beq_eq_false_iff_ne.2 h11
  have g12 : (k == 12) = false := beq_eq_false_iff_ne.2 h12
  have m1 : (k != 1) = true := by simp [h1]
  have m2 : (k != 2) = true := by simp [h2]
  have m11 : (k != 11) = true := by simp [h11]
  have m12 : (k != 12) = true := by simp [h12]
  have V : hereV k 0 ⟨#[]⟩ ll = false := by unfold hereV Ex.here; simp only; split; rfl; repeat (first | rfl | rw [if_neg (by omega)])
  rw [V]
  clear V
  go_enter Tryd.func97, Tryd.ntmps97
  go_wp2
  go_ret
  exact ⟨rfl, unhide B0⟩
theorem hereS_any (e : Ex) (b : Option Addr) (cap : Nat) (w : World) (hs : e.s.size ≤ 1099511627776) (hl : e.l.length ≤ 9223372036854775807) : Calls Tryd.prog 97 #[.agg (e.cs b cap)] w fun r w' => r = .returned (.bool e.here) ∧ Below w.heap.size w w' := by
  rw [here_is]
  unfold Ex.cs
  obtain ⟨k, n, s, l⟩ := e
  simp only at hs hl ⊢
  generalize l.length = ll at *
  revert b cap w
  show HereG k n s ll
  by_cases c1 : k = 1
  · subst c1
    by_cases h : s = E0
    · subst h; exact here1_0 n E0 ll hs hl
    · exact here1_s n s ll h hs hl
  by_cases c11 : k = 11
  · subst c11
    by_cases h : s = E0
    · subst h; exact here11_0 n E0 ll hs hl
    · exact here11_s n s ll h hs hl
  by_cases c2 : k = 2
  · subst c2
    by_cases h : n = 0
    · subst h; exact here2_0 0 s ll hs hl
    · exact here2_n n s ll h hs hl
  by_cases c12 : k = 12
  · subst c12
    by_cases h : n = 0
    · subst h; exact here12_0 0 s ll hs hl
    · exact here12_n n s ll h hs hl
  by_cases c3 : k = 3
  · subst c3
    by_cases h : n = 0
    · subst h
      by_cases h : s = E0
      · subst h; exact here3_0 0 E0 ll hs hl
      · exact here3_s 0 s ll h hs hl
    · exact here3_n n s ll h hs hl
  by_cases c4 : k = 4
  · subst c4
    by_cases h : n = 0
    · subst h
      by_cases h : s = E0
      · subst h; exact here4_0 0 E0 ll hs hl
      · exact here4_s 0 s ll h hs hl
    · exact here4_n n s ll h hs hl
  by_cases c5 : k = 5
  · subst c5
    by_cases h : n = 0
    · subst h
      by_cases h : s = E0
      · subst h; exact here5_0 0 E0 ll hs hl
      · exact here5_s 0 s ll h hs hl
    · exact here5_n n s ll h hs hl
  by_cases c6 : k = 6
  · subst c6
    by_cases h : n = 0
    · subst h
      by_cases h : s = E0
      · subst h; exact here6_0 0 E0 ll hs hl
      · exact here6_s 0 s ll h hs hl
    · exact here6_n n s ll h hs hl
  by_cases c7 : k = 7
  · subst c7
    by_cases h : n = 0
    · subst h
      by_cases h : s = E0
      · subst h; exact here7_0 0 E0 ll hs hl
      · exact here7_s 0 s ll h hs hl
    · exact here7_n n s ll h hs hl
  by_cases c8 : k = 8
  · subst c8
    by_cases h : n = 0
    · subst h
      by_cases h : s = E0
      · subst h; exact here8_0 0 E0 ll hs hl
      · exact here8_s 0 s ll h hs hl
    · exact here8_n n s ll h hs hl
  by_cases c9 : k = 9
  · subst c9
    by_cases h : n = 0
    · subst h
      by_cases h : s = E0
      · subst h; exact here9_0 0 E0 ll hs hl
      · exact here9_s 0 s ll h hs hl
    · exact here9_n n s ll h hs hl
  by_cases c10 : k = 10
  · subst c10
    by_cases h : n = 0
    · subst h
      by_cases h : s = E0
      · subst h; exact here10_0 0 E0 ll hs hl
      · exact here10_s 0 s ll h hs hl
    · exact here10_n n s ll h hs hl
  by_cases h : n = 0
  · subst h
    by_cases h : s = E0
    · subst h; exact here_0 0 E0 ll k c1 c2 c3 c4 c5 c6 c7 c8 c9 c10 c11 c12 hs hl
    · exact here_s 0 s ll k c1 c2 c3 c4 c5 c6 c7 c8 c9 c10 c11 c12 h hs hl
  · exact here_n n s ll k c1 c2 c3 c4 c5 c6 c7 c8 c9 c10 c11 c12 h hs hl
end Go.Proofs.YthgbpofcfmnpdaaDoor
