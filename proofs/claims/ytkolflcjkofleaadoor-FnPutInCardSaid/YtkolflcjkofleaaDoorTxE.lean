/- Contracts over this seat's translation, laid together; conditions stand as hypotheses of each. -/
import Derived.Test.YtkolflcjkofleaaDoorTxA
import Derived.Test.YtkolflcjkofleaaDoorTxB
import Derived.Test.YtkolflcjkofleaaDoorTxC
import Derived.Test.YtkolflcjkofleaaDoorTxD

namespace Go.Proofs.YtkolflcjkofleaaDoor
open Go.ChangeShapes Go.WideShapes Go.ChangeAt Go.RowKit
set_option linter.unusedVariables false
set_option maxRecDepth 8000
set_option linter.unusedSimpArgs false

/-- The same, by a term's own fields. -/
def hereV (k n : Int) (s : ByteArray) (ll : Nat) : Bool := Ex.here ⟨k, n, s, List.replicate ll X0⟩
theorem here_is (e : Ex) : e.here = hereV e.k e.n e.s e.l.length := by
  unfold hereV Ex.here
  simp only [List.length_replicate]
theorem emp_E (s : ByteArray) (h : s ≠ E0) : s.toList.isEmpty = false ∧ eqS s E0 = false := by
  refine ⟨emp_no s (fun e => h (empty_of s e)), ?_⟩
  cases he : eqS s E0 with
  | false => rfl
  | true => exact absurd ((eqS_iff _ _).1 he) h
theorem eqE : eqS E0 E0 = true := (eqS_iff _ _).2 rfl
theorem eqE1 : eqS ⟨#[]⟩ E0 = true := eqE
def HereG (k n : Int) (s : ByteArray) (ll : Nat) : Prop := ∀ (b : Option Addr) (cap : Nat) (w : World), Calls Tryd.prog 91 #[.agg #[.int .i64 k, .int .i64 n, .string s, .slice b ll cap]] w fun r w' => r = .returned (.bool (hereV k n s ll)) ∧ Below w.heap.size w w'
set_option maxHeartbeats 2000000 in
theorem here1_s (n : Int) (s : ByteArray) (ll : Nat) (h : s ≠ E0) (hs : s.size ≤ 1099511627776) (hl : ll ≤ 9223372036854775807) : HereG (1) n s ll := by
  intro b cap w
  have B0 := hide (below_new w (.cells #[.int .i64 1, .int .i64 n, .string s, .slice b ll cap] 26))
  obtain ⟨h1, h2⟩ := emp_E s h
  have V : hereV (1) n s ll = false := by simp [hereV, Ex.here, eqE, eqE1, *]
  rw [V]
  clear V
  go_enter Tryd.func91, Tryd.ntmps91
  go_wp2
  go_ret
  exact ⟨rfl, unhide B0⟩
set_option maxHeartbeats 2000000 in
theorem here1_0 (n : Int) (s : ByteArray) (ll : Nat) (hs : s.size ≤ 1099511627776) (hl : ll ≤ 9223372036854775807) : HereG (1) n ⟨#[]⟩ ll := by
  intro b cap w
  have B0 := hide (below_new w (.cells #[.int .i64 1, .int .i64 n, .string ⟨#[]⟩, .slice b ll cap] 26))
  have V : hereV (1) n ⟨#[]⟩ ll = (inB n 0 65535 && ll == 0) := by simp [hereV, Ex.here, eqE, eqE1, *]
  rw [V]
  clear V
  have Q := hide (fun w => in_any n 0 65535 w)
  generalize inB n 0 65535 = q at *
  by_cases h0 : ll = 0
  · subst h0
    cases q <;> (go_enter Tryd.func91, Tryd.ntmps91; go_wp2_with (go_at_call 97; refine (unhide Q _).mono ?_; rintro e w' ⟨rfl, hw'⟩; rw [hw']; clear hw' w'); go_ret; exact ⟨rfl, unhide B0⟩)
  · have h1 : (ll == 0) = false := beq_eq_false_iff_ne.2 h0
    have h2 : ((ll : Int) == 0) = false := beq_eq_false_iff_ne.2 (by omega)
    rw [h1]
    clear h1 h0
    cases q <;> (go_enter Tryd.func91, Tryd.ntmps91; go_wp2_with (go_at_call 97; refine (unhide Q _).mono ?_; rintro e w' ⟨rfl, hw'⟩; rw [hw']; clear hw' w'); go_ret; exact ⟨rfl, unhide B0⟩)
set_option maxHeartbeats 2000000 in
theorem here11_s (n : Int) (s : ByteArray) (ll : Nat) (h : s ≠ E0) (hs : s.size ≤ 1099511627776) (hl : ll ≤ 9223372036854775807) : HereG (11) n s ll := by
  intro b cap w
  have B0 := hide (below_new w (.cells #[.int .i64 11, .int .i64 n, .string s, .slice b ll cap] 26))
  obtain ⟨h1, h2⟩ := emp_E s h
  have V : hereV (11) n s ll = false := by simp [hereV, Ex.here, eqE, eqE1, *]
  rw [V]
  clear V
  go_enter Tryd.func91, Tryd.ntmps91
  go_wp2
  go_ret
  exact ⟨rfl, unhide B0⟩
set_option maxHeartbeats 2000000 in
theorem here11_0 (n : Int) (s : ByteArray) (ll : Nat) (hs : s.size ≤ 1099511627776) (hl : ll ≤ 9223372036854775807) : HereG (11) n ⟨#[]⟩ ll := by
  intro b cap w
  have B0 := hide (below_new w (.cells #[.int .i64 11, .int .i64 n, .string ⟨#[]⟩, .slice b ll cap] 26))
  have V : hereV (11) n ⟨#[]⟩ ll = (inB n 0 9 && ll == 0) := by simp [hereV, Ex.here, eqE, eqE1, *]
  rw [V]
  clear V
  have Q := hide (fun w => in_any n 0 9 w)
  generalize inB n 0 9 = q at *
  by_cases h0 : ll = 0
  · subst h0
    cases q <;> (go_enter Tryd.func91, Tryd.ntmps91; go_wp2_with (go_at_call 97; refine (unhide Q _).mono ?_; rintro e w' ⟨rfl, hw'⟩; rw [hw']; clear hw' w'); go_ret; exact ⟨rfl, unhide B0⟩)
  · have h1 : (ll == 0) = false := beq_eq_false_iff_ne.2 h0
    have h2 : ((ll : Int) == 0) = false := beq_eq_false_iff_ne.2 (by omega)
    rw [h1]
    clear h1 h0
    cases q <;> (go_enter Tryd.func91, Tryd.ntmps91; go_wp2_with (go_at_call 97; refine (unhide Q _).mono ?_; rintro e w' ⟨rfl, hw'⟩; rw [hw']; clear hw' w'); go_ret; exact ⟨rfl, unhide B0⟩)
set_option maxHeartbeats 2000000 in
theorem here2_n (n : Int) (s : ByteArray) (ll : Nat) (h : n ≠ 0) (hs : s.size ≤ 1099511627776) (hl : ll ≤ 9223372036854775807) : HereG (2) n s ll := by
  intro b cap w
  have B0 := hide (below_new w (.cells #[.int .i64 2, .int .i64 n, .string s, .slice b ll cap] 26))
  have V : hereV (2) n s ll = false := by simp [hereV, Ex.here, eqE, eqE1, *]
  rw [V]
  clear V
  go_enter Tryd.func91, Tryd.ntmps91
  go_wp2
  go_ret
  exact ⟨rfl, unhide B0⟩
set_option maxHeartbeats 2000000 in
theorem here2_0 (n : Int) (s : ByteArray) (ll : Nat) (hs : s.size ≤ 1099511627776) (hl : ll ≤ 9223372036854775807) : HereG (2) 0 s ll := by
  intro b cap w
  have B0 := hide (below_new w (.cells #[.int .i64 2, .int .i64 0, .string s, .slice b ll cap] 26))
  have V : hereV (2) 0 s ll = (nameB s && ll == 0) := by simp [hereV, Ex.here, eqE, eqE1, *]
  rw [V]
  clear V
  have Q := hide (nameS_any s (w.alloc (.cells #[.int .i64 2, .int .i64 0, .string s, .slice b ll cap] 26)) hs)
  generalize nameB s = q at *
  by_cases h0 : ll = 0
  · subst h0
    cases q <;> (go_enter Tryd.func91, Tryd.ntmps91; go_wp2_with (go_at_call 98; refine (unhide Q).mono ?_; rintro e w' ⟨rfl, hb⟩); go_ret; exact ⟨rfl, (unhide B0).trans (hb.mono (unhide B0).size)⟩)
  · have h1 : (ll == 0) = false := beq_eq_false_iff_ne.2 h0
    have h2 : ((ll : Int) == 0) = false := beq_eq_false_iff_ne.2 (by omega)
    rw [h1]
    clear h1 h0
    cases q <;> (go_enter Tryd.func91, Tryd.ntmps91; go_wp2_with (go_at_call 98; refine (unhide Q).mono ?_; rintro e w' ⟨rfl, hb⟩); go_ret; exact ⟨rfl, (unhide B0).trans (hb.mono (unhide B0).size)⟩)
set_option maxHeartbeats 2000000 in
theorem here12_n (n : Int) (s : ByteArray) (ll : Nat) (h : n ≠ 0) (hs : s.size ≤ 1099511627776) (hl : ll ≤ 9223372036854775807) : HereG (12) n s ll := by
  intro b cap w
  have B0 := hide (below_new w (.cells #[.int .i64 12, .int .i64 n, .string s, .slice b ll cap] 26))
  have V : hereV (12) n s ll = false := by simp [hereV, Ex.here, eqE, eqE1, *]
  rw [V]
  clear V
  go_enter Tryd.func91, Tryd.ntmps91
  go_wp2
  go_ret
  exact ⟨rfl, unhide B0⟩
set_option maxHeartbeats 2000000 in
theorem here12_0 (n : Int) (s : ByteArray) (ll : Nat) (hs : s.size ≤ 1099511627776) (hl : ll ≤ 9223372036854775807) : HereG (12) 0 s ll := by
  intro b cap w
  have B0 := hide (below_new w (.cells #[.int .i64 12, .int .i64 0, .string s, .slice b ll cap] 26))
  have V : hereV (12) 0 s ll = (nameB s && ll == 0) := by simp [hereV, Ex.here, eqE, eqE1, *]
  rw [V]
  clear V
  have Q := hide (nameS_any s (w.alloc (.cells #[.int .i64 12, .int .i64 0, .string s, .slice b ll cap] 26)) hs)
  generalize nameB s = q at *
  by_cases h0 : ll = 0
  · subst h0
    cases q <;> (go_enter Tryd.func91, Tryd.ntmps91; go_wp2_with (go_at_call 98; refine (unhide Q).mono ?_; rintro e w' ⟨rfl, hb⟩); go_ret; exact ⟨rfl, (unhide B0).trans (hb.mono (unhide B0).size)⟩)
  · have h1 : (ll == 0) = false := beq_eq_false_iff_ne.2 h0
    have h2 : ((ll : Int) == 0) = false := beq_eq_false_iff_ne.2 (by omega)
    rw [h1]
    clear h1 h0
    cases q <;> (go_enter Tryd.func91, Tryd.ntmps91; go_wp2_with (go_at_call 98; refine (unhide Q).mono ?_; rintro e w' ⟨rfl, hb⟩); go_ret; exact ⟨rfl, (unhide B0).trans (hb.mono (unhide B0).size)⟩)
set_option maxHeartbeats 2000000 in
theorem here3_n (n : Int) (s : ByteArray) (ll : Nat) (h : n ≠ 0) (hs : s.size ≤ 1099511627776) (hl : ll ≤ 9223372036854775807) : HereG (3) n s ll := by
  intro b cap w
  have B0 := hide (below_new w (.cells #[.int .i64 3, .int .i64 n, .string s, .slice b ll cap] 26))
  have V : hereV (3) n s ll = false := by simp [hereV, Ex.here, eqE, eqE1, *]
  rw [V]
  clear V
  go_enter Tryd.func91, Tryd.ntmps91
  go_wp2
  go_ret
  exact ⟨rfl, unhide B0⟩
set_option maxHeartbeats 2000000 in
theorem here3_s (n : Int) (s : ByteArray) (ll : Nat) (h : s ≠ E0) (hs : s.size ≤ 1099511627776) (hl : ll ≤ 9223372036854775807) : HereG (3) 0 s ll := by
  intro b cap w
  have B0 := hide (below_new w (.cells #[.int .i64 3, .int .i64 0, .string s, .slice b ll cap] 26))
  obtain ⟨h1, h2⟩ := emp_E s h
  have V : hereV (3) 0 s ll = false := by simp [hereV, Ex.here, eqE, eqE1, *]
  rw [V]
  clear V
  go_enter Tryd.func91, Tryd.ntmps91
  go_wp2
  go_ret
  exact ⟨rfl, unhide B0⟩
set_option maxHeartbeats 2000000 in
theorem here3_0 (n : Int) (s : ByteArray) (ll : Nat) (hs : s.size ≤ 1099511627776) (hl : ll ≤ 9223372036854775807) : HereG (3) 0 ⟨#[]⟩ ll := by
  intro b cap w
  have B0 := hide (below_new w (.cells #[.int .i64 3, .int .i64 0, .string ⟨#[]⟩, .slice b ll cap] 26))
  have V : hereV (3) 0 ⟨#[]⟩ ll = (ll == 0) := by simp [hereV, Ex.here, eqE, eqE1, *]
  rw [V]
  clear V
  by_cases h0 : ll = 0
  · subst h0
    go_enter Tryd.func91, Tryd.ntmps91
    go_wp2
    go_ret
    exact ⟨rfl, unhide B0⟩
  · have h1 : (ll == 0) = false := beq_eq_false_iff_ne.2 h0
    have h2 : ((ll : Int) == 0) = false := beq_eq_false_iff_ne.2 (by omega)
    rw [h1]
    clear h1 h0
    go_enter Tryd.func91, Tryd.ntmps91
    go_wp2
    go_ret
    exact ⟨rfl, unhide B0⟩
set_option maxHeartbeats 2000000 in
theorem here4_n (n : Int) (s : ByteArray) (ll : Nat) (h : n ≠ 0) (hs : s.size ≤ 1099511627776) (hl : ll ≤ 9223372036854775807) : HereG (4) n s ll := by
  intro b cap w
  have B0 := hide (below_new w (.cells #[.int .i64 4, .int .i64 n, .string s, .slice b ll cap] 26))
  have V : hereV (4) n s ll = false := by simp [hereV, Ex.here, eqE, eqE1, *]
  rw [V]
  clear V
  go_enter Tryd.func91, Tryd.ntmps91
  go_wp2
  go_ret
  exact ⟨rfl, unhide B0⟩
set_option maxHeartbeats 2000000 in
theorem here4_s (n : Int) (s : ByteArray) (ll : Nat) (h : s ≠ E0) (hs : s.size ≤ 1099511627776) (hl : ll ≤ 9223372036854775807) : HereG (4) 0 s ll := by
  intro b cap w
  have B0 := hide (below_new w (.cells #[.int .i64 4, .int .i64 0, .string s, .slice b ll cap] 26))
  obtain ⟨h1, h2⟩ := emp_E s h
  have V : hereV (4) 0 s ll = false := by simp [hereV, Ex.here, eqE, eqE1, *]
  rw [V]
  clear V
  go_enter Tryd.func91, Tryd.ntmps91
  go_wp2
  go_ret
  exact ⟨rfl, unhide B0⟩
set_option maxHeartbeats 2000000 in
theorem here4_0 (n : Int) (s : ByteArray) (ll : Nat) (hs : s.size ≤ 1099511627776) (hl : ll ≤ 9223372036854775807) : HereG (4) 0 ⟨#[]⟩ ll := by
  intro b cap w
  have B0 := hide (below_new w (.cells #[.int .i64 4, .int .i64 0, .string ⟨#[]⟩, .slice b ll cap] 26))
  have V : hereV (4) 0 ⟨#[]⟩ ll = (ll == 1) := by simp [hereV, Ex.here, eqE, eqE1, *]
  rw [V]
  clear V
  by_cases h0 : ll = 1
  · subst h0
    go_enter Tryd.func91, Tryd.ntmps91
    go_wp2
    go_ret
    exact ⟨rfl, unhide B0⟩
  · have h1 : (ll == 1) = false := beq_eq_false_iff_ne.2 h0
    have h2 : ((ll : Int) == 1) = false := beq_eq_false_iff_ne.2 (by omega)
    rw [h1]
    clear h1 h0
    go_enter Tryd.func91, Tryd.ntmps91
    go_wp2
    go_ret
    exact ⟨rfl, unhide B0⟩
set_option maxHeartbeats 2000000 in
theorem here5_n (n : Int) (s : ByteArray) (ll : Nat) (h : n ≠ 0) (hs : s.size ≤ 1099511627776) (hl : ll ≤ 9223372036854775807) : HereG (5) n s ll := by
  intro b cap w
  have B0 := hide (below_new w (.cells #[.int .i64 5, .int .i64 n, .string s, .slice b ll cap] 26))
  have V : hereV (5) n s ll = false := by simp [hereV, Ex.here, eqE, eqE1, *]
  rw [V]
  clear V
  go_enter Tryd.func91, Tryd.ntmps91
  go_wp2
  go_ret
  exact ⟨rfl, unhide B0⟩
set_option maxHeartbeats 2000000 in
theorem here5_s (n : Int) (s : ByteArray) (ll : Nat) (h : s ≠ E0) (hs : s.size ≤ 1099511627776) (hl : ll ≤ 9223372036854775807) : HereG (5) 0 s ll := by
  intro b cap w
  have B0 := hide (below_new w (.cells #[.int .i64 5, .int .i64 0, .string s, .slice b ll cap] 26))
  obtain ⟨h1, h2⟩ := emp_E s h
  have V : hereV (5) 0 s ll = false := by simp [hereV, Ex.here, eqE, eqE1, *]
  rw [V]
  clear V
  go_enter Tryd.func91, Tryd.ntmps91
  go_wp2
  go_ret
  exact ⟨rfl, unhide B0⟩
set_option maxHeartbeats 2000000 in
theorem here5_0 (n : Int) (s : ByteArray) (ll : Nat) (hs : s.size ≤ 1099511627776) (hl : ll ≤ 9223372036854775807) : HereG (5) 0 ⟨#[]⟩ ll := by
  intro b cap w
  have B0 := hide (below_new w (.cells #[.int .i64 5, .int .i64 0, .string ⟨#[]⟩, .slice b ll cap] 26))
  have V : hereV (5) 0 ⟨#[]⟩ ll = (ll == 2) := by simp [hereV, Ex.here, eqE, eqE1, *]
  rw [V]
  clear V
  by_cases h0 : ll = 2
  · subst h0
    go_enter Tryd.func91, Tryd.ntmps91
    go_wp2
    go_ret
    exact ⟨rfl, unhide B0⟩
  · have h1 : (ll == 2) = false := beq_eq_false_iff_ne.2 h0
    have h2 : ((ll : Int) == 2) = false := beq_eq_false_iff_ne.2 (by omega)
    rw [h1]
    clear h1 h0
    go_enter Tryd.func91, Tryd.ntmps91
    go_wp2
    go_ret
    exact ⟨rfl, unhide B0⟩
set_option maxHeartbeats 2000000 in
theorem here6_n (n : Int) (s : ByteArray) (ll : Nat) (h : n ≠ 0) (hs : s.size ≤ 1099511627776) (hl : ll ≤ 9223372036854775807) : HereG (6) n s ll := by
  intro b cap w
  have B0 := hide (below_new w (.cells #[.int .i64 6, .int .i64 n, .string s, .slice b ll cap] 26))
  have V : hereV (6) n s ll = false := by simp [hereV, Ex.here, eqE, eqE1, *]
  rw [V]
  clear V
  go_enter Tryd.func91, Tryd.ntmps91
  go_wp2
  go_ret
  exact ⟨rfl, unhide B0⟩
set_option maxHeartbeats 2000000 in
theorem here6_s (n : Int) (s : ByteArray) (ll : Nat) (h : s ≠ E0) (hs : s.size ≤ 1099511627776) (hl : ll ≤ 9223372036854775807) : HereG (6) 0 s ll := by
  intro b cap w
  have B0 := hide (below_new w (.cells #[.int .i64 6, .int .i64 0, .string s, .slice b ll cap] 26))
  obtain ⟨h1, h2⟩ := emp_E s h
  have V : hereV (6) 0 s ll = false := by simp [hereV, Ex.here, eqE, eqE1, *]
  rw [V]
  clear V
  go_enter Tryd.func91, Tryd.ntmps91
  go_wp2
  go_ret
  exact ⟨rfl, unhide B0⟩
set_option maxHeartbeats 2000000 in
theorem here6_0 (n : Int) (s : ByteArray) (ll : Nat) (hs : s.size ≤ 1099511627776) (hl : ll ≤ 9223372036854775807) : HereG (6) 0 ⟨#[]⟩ ll := by
  intro b cap w
  have B0 := hide (below_new w (.cells #[.int .i64 6, .int .i64 0, .string ⟨#[]⟩, .slice b ll cap] 26))
  have V : hereV (6) 0 ⟨#[]⟩ ll = (ll == 2) := by simp [hereV, Ex.here, eqE, eqE1, *]
  rw [V]
  clear V
  by_cases h0 : ll = 2
  · subst h0
    go_enter Tryd.func91, Tryd.ntmps91
    go_wp2
    go_ret
    exact ⟨rfl, unhide B0⟩
  · have h1 : (ll == 2) = false := beq_eq_false_iff_ne.2 h0
    have h2 : ((ll : Int) == 2) = false := beq_eq_false_iff_ne.2 (by omega)
    rw [h1]
    clear h1 h0
    go_enter Tryd.func91, Tryd.ntmps91
    go_wp2
    go_ret
    exact ⟨rfl, unhide B0⟩
set_option maxHeartbeats 2000000 in
theorem here7_n (n : Int) (s : ByteArray) (ll : Nat) (h : n ≠ 0) (hs : s.size ≤ 1099511627776) (hl : ll ≤ 9223372036854775807) : HereG (7) n s ll := by
  intro b cap w
  have B0 := hide (below_new w (.cells #[.int .i64 7, .int .i64 n, .string s, .slice b ll cap] 26))
  have V : hereV (7) n s ll = false := by simp [hereV, Ex.here, eqE, eqE1, *]
  rw [V]
  clear V
  go_enter Tryd.func91, Tryd.ntmps91
  go_wp2
  go_ret
  exact ⟨rfl, unhide B0⟩
set_option maxHeartbeats 2000000 in
theorem here7_s (n : Int) (s : ByteArray) (ll : Nat) (h : s ≠ E0) (hs : s.size ≤ 1099511627776) (hl : ll ≤ 9223372036854775807) : HereG (7) 0 s ll := by
  intro b cap w
  have B0 := hide (below_new w (.cells #[.int .i64 7, .int .i64 0, .string s, .slice b ll cap] 26))
  obtain ⟨h1, h2⟩ := emp_E s h
  have V : hereV (7) 0 s ll = false := by simp [hereV, Ex.here, eqE, eqE1, *]
  rw [V]
  clear V
  go_enter Tryd.func91, Tryd.ntmps91
  go_wp2
  go_ret
  exact ⟨rfl, unhide B0⟩
set_option maxHeartbeats 2000000 in
theorem here7_0 (n : Int) (s : ByteArray) (ll : Nat) (hs : s.size ≤ 1099511627776) (hl : ll ≤ 9223372036854775807) : HereG (7) 0 ⟨#[]⟩ ll := by
  intro b cap w
  have B0 := hide (below_new w (.cells #[.int .i64 7, .int .i64 0, .string ⟨#[]⟩, .slice b ll cap] 26))
  have V : hereV (7) 0 ⟨#[]⟩ ll = (ll == 2) := by simp [hereV, Ex.here, eqE, eqE1, *]
  rw [V]
  clear V
  by_cases h0 : ll = 2
  · subst h0
    go_enter Tryd.func91, Tryd.ntmps91
    go_wp2
    go_ret
    exact ⟨rfl, unhide B0⟩
  · have h1 : (ll == 2) = false := beq_eq_false_iff_ne.2 h0
    have h2 : ((ll : Int) == 2) = false := beq_eq_false_iff_ne.2 (by omega)
    rw [h1]
    clear h1 h0
    go_enter Tryd.func91, Tryd.ntmps91
    go_wp2
    go_ret
    exact ⟨rfl, unhide B0⟩
set_option maxHeartbeats 2000000 in
theorem here8_n (n : Int) (s : ByteArray) (ll : Nat) (h : n ≠ 0) (hs : s.size ≤ 1099511627776) (hl : ll ≤ 9223372036854775807) : HereG (8) n s ll := by
  intro b cap w
  have B0 := hide (below_new w (.cells #[.int .i64 8, .int .i64 n, .string s, .slice b ll cap] 26))
  have V : hereV (8) n s ll = false := by simp [hereV, Ex.here, eqE, eqE1, *]
  rw [V]
  clear V
  go_enter Tryd.func91, Tryd.ntmps91
  go_wp2
  go_ret
  exact ⟨rfl, unhide B0⟩
set_option maxHeartbeats 2000000 in
theorem here8_s (n : Int) (s : ByteArray) (ll : Nat) (h : s ≠ E0) (hs : s.size ≤ 1099511627776) (hl : ll ≤ 9223372036854775807) : HereG (8) 0 s ll := by
  intro b cap w
  have B0 := hide (below_new w (.cells #[.int .i64 8, .int .i64 0, .string s, .slice b ll cap] 26))
  obtain ⟨h1, h2⟩ := emp_E s h
  have V : hereV (8) 0 s ll = false := by simp [hereV, Ex.here, eqE, eqE1, *]
  rw [V]
  clear V
  go_enter Tryd.func91, Tryd.ntmps91
  go_wp2
  go_ret
  exact ⟨rfl, unhide B0⟩
set_option maxHeartbeats 2000000 in
theorem here8_0 (n : Int) (s : ByteArray) (ll : Nat) (hs : s.size ≤ 1099511627776) (hl : ll ≤ 9223372036854775807) : HereG (8) 0 ⟨#[]⟩ ll := by
  intro b cap w
  have B0 := hide (below_new w (.cells #[.int .i64 8, .int .i64 0, .string ⟨#[]⟩, .slice b ll cap] 26))
  have V : hereV (8) 0 ⟨#[]⟩ ll = (ll == 2) := by simp [hereV, Ex.here, eqE, eqE1, *]
  rw [V]
  clear V
  by_cases h0 : ll = 2
  · subst h0
    go_enter Tryd.func91, Tryd.ntmps91
    go_wp2
    go_ret
    exact ⟨rfl, unhide B0⟩
  · have h1 : (ll == 2) = false := beq_eq_false_iff_ne.2 h0
    have h2 : ((ll : Int) == 2) = false := beq_eq_false_iff_ne.2 (by omega)
    rw [h1]
    clear h1 h0
    go_enter Tryd.func91, Tryd.ntmps91
    go_wp2
    go_ret
    exact ⟨rfl, unhide B0⟩
set_option maxHeartbeats 2000000 in
theorem here9_n (n : Int) (s : ByteArray) (ll : Nat) (h : n ≠ 0) (hs : s.size ≤ 1099511627776) (hl : ll ≤ 9223372036854775807) : HereG (9) n s ll := by
  intro b cap w
  have B0 := hide (below_new w (.cells #[.int .i64 9, .int .i64 n, .string s, .slice b ll cap] 26))
  have V : hereV (9) n s ll = false := by simp [hereV, Ex.here, eqE, eqE1, *]
  rw [V]
  clear V
  go_enter Tryd.func91, Tryd.ntmps91
  go_wp2
  go_ret
  exact ⟨rfl, unhide B0⟩
set_option maxHeartbeats 2000000 in
theorem here9_s (n : Int) (s : ByteArray) (ll : Nat) (h : s ≠ E0) (hs : s.size ≤ 1099511627776) (hl : ll ≤ 9223372036854775807) : HereG (9) 0 s ll := by
  intro b cap w
  have B0 := hide (below_new w (.cells #[.int .i64 9, .int .i64 0, .string s, .slice b ll cap] 26))
  obtain ⟨h1, h2⟩ := emp_E s h
  have V : hereV (9) 0 s ll = false := by simp [hereV, Ex.here, eqE, eqE1, *]
  rw [V]
  clear V
  go_enter Tryd.func91, Tryd.ntmps91
  go_wp2
  go_ret
  exact ⟨rfl, unhide B0⟩
set_option maxHeartbeats 2000000 in
theorem here9_0 (n : Int) (s : ByteArray) (ll : Nat) (hs : s.size ≤ 1099511627776) (hl : ll ≤ 9223372036854775807) : HereG (9) 0 ⟨#[]⟩ ll := by
  intro b cap w
  have B0 := hide (below_new w (.cells #[.int .i64 9, .int .i64 0, .string ⟨#[]⟩, .slice b ll cap] 26))
  have V : hereV (9) 0 ⟨#[]⟩ ll = (ll == 2) := by simp [hereV, Ex.here, eqE, eqE1, *]
  rw [V]
  clear V
  by_cases h0 : ll = 2
  · subst h0
    go_enter Tryd.func91, Tryd.ntmps91
    go_wp2
    go_ret
    exact ⟨rfl, unhide B0⟩
  · have h1 : (ll == 2) = false := beq_eq_false_iff_ne.2 h0
    have h2 : ((ll : Int) == 2) = false := beq_eq_false_iff_ne.2 (by omega)
    rw [h1]
    clear h1 h0
    go_enter Tryd.func91, Tryd.ntmps91
    go_wp2
    go_ret
    exact ⟨rfl, unhide B0⟩
set_option maxHeartbeats 2000000 in
theorem here10_n (n : Int) (s : ByteArray) (ll : Nat) (h : n ≠ 0) (hs : s.size ≤ 1099511627776) (hl : ll ≤ 9223372036854775807) : HereG (10) n s ll := by
  intro b cap w
  have B0 := hide (below_new w (.cells #[.int .i64 10, .int .i64 n, .string s, .slice b ll cap] 26))
  have V : hereV (10) n s ll = false := by simp [hereV, Ex.here, eqE, eqE1, *]
  rw [V]
  clear V
  go_enter Tryd.func91, Tryd.ntmps91
  go_wp2
  go_ret
  exact ⟨rfl, unhide B0⟩
set_option maxHeartbeats 2000000 in
theorem here10_s (n : Int) (s : ByteArray) (ll : Nat) (h : s ≠ E0) (hs : s.size ≤ 1099511627776) (hl : ll ≤ 9223372036854775807) : HereG (10) 0 s ll := by
  intro b cap w
  have B0 := hide (below_new w (.cells #[.int .i64 10, .int .i64 0, .string s, .slice b ll cap] 26))
  obtain ⟨h1, h2⟩ := emp_E s h
  have V : hereV (10) 0 s ll = false := by simp [hereV, Ex.here, eqE, eqE1, *]
  rw [V]
  clear V
  go_enter Tryd.func91, Tryd.ntmps91
  go_wp2
  go_ret
  exact ⟨rfl, unhide B0⟩
set_option maxHeartbeats 2000000 in
theorem here10_0 (n : Int) (s : ByteArray) (ll : Nat) (hs : s.size ≤ 1099511627776) (hl : ll ≤ 9223372036854775807) : HereG (10) 0 ⟨#[]⟩ ll := by
  intro b cap w
  have B0 := hide (below_new w (.cells #[.int .i64 10, .int .i64 0, .string ⟨#[]⟩, .slice b ll cap] 26))
  have V : hereV (10) 0 ⟨#[]⟩ ll = (ll == 2) := by simp [hereV, Ex.here, eqE, eqE1, *]
  rw [V]
  clear V
  by_cases h0 : ll = 2
  · subst h0
    go_enter Tryd.func91, Tryd.ntmps91
    go_wp2
    go_ret
    exact ⟨rfl, unhide B0⟩
  · have h1 : (ll == 2) = false := beq_eq_false_iff_ne.2 h0
    have h2 : ((ll : Int) == 2) = false := beq_eq_false_iff_ne.2 (by omega)
    rw [h1]
    clear h1 h0
    go_enter Tryd.func91, Tryd.ntmps91
    go_wp2
    go_ret
    exact ⟨rfl, unhide B0⟩
set_option maxHeartbeats 2000000 in
theorem here_n (n : Int) (s : ByteArray) (ll : Nat) (k : Int) (h1 : k ≠ 1) (h2 : k ≠ 2) (h3 : k ≠ 3) (h4 : k ≠ 4) (h5 : k ≠ 5) (h6 : k ≠ 6) (h7 : k ≠ 7) (h8 : k ≠ 8) (h9 : k ≠ 9) (h10 : k ≠ 10) (h11 : k ≠ 11) (h12 : k ≠ 12) (h : n ≠ 0) (hs : s.size ≤ 1099511627776) (hl : ll ≤ 9223372036854775807) : HereG k n s ll := by
  intro b cap w
  have B0 := hide (below_new w (.cells #[.int .i64 k, .int .i64 n, .string s, .slice b ll cap] 26))
  have g1 : (k == 1) = false := beq_eq_false_iff_ne.2 h1
  have g2 : (k == 2) = false := beq_eq_false_iff_ne.2 h2
  have g3 : (k == 3) = false := beq_eq_false_iff_ne.2 h3
  have g4 : (k == 4) = false := beq_eq_false_iff_ne.2 h4
  have g5 : (k == 5) = false := beq_eq_false_iff_ne.2 h5
  have g6 : (k == 6) = false := beq_eq_false_iff_ne.2 h6
  have g7 : (k == 7) = false := beq_eq_false_iff_ne.2 h7
  have g8 : (k == 8) = false := beq_eq_false_iff_ne.2 h8
  have g9 : (k == 9) = false := beq_eq_false_iff_ne.2 h9
  have g10 : (k == 10) = false := beq_eq_false_iff_ne.2 h10
  have g11 : (k == 11) = false := beq_eq_false_iff_ne.2 h11
  have g12 : (k == 12) = false := beq_eq_false_iff_ne.2 h12
  have m1 : (k != 1) = true := by simp [h1]
  have m2 : (k != 2) = true := by simp [h2]
  have m11 : (k != 11) = true := by simp [h11]
  have m12 : (k != 12) = true := by simp [h12]
  have V : hereV k n s ll = false := by unfold hereV Ex.here; simp only; split; rfl; repeat (first | rfl | rw [if_neg (by omega)])
  rw [V]
  clear V
  go_enter Tryd.func91, Tryd.ntmps91
  go_wp2
  go_ret
  exact ⟨rfl, unhide B0⟩
set_option maxHeartbeats 2000000 in
theorem here_s (n : Int) (s : ByteArray) (ll : Nat) (k : Int) (h1 : k ≠ 1) (h2 : k ≠ 2) (h3 : k ≠ 3) (h4 : k ≠ 4) (h5 : k ≠ 5) (h6 : k ≠ 6) (h7 : k ≠ 7) (h8 : k ≠ 8) (h9 : k ≠ 9) (h10 : k ≠ 10) (h11 : k ≠ 11) (h12 : k ≠ 12) (h : s ≠ E0) (hs : s.size ≤ 1099511627776) (hl : ll ≤ 9223372036854775807) : HereG k 0 s ll := by
  intro b cap w
  have B0 := hide (below_new w (.cells #[.int .i64 k, .int .i64 0, .string s, .slice b ll cap] 26))
  have g1 : (k == 1) = false := beq_eq_false_iff_ne.2 h1
  have g2 : (k == 2) = false := beq_eq_false_iff_ne.2 h2
  have g3 : (k == 3) = false := beq_eq_false_iff_ne.2 h3
  have g4 : (k == 4) = false := beq_eq_false_iff_ne.2 h4
  have g5 : (k == 5) = false := beq_eq_false_iff_ne.2 h5
  have g6 : (k == 6) = false := beq_eq_false_iff_ne.2 h6
  have g7 : (k == 7) = false := beq_eq_false_iff_ne.2 h7
  have g8 : (k == 8) = false := beq_eq_false_iff_ne.2 h8
  have g9 : (k == 9) = false := beq_eq_false_iff_ne.2 h9
  have g10 : (k == 10) = false := beq_eq_false_iff_ne.2 h10
  have g11 : (k == 11) = false := beq_eq_false_iff_ne.2 h11
  have g12 : (k == 12) = false := beq_eq_false_iff_ne.2 h12
  have m1 : (k != 1) = true := by simp [h1]
  have m2 : (k != 2) = true := by simp [h2]
  have m11 : (k != 11) = true := by simp [h11]
  have m12 : (k != 12) = true := by simp [h12]
  obtain ⟨hh1, hh2⟩ := emp_E s h
  have V : hereV k 0 s ll = false := by unfold hereV Ex.here; simp only; split; rfl; repeat (first | rfl | rw [if_neg (by omega)])
  rw [V]
  clear V
  go_enter Tryd.func91, Tryd.ntmps91
  go_wp2
  go_ret
  exact ⟨rfl, unhide B0⟩
set_option maxHeartbeats 2000000 in
theorem here_0 (n : Int) (s : ByteArray) (ll : Nat) (k : Int) (h1 : k ≠ 1) (h2 : k ≠ 2) (h3 : k ≠ 3) (h4 : k ≠ 4) (h5 : k ≠ 5) (h6 : k ≠ 6) (h7 : k ≠ 7) (h8 : k ≠ 8) (h9 : k ≠ 9) (h10 : k ≠ 10) (h11 : k ≠ 11) (h12 : k ≠ 12) (hs : s.size ≤ 1099511627776) (hl : ll ≤ 9223372036854775807) : HereG k 0 ⟨#[]⟩ ll := by
  intro b cap w
  have B0 := hide (below_new w (.cells #[.int .i64 k, .int .i64 0, .string ⟨#[]⟩, .slice b ll cap] 26))
  have g1 : (k == 1) = false := beq_eq_false_iff_ne.2 h1
  have g2 : (k == 2) = false := beq_eq_false_iff_ne.2 h2
  have g3 : (k == 3) = false := beq_eq_false_iff_ne.2 h3
  have g4 : (k == 4) = false := beq_eq_false_iff_ne.2 h4
  have g5 : (k == 5) = false := beq_eq_false_iff_ne.2 h5
  have g6 : (k == 6) = false := beq_eq_false_iff_ne.2 h6
  have g7 : (k == 7) = false := beq_eq_false_iff_ne.2 h7
  have g8 : (k == 8) = false := beq_eq_false_iff_ne.2 h8
  have g9 : (k == 9) = false := beq_eq_false_iff_ne.2 h9
  have g10 : (k == 10) = false := beq_eq_false_iff_ne.2 h10
  have g11 : (k == 11) = false := beq_eq_false_iff_ne.2 h11
  have g12 : (k == 12) = false := beq_eq_false_iff_ne.2 h12
  have m1 : (k != 1) = true := by simp [h1]
  have m2 : (k != 2) = true := by simp [h2]
  have m11 : (k != 11) = true := by simp [h11]
  have m12 : (k != 12) = true := by simp [h12]
  have V : hereV k 0 ⟨#[]⟩ ll = false := by unfold hereV Ex.here; simp only; split; rfl; repeat (first | rfl | rw [if_neg (by omega)])
  rw [V]
  clear V
  go_enter Tryd.func91, Tryd.ntmps91
  go_wp2
  go_ret
  exact ⟨rfl, unhide B0⟩
theorem hereS_any (e : Ex) (b : Option Addr) (cap : Nat) (w : World) (hs : e.s.size ≤ 1099511627776) (hl : e.l.length ≤ 9223372036854775807) : Calls Tryd.prog 91 #[.agg (e.cs b cap)] w fun r w' => r = .returned (.bool e.here) ∧ Below w.heap.size w w' := by
  rw [here_is]
  unfold Ex.cs
  obtain ⟨k, n, s, l⟩ := e
  simp only at hs hl ⊢
  generalize l.length = ll at *
  revert b cap w
  show HereG k n s ll
  by_cases c1 : k = 1
  · subst c1
    by_cases h : s = E0
    · subst h; exact here1_0 n E0 ll hs hl
    · exact here1_s n s ll h hs hl
  by_cases c11 : k = 11
  · subst c11
    by_cases h : s = E0
    · subst h; exact here11_0 n E0 ll hs hl
    · exact here11_s n s ll h hs hl
  by_cases c2 : k = 2
  · subst c2
    by_cases h : n = 0
    · subst h; exact here2_0 0 s ll hs hl
    · exact here2_n n s ll h hs hl
  by_cases c12 : k = 12
  · subst c12
    by_cases h : n = 0
    · subst h; exact here12_0 0 s ll hs hl
    · exact here12_n n s ll h hs hl
  by_cases c3 : k = 3
  · subst c3
    by_cases h : n = 0
    · subst h
      by_cases h : s = E0
      · subst h; exact here3_0 0 E0 ll hs hl
      · exact here3_s 0 s ll h hs hl
    · exact here3_n n s ll h hs hl
  by_cases c4 : k = 4
  · subst c4
    by_cases h : n = 0
    · subst h
      by_cases h : s = E0
      · subst h; exact here4_0 0 E0 ll hs hl
      · exact here4_s 0 s ll h hs hl
    · exact here4_n n s ll h hs hl
  by_cases c5 : k = 5
  · subst c5
    by_cases h : n = 0
    · subst h
      by_cases h : s = E0
      · subst h; exact here5_0 0 E0 ll hs hl
      · exact here5_s 0 s ll h hs hl
    · exact here5_n n s ll h hs hl
  by_cases c6 : k = 6
  · subst c6
    by_cases h : n = 0
    · subst h
      by_cases h : s = E0
      · subst h; exact here6_0 0 E0 ll hs hl
      · exact here6_s 0 s ll h hs hl
    · exact here6_n n s ll h hs hl
  by_cases c7 : k = 7
  · subst c7
    by_cases h : n = 0
    · subst h
      by_cases h : s = E0
      · subst h; exact here7_0 0 E0 ll hs hl
      · exact here7_s 0 s ll h hs hl
    · exact here7_n n s ll h hs hl
  by_cases c8 : k = 8
  · subst c8
    by_cases h : n = 0
    · subst h
      by_cases h : s = E0
      · subst h; exact here8_0 0 E0 ll hs hl
      · exact here8_s 0 s ll h hs hl
    · exact here8_n n s ll h hs hl
  by_cases c9 : k = 9
  · subst c9
    by_cases h : n = 0
    · subst h
      by_cases h : s = E0
      · subst h; exact here9_0 0 E0 ll hs hl
      · exact here9_s 0 s ll h hs hl
    · exact here9_n n s ll h hs hl
  by_cases c10 : k = 10
  · subst c10
    by_cases h : n = 0
    · subst h
      by_cases h : s = E0
      · subst h; exact here10_0 0 E0 ll hs hl
      · exact here10_s 0 s ll h hs hl
    · exact here10_n n s ll h hs hl
  by_cases h : n = 0
  · subst h
    by_cases h : s = E0
    · subst h; exact here_0 0 E0 ll k c1 c2 c3 c4 c5 c6 c7 c8 c9 c10 c11 c12 hs hl
    · exact here_s 0 s ll k c1 c2 c3 c4 c5 c6 c7 c8 c9 c10 c11 c12 h hs hl
  · exact here_n n s ll k c1 c2 c3 c4 c5 c6 c7 c8 c9 c10 c11 c12 h hs hl
end Go.Proofs.YtkolflcjkofleaaDoor

namespace Go.Proofs.YtkolflcjkofleaaDoor
open Go.ChangeShapes Go.WideShapes Go.ChangeAt Go.RowKit
set_option linter.unusedVariables false
set_option maxRecDepth 8000

theorem box4 (w : World) (e : Ex) (b : Option Addr) (cap : Nat) (ty : TypeId) : (w.alloc (.cells (e.cs b cap) ty)).cell? ⟨w.heap.size, 0, none⟩ = some (.int .i64 e.k) ∧ (w.alloc (.cells (e.cs b cap) ty)).cell? ⟨w.heap.size, 1, none⟩ = some (.int .i64 e.n) ∧ (w.alloc (.cells (e.cs b cap) ty)).cell? ⟨w.heap.size, 2, none⟩ = some (.string e.s) ∧ (w.alloc (.cells (e.cs b cap) ty)).cell? ⟨w.heap.size, 3, none⟩ = some (.slice b e.l.length cap) := by
  have h : (w.alloc (.cells (e.cs b cap) ty)).heap[w.heap.size]? = some (.cells (e.cs b cap) ty (0, 0)) := Array.getElem?_push_size
  exact ⟨Lib.cell_of_heap h 0, Lib.cell_of_heap h 1, Lib.cell_of_heap h 2, Lib.cell_of_heap h 3⟩
theorem all_take (l : List Ex) (f : Ex → Bool) (k : Nat) (h : k < l.length) : (l.take (k + 1)).all f = ((l.take k).all f && f (xAt l k)) := by
  rw [List.take_succ_eq_append_getElem h, List.all_append, xAt_get h]
  simp
theorem all_part {l : List Ex} {f : Ex → Bool} {k : Nat} (h : k < l.length) (hf : f (xAt l k) = false) : l.all f = false := by
  rw [List.all_eq_false]
  exact ⟨_, xAt_mem h, by rw [hf]; decide⟩
theorem okF_s (d : Nat) (p : Bool) (e : Ex) : okF (d + 1) p e = (e.here && (!(p && (e.k == 11 || e.k == 12)) && e.l.all (okF d p))) := rfl
set_option maxHeartbeats 2000000 in
theorem okS_all : ∀ d : Nat, d ≤ 6 → ∀ (e : Ex) (b : Option Addr) (cap : Nat) (p : Bool) (w : World), RdX w 0 e b → e.sz ≤ 1048576 → Calls Tryd.prog 77 #[.agg (e.cs b cap), .int .i64 (7 - (d : Int)), .bool p] w fun r w' => r = .returned (.bool (okF d p e)) ∧ Below w.heap.size w w' := by
  intro d
  induction d with
  | zero =>
    intro _ e b cap p w hr hz
    have B0 := hide (below_new w (.cells (e.cs b cap) 26))
    rw [show okF 0 p e = false from rfl]
    unfold Ex.cs at B0 ⊢
    go_enter Tryd.func77, Tryd.ntmps77
    go_wp2
    go_ret
    exact ⟨rfl, unhide B0⟩
  | succ d ih =>
    intro hd e b cap p w hr hz
    have hsz := sz_is e
    rw [okF_s]
    have hbW := below_new w (.cells (e.cs b cap) 26)
    have B0 := hide hbW
    have HH := hereS_any e b cap (w.alloc (.cells (e.cs b cap) 26)) (by omega) (by omega)
    obtain ⟨x0, x1, x2, x3⟩ := box4 w e b cap 26
    have xl : w.heap.size < (w.alloc (.cells (e.cs b cap) 26)).heap.size := by simp
    have hrW := hr.later hbW
    rw [RdX_eq] at hrW
    have hp : ∀ i, i < e.l.length → (xAt e.l i).sz ≤ 1048576 := fun i hi => by have := sz_part hi; omega
    have hm : e.l.length ≤ 1048576 := by omega
    have ihd := ih (by omega)
    have hD : (7 : Int) - ((d + 1 : Nat) : Int) + 1 = 7 - (d : Int) := by omega
    have hD6 : ¬ (6 < (7 : Int) - ((d + 1 : Nat) : Int)) := by omega
    have hDb : -100 ≤ (7 : Int) - ((d + 1 : Nat) : Int) ∧ (7 : Int) - ((d + 1 : Nat) : Int) ≤ 100 := by omega
    generalize hDD : (7 : Int) - ((d + 1 : Nat) : Int) = DD at *
    clear hr hsz hz hbW ih hDD
    generalize e.here = hq at *
    unfold Ex.cs at B0 HH x0 x1 x2 x3 xl hrW ⊢
    generalize e.l = l at *
    generalize e.k = k at *
    generalize e.n = n at *
    generalize e.s = s at *
    obtain ⟨len, hl⟩ : ∃ len, l.length = len := ⟨_, rfl⟩
    rw [hl] at hm hp HH x0 x1 x2 x3 B0 xl hrW ⊢
    obtain ⟨W, hW⟩ : ∃ W, w.alloc (.cells #[.int .i64 k, .int .i64 n, .string s, .slice b len cap] 26) = W := ⟨_, rfl⟩
    rw [hW] at HH x0 x1 x2 x3 B0 xl hrW
    have HC := hide HH
    have E0 : ∀ y : Sub W.heap.size W, y.w.cell? ⟨w.heap.size, 0, none⟩ = _ := fun y => (y.h.cell (p := ⟨w.heap.size, _, none⟩) xl).trans x0
    have E3 : ∀ y : Sub W.heap.size W, y.w.cell? ⟨w.heap.size, 3, none⟩ = _ := fun y => (y.h.cell (p := ⟨w.heap.size, _, none⟩) xl).trans x3
    have ne := Sub.ne W.heap.size W
    have HZ := hide (Nat.le_refl W.heap.size)
    have HB := hide (fun y : Sub W.heap.size W => (unhide B0).trans (y.h.mono (unhide B0).size))
    clear HH xl
    obtain ⟨T, hT⟩ : ∃ T, (hq && (!(p && (k == 11 || k == 12)) && l.all (okF d p))) = T := ⟨_, rfl⟩
    have HT := hide hT
    rw [hT]
    clear hT
    go_enter Tryd.func77, Tryd.ntmps77
    go_wp2_with fail
    refine (Sub.call (x := ⟨W, Below.refl _ _⟩) (unhide HZ) (unhide HC)).mono ?_
    rintro r _ ⟨rfl, y, rfl⟩
    clear HC x0 x1 x2 x3
    cases hq with
    | false =>
      have EF := hide ((unhide HT).symm.trans (Bool.false_and _))
      go_wp2
      go_ret
      exact ⟨by rw [unhide EF]; rfl, unhide HB _⟩
    | true =>
      by_cases hx : (p && (k == 11 || k == 12)) = true
      · have EF := hide (show T = false by rw [← unhide HT, hx]; rfl)
        have hpp : p = true := by cases p with | true => rfl | false => simp at hx
        subst hpp
        by_cases h11 : k = 11
        · subst h11
          go_wp2
          go_ret
          exact ⟨by rw [unhide EF]; rfl, unhide HB _⟩
        · have h12 : k = 12 := by simpa [h11] using hx
          subst h12
          go_wp2
          go_ret
          exact ⟨by rw [unhide EF]; rfl, unhide HB _⟩
      · have hxf : (p && (k == 11 || k == 12)) = false := by simpa using hx
        rw [hxf] at HT
        have HT := hide (show l.all (okF d p) = T by rw [← unhide HT]; simp)
        clear hxf
        cases p with
        | false =>
          clear hx
          go_wp2
          go_loopw [7] (fun i wr => ∃ (j : Nat) (z : Sub W.heap.size W), j ≤ len ∧ i = .int .i64 j ∧ (l.take j).all (okF d false) = true ∧ wr = z.w) (fun i _ => len - (intOf i).toNat)
          case atStart => exact ⟨0, y, Nat.zero_le _, rfl, rfl, rfl⟩
          case round =>
            obtain ⟨j, z, hj, rfl, hdone, rfl⟩ := hrel
            have HD := hide hdone
            clear hdone
            by_cases hlt : j < len
            · rcases hrW with h0 | ⟨p1, po, hb1, _, hp1, hpc⟩
              · rw [h0] at hl; simp at hl; omega
              subst hb1
              obtain ⟨e0, e1, e2, pc, pp, e3, e4⟩ := hpc j (by omega)
              have d0 : ∀ y : Sub W.heap.size W, y.w.cell? ⟨p1, po + j * 4, none⟩ = _ := fun y => (y.h.cell (p := ⟨p1, _, none⟩) hp1).trans e0
              have d1 : ∀ y : Sub W.heap.size W, y.w.cell? ⟨p1, po + j * 4 + 1, none⟩ = _ := fun y => (y.h.cell (p := ⟨p1, _, none⟩) hp1).trans e1
              have d2 : ∀ y : Sub W.heap.size W, y.w.cell? ⟨p1, po + j * 4 + 2, none⟩ = _ := fun y => (y.h.cell (p := ⟨p1, _, none⟩) hp1).trans e2
              have d3 : ∀ y : Sub W.heap.size W, y.w.cell? ⟨p1, po + j * 4 + 3, none⟩ = _ := fun y => (y.h.cell (p := ⟨p1, _, none⟩) hp1).trans e3
              have HE := hide (fun y : Sub W.heap.size W => ihd (xAt l j) pc pp false y.w (e4.later y.h) (hp j hlt))
              have AT := hide (all_take l (okF d false) j (by omega))
              have AP := hide (fun h => all_part (f := okF d false) (show j < l.length by omega) h)
              clear e0 e1 e2 e3 e4 hpc ihd hp
              unfold Ex.cs at HE
              generalize okF d false (xAt l j) = q at *
              generalize (xAt l j).s = ss at *
              generalize (xAt l j).k = kk at *
              generalize (xAt l j).n = nn at *
              generalize (xAt l j).l.length = ll at *
              cases q with
              | false =>
                have EF := hide ((unhide HT).symm.trans (unhide AP rfl))
                go_wp2_with (go_at_call 77; refine (Sub.call (unhide HZ) (unhide HE _)).mono ?_; rintro r _ ⟨rfl, z2, rfl⟩)
                go_ret
                exact ⟨by rw [unhide EF]; rfl, unhide HB _⟩
              | true =>
                go_wp2_with (go_at_call 77; refine (Sub.call (unhide HZ) (unhide HE _)).mono ?_; rintro r _ ⟨rfl, z2, rfl⟩)
                go_roundw
                case rel => exact ⟨j + 1, z2, by omega, by go_num, by rw [unhide AT, unhide HD]; rfl, rfl⟩
                case measure => simp [intOf]; omega
            · obtain rfl : j = len := by omega
              have EF := hide ((unhide HT).symm.trans ((show l.all (okF d false) = (l.take j).all (okF d false) by rw [← hl, List.take_length]).trans (unhide HD)))
              go_wp2
              go_ret
              exact ⟨by rw [unhide EF]; rfl, unhide HB _⟩
        | true =>
          have h11 : (k == 11) = false := by simp at hx; simp [hx.1]
          have h12 : (k == 12) = false := by simp at hx; simp [hx.2]
          clear hx
          go_wp2
          go_loopw [7] (fun i wr => ∃ (j : Nat) (z : Sub W.heap.size W), j ≤ len ∧ i = .int .i64 j ∧ (l.take j).all (okF d true) = true ∧ wr = z.w) (fun i _ => len - (intOf i).toNat)
          case atStart => exact ⟨0, y, Nat.zero_le _, rfl, rfl, rfl⟩
          case round =>
            obtain ⟨j, z, hj, rfl, hdone, rfl⟩ := hrel
            have HD := hide hdone
            clear hdone
            by_cases hlt : j < len
            · rcases hrW with h0 | ⟨p1, po, hb1, _, hp1, hpc⟩
              · rw [h0] at hl; simp at hl; omega
              subst hb1
              obtain ⟨e0, e1, e2, pc, pp, e3, e4⟩ := hpc j (by omega)
              have d0 : ∀ y : Sub W.heap.size W, y.w.cell? ⟨p1, po + j * 4, none⟩ = _ := fun y => (y.h.cell (p := ⟨p1, _, none⟩) hp1).trans e0
              have d1 : ∀ y : Sub W.heap.size W, y.w.cell? ⟨p1, po + j * 4 + 1, none⟩ = _ := fun y => (y.h.cell (p := ⟨p1, _, none⟩) hp1).trans e1
              have d2 : ∀ y : Sub W.heap.size W, y.w.cell? ⟨p1, po + j * 4 + 2, none⟩ = _ := fun y => (y.h.cell (p := ⟨p1, _, none⟩) hp1).trans e2
              have d3 : ∀ y : Sub W.heap.size W, y.w.cell? ⟨p1, po + j * 4 + 3, none⟩ = _ := fun y => (y.h.cell (p := ⟨p1, _, none⟩) hp1).trans e3
              have HE := hide (fun y : Sub W.heap.size W => ihd (xAt l j) pc pp true y.w (e4.later y.h) (hp j hlt))
              have AT := hide (all_take l (okF d true) j (by omega))
              have AP := hide (fun h => all_part (f := okF d true) (show j < l.length by omega) h)
              clear e0 e1 e2 e3 e4 hpc ihd hp
              unfold Ex.cs at HE
              generalize okF d true (xAt l j) = q at *
              generalize (xAt l j).s = ss at *
              generalize (xAt l j).k = kk at *
              generalize (xAt l j).n = nn at *
              generalize (xAt l j).l.length = ll at *
              cases q with
              | false =>
                have EF := hide ((unhide HT).symm.trans (unhide AP rfl))
                go_wp2_with (go_at_call 77; refine (Sub.call (unhide HZ) (unhide HE _)).mono ?_; rintro r _ ⟨rfl, z2, rfl⟩)
                go_ret
                exact ⟨by rw [unhide EF]; rfl, unhide HB _⟩
              | true =>
                go_wp2_with (go_at_call 77; refine (Sub.call (unhide HZ) (unhide HE _)).mono ?_; rintro r _ ⟨rfl, z2, rfl⟩)
                go_roundw
                case rel => exact ⟨j + 1, z2, by omega, by go_num, by rw [unhide AT, unhide HD]; rfl, rfl⟩
                case measure => simp [intOf]; omega
            · obtain rfl : j = len := by omega
              have EF := hide ((unhide HT).symm.trans ((show l.all (okF d true) = (l.take j).all (okF d true) by rw [← hl, List.take_length]).trans (unhide HD)))
              go_wp2
              go_ret
              exact ⟨by rw [unhide EF]; rfl, unhide HB _⟩
set_option maxHeartbeats 1000000 in
theorem okS_any (e : Ex) (b : Option Addr) (cap : Nat) (w : World) (hr : RdX w 0 e b) (hz : e.sz ≤ 1048576) : Calls Tryd.prog 51 #[.agg (e.cs b cap)] w fun r w' => r = .returned (.bool (okF 6 false e)) ∧ Below w.heap.size w w' := by
  have B0 := below_new w (.cells (e.cs b cap) 26)
  have H := (okS_all 6 (by omega) e b cap false _ (hr.later B0) hz).mono (R' := fun r w' => r = .returned (.bool (okF 6 false e)) ∧ Below w.heap.size w w') (fun r w' h => ⟨h.1, B0.trans (h.2.mono B0.size)⟩)
  rw [show (7 : Int) - ((6 : Nat) : Int) = 1 by omega] at H
  have HH := hide H
  clear H hr B0
  unfold Ex.cs at HH ⊢
  generalize okF 6 false e = q at *
  generalize e.l.length = ll at *
  go_enter Tryd.func51, Tryd.ntmps51
  go_wp2_with (go_at_call 77; refine (unhide HH).mono ?_; rintro r w1 ⟨rfl, hb1⟩)
  go_ret
  exact ⟨rfl, hb1⟩
end Go.Proofs.YtkolflcjkofleaaDoor

namespace Go.Proofs.YtkolflcjkofleaaDoor
open Go.ChangeShapes Go.WideShapes Go.ChangeAt Go.RowKit
set_option linter.unusedVariables false
set_option maxRecDepth 8000
set_option linter.unusedSimpArgs false

theorem name_szF {s : ByteArray} (h : nameB s = true) : s.size ≤ 6 := by
  unfold nameB at h
  rw [Bool.and_eq_true] at h
  obtain ⟨c, r, _, _, _, hl⟩ := form_open h.1
  rw [← size_len]
  exact hl
theorem foldS_two {d : Nat} (k : Int) (hk : 5 ≤ k ∧ k ≤ 10) (a b : Ex) (iha : FoR a) (ihb : FoR b) (oa : okF (d + 1) false (foldX a) = true) (ob : okF (d + 1) false (foldX b) = true) : FoR ⟨k, 0, ⟨#[]⟩, [a, b]⟩ := by
  cases g6 : (k == 6) with
  | true =>
    cases f0 : ((foldX a).k == 1) with
    | false => exact foldS_sub0 k hk a b iha ihb oa ob f0 g6
    | true =>
      cases f1 : ((foldX b).k == 1) with
      | false => exact foldS_sub1 k hk a b iha ihb oa ob f0 f1 g6
      | true =>
        obtain ⟨m, hm⟩ := two11_some (a := (foldX a).n) (b := (foldX b).n) (k := k) (.inr (beq_iff_eq.1 g6))
        exact foldS_num k hk a b iha ihb oa ob f0 f1 m hm
  | false =>
    cases g5 : (k == 5) with
    | true =>
      cases f0 : ((foldX a).k == 1) with
      | false =>
        cases f1 : ((foldX b).k == 1) with
        | false => exact foldS_add0 k hk a b iha ihb oa ob f0 f1 g6 g5
        | true => exact foldS_add2 k hk a b iha ihb oa ob f0 f1 g6 g5
      | true =>
        cases f1 : ((foldX b).k == 1) with
        | false => exact foldS_add1 k hk a b iha ihb oa ob f0 f1 g6 g5
        | true =>
          obtain ⟨m, hm⟩ := two11_some (a := (foldX a).n) (b := (foldX b).n) (k := k) (.inl (beq_iff_eq.1 g5))
          exact foldS_num k hk a b iha ihb oa ob f0 f1 m hm
    | false =>
      cases f0 : ((foldX a).k == 1) with
      | false => exact foldS_mix0 k hk a b iha ihb oa ob f0 g6 g5
      | true =>
        cases f1 : ((foldX b).k == 1) with
        | false => exact foldS_mix1 k hk a b iha ihb oa ob f0 f1 g6 g5
        | true =>
          cases ht : two11 k (foldX a).n (foldX b).n with
          | some m => exact foldS_num k hk a b iha ihb oa ob f0 f1 m ht
          | none => exact foldS_none k hk a b iha ihb oa ob f0 f1 g6 g5 ht
theorem foldS_all : ∀ (d : Nat) (e : Ex), okF d false e = true → FoR e := by
  intro d
  induction d with
  | zero => intro e h; rw [okF] at h; cases h
  | succ d ih =>
    intro e h
    rcases ok_sev h with ⟨n, hn, rfl⟩ | ⟨s, hs, rfl⟩ | rfl | ⟨n, hn, rfl⟩ | ⟨s, hs, rfl⟩ | ⟨a, ha, rfl⟩ | ⟨k, a, b, hk, ha, hb, rfl⟩
    · exact foldS_leaf _ _ _ (by show 0 ≤ 1048576; omega)
    · exact foldS_leaf _ _ _ (by have := name_szF hs; omega)
    · exact foldS_leaf _ _ _ (by show 0 ≤ 1048576; omega)
    · exact foldS_leaf _ _ _ (by show 0 ≤ 1048576; omega)
    · exact foldS_leaf _ _ _ (by have := name_szF hs; omega)
    · have oa := fold_ok d a ha
      obtain ⟨c, rfl⟩ := ok_pos ha
      have hn : 0 ≤ (foldX a).n ∧ (foldX a).n ≤ 65535 ∨ (foldX a).k ≠ 1 := by
        by_cases h1 : (foldX a).k = 1
        · obtain ⟨m, hm, e⟩ := ok_k1 oa h1; rw [e]; exact .inl hm
        · exact .inr h1
      cases f0 : ((foldX a).k == 1) with
      | false => exact foldS_neg0 a (ih a ha) f0 hn
      | true => exact foldS_neg1 a (ih a ha) f0 hn
    · have oa := fold_ok d a ha
      have ob := fold_ok d b hb
      obtain ⟨c, rfl⟩ := ok_pos ha
      exact foldS_two k hk a b (ih a ha) (ih b hb) oa ob
/-- What Fold answers. -/
def foldA (e : Ex) : Ex := if okF 6 false e = true then foldX e else e
set_option maxHeartbeats 4000000 in
theorem foldA_yes (e : Ex) (b : Option Addr) (cap : Nat) (w : World) (hr : RdX w 0 e b) (hz : e.sz ≤ 1048576) (ho : okF 6 false e = true) : Calls Tryd.prog 16 #[.agg (e.cs b cap)] w (GiR (foldA e) (Up w) w) := by
  have EQ := hide (show foldA e = foldX e by unfold foldA; rw [if_pos ho])
  rw [unhide EQ]
  have X0 := hide (Bx.new w #[.int .i64 e.k, .int .i64 e.n, .string e.s, .slice b e.l.length cap])
  have OK := hide (okS_any e b cap _ (hr.later (unhide X0).bel) hz)
  rw [ho] at OK
  have CA := hide (fun wr (h : Below w.heap.size w wr) => foldS_all 6 e ho b cap wr (hr.later h))
  generalize hX : GiR _ (Up w) w = X
  have HX := hide hX
  unfold GiR at CA
  unfold Ex.cs at CA OK ⊢
  clear hX hr hz ho EQ
  go_enter Tryd.func16, Tryd.ntmps16
  go_wp2_with fail
  generalize (w.alloc (.cells #[.int .i64 e.k, .int .i64 e.n, .string e.s, .slice b e.l.length cap] 26)).alloc (.cells #[.int .i64 0, .int .i64 0, .string ⟨#[]⟩, .slice none 0 0] 26) = W at *
  refine (unhide OK).mono ?_
  rintro r w1 ⟨rfl, hb1⟩
  have X1 := hide ((unhide X0).later hb1)
  have C1 := hide (unhide CA w1 (unhide X1).bel)
  clear hb1 X0 OK CA
  go_wp2_with (refine wpList_load_row rfl 26 _ rfl w.heap.size rfl 26 #[.int .i64 e.k, .int .i64 e.n, .string e.s, .slice b e.l.length cap] (0, 0) _ ((unhide X1).box) Tryd.underlying26 rfl (by kernel_rfl) ?_)
  refine (unhide C1).mono ?_
  rintro r w2 ⟨c2, cp2, rfl, hx, hb2⟩
  have hz1 := (unhide X1).lt
  have X2 := hide ((unhide X1).later hb2)
  have A2 := hide (hx.mono (fun b h => up_ow (w := w) (b := b) (Nat.le_trans hz1 h)))
  clear hx hb2 X1 C1
  generalize foldX e = y at *
  go_wp2_with (refine wpList_store_row rfl 26 _ _ rfl (w.heap.size + 1) #[.int .i64 y.k, .int .i64 y.n, .string y.s, .slice c2 y.l.length cp2] rfl rfl 26 _ ((unhide X2).res) szE rfl (ex_one _ _ _ _ _ _) ?_)
  refine bodyPost_ret (results_cell_row (P := Tryd.prog) rfl _ _ (w.heap.size + 1) 26 #[.int .i64 y.k, .int .i64 y.n, .string y.s, .slice c2 y.l.length cp2] (0, 0) _ rfl (setRow_heap _ _ _ _ _ _ ((unhide X2).res)) Tryd.underlying26 rfl szE) rfl ?_
  rw [← unhide HX]
  exact (unhide X2).end (unhide A2) _
set_option maxHeartbeats 4000000 in
theorem foldA_no (e : Ex) (b : Option Addr) (cap : Nat) (w : World) (hr : RdX w 0 e b) (hz : e.sz ≤ 1048576) (ho : okF 6 false e = false) : Calls Tryd.prog 16 #[.agg (e.cs b cap)] w (GiR (foldA e) (Up w) w) := by
  have EQ := hide (show foldA e = e by unfold foldA; rw [if_neg (by rw [ho]; decide)])
  rw [unhide EQ]
  have X0 := hide (Bx.new w #[.int .i64 e.k, .int .i64 e.n, .string e.s, .slice b e.l.length cap])
  have OK := hide (okS_any e b cap _ (hr.later (unhide X0).bel) hz)
  rw [ho] at OK
  have CA := hide (fun wr (h : Below w.heap.size w wr) => copyS_any e b cap wr (hr.later h) hz)
  generalize hX : GiR _ (Up w) w = X
  have HX := hide hX
  unfold GiR at CA
  unfold Ex.cs at CA OK ⊢
  clear hX hr hz ho EQ
  go_enter Tryd.func16, Tryd.ntmps16
  go_wp2_with fail
  generalize (w.alloc (.cells #[.int .i64 e.k, .int .i64 e.n, .string e.s, .slice b e.l.length cap] 26)).alloc (.cells #[.int .i64 0, .int .i64 0, .string ⟨#[]⟩, .slice none 0 0] 26) = W at *
  refine (unhide OK).mono ?_
  rintro r w1 ⟨rfl, hb1⟩
  have X1 := hide ((unhide X0).later hb1)
  have C1 := hide (unhide CA w1 (unhide X1).bel)
  clear hb1 X0 OK CA
  go_wp2_with (refine wpList_load_row rfl 26 _ rfl w.heap.size rfl 26 #[.int .i64 e.k, .int .i64 e.n, .string e.s, .slice b e.l.length cap] (0, 0) _ ((unhide X1).box) Tryd.underlying26 rfl (by kernel_rfl) ?_)
  refine (unhide C1).mono ?_
  rintro r w2 ⟨c2, cp2, rfl, hx, hb2⟩
  have hz1 := (unhide X1).lt
  have X2 := hide ((unhide X1).later hb2)
  have A2 := hide (hx.mono (fun b h => up_ow (w := w) (b := b) (Nat.le_trans hz1 h)))
  clear hx hb2 X1 C1
  generalize e = y at *
  go_wp2_with (refine wpList_store_row rfl 26 _ _ rfl (w.heap.size + 1) #[.int .i64 y.k, .int .i64 y.n, .string y.s, .slice c2 y.l.length cp2] rfl rfl 26 _ ((unhide X2).res) szE rfl (ex_one _ _ _ _ _ _) ?_)
  refine bodyPost_ret (results_cell_row (P := Tryd.prog) rfl _ _ (w.heap.size + 1) 26 #[.int .i64 y.k, .int .i64 y.n, .string y.s, .slice c2 y.l.length cp2] (0, 0) _ rfl (setRow_heap _ _ _ _ _ _ ((unhide X2).res)) Tryd.underlying26 rfl szE) rfl ?_
  rw [← unhide HX]
  exact (unhide X2).end (unhide A2) _
theorem foldA_any (e : Ex) (b : Option Addr) (cap : Nat) (w : World) (hr : RdX w 0 e b) (hz : e.sz ≤ 1048576) : Calls Tryd.prog 16 #[.agg (e.cs b cap)] w (GiR (foldA e) (Up w) w) := by
  cases ho : okF 6 false e with
  | true => exact foldA_yes e b cap w hr hz ho
  | false => exact foldA_no e b cap w hr hz ho
/-- What is known of a term. -/
def knownA (e : Ex) : Option Int := if okF 6 false e = true ∧ (foldX e).k = 1 then some (foldX e).n else none
end Go.Proofs.YtkolflcjkofleaaDoor

namespace Go.Proofs.YtkolflcjkofleaaDoor
open Go.ChangeShapes Go.WideShapes Go.ChangeAt Go.RowKit
set_option linter.unusedVariables false
set_option maxRecDepth 8000
set_option linter.unusedSimpArgs false

/-- A number answered, or none. -/
def InR (o : Option Int) (w : World) (r : Ending) (w' : World) : Prop := r = .returned (.tuple #[.int .i64 (o.getD 0), .bool o.isSome]) ∧ Below w.heap.size w w'
set_option maxHeartbeats 4000000 in
theorem known_no (e : Ex) (b : Option Addr) (cap : Nat) (w : World) (hr : RdX w 0 e b) (hz : e.sz ≤ 1048576) (ho : okF 6 false e = false) : Calls Tryd.prog 20 #[.agg (e.cs b cap)] w (InR (knownA e) w) := by
  have EQ := hide (show knownA e = none by unfold knownA; rw [if_neg (fun h => by rw [ho] at h; exact absurd h.1 (by decide))])
  rw [unhide EQ]
  have hb0 := below_new w (.cells #[.int .i64 e.k, .int .i64 e.n, .string e.s, .slice b e.l.length cap] 26)
  have G0 := (show (w.alloc (.cells #[.int .i64 e.k, .int .i64 e.n, .string e.s, .slice b e.l.length cap] 26)).heap[w.heap.size]? = some (.cells #[.int .i64 e.k, .int .i64 e.n, .string e.s, .slice b e.l.length cap] 26 (0, 0)) from Array.getElem?_push_size)
  have FO := hide (foldA_any e b cap _ (hr.later hb0) hz)
  have OK := hide (fun wr (h : Below w.heap.size w wr) => okS_any e b cap wr (hr.later h) hz)
  rw [ho] at OK
  have B0 := hide hb0
  have R0 := hide G0
  generalize hX : InR _ w = X
  have HX := hide hX
  unfold GiR at FO
  unfold Ex.cs at FO OK ⊢
  generalize foldA e = x at *
  clear hX hr hz ho EQ hb0 G0
  go_enter Tryd.func20, Tryd.ntmps20
  go_wp2_with fail
  generalize w.alloc (.cells #[.int .i64 e.k, .int .i64 e.n, .string e.s, .slice b e.l.length cap] 26) = W at *
  refine (unhide FO).mono ?_
  rintro r w1 ⟨c1, cp1, rfl, hx, hb1⟩
  clear hx
  have B1 := (unhide B0).trans (hb1.mono (unhide B0).size)
  have R1 := row_keep (unhide R0) hb1
  have hb2 := below_new w1 (.cells #[.int .i64 x.k, .int .i64 x.n, .string x.s, .slice c1 x.l.length cp1] 26)
  have B2 := hide (B1.trans (hb2.mono B1.size))
  have R2 := hide (row_keep R1 hb2)
  have G2 := hide (show (w1.alloc (.cells #[.int .i64 x.k, .int .i64 x.n, .string x.s, .slice c1 x.l.length cp1] 26)).heap[w1.heap.size]? = some (.cells #[.int .i64 x.k, .int .i64 x.n, .string x.s, .slice c1 x.l.length cp1] 26 (0, 0)) from Array.getElem?_push_size)
  have O2 := hide (unhide OK _ (unhide B2))
  clear hb1 hb2 B1 R1 B0 R0 FO OK
  go_wp2_with (refine wpList_load_row rfl 26 _ rfl w.heap.size rfl 26 #[.int .i64 e.k, .int .i64 e.n, .string e.s, .slice b e.l.length cap] (0, 0) _ (unhide R2) Tryd.underlying26 rfl (by kernel_rfl) ?_)
  generalize w1.alloc (.cells #[.int .i64 x.k, .int .i64 x.n, .string x.s, .slice c1 x.l.length cp1] 26) = w2 at *
  generalize w1.heap.size = g1 at *
  refine (unhide O2).mono ?_
  rintro r w3 ⟨rfl, hb3⟩
  have B3 := hide ((unhide B2).trans (hb3.mono (unhide B2).size))
  have G3 := row_keep (unhide G2) hb3
  have y0 := Lib.cell_of_heap G3 0
  have y1 := Lib.cell_of_heap G3 1
  clear hb3 B2 G2 O2 R2 G3
  go_wp2
  rw [← unhide HX]
  exact ⟨rfl, unhide B3⟩
set_option maxHeartbeats 4000000 in
theorem known_y (e : Ex) (b : Option Addr) (cap : Nat) (w : World) (hr : RdX w 0 e b) (hz : e.sz ≤ 1048576) (ho : okF 6 false e = true) (f1 : ((foldA e).k == 1) = true) : Calls Tryd.prog 20 #[.agg (e.cs b cap)] w (InR (knownA e) w) := by
  have EQ := hide (show knownA e = some (foldA e).n by have e1 : foldA e = foldX e := (by unfold foldA; rw [if_pos ho]); rw [e1] at f1 ⊢; unfold knownA; rw [if_pos ⟨ho, beq_iff_eq.1 f1⟩])
  rw [unhide EQ]
  have hb0 := below_new w (.cells #[.int .i64 e.k, .int .i64 e.n, .string e.s, .slice b e.l.length cap] 26)
  have G0 := (show (w.alloc (.cells #[.int .i64 e.k, .int .i64 e.n, .string e.s, .slice b e.l.length cap] 26)).heap[w.heap.size]? = some (.cells #[.int .i64 e.k, .int .i64 e.n, .string e.s, .slice b e.l.length cap] 26 (0, 0)) from Array.getElem?_push_size)
  have FO := hide (foldA_any e b cap _ (hr.later hb0) hz)
  have OK := hide (fun wr (h : Below w.heap.size w wr) => okS_any e b cap wr (hr.later h) hz)
  rw [ho] at OK
  have B0 := hide hb0
  have R0 := hide G0
  generalize hX : InR _ w = X
  have HX := hide hX
  unfold GiR at FO
  unfold Ex.cs at FO OK ⊢
  generalize foldA e = x at *
  clear hX hr hz ho EQ hb0 G0
  go_enter Tryd.func20, Tryd.ntmps20
  go_wp2_with fail
  generalize w.alloc (.cells #[.int .i64 e.k, .int .i64 e.n, .string e.s, .slice b e.l.length cap] 26) = W at *
  refine (unhide FO).mono ?_
  rintro r w1 ⟨c1, cp1, rfl, hx, hb1⟩
  clear hx
  have B1 := (unhide B0).trans (hb1.mono (unhide B0).size)
  have R1 := row_keep (unhide R0) hb1
  have hb2 := below_new w1 (.cells #[.int .i64 x.k, .int .i64 x.n, .string x.s, .slice c1 x.l.length cp1] 26)
  have B2 := hide (B1.trans (hb2.mono B1.size))
  have R2 := hide (row_keep R1 hb2)
  have G2 := hide (show (w1.alloc (.cells #[.int .i64 x.k, .int .i64 x.n, .string x.s, .slice c1 x.l.length cp1] 26)).heap[w1.heap.size]? = some (.cells #[.int .i64 x.k, .int .i64 x.n, .string x.s, .slice c1 x.l.length cp1] 26 (0, 0)) from Array.getElem?_push_size)
  have O2 := hide (unhide OK _ (unhide B2))
  clear hb1 hb2 B1 R1 B0 R0 FO OK
  go_wp2_with (refine wpList_load_row rfl 26 _ rfl w.heap.size rfl 26 #[.int .i64 e.k, .int .i64 e.n, .string e.s, .slice b e.l.length cap] (0, 0) _ (unhide R2) Tryd.underlying26 rfl (by kernel_rfl) ?_)
  generalize w1.alloc (.cells #[.int .i64 x.k, .int .i64 x.n, .string x.s, .slice c1 x.l.length cp1] 26) = w2 at *
  generalize w1.heap.size = g1 at *
  refine (unhide O2).mono ?_
  rintro r w3 ⟨rfl, hb3⟩
  have B3 := hide ((unhide B2).trans (hb3.mono (unhide B2).size))
  have G3 := row_keep (unhide G2) hb3
  have y0 := Lib.cell_of_heap G3 0
  have y1 := Lib.cell_of_heap G3 1
  clear hb3 B2 G2 O2 R2 G3
  go_wp2
  rw [← unhide HX]
  exact ⟨rfl, unhide B3⟩
set_option maxHeartbeats 4000000 in
theorem known_n (e : Ex) (b : Option Addr) (cap : Nat) (w : World) (hr : RdX w 0 e b) (hz : e.sz ≤ 1048576) (ho : okF 6 false e = true) (f1 : ((foldA e).k == 1) = false) : Calls Tryd.prog 20 #[.agg (e.cs b cap)] w (InR (knownA e) w) := by
  have EQ := hide (show knownA e = none by have e1 : foldA e = foldX e := (by unfold foldA; rw [if_pos ho]); rw [e1] at f1; unfold knownA; rw [if_neg (fun h => beq_eq_false_iff_ne.1 f1 h.2)])
  rw [unhide EQ]
  have hb0 := below_new w (.cells #[.int .i64 e.k, .int .i64 e.n, .string e.s, .slice b e.l.length cap] 26)
  have G0 := (show (w.alloc (.cells #[.int .i64 e.k, .int .i64 e.n, .string e.s, .slice b e.l.length cap] 26)).heap[w.heap.size]? = some (.cells #[.int .i64 e.k, .int .i64 e.n, .string e.s, .slice b e.l.length cap] 26 (0, 0)) from Array.getElem?_push_size)
  have FO := hide (foldA_any e b cap _ (hr.later hb0) hz)
  have OK := hide (fun wr (h : Below w.heap.size w wr) => okS_any e b cap wr (hr.later h) hz)
  rw [ho] at OK
  have B0 := hide hb0
  have R0 := hide G0
  generalize hX : InR _ w = X
  have HX := hide hX
  unfold GiR at FO
  unfold Ex.cs at FO OK ⊢
  generalize foldA e = x at *
  clear hX hr hz ho EQ hb0 G0
  go_enter Tryd.func20, Tryd.ntmps20
  go_wp2_with fail
  generalize w.alloc (.cells #[.int .i64 e.k, .int .i64 e.n, .string e.s, .slice b e.l.length cap] 26) = W at *
  refine (unhide FO).mono ?_
  rintro r w1 ⟨c1, cp1, rfl, hx, hb1⟩
  clear hx
  have B1 := (unhide B0).trans (hb1.mono (unhide B0).size)
  have R1 := row_keep (unhide R0) hb1
  have hb2 := below_new w1 (.cells #[.int .i64 x.k, .int .i64 x.n, .string x.s, .slice c1 x.l.length cp1] 26)
  have B2 := hide (B1.trans (hb2.mono B1.size))
  have R2 := hide (row_keep R1 hb2)
  have G2 := hide (show (w1.alloc (.cells #[.int .i64 x.k, .int .i64 x.n, .string x.s, .slice c1 x.l.length cp1] 26)).heap[w1.heap.size]? = some (.cells #[.int .i64 x.k, .int .i64 x.n, .string x.s, .slice c1 x.l.length cp1] 26 (0, 0)) from Array.getElem?_push_size)
  have O2 := hide (unhide OK _ (unhide B2))
  clear hb1 hb2 B1 R1 B0 R0 FO OK
  go_wp2_with (refine wpList_load_row rfl 26 _ rfl w.heap.size rfl 26 #[.int .i64 e.k, .int .i64 e.n, .string e.s, .slice b e.l.length cap] (0, 0) _ (unhide R2) Tryd.underlying26 rfl (by kernel_rfl) ?_)
  generalize w1.alloc (.cells #[.int .i64 x.k, .int .i64 x.n, .string x.s, .slice c1 x.l.length cp1] 26) = w2 at *
  generalize w1.heap.size = g1 at *
  refine (unhide O2).mono ?_
  rintro r w3 ⟨rfl, hb3⟩
  have B3 := hide ((unhide B2).trans (hb3.mono (unhide B2).size))
  have G3 := row_keep (unhide G2) hb3
  have y0 := Lib.cell_of_heap G3 0
  have y1 := Lib.cell_of_heap G3 1
  clear hb3 B2 G2 O2 R2 G3
  go_wp2
  rw [← unhide HX]
  exact ⟨rfl, unhide B3⟩
theorem knownS_any (e : Ex) (b : Option Addr) (cap : Nat) (w : World) (hr : RdX w 0 e b) (hz : e.sz ≤ 1048576) : Calls Tryd.prog 20 #[.agg (e.cs b cap)] w (InR (knownA e) w) := by
  cases ho : okF 6 false e with
  | false => exact known_no e b cap w hr hz ho
  | true =>
    cases f1 : ((foldA e).k == 1) with
    | false => exact known_n e b cap w hr hz ho f1
    | true => exact known_y e b cap w hr hz ho f1
end Go.Proofs.YtkolflcjkofleaaDoor

namespace Go.Proofs.YtkolflcjkofleaaDoor
open Go.ChangeShapes Go.WideShapes Go.ChangeAt Go.RowKit
set_option linter.unusedVariables false
set_option maxRecDepth 8000

set_option maxHeartbeats 400000 in
theorem at_anyF (L : List ByteArray) (s : ByteArray) (g n cap : Nat) (w : World) (hn : L.length = n) (hm : n ≤ 1100000) (hr : RdS w g L) : Calls Tryd.prog 81 #[.slice (some ⟨g, 0, none⟩) n cap, .string s] w fun e w' => e = .returned (.int .i64 (atV L s)) ∧ w' = w := by
  obtain ⟨v, hv⟩ : ∃ v, atV L s = v := ⟨_, rfl⟩
  have HIT := hide (fun k (hk : k < n) hm he => (atV_hit (L := L) (s := s) (k := k) (by omega) hm he).symm.trans hv)
  have MISS := hide (fun (h : ∀ k, k < n → eqS (L.getD k E0) s = false) => (atV_no (L := L) (s := s) (hasS_miss (fun k hk => h k (by omega)))).symm.trans hv)
  have RD := hide (fun j (hj : j < n) => hr j (by omega))
  rw [hv]
  clear hv hr
  go_enter Tryd.func81, Tryd.ntmps81
  go_wp2
  go_loop [5] (fun i => ∃ k : Nat, i = .int .i64 k ∧ k ≤ n ∧ Hid (∀ j, j < k → eqS (L.getD j E0) s = false)) (fun i => n - (intOf i).toNat)
  case atStart => exact ⟨0, rfl, by omega, fun j hj => by omega⟩
  case round =>
    obtain ⟨k, rfl, hk, hd⟩ := hrel
    by_cases hlt : k < n
    · have hc := unhide RD k hlt
      have H1 := hide (unhide HIT k hlt hd.out)
      have H2 := hide (show eqS (L.getD k E0) s = false → ∀ j, j < k + 1 → eqS (L.getD j E0) s = false from fun h j hj => by
        by_cases e : j = k
        · subst e; exact h
        · exact hd.out j (by omega))
      generalize L.getD k E0 = T at hc H1 H2
      clear hd
      cases hq : (T.toList == s.toList)
      · have E := hide (unhide H2 hq)
        clear H1 H2
        go_wp2
        go_round
        case rel => exact ⟨k + 1, by go_num, by omega, unhide E⟩
        case measure => simp [intOf]; omega
      · have E := hide (unhide H1 hq)
        clear H1 H2
        go_wp2
        go_ret
        exact ⟨by rw [← unhide E]; rfl, rfl⟩
    · have E := hide (unhide MISS (fun j hj => hd.out j (by omega)))
      clear hd
      go_wp2
      go_ret
      exact ⟨by rw [← unhide E]; rfl, rfl⟩
end Go.Proofs.YtkolflcjkofleaaDoor

namespace Go.Proofs.YtkolflcjkofleaaDoor
open Go.ChangeShapes Go.WideShapes Go.ChangeAt Go.RowKit
set_option linter.unusedVariables false
set_option maxRecDepth 8000
set_option linter.unusedSimpArgs false

/-- The numbers of sections, the names, their numbers, as they lie. -/
structure Ev (w : World) (gb gn gv : Nat) (bs : List Int) (L : List ByteArray) (vs : List Int) : Prop where
  b : ∀ i, i < bs.length → w.cell? ⟨gb, i, none⟩ = some (.int .i64 (nAt bs i))
  n : RdS w gn L
  v : ∀ i, i < vs.length → w.cell? ⟨gv, i, none⟩ = some (.int .i64 (nAt vs i))
  lb : gb < w.heap.size
  ln : gn < w.heap.size
  lv : gv < w.heap.size
theorem Ev.later {w w' : World} {gb gn gv : Nat} {bs : List Int} {L : List ByteArray} {vs : List Int} (h : Ev w gb gn gv bs L vs) (hb : Below w.heap.size w w') : Ev w' gb gn gv bs L vs :=
  ⟨fun i hi => (hb.cell (p := ⟨gb, i, none⟩) h.lb).trans (h.b i hi), fun i hi => (hb.cell (p := ⟨gn, i, none⟩) h.ln).trans (h.n i hi), fun i hi => (hb.cell (p := ⟨gv, i, none⟩) h.lv).trans (h.v i hi), Nat.lt_of_lt_of_le h.lb hb.size, Nat.lt_of_lt_of_le h.ln hb.size, Nat.lt_of_lt_of_le h.lv hb.size⟩
def seW (bs : List Int) (n : Int) : Option Int := if n < bs.length then some (wr (nAt bs n.toNat)) else none
def glW (L : List ByteArray) (vs : List Int) (s : ByteArray) : Option Int := if 0 ≤ atV L s ∧ atV L s < vs.length then some (wr (nAt vs (atV L s).toNat)) else none
theorem seW_in (bs : List Int) : ∀ n v, seW bs n = some v → 0 ≤ v ∧ v ≤ 65535 := by
  intro n v h
  unfold seW at h
  split at h
  · cases h; exact wr_in _
  · cases h
theorem glW_in (L : List ByteArray) (vs : List Int) : ∀ s v, glW L vs s = some v → 0 ≤ v ∧ v ≤ 65535 := by
  intro n v h
  unfold glW at h
  split at h
  · cases h; exact wr_in _
  · cases h
def WoP (bs : List Int) (L : List ByteArray) (vs : List Int) (e : Ex) : Prop := ∀ (b : Option Addr) (cap gb gn gv cb cn cv : Nat) (w : World), RdX w 0 e b → Ev w gb gn gv bs L vs → Calls Tryd.prog 63 #[.agg (e.cs b cap), .slice (some ⟨gb, 0, none⟩) bs.length cb, .slice (some ⟨gn, 0, none⟩) L.length cn, .slice (some ⟨gv, 0, none⟩) vs.length cv] w (InR (worthX (seW bs) (glW L vs) e) w)
set_option maxHeartbeats 4000000 in
theorem worth1 (n : Int) (s : ByteArray) (bs : List Int) (L : List ByteArray) (vs : List Int) (hL : L.length ≤ 1100000) (hB : bs.length ≤ 1099511627776) (hV : vs.length ≤ 1099511627776) : WoP bs L vs ⟨1, n, s, []⟩ := by
  intro b cap gb gn gv cb cn cv w hr hev
  have EQ := hide (show worthX (seW bs) (glW L vs) ⟨1, n, s, []⟩ = some n by exact worth_num n s)
  rw [unhide EQ]
  have B0 := hide (below_new w (.cells #[.int .i64 1, .int .i64 n, .string s, .slice b 0 cap] 26))
  have EV := hide (hev.later (unhide B0))
  generalize hX : InR _ w = X
  have HX := hide hX
  show Calls Tryd.prog 63 #[.agg #[.int .i64 1, .int .i64 n, .string s, .slice b 0 cap], .slice (some ⟨gb, 0, none⟩) bs.length cb, .slice (some ⟨gn, 0, none⟩) L.length cn, .slice (some ⟨gv, 0, none⟩) vs.length cv] w X
  clear hX hr hev EQ
  go_enter Tryd.func63, Tryd.ntmps63
  go_wp2
  rw [← unhide HX]
  exact ⟨rfl, unhide B0⟩
set_option maxHeartbeats 4000000 in
theorem worth2 (n : Int) (s : ByteArray) (bs : List Int) (L : List ByteArray) (vs : List Int) (hL : L.length ≤ 1100000) (hB : bs.length ≤ 1099511627776) (hV : vs.length ≤ 1099511627776) : WoP bs L vs ⟨2, n, s, []⟩ := by
  intro b cap gb gn gv cb cn cv w hr hev
  have EQ := hide (show worthX (seW bs) (glW L vs) ⟨2, n, s, []⟩ = none by exact worth_sym n s)
  rw [unhide EQ]
  have B0 := hide (below_new w (.cells #[.int .i64 2, .int .i64 n, .string s, .slice b 0 cap] 26))
  have EV := hide (hev.later (unhide B0))
  generalize hX : InR _ w = X
  have HX := hide hX
  show Calls Tryd.prog 63 #[.agg #[.int .i64 2, .int .i64 n, .string s, .slice b 0 cap], .slice (some ⟨gb, 0, none⟩) bs.length cb, .slice (some ⟨gn, 0, none⟩) L.length cn, .slice (some ⟨gv, 0, none⟩) vs.length cv] w X
  clear hX hr hev EQ
  go_enter Tryd.func63, Tryd.ntmps63
  go_wp2
  rw [← unhide HX]
  exact ⟨rfl, unhide B0⟩
set_option maxHeartbeats 4000000 in
theorem worth3 (n : Int) (s : ByteArray) (bs : List Int) (L : List ByteArray) (vs : List Int) (hL : L.length ≤ 1100000) (hB : bs.length ≤ 1099511627776) (hV : vs.length ≤ 1099511627776) : WoP bs L vs ⟨3, n, s, []⟩ := by
  intro b cap gb gn gv cb cn cv w hr hev
  have EQ := hide (show worthX (seW bs) (glW L vs) ⟨3, n, s, []⟩ = none by exact worth_here n s)
  rw [unhide EQ]
  have B0 := hide (below_new w (.cells #[.int .i64 3, .int .i64 n, .string s, .slice b 0 cap] 26))
  have EV := hide (hev.later (unhide B0))
  generalize hX : InR _ w = X
  have HX := hide hX
  show Calls Tryd.prog 63 #[.agg #[.int .i64 3, .int .i64 n, .string s, .slice b 0 cap], .slice (some ⟨gb, 0, none⟩) bs.length cb, .slice (some ⟨gn, 0, none⟩) L.length cn, .slice (some ⟨gv, 0, none⟩) vs.length cv] w X
  clear hX hr hev EQ
  go_enter Tryd.func63, Tryd.ntmps63
  go_wp2
  rw [← unhide HX]
  exact ⟨rfl, unhide B0⟩
set_option maxHeartbeats 4000000 in
theorem worth11n (n : Int) (s : ByteArray) (bs : List Int) (L : List ByteArray) (vs : List Int) (hL : L.length ≤ 1100000) (hB : bs.length ≤ 1099511627776) (hV : vs.length ≤ 1099511627776) (hn : ¬ n < (bs.length : Int)) : WoP bs L vs ⟨11, n, s, []⟩ := by
  intro b cap gb gn gv cb cn cv w hr hev
  have EQ := hide (show worthX (seW bs) (glW L vs) ⟨11, n, s, []⟩ = none by rw [worth_sect]; unfold seW; rw [if_neg hn])
  rw [unhide EQ]
  have B0 := hide (below_new w (.cells #[.int .i64 11, .int .i64 n, .string s, .slice b 0 cap] 26))
  have EV := hide (hev.later (unhide B0))
  generalize hX : InR _ w = X
  have HX := hide hX
  show Calls Tryd.prog 63 #[.agg #[.int .i64 11, .int .i64 n, .string s, .slice b 0 cap], .slice (some ⟨gb, 0, none⟩) bs.length cb, .slice (some ⟨gn, 0, none⟩) L.length cn, .slice (some ⟨gv, 0, none⟩) vs.length cv] w X
  have hn2 : (bs.length : Int) ≤ n := by omega
  clear hn
  generalize bs.length = lb at *
  clear hX hr hev EQ
  go_enter Tryd.func63, Tryd.ntmps63
  go_wp2
  rw [← unhide HX]
  exact ⟨rfl, unhide B0⟩
set_option maxHeartbeats 4000000 in
theorem worth11y (n : Nat) (s : ByteArray) (bs : List Int) (L : List ByteArray) (vs : List Int) (hL : L.length ≤ 1100000) (hB : bs.length ≤ 1099511627776) (hV : vs.length ≤ 1099511627776) (hn : n < bs.length) : WoP bs L vs ⟨11, (n : Int), s, []⟩ := by
  intro b cap gb gn gv cb cn cv w hr hev
  have EQ := hide (show worthX (seW bs) (glW L vs) ⟨11, (n : Int), s, []⟩ = some (nAt bs n % 65536) by rw [worth_sect]; unfold seW; rw [if_pos (by omega)]; rfl)
  rw [unhide EQ]
  have B0 := hide (below_new w (.cells #[.int .i64 11, .int .i64 (n : Int), .string s, .slice b 0 cap] 26))
  have EV := hide (hev.later (unhide B0))
  generalize hX : InR _ w = X
  have HX := hide hX
  show Calls Tryd.prog 63 #[.agg #[.int .i64 11, .int .i64 (n : Int), .string s, .slice b 0 cap], .slice (some ⟨gb, 0, none⟩) bs.length cb, .slice (some ⟨gn, 0, none⟩) L.length cn, .slice (some ⟨gv, 0, none⟩) vs.length cv] w X
  have hc := (unhide EV).b n hn
  have hn2 : ¬ (bs.length : Int) ≤ (n : Int) := by omega
  clear hX hr hev EQ
  go_enter Tryd.func63, Tryd.ntmps63
  go_wp2_with (go_at_call 83; refine (wrapS_any _ _).mono ?_; rintro e w' ⟨rfl, hw'⟩; rw [hw']; clear hw' w')
  rw [← unhide HX]
  exact ⟨rfl, unhide B0⟩
set_option maxHeartbeats 4000000 in
theorem worth12m (n : Int) (s : ByteArray) (bs : List Int) (L : List ByteArray) (vs : List Int) (hL : L.length ≤ 1100000) (hB : bs.length ≤ 1099511627776) (hV : vs.length ≤ 1099511627776) (hn : atV L s < 0) : WoP bs L vs ⟨12, n, s, []⟩ := by
  intro b cap gb gn gv cb cn cv w hr hev
  have EQ := hide (show worthX (seW bs) (glW L vs) ⟨12, n, s, []⟩ = none by rw [worth_glob]; unfold glW; rw [if_neg (fun h => by omega)])
  rw [unhide EQ]
  have B0 := hide (below_new w (.cells #[.int .i64 12, .int .i64 n, .string s, .slice b 0 cap] 26))
  have EV := hide (hev.later (unhide B0))
  generalize hX : InR _ w = X
  have HX := hide hX
  show Calls Tryd.prog 63 #[.agg #[.int .i64 12, .int .i64 n, .string s, .slice b 0 cap], .slice (some ⟨gb, 0, none⟩) bs.length cb, .slice (some ⟨gn, 0, none⟩) L.length cn, .slice (some ⟨gv, 0, none⟩) vs.length cv] w X
  have AT := hide (at_anyF L s gn L.length cn _ rfl hL (unhide EV).n)
  generalize atV L s = av at *
  clear hX hr hev EQ
  go_enter Tryd.func63, Tryd.ntmps63
  go_wp2_with (go_at_call 81; refine (unhide AT).mono ?_; rintro e w' ⟨rfl, hw'⟩; rw [hw']; clear hw' w')
  rw [← unhide HX]
  exact ⟨rfl, unhide B0⟩
set_option maxHeartbeats 4000000 in
theorem worth12g (n : Int) (s : ByteArray) (bs : List Int) (L : List ByteArray) (vs : List Int) (hL : L.length ≤ 1100000) (hB : bs.length ≤ 1099511627776) (hV : vs.length ≤ 1099511627776) (h0 : ¬ atV L s < 0) (hn : (vs.length : Int) ≤ atV L s) : WoP bs L vs ⟨12, n, s, []⟩ := by
  intro b cap gb gn gv cb cn cv w hr hev
  have EQ := hide (show worthX (seW bs) (glW L vs) ⟨12, n, s, []⟩ = none by rw [worth_glob]; unfold glW; rw [if_neg (fun h => by omega)])
  rw [unhide EQ]
  have B0 := hide (below_new w (.cells #[.int .i64 12, .int .i64 n, .string s, .slice b 0 cap] 26))
  have EV := hide (hev.later (unhide B0))
  generalize hX : InR _ w = X
  have HX := hide hX
  show Calls Tryd.prog 63 #[.agg #[.int .i64 12, .int .i64 n, .string s, .slice b 0 cap], .slice (some ⟨gb, 0, none⟩) bs.length cb, .slice (some ⟨gn, 0, none⟩) L.length cn, .slice (some ⟨gv, 0, none⟩) vs.length cv] w X
  have AT := hide (at_anyF L s gn L.length cn _ rfl hL (unhide EV).n)
  generalize atV L s = av at *
  clear hX hr hev EQ
  go_enter Tryd.func63, Tryd.ntmps63
  go_wp2_with (go_at_call 81; refine (unhide AT).mono ?_; rintro e w' ⟨rfl, hw'⟩; rw [hw']; clear hw' w')
  rw [← unhide HX]
  exact ⟨rfl, unhide B0⟩
set_option maxHeartbeats 4000000 in
theorem worth12y (n : Int) (s : ByteArray) (j : Nat) (bs : List Int) (L : List ByteArray) (vs : List Int) (hL : L.length ≤ 1100000) (hB : bs.length ≤ 1099511627776) (hV : vs.length ≤ 1099511627776) (hj : atV L s = j) (hn : j < vs.length) : WoP bs L vs ⟨12, n, s, []⟩ := by
  intro b cap gb gn gv cb cn cv w hr hev
  have EQ := hide (show worthX (seW bs) (glW L vs) ⟨12, n, s, []⟩ = some (nAt vs j % 65536) by rw [worth_glob]; unfold glW; rw [if_pos (by omega), hj]; rfl)
  rw [unhide EQ]
  have B0 := hide (below_new w (.cells #[.int .i64 12, .int .i64 n, .string s, .slice b 0 cap] 26))
  have EV := hide (hev.later (unhide B0))
  generalize hX : InR _ w = X
  have HX := hide hX
  show Calls Tryd.prog 63 #[.agg #[.int .i64 12, .int .i64 n, .string s, .slice b 0 cap], .slice (some ⟨gb, 0, none⟩) bs.length cb, .slice (some ⟨gn, 0, none⟩) L.length cn, .slice (some ⟨gv, 0, none⟩) vs.length cv] w X
  have AT := hide (at_anyF L s gn L.length cn _ rfl hL (unhide EV).n)
  rw [hj] at AT
  have hc := (unhide EV).v j hn
  have hn2 : ¬ (vs.length : Int) ≤ (j : Int) := by omega
  have hn3 : ¬ (j : Int) < 0 := by omega
  clear hj
  clear hX hr hev EQ
  go_enter Tryd.func63, Tryd.ntmps63
  go_wp2_with (first | (go_at_call 81; refine (unhide AT).mono ?_; rintro e w' ⟨rfl, hw'⟩; rw [hw']; clear hw' w') | (go_at_call 83; refine (wrapS_any _ _).mono ?_; rintro e w' ⟨rfl, hw'⟩; rw [hw']; clear hw' w'))
  rw [← unhide HX]
  exact ⟨rfl, unhide B0⟩
set_option maxHeartbeats 4000000 in
theorem worthS_neg (bs : List Int) (L : List ByteArray) (vs : List Int) (a : Ex) (iha : WoP bs L vs a) (hi : ∀ v, worthX (seW bs) (glW L vs) a = some v → 0 ≤ v ∧ v ≤ 65535) : WoP bs L vs ⟨4, 0, ⟨#[]⟩, [a]⟩ := by
  intro b cap gb gn gv cb cn cv w hr hev
  rw [worth_neg]
  obtain ⟨p, off, rfl, hpl, hc⟩ := hr.at (by simp)
  obtain ⟨c0, c1, c2, q0, qp0, c3, r0⟩ := hc 0 (by simp)
  have xa : xAt (Ex.mk 4 0 ⟨#[]⟩ [a]).l 0 = a := rfl
  rw [xa] at c0 c1 c2 c3 r0
  simp only [Nat.zero_mul, Nat.add_zero] at c0 c1 c2 c3
  have B0 := hide (below_new w (.cells #[.int .i64 4, .int .i64 0, .string ⟨#[]⟩, .slice (some ⟨p, off, none⟩) 1 cap] 26))
  have IA := hide (iha q0 qp0 gb gn gv cb cn cv _ (RdX.later r0 (unhide B0)) (hev.later (unhide B0)))
  have G0 := (show (w.alloc (.cells #[.int .i64 4, .int .i64 0, .string ⟨#[]⟩, .slice (some ⟨p, off, none⟩) 1 cap] 26)).heap[w.heap.size]? = some (.cells #[.int .i64 4, .int .i64 0, .string ⟨#[]⟩, .slice (some ⟨p, off, none⟩) 1 cap] 26 (0, 0)) from Array.getElem?_push_size)
  have R0 := hide G0
  have d0 := ((unhide B0).cell (p := ⟨p, off, none⟩) hpl).trans c0
  have d1 := ((unhide B0).cell (p := ⟨p, off + 1, none⟩) hpl).trans c1
  have d2 := ((unhide B0).cell (p := ⟨p, off + 2, none⟩) hpl).trans c2
  have d3 := ((unhide B0).cell (p := ⟨p, off + 3, none⟩) hpl).trans c3
  generalize worthX (seW bs) (glW L vs) a = o at *
  have ho : 0 ≤ o.getD 0 ∧ o.getD 0 ≤ 65535 := by
    cases o with
    | none => exact ⟨Int.le_refl _, show (0 : Int) ≤ 65535 by decide⟩
    | some v => exact hi v rfl
  have EQ := hide (show (o.map (fun v => wr (-v))).getD 0 = -(o.getD 0) % 65536 ∧ (o.map (fun v => wr (-v))).isSome = o.isSome by cases o <;> exact ⟨rfl, rfl⟩)
  generalize hX : InR _ w = X
  have HX := hide hX
  unfold InR at IA
  unfold Ex.cs at IA
  show Calls Tryd.prog 63 #[.agg #[.int .i64 4, .int .i64 0, .string ⟨#[]⟩, .slice (some ⟨p, off, none⟩) 1 cap], .slice (some ⟨gb, 0, none⟩) bs.length cb, .slice (some ⟨gn, 0, none⟩) L.length cn, .slice (some ⟨gv, 0, none⟩) vs.length cv] w X
  generalize hog : o.getD 0 = og at *
  generalize hos : o.isSome = os at *
  have HG := hide hog
  have HO := hide hos
  clear hX hr hc c0 c1 c2 c3 r0 iha hi xa hev G0 hog hos
  go_enter Tryd.func63, Tryd.ntmps63
  go_wp2_with fail
  generalize w.alloc (.cells #[.int .i64 4, .int .i64 0, .string ⟨#[]⟩, .slice (some ⟨p, off, none⟩) 1 cap] 26) = W at *
  clear d0 d1 d2 d3
  refine (unhide IA).mono ?_
  rintro r w1 ⟨rfl, hb1⟩
  have B1 := hide ((unhide B0).trans (hb1.mono (unhide B0).size))
  have z0 := Lib.cell_of_heap (row_keep (unhide R0) hb1) 0
  clear hb1 B0 R0 IA
  go_wp2_with (go_at_call 83; refine (wrapS_any _ _).mono ?_; rintro e w' ⟨rfl, hw'⟩; rw [hw']; clear hw' w')
  rw [← unhide HX]
  exact ⟨by rw [(unhide EQ).1, (unhide EQ).2]; rfl, unhide B1⟩
set_option maxHeartbeats 4000000 in
theorem worthS_nn (bs : List Int) (L : List ByteArray) (vs : List Int) (k : Int) (hk : 5 ≤ k ∧ k ≤ 10) (a b : Ex) (iha : WoP bs L vs a) (ihb : WoP bs L vs b) (va vb : Int) (ha : worthX (seW bs) (glW L vs) a = none) (hb : worthX (seW bs) (glW L vs) b = none) (ia : 0 ≤ va ∧ va ≤ 65535) (ib : 0 ≤ vb ∧ vb ≤ 65535) : WoP bs L vs ⟨k, 0, ⟨#[]⟩, [a, b]⟩ := by
  intro bb cap gb gn gv cb cn cv w hr hev
  have EQ := hide (show worthX (seW bs) (glW L vs) ⟨k, 0, ⟨#[]⟩, [a, b]⟩ = none by rw [worth_two, ha]; rfl)
  rw [unhide EQ]
  obtain ⟨p, off, rfl, hpl, hc⟩ := hr.at (by simp)
  obtain ⟨c0, c1, c2, q0, qp0, c3, r0⟩ := hc 0 (by simp)
  obtain ⟨e0, e1, e2, q1, qp1, e3, r1⟩ := hc 1 (by simp)
  have xa : xAt (Ex.mk k 0 ⟨#[]⟩ [a, b]).l 0 = a := rfl
  have xb : xAt (Ex.mk k 0 ⟨#[]⟩ [a, b]).l 1 = b := rfl
  rw [xa] at c0 c1 c2 c3 r0
  rw [xb] at e0 e1 e2 e3 r1
  simp only [Nat.zero_mul, Nat.add_zero, Nat.one_mul] at c0 c1 c2 c3 e0 e1 e2 e3
  have B0 := hide (below_new w (.cells #[.int .i64 k, .int .i64 0, .string ⟨#[]⟩, .slice (some ⟨p, off, none⟩) 2 cap] 26))
  have IA := hide (iha q0 qp0 gb gn gv cb cn cv _ (RdX.later r0 (unhide B0)) (hev.later (unhide B0)))
  have IB := hide (fun wr (h : Below w.heap.size w wr) => ihb q1 qp1 gb gn gv cb cn cv wr (RdX.later r1 h) (hev.later h))
  rw [ha] at IA
  rw [hb] at IB
  have R0 := hide (show (w.alloc (.cells #[.int .i64 k, .int .i64 0, .string ⟨#[]⟩, .slice (some ⟨p, off, none⟩) 2 cap] 26)).heap[w.heap.size]? = some (.cells #[.int .i64 k, .int .i64 0, .string ⟨#[]⟩, .slice (some ⟨p, off, none⟩) 2 cap] 26 (0, 0)) from Array.getElem?_push_size)
  have d0 := ((unhide B0).cell (p := ⟨p, off, none⟩) hpl).trans c0
  have d1 := ((unhide B0).cell (p := ⟨p, off + 1, none⟩) hpl).trans c1
  have d2 := ((unhide B0).cell (p := ⟨p, off + 2, none⟩) hpl).trans c2
  have d3 := ((unhide B0).cell (p := ⟨p, off + 3, none⟩) hpl).trans c3
  have E0' := hide (fun wr (h : Below w.heap.size w wr) => (h.cell (p := ⟨p, off + 4, none⟩) hpl).trans e0)
  have E1' := hide (fun wr (h : Below w.heap.size w wr) => (h.cell (p := ⟨p, off + 4 + 1, none⟩) hpl).trans e1)
  have E2' := hide (fun wr (h : Below w.heap.size w wr) => (h.cell (p := ⟨p, off + 4 + 2, none⟩) hpl).trans e2)
  have E3' := hide (fun wr (h : Below w.heap.size w wr) => (h.cell (p := ⟨p, off + 4 + 3, none⟩) hpl).trans e3)
  have k1 : (k == 1) = false := beq_eq_false_iff_ne.2 (by omega)
  have k2 : (k == 2) = false := beq_eq_false_iff_ne.2 (by omega)
  have k3 : (k == 3) = false := beq_eq_false_iff_ne.2 (by omega)
  have k4 : (k == 4) = false := beq_eq_false_iff_ne.2 (by omega)
  have k11 : (k == 11) = false := beq_eq_false_iff_ne.2 (by omega)
  have k12 : (k == 12) = false := beq_eq_false_iff_ne.2 (by omega)
  have TW := hide (fun wr => twoS_any k va vb hk ia ib wr)
  unfold TwoR at TW
  generalize hX : InR _ w = X
  have HX := hide hX
  unfold InR at IA IB
  simp only [Option.getD_some, Option.getD_none, Option.isSome_some, Option.isSome_none] at IA IB
  unfold Ex.cs at IA IB
  show Calls Tryd.prog 63 #[.agg #[.int .i64 k, .int .i64 0, .string ⟨#[]⟩, .slice (some ⟨p, off, none⟩) 2 cap], .slice (some ⟨gb, 0, none⟩) bs.length cb, .slice (some ⟨gn, 0, none⟩) L.length cn, .slice (some ⟨gv, 0, none⟩) vs.length cv] w X
  clear hX hr hc c0 c1 c2 c3 e0 e1 e2 e3 r0 r1 iha ihb xa xb hev ha hb EQ hk
  go_enter Tryd.func63, Tryd.ntmps63
  go_wp2_with fail
  generalize w.alloc (.cells #[.int .i64 k, .int .i64 0, .string ⟨#[]⟩, .slice (some ⟨p, off, none⟩) 2 cap] 26) = W at *
  clear d0 d1 d2 d3
  refine (unhide IA).mono ?_
  rintro r w1 ⟨rfl, hb1⟩
  have B1 := hide ((unhide B0).trans (hb1.mono (unhide B0).size))
  have R1 := hide (row_keep (unhide R0) hb1)
  have z0 := Lib.cell_of_heap (unhide R1) 0
  have z3 := Lib.cell_of_heap (unhide R1) 3
  have d0 := unhide E0' _ (unhide B1)
  have d1 := unhide E1' _ (unhide B1)
  have d2 := unhide E2' _ (unhide B1)
  have d3 := unhide E3' _ (unhide B1)
  have IB2 := hide (unhide IB _ (unhide B1))
  clear hb1 B0 R0 IA IB E0' E1' E2' E3'
  go_wp2_with fail
  clear d0 d1 d2 d3 z0 z3
  refine (unhide IB2).mono ?_
  rintro r w2 ⟨rfl, hb2⟩
  have B2 := hide ((unhide B1).trans (hb2.mono (unhide B1).size))
  have R2 := row_keep (unhide R1) hb2
  have z0 := Lib.cell_of_heap R2 0
  clear hb2 B1 R1 IB2 R2
  go_wp2_with (go_at_call 78; refine (unhide TW _).mono ?_; rintro r w' ⟨hw', rfl⟩; rw [hw']; clear hw' w')
  rw [← unhide HX]
  exact ⟨rfl, unhide B2⟩
set_option maxHeartbeats 4000000 in
theorem worthS_ns (bs : List Int) (L : List ByteArray) (vs : List Int) (k : Int) (hk : 5 ≤ k ∧ k ≤ 10) (a b : Ex) (iha : WoP bs L vs a) (ihb : WoP bs L vs b) (va vb : Int) (ha : worthX (seW bs) (glW L vs) a = none) (hb : worthX (seW bs) (glW L vs) b = some vb) (ia : 0 ≤ va ∧ va ≤ 65535) (ib : 0 ≤ vb ∧ vb ≤ 65535) : WoP bs L vs ⟨k, 0, ⟨#[]⟩, [a, b]⟩ := by
  intro bb cap gb gn gv cb cn cv w hr hev
  have EQ := hide (show worthX (seW bs) (glW L vs) ⟨k, 0, ⟨#[]⟩, [a, b]⟩ = none by rw [worth_two, ha]; rfl)
  rw [unhide EQ]
  obtain ⟨p, off, rfl, hpl, hc⟩ := hr.at (by simp)
  obtain ⟨c0, c1, c2, q0, qp0, c3, r0⟩ := hc 0 (by simp)
  obtain ⟨e0, e1, e2, q1, qp1, e3, r1⟩ := hc 1 (by simp)
  have xa : xAt (Ex.mk k 0 ⟨#[]⟩ [a, b]).l 0 = a := rfl
  have xb : xAt (Ex.mk k 0 ⟨#[]⟩ [a, b]).l 1 = b := rfl
  rw [xa] at c0 c1 c2 c3 r0
  rw [xb] at e0 e1 e2 e3 r1
  simp only [Nat.zero_mul, Nat.add_zero, Nat.one_mul] at c0 c1 c2 c3 e0 e1 e2 e3
  have B0 := hide (below_new w (.cells #[.int .i64 k, .int .i64 0, .string ⟨#[]⟩, .slice (some ⟨p, off, none⟩) 2 cap] 26))
  have IA := hide (iha q0 qp0 gb gn gv cb cn cv _ (RdX.later r0 (unhide B0)) (hev.later (unhide B0)))
  have IB := hide (fun wr (h : Below w.heap.size w wr) => ihb q1 qp1 gb gn gv cb cn cv wr (RdX.later r1 h) (hev.later h))
  rw [ha] at IA
  rw [hb] at IB
  have R0 := hide (show (w.alloc (.cells #[.int .i64 k, .int .i64 0, .string ⟨#[]⟩, .slice (some ⟨p, off, none⟩) 2 cap] 26)).heap[w.heap.size]? = some (.cells #[.int .i64 k, .int .i64 0, .string ⟨#[]⟩, .slice (some ⟨p, off, none⟩) 2 cap] 26 (0, 0)) from Array.getElem?_push_size)
  have d0 := ((unhide B0).cell (p := ⟨p, off, none⟩) hpl).trans c0
  have d1 := ((unhide B0).cell (p := ⟨p, off + 1, none⟩) hpl).trans c1
  have d2 := ((unhide B0).cell (p := ⟨p, off + 2, none⟩) hpl).trans c2
  have d3 := ((unhide B0).cell (p := ⟨p, off + 3, none⟩) hpl).trans c3
  have E0' := hide (fun wr (h : Below w.heap.size w wr) => (h.cell (p := ⟨p, off + 4, none⟩) hpl).trans e0)
  have E1' := hide (fun wr (h : Below w.heap.size w wr) => (h.cell (p := ⟨p, off + 4 + 1, none⟩) hpl).trans e1)
  have E2' := hide (fun wr (h : Below w.heap.size w wr) => (h.cell (p := ⟨p, off + 4 + 2, none⟩) hpl).trans e2)
  have E3' := hide (fun wr (h : Below w.heap.size w wr) => (h.cell (p := ⟨p, off + 4 + 3, none⟩) hpl).trans e3)
  have k1 : (k == 1) = false := beq_eq_false_iff_ne.2 (by omega)
  have k2 : (k == 2) = false := beq_eq_false_iff_ne.2 (by omega)
  have k3 : (k == 3) = false := beq_eq_false_iff_ne.2 (by omega)
  have k4 : (k == 4) = false := beq_eq_false_iff_ne.2 (by omega)
  have k11 : (k == 11) = false := beq_eq_false_iff_ne.2 (by omega)
  have k12 : (k == 12) = false := beq_eq_false_iff_ne.2 (by omega)
  have TW := hide (fun wr => twoS_any k va vb hk ia ib wr)
  unfold TwoR at TW
  generalize hX : InR _ w = X
  have HX := hide hX
  unfold InR at IA IB
  simp only [Option.getD_some, Option.getD_none, Option.isSome_some, Option.isSome_none] at IA IB
  unfold Ex.cs at IA IB
  show Calls Tryd.prog 63 #[.agg #[.int .i64 k, .int .i64 0, .string ⟨#[]⟩, .slice (some ⟨p, off, none⟩) 2 cap], .slice (some ⟨gb, 0, none⟩) bs.length cb, .slice (some ⟨gn, 0, none⟩) L.length cn, .slice (some ⟨gv, 0, none⟩) vs.length cv] w X
  clear hX hr hc c0 c1 c2 c3 e0 e1 e2 e3 r0 r1 iha ihb xa xb hev ha hb EQ hk
  go_enter Tryd.func63, Tryd.ntmps63
  go_wp2_with fail
  generalize w.alloc (.cells #[.int .i64 k, .int .i64 0, .string ⟨#[]⟩, .slice (some ⟨p, off, none⟩) 2 cap] 26) = W at *
  clear d0 d1 d2 d3
  refine (unhide IA).mono ?_
  rintro r w1 ⟨rfl, hb1⟩
  have B1 := hide ((unhide B0).trans (hb1.mono (unhide B0).size))
  have R1 := hide (row_keep (unhide R0) hb1)
  have z0 := Lib.cell_of_heap (unhide R1) 0
  have z3 := Lib.cell_of_heap (unhide R1) 3
  have d0 := unhide E0' _ (unhide B1)
  have d1 := unhide E1' _ (unhide B1)
  have d2 := unhide E2' _ (unhide B1)
  have d3 := unhide E3' _ (unhide B1)
  have IB2 := hide (unhide IB _ (unhide B1))
  clear hb1 B0 R0 IA IB E0' E1' E2' E3'
  go_wp2_with fail
  clear d0 d1 d2 d3 z0 z3
  refine (unhide IB2).mono ?_
  rintro r w2 ⟨rfl, hb2⟩
  have B2 := hide ((unhide B1).trans (hb2.mono (unhide B1).size))
  have R2 := row_keep (unhide R1) hb2
  have z0 := Lib.cell_of_heap R2 0
  clear hb2 B1 R1 IB2 R2
  go_wp2_with (go_at_call 78; refine (unhide TW _).mono ?_; rintro r w' ⟨hw', rfl⟩; rw [hw']; clear hw' w')
  rw [← unhide HX]
  exact ⟨rfl, unhide B2⟩
set_option maxHeartbeats 4000000 in
theorem worthS_sn (bs : List Int) (L : List ByteArray) (vs : List Int) (k : Int) (hk : 5 ≤ k ∧ k ≤ 10) (a b : Ex) (iha : WoP bs L vs a) (ihb : WoP bs L vs b) (va vb : Int) (ha : worthX (seW bs) (glW L vs) a = some va) (hb : worthX (seW bs) (glW L vs) b = none) (ia : 0 ≤ va ∧ va ≤ 65535) (ib : 0 ≤ vb ∧ vb ≤ 65535) : WoP bs L vs ⟨k, 0, ⟨#[]⟩, [a, b]⟩ := by
  intro bb cap gb gn gv cb cn cv w hr hev
  have EQ := hide (show worthX (seW bs) (glW L vs) ⟨k, 0, ⟨#[]⟩, [a, b]⟩ = none by rw [worth_two, ha, hb]; rfl)
  rw [unhide EQ]
  obtain ⟨p, off, rfl, hpl, hc⟩ := hr.at (by simp)
  obtain ⟨c0, c1, c2, q0, qp0, c3, r0⟩ := hc 0 (by simp)
  obtain ⟨e0, e1, e2, q1, qp1, e3, r1⟩ := hc 1 (by simp)
  have xa : xAt (Ex.mk k 0 ⟨#[]⟩ [a, b]).l 0 = a := rfl
  have xb : xAt (Ex.mk k 0 ⟨#[]⟩ [a, b]).l 1 = b := rfl
  rw [xa] at c0 c1 c2 c3 r0
  rw [xb] at e0 e1 e2 e3 r1
  simp only [Nat.zero_mul, Nat.add_zero, Nat.one_mul] at c0 c1 c2 c3 e0 e1 e2 e3
  have B0 := hide (below_new w (.cells #[.int .i64 k, .int .i64 0, .string ⟨#[]⟩, .slice (some ⟨p, off, none⟩) 2 cap] 26))
  have IA := hide (iha q0 qp0 gb gn gv cb cn cv _ (RdX.later r0 (unhide B0)) (hev.later (unhide B0)))
  have IB := hide (fun wr (h : Below w.heap.size w wr) => ihb q1 qp1 gb gn gv cb cn cv wr (RdX.later r1 h) (hev.later h))
  rw [ha] at IA
  rw [hb] at IB
  have R0 := hide (show (w.alloc (.cells #[.int .i64 k, .int .i64 0, .string ⟨#[]⟩, .slice (some ⟨p, off, none⟩) 2 cap] 26)).heap[w.heap.size]? = some (.cells #[.int .i64 k, .int .i64 0, .string ⟨#[]⟩, .slice (some ⟨p, off, none⟩) 2 cap] 26 (0, 0)) from Array.getElem?_push_size)
  have d0 := ((unhide B0).cell (p := ⟨p, off, none⟩) hpl).trans c0
  have d1 := ((unhide B0).cell (p := ⟨p, off + 1, none⟩) hpl).trans c1
  have d2 := ((unhide B0).cell (p := ⟨p, off + 2, none⟩) hpl).trans c2
  have d3 := ((unhide B0).cell (p := ⟨p, off + 3, none⟩) hpl).trans c3
  have E0' := hide (fun wr (h : Below w.heap.size w wr) => (h.cell (p := ⟨p, off + 4, none⟩) hpl).trans e0)
  have E1' := hide (fun wr (h : Below w.heap.size w wr) => (h.cell (p := ⟨p, off + 4 + 1, none⟩) hpl).trans e1)
  have E2' := hide (fun wr (h : Below w.heap.size w wr) => (h.cell (p := ⟨p, off + 4 + 2, none⟩) hpl).trans e2)
  have E3' := hide (fun wr (h : Below w.heap.size w wr) => (h.cell (p := ⟨p, off + 4 + 3, none⟩) hpl).trans e3)
  have k1 : (k == 1) = false := beq_eq_false_iff_ne.2 (by omega)
  have k2 : (k == 2) = false := beq_eq_false_iff_ne.2 (by omega)
  have k3 : (k == 3) = false := beq_eq_false_iff_ne.2 (by omega)
  have k4 : (k == 4) = false := beq_eq_false_iff_ne.2 (by omega)
  have k11 : (k == 11) = false := beq_eq_false_iff_ne.2 (by omega)
  have k12 : (k == 12) = false := beq_eq_false_iff_ne.2 (by omega)
  have TW := hide (fun wr => twoS_any k va vb hk ia ib wr)
  unfold TwoR at TW
  generalize hX : InR _ w = X
  have HX := hide hX
  unfold InR at IA IB
  simp only [Option.getD_some, Option.getD_none, Option.isSome_some, Option.isSome_none] at IA IB
  unfold Ex.cs at IA IB
  show Calls Tryd.prog 63 #[.agg #[.int .i64 k, .int .i64 0, .string ⟨#[]⟩, .slice (some ⟨p, off, none⟩) 2 cap], .slice (some ⟨gb, 0, none⟩) bs.length cb, .slice (some ⟨gn, 0, none⟩) L.length cn, .slice (some ⟨gv, 0, none⟩) vs.length cv] w X
  clear hX hr hc c0 c1 c2 c3 e0 e1 e2 e3 r0 r1 iha ihb xa xb hev ha hb EQ hk
  go_enter Tryd.func63, Tryd.ntmps63
  go_wp2_with fail
  generalize w.alloc (.cells #[.int .i64 k, .int .i64 0, .string ⟨#[]⟩, .slice (some ⟨p, off, none⟩) 2 cap] 26) = W at *
  clear d0 d1 d2 d3
  refine (unhide IA).mono ?_
  rintro r w1 ⟨rfl, hb1⟩
  have B1 := hide ((unhide B0).trans (hb1.mono (unhide B0).size))
  have R1 := hide (row_keep (unhide R0) hb1)
  have z0 := Lib.cell_of_heap (unhide R1) 0
  have z3 := Lib.cell_of_heap (unhide R1) 3
  have d0 := unhide E0' _ (unhide B1)
  have d1 := unhide E1' _ (unhide B1)
  have d2 := unhide E2' _ (unhide B1)
  have d3 := unhide E3' _ (unhide B1)
  have IB2 := hide (unhide IB _ (unhide B1))
  clear hb1 B0 R0 IA IB E0' E1' E2' E3'
  go_wp2_with fail
  clear d0 d1 d2 d3 z0 z3
  refine (unhide IB2).mono ?_
  rintro r w2 ⟨rfl, hb2⟩
  have B2 := hide ((unhide B1).trans (hb2.mono (unhide B1).size))
  have R2 := row_keep (unhide R1) hb2
  have z0 := Lib.cell_of_heap R2 0
  clear hb2 B1 R1 IB2 R2
  go_wp2_with (go_at_call 78; refine (unhide TW _).mono ?_; rintro r w' ⟨hw', rfl⟩; rw [hw']; clear hw' w')
  rw [← unhide HX]
  exact ⟨rfl, unhide B2⟩
set_option maxHeartbeats 4000000 in
theorem worthS_ss (bs : List Int) (L : List ByteArray) (vs : List Int) (k : Int) (hk : 5 ≤ k ∧ k ≤ 10) (a b : Ex) (iha : WoP bs L vs a) (ihb : WoP bs L vs b) (va vb : Int) (ha : worthX (seW bs) (glW L vs) a = some va) (hb : worthX (seW bs) (glW L vs) b = some vb) (ia : 0 ≤ va ∧ va ≤ 65535) (ib : 0 ≤ vb ∧ vb ≤ 65535) : WoP bs L vs ⟨k, 0, ⟨#[]⟩, [a, b]⟩ := by
  intro bb cap gb gn gv cb cn cv w hr hev
  have EQ := hide (show worthX (seW bs) (glW L vs) ⟨k, 0, ⟨#[]⟩, [a, b]⟩ = two11 k va vb by rw [worth_two, ha, hb]; rfl)
  rw [unhide EQ]
  obtain ⟨p, off, rfl, hpl, hc⟩ := hr.at (by simp)
  obtain ⟨c0, c1, c2, q0, qp0, c3, r0⟩ := hc 0 (by simp)
  obtain ⟨e0, e1, e2, q1, qp1, e3, r1⟩ := hc 1 (by simp)
  have xa : xAt (Ex.mk k 0 ⟨#[]⟩ [a, b]).l 0 = a := rfl
  have xb : xAt (Ex.mk k 0 ⟨#[]⟩ [a, b]).l 1 = b := rfl
  rw [xa] at c0 c1 c2 c3 r0
  rw [xb] at e0 e1 e2 e3 r1
  simp only [Nat.zero_mul, Nat.add_zero, Nat.one_mul] at c0 c1 c2 c3 e0 e1 e2 e3
  have B0 := hide (below_new w (.cells #[.int .i64 k, .int .i64 0, .string ⟨#[]⟩, .slice (some ⟨p, off, none⟩) 2 cap] 26))
  have IA := hide (iha q0 qp0 gb gn gv cb cn cv _ (RdX.later r0 (unhide B0)) (hev.later (unhide B0)))
  have IB := hide (fun wr (h : Below w.heap.size w wr) => ihb q1 qp1 gb gn gv cb cn cv wr (RdX.later r1 h) (hev.later h))
  rw [ha] at IA
  rw [hb] at IB
  have R0 := hide (show (w.alloc (.cells #[.int .i64 k, .int .i64 0, .string ⟨#[]⟩, .slice (some ⟨p, off, none⟩) 2 cap] 26)).heap[w.heap.size]? = some (.cells #[.int .i64 k, .int .i64 0, .string ⟨#[]⟩, .slice (some ⟨p, off, none⟩) 2 cap] 26 (0, 0)) from Array.getElem?_push_size)
  have d0 := ((unhide B0).cell (p := ⟨p, off, none⟩) hpl).trans c0
  have d1 := ((unhide B0).cell (p := ⟨p, off + 1, none⟩) hpl).trans c1
  have d2 := ((unhide B0).cell (p := ⟨p, off + 2, none⟩) hpl).trans c2
  have d3 := ((unhide B0).cell (p := ⟨p, off + 3, none⟩) hpl).trans c3
  have E0' := hide (fun wr (h : Below w.heap.size w wr) => (h.cell (p := ⟨p, off + 4, none⟩) hpl).trans e0)
  have E1' := hide (fun wr (h : Below w.heap.size w wr) => (h.cell (p := ⟨p, off + 4 + 1, none⟩) hpl).trans e1)
  have E2' := hide (fun wr (h : Below w.heap.size w wr) => (h.cell (p := ⟨p, off + 4 + 2, none⟩) hpl).trans e2)
  have E3' := hide (fun wr (h : Below w.heap.size w wr) => (h.cell (p := ⟨p, off + 4 + 3, none⟩) hpl).trans e3)
  have k1 : (k == 1) = false := beq_eq_false_iff_ne.2 (by omega)
  have k2 : (k == 2) = false := beq_eq_false_iff_ne.2 (by omega)
  have k3 : (k == 3) = false := beq_eq_false_iff_ne.2 (by omega)
  have k4 : (k == 4) = false := beq_eq_false_iff_ne.2 (by omega)
  have k11 : (k == 11) = false := beq_eq_false_iff_ne.2 (by omega)
  have k12 : (k == 12) = false := beq_eq_false_iff_ne.2 (by omega)
  have TW := hide (fun wr => twoS_any k va vb hk ia ib wr)
  unfold TwoR at TW
  generalize hX : InR _ w = X
  have HX := hide hX
  unfold InR at IA IB
  simp only [Option.getD_some, Option.getD_none, Option.isSome_some, Option.isSome_none] at IA IB
  unfold Ex.cs at IA IB
  show Calls Tryd.prog 63 #[.agg #[.int .i64 k, .int .i64 0, .string ⟨#[]⟩, .slice (some ⟨p, off, none⟩) 2 cap], .slice (some ⟨gb, 0, none⟩) bs.length cb, .slice (some ⟨gn, 0, none⟩) L.length cn, .slice (some ⟨gv, 0, none⟩) vs.length cv] w X
  clear hX hr hc c0 c1 c2 c3 e0 e1 e2 e3 r0 r1 iha ihb xa xb hev ha hb EQ hk
  go_enter Tryd.func63, Tryd.ntmps63
  go_wp2_with fail
  generalize w.alloc (.cells #[.int .i64 k, .int .i64 0, .string ⟨#[]⟩, .slice (some ⟨p, off, none⟩) 2 cap] 26) = W at *
  clear d0 d1 d2 d3
  refine (unhide IA).mono ?_
  rintro r w1 ⟨rfl, hb1⟩
  have B1 := hide ((unhide B0).trans (hb1.mono (unhide B0).size))
  have R1 := hide (row_keep (unhide R0) hb1)
  have z0 := Lib.cell_of_heap (unhide R1) 0
  have z3 := Lib.cell_of_heap (unhide R1) 3
  have d0 := unhide E0' _ (unhide B1)
  have d1 := unhide E1' _ (unhide B1)
  have d2 := unhide E2' _ (unhide B1)
  have d3 := unhide E3' _ (unhide B1)
  have IB2 := hide (unhide IB _ (unhide B1))
  clear hb1 B0 R0 IA IB E0' E1' E2' E3'
  go_wp2_with fail
  clear d0 d1 d2 d3 z0 z3
  refine (unhide IB2).mono ?_
  rintro r w2 ⟨rfl, hb2⟩
  have B2 := hide ((unhide B1).trans (hb2.mono (unhide B1).size))
  have R2 := row_keep (unhide R1) hb2
  have z0 := Lib.cell_of_heap R2 0
  clear hb2 B1 R1 IB2 R2
  go_wp2_with (go_at_call 78; refine (unhide TW _).mono ?_; rintro r w' ⟨hw', rfl⟩; rw [hw']; clear hw' w')
  rw [← unhide HX]
  exact ⟨rfl, unhide B2⟩
end Go.Proofs.YtkolflcjkofleaaDoor

namespace Go.Proofs.YtkolflcjkofleaaDoor
open Go.ChangeShapes Go.WideShapes Go.ChangeAt Go.RowKit
set_option linter.unusedVariables false
set_option maxRecDepth 8000
set_option linter.unusedSimpArgs false

theorem worthS_all (bs : List Int) (L : List ByteArray) (vs : List Int) (hL : L.length ≤ 1100000) (hB : bs.length ≤ 1099511627776) (hV : vs.length ≤ 1099511627776) : ∀ (d : Nat) (e : Ex), okF d false e = true → WoP bs L vs e := by
  intro d
  induction d with
  | zero => intro e h; rw [okF] at h; cases h
  | succ d ih =>
    intro e h
    rcases ok_sev h with ⟨n, hn, rfl⟩ | ⟨s, hs, rfl⟩ | rfl | ⟨n, hn, rfl⟩ | ⟨s, hs, rfl⟩ | ⟨a, ha, rfl⟩ | ⟨k, a, b, hk, ha, hb, rfl⟩
    · exact worth1 n _ bs L vs hL hB hV
    · exact worth2 0 s bs L vs hL hB hV
    · exact worth3 0 _ bs L vs hL hB hV
    · by_cases hl : n < (bs.length : Int)
      · obtain ⟨m, rfl⟩ : ∃ m : Nat, n = m := ⟨n.toNat, by omega⟩
        exact worth11y m _ bs L vs hL hB hV (by omega)
      · exact worth11n n _ bs L vs hL hB hV hl
    · by_cases h0 : atV L s < 0
      · exact worth12m 0 s bs L vs hL hB hV h0
      · by_cases hl : (vs.length : Int) ≤ atV L s
        · exact worth12g 0 s bs L vs hL hB hV h0 hl
        · obtain ⟨m, hm⟩ : ∃ m : Nat, atV L s = m := ⟨(atV L s).toNat, by omega⟩
          exact worth12y 0 s m bs L vs hL hB hV hm (by omega)
    · exact worthS_neg bs L vs a (ih a ha) (fun v hv => worth_in (seW_in bs) (glW_in L vs) d a v ha hv)
    · cases wa : worthX (seW bs) (glW L vs) a with
      | none =>
        cases wb : worthX (seW bs) (glW L vs) b with
        | none => exact worthS_nn bs L vs k hk a b (ih a ha) (ih b hb) 0 0 wa wb (by decide) (by decide)
        | some vb => exact worthS_ns bs L vs k hk a b (ih a ha) (ih b hb) 0 vb wa wb (by decide) (worth_in (seW_in bs) (glW_in L vs) d b vb hb wb)
      | some va =>
        cases wb : worthX (seW bs) (glW L vs) b with
        | none => exact worthS_sn bs L vs k hk a b (ih a ha) (ih b hb) va 0 wa wb (worth_in (seW_in bs) (glW_in L vs) d a va ha wa) (by decide)
        | some vb => exact worthS_ss bs L vs k hk a b (ih a ha) (ih b hb) va vb wa wb (worth_in (seW_in bs) (glW_in L vs) d a va ha wa) (worth_in (seW_in bs) (glW_in L vs) d b vb hb wb)
/-- What Worth answers. -/
def worthA (bs : List Int) (L : List ByteArray) (vs : List Int) (e : Ex) : Option Int := if okF 6 false e = true then worthX (seW bs) (glW L vs) e else none
set_option maxHeartbeats 4000000 in
theorem worthA_no (bs : List Int) (L : List ByteArray) (vs : List Int) (hL : L.length ≤ 1100000) (hB : bs.length ≤ 1099511627776) (hV : vs.length ≤ 1099511627776) (e : Ex) (b : Option Addr) (cap gb gn gv cb cn cv : Nat) (w : World) (hr : RdX w 0 e b) (hev : Ev w gb gn gv bs L vs) (hz : e.sz ≤ 1048576) (ho : okF 6 false e = false) : Calls Tryd.prog 24 #[.agg (e.cs b cap), .slice (some ⟨gb, 0, none⟩) bs.length cb, .slice (some ⟨gn, 0, none⟩) L.length cn, .slice (some ⟨gv, 0, none⟩) vs.length cv] w (InR (worthA bs L vs e) w) := by
  have EQ := hide (show worthA bs L vs e = none by unfold worthA; rw [if_neg (by rw [ho]; decide)])
  rw [unhide EQ]
  have B0 := hide (below_new w (.cells #[.int .i64 e.k, .int .i64 e.n, .string e.s, .slice b e.l.length cap] 26))
  have R0 := hide (show (w.alloc (.cells #[.int .i64 e.k, .int .i64 e.n, .string e.s, .slice b e.l.length cap] 26)).heap[w.heap.size]? = some (.cells #[.int .i64 e.k, .int .i64 e.n, .string e.s, .slice b e.l.length cap] 26 (0, 0)) from Array.getElem?_push_size)
  have OK := hide (okS_any e b cap _ (hr.later (unhide B0)) hz)
  rw [ho] at OK
  generalize hX : InR _ w = X
  have HX := hide hX
  unfold Ex.cs at OK ⊢
  clear hX hr hev hz ho EQ
  go_enter Tryd.func24, Tryd.ntmps24
  go_wp2_with fail
  generalize w.alloc (.cells #[.int .i64 e.k, .int .i64 e.n, .string e.s, .slice b e.l.length cap] 26) = W at *
  refine (unhide OK).mono ?_
  rintro r w1 ⟨rfl, hb1⟩
  have B1 := hide ((unhide B0).trans (hb1.mono (unhide B0).size))
  have R1 := hide (row_keep (unhide R0) hb1)
  clear hb1 B0 R0 OK
  go_wp2
  rw [← unhide HX]
  exact ⟨rfl, unhide B1⟩
set_option maxHeartbeats 4000000 in
theorem worthA_n (bs : List Int) (L : List ByteArray) (vs : List Int) (hL : L.length ≤ 1100000) (hB : bs.length ≤ 1099511627776) (hV : vs.length ≤ 1099511627776) (e : Ex) (b : Option Addr) (cap gb gn gv cb cn cv : Nat) (w : World) (hr : RdX w 0 e b) (hev : Ev w gb gn gv bs L vs) (hz : e.sz ≤ 1048576) (ho : okF 6 false e = true) (hv : worthX (seW bs) (glW L vs) e = none) : Calls Tryd.prog 24 #[.agg (e.cs b cap), .slice (some ⟨gb, 0, none⟩) bs.length cb, .slice (some ⟨gn, 0, none⟩) L.length cn, .slice (some ⟨gv, 0, none⟩) vs.length cv] w (InR (worthA bs L vs e) w) := by
  have EQ := hide (show worthA bs L vs e = none by unfold worthA; rw [if_pos ho, hv])
  rw [unhide EQ]
  have B0 := hide (below_new w (.cells #[.int .i64 e.k, .int .i64 e.n, .string e.s, .slice b e.l.length cap] 26))
  have R0 := hide (show (w.alloc (.cells #[.int .i64 e.k, .int .i64 e.n, .string e.s, .slice b e.l.length cap] 26)).heap[w.heap.size]? = some (.cells #[.int .i64 e.k, .int .i64 e.n, .string e.s, .slice b e.l.length cap] 26 (0, 0)) from Array.getElem?_push_size)
  have OK := hide (okS_any e b cap _ (hr.later (unhide B0)) hz)
  rw [ho] at OK
  have WO := hide (fun wr (h : Below w.heap.size w wr) => worthS_all bs L vs hL hB hV 6 e ho b cap gb gn gv cb cn cv wr (hr.later h) (hev.later h))
  rw [hv] at WO
  unfold InR at WO
  simp only [Option.getD_some, Option.getD_none, Option.isSome_some, Option.isSome_none] at WO
  unfold Ex.cs at WO
  generalize hX : InR _ w = X
  have HX := hide hX
  unfold Ex.cs at OK ⊢
  clear hX hr hev hz ho EQ hv
  go_enter Tryd.func24, Tryd.ntmps24
  go_wp2_with fail
  generalize w.alloc (.cells #[.int .i64 e.k, .int .i64 e.n, .string e.s, .slice b e.l.length cap] 26) = W at *
  refine (unhide OK).mono ?_
  rintro r w1 ⟨rfl, hb1⟩
  have B1 := hide ((unhide B0).trans (hb1.mono (unhide B0).size))
  have R1 := hide (row_keep (unhide R0) hb1)
  clear hb1 B0 R0 OK
  have W1 := hide (unhide WO w1 (unhide B1))
  clear WO
  go_wp2_with (refine wpList_load_row rfl 26 _ rfl w.heap.size rfl 26 #[.int .i64 e.k, .int .i64 e.n, .string e.s, .slice b e.l.length cap] (0, 0) _ (unhide R1) Tryd.underlying26 rfl (by kernel_rfl) ?_)
  refine (unhide W1).mono ?_
  rintro r w2 ⟨rfl, hb2⟩
  have B2 := hide ((unhide B1).trans (hb2.mono (unhide B1).size))
  clear hb2 B1 R1 W1
  go_wp2
  rw [← unhide HX]
  exact ⟨rfl, unhide B2⟩
set_option maxHeartbeats 4000000 in
theorem worthA_y (bs : List Int) (L : List ByteArray) (vs : List Int) (hL : L.length ≤ 1100000) (hB : bs.length ≤ 1099511627776) (hV : vs.length ≤ 1099511627776) (e : Ex) (b : Option Addr) (cap gb gn gv cb cn cv : Nat) (w : World) (hr : RdX w 0 e b) (hev : Ev w gb gn gv bs L vs) (hz : e.sz ≤ 1048576) (ho : okF 6 false e = true) (v : Int) (hv : worthX (seW bs) (glW L vs) e = some v) : Calls Tryd.prog 24 #[.agg (e.cs b cap), .slice (some ⟨gb, 0, none⟩) bs.length cb, .slice (some ⟨gn, 0, none⟩) L.length cn, .slice (some ⟨gv, 0, none⟩) vs.length cv] w (InR (worthA bs L vs e) w) := by
  have EQ := hide (show worthA bs L vs e = some v by unfold worthA; rw [if_pos ho, hv])
  rw [unhide EQ]
  have B0 := hide (below_new w (.cells #[.int .i64 e.k, .int .i64 e.n, .string e.s, .slice b e.l.length cap] 26))
  have R0 := hide (show (w.alloc (.cells #[.int .i64 e.k, .int .i64 e.n, .string e.s, .slice b e.l.length cap] 26)).heap[w.heap.size]? = some (.cells #[.int .i64 e.k, .int .i64 e.n, .string e.s, .slice b e.l.length cap] 26 (0, 0)) from Array.getElem?_push_size)
  have OK := hide (okS_any e b cap _ (hr.later (unhide B0)) hz)
  rw [ho] at OK
  have WO := hide (fun wr (h : Below w.heap.size w wr) => worthS_all bs L vs hL hB hV 6 e ho b cap gb gn gv cb cn cv wr (hr.later h) (hev.later h))
  rw [hv] at WO
  unfold InR at WO
  simp only [Option.getD_some, Option.getD_none, Option.isSome_some, Option.isSome_none] at WO
  unfold Ex.cs at WO
  generalize hX : InR _ w = X
  have HX := hide hX
  unfold Ex.cs at OK ⊢
  clear hX hr hev hz ho EQ hv
  go_enter Tryd.func24, Tryd.ntmps24
  go_wp2_with fail
  generalize w.alloc (.cells #[.int .i64 e.k, .int .i64 e.n, .string e.s, .slice b e.l.length cap] 26) = W at *
  refine (unhide OK).mono ?_
  rintro r w1 ⟨rfl, hb1⟩
  have B1 := hide ((unhide B0).trans (hb1.mono (unhide B0).size))
  have R1 := hide (row_keep (unhide R0) hb1)
  clear hb1 B0 R0 OK
  have W1 := hide (unhide WO w1 (unhide B1))
  clear WO
  go_wp2_with (refine wpList_load_row rfl 26 _ rfl w.heap.size rfl 26 #[.int .i64 e.k, .int .i64 e.n, .string e.s, .slice b e.l.length cap] (0, 0) _ (unhide R1) Tryd.underlying26 rfl (by kernel_rfl) ?_)
  refine (unhide W1).mono ?_
  rintro r w2 ⟨rfl, hb2⟩
  have B2 := hide ((unhide B1).trans (hb2.mono (unhide B1).size))
  clear hb2 B1 R1 W1
  go_wp2
  rw [← unhide HX]
  exact ⟨rfl, unhide B2⟩
theorem worthA_any (bs : List Int) (L : List ByteArray) (vs : List Int) (hL : L.length ≤ 1100000) (hB : bs.length ≤ 1099511627776) (hV : vs.length ≤ 1099511627776) (e : Ex) (b : Option Addr) (cap gb gn gv cb cn cv : Nat) (w : World) (hr : RdX w 0 e b) (hev : Ev w gb gn gv bs L vs) (hz : e.sz ≤ 1048576) : Calls Tryd.prog 24 #[.agg (e.cs b cap), .slice (some ⟨gb, 0, none⟩) bs.length cb, .slice (some ⟨gn, 0, none⟩) L.length cn, .slice (some ⟨gv, 0, none⟩) vs.length cv] w (InR (worthA bs L vs e) w) := by
  cases ho : okF 6 false e with
  | false => exact worthA_no bs L vs hL hB hV e b cap gb gn gv cb cn cv w hr hev hz ho
  | true =>
    cases hv : worthX (seW bs) (glW L vs) e with
    | none => exact worthA_n bs L vs hL hB hV e b cap gb gn gv cb cn cv w hr hev hz ho hv
    | some v => exact worthA_y bs L vs hL hB hV e b cap gb gn gv cb cn cv w hr hev hz ho v hv
end Go.Proofs.YtkolflcjkofleaaDoor

namespace Go.Proofs.YtkolflcjkofleaaDoor
open Go.ChangeShapes Go.WideShapes Go.ChangeAt Go.RowKit
set_option linter.unusedVariables false
set_option maxRecDepth 8000
set_option linter.unusedSimpArgs false

/-- A term with another in the place of where it stands, and values for names; by its parts. -/
def putC (here : Ex) (L : List ByteArray) (vals : List Ex) (k n : Int) (s : ByteArray) (l : List Ex) : Ex :=
  if k = 3 then here else if k = 2 ∧ 0 ≤ atV L s then xAt vals (atV L s).toNat else ⟨k, n, s, l⟩
def putX (here : Ex) (L : List ByteArray) (vals : List Ex) : Ex → Ex
  | ⟨k, n, s, l⟩ => putC here L vals k n s (l.map (putX here L vals))
theorem putX_eq (here : Ex) (L : List ByteArray) (vals : List Ex) (k n : Int) (s : ByteArray) (l : List Ex) : putX here L vals ⟨k, n, s, l⟩ = putC here L vals k n s (l.map (putX here L vals)) := by rw [putX]
/-- What is put, and where, as it lies. -/
structure Pv (w : World) (here : Ex) (hb : Option Addr) (gn : Nat) (L : List ByteArray) (va : Option Addr) (vals : List Ex) : Prop where
  h : RdX w 0 here hb
  n : RdS w gn L
  ln : gn < w.heap.size
  v : RdX w 0 ⟨0, 0, E0, vals⟩ va
theorem Pv.later {w w' : World} {here : Ex} {hb va : Option Addr} {gn : Nat} {L : List ByteArray} {vals : List Ex} (h : Pv w here hb gn L va vals) (hbel : Below w.heap.size w w') : Pv w' here hb gn L va vals :=
  ⟨h.h.later hbel, fun i hi => (hbel.cell (p := ⟨gn, i, none⟩) h.ln).trans (h.n i hi), Nat.lt_of_lt_of_le h.ln hbel.size, h.v.later hbel⟩
/-- What is put can be counted. -/
structure Pk (here : Ex) (L : List ByteArray) (vals : List Ex) : Prop where
  h : here.sz ≤ 1048576
  n : L.length ≤ 1100000
  v : ∀ i, i < vals.length → (xAt vals i).sz ≤ 1048576
  l : L.length = vals.length
def PuP (here : Ex) (L : List ByteArray) (vals : List Ex) (e : Ex) : Prop := ∀ (b hb va : Option Addr) (cap hcp gn vcp : Nat) (w : World), RdX w 0 e b → Pv w here hb gn L va vals → Calls Tryd.prog 54 #[.agg (e.cs b cap), .agg (here.cs hb hcp), .slice (some ⟨gn, 0, none⟩) L.length L.length, .slice va vals.length vcp] w (GiR (putX here L vals e) (Up w) w)
theorem atV_lt {L : List ByteArray} {s : ByteArray} {j : Nat} (h : atV L s = j) : j < L.length := by
  unfold atV at h
  split at h
  · rename_i hs
    have h1 : L.findIdx (fun t => eqS t s) = j := by omega
    rw [← h1]
    rw [hasS_iff] at hs
    exact List.findIdx_lt_length_of_exists ⟨s, hs, (eqS_iff _ _).2 rfl⟩
  · omega
theorem up_oy {w : World} {b : Nat} (h : w.heap.size + 3 ≤ b) : Oy w (Up w) b := ⟨Nat.le_trans (Nat.le_add_right _ _) h, .inr h⟩
set_option maxHeartbeats 4000000 in
theorem putS_here (here : Ex) (L : List ByteArray) (vals : List Ex) (pk : Pk here L vals) (n : Int) (s : ByteArray) (l : List Ex) : PuP here L vals ⟨3, n, s, l⟩ := by
  intro b hb va cap hcp gn vcp w hr hv
  have EQ := hide (show putX here L vals ⟨3, n, s, l⟩ = here by rw [putX_eq]; rfl)
  rw [unhide EQ]
  have X0 := hide (By.new w #[.int .i64 3, .int .i64 n, .string s, .slice b l.length cap] #[.int .i64 here.k, .int .i64 here.n, .string here.s, .slice hb here.l.length hcp])
  have CP := hide (copyS_any here hb hcp _ (hv.h.later (unhide X0).bel) pk.h)
  generalize hX : GiR _ (Up w) w = X
  have HX := hide hX
  unfold GiR at CP
  unfold Ex.cs at CP ⊢
  show Calls Tryd.prog 54 #[.agg #[.int .i64 3, .int .i64 n, .string s, .slice b l.length cap], .agg #[.int .i64 here.k, .int .i64 here.n, .string here.s, .slice hb here.l.length hcp], .slice (some ⟨gn, 0, none⟩) L.length L.length, .slice va vals.length vcp] w X
  clear hX hr hv EQ pk
  go_enter Tryd.func54, Tryd.ntmps54
  go_wp2_with fail
  generalize ((w.alloc (.cells #[.int .i64 3, .int .i64 n, .string s, .slice b l.length cap] 26)).alloc (.cells #[.int .i64 here.k, .int .i64 here.n, .string here.s, .slice hb here.l.length hcp] 26)).alloc (.cells #[.int .i64 0, .int .i64 0, .string ⟨#[]⟩, .slice none 0 0] 26) = W at *
  refine (unhide CP).mono ?_
  rintro r w1 ⟨c, cp, rfl, hx, hb1⟩
  have hzW := (unhide X0).lt
  have X1 := hide ((unhide X0).later hb1)
  have A1 := hide (hx.mono (fun b h => up_oy (w := w) (b := b) (Nat.le_trans hzW h)))
  clear hx hb1 X0 CP
  go_wp2_with (refine wpList_store_row rfl 26 _ _ rfl (w.heap.size + 2) #[.int .i64 here.k, .int .i64 here.n, .string here.s, .slice c here.l.length cp] rfl rfl 26 _ ((unhide X1).res) szE rfl (ex_one _ _ _ _ _ _) ?_)
  refine bodyPost_ret (results_cell_row (P := Tryd.prog) rfl _ _ (w.heap.size + 2) 26 #[.int .i64 here.k, .int .i64 here.n, .string here.s, .slice c here.l.length cp] (0, 0) _ rfl (setRow_heap _ _ _ _ _ _ ((unhide X1).res)) Tryd.underlying26 rfl szE) rfl ?_
  rw [← unhide HX]
  exact (unhide X1).end (unhide A1) _
set_option maxHeartbeats 4000000 in
theorem putS_hit (here : Ex) (L : List ByteArray) (vals : List Ex) (pk : Pk here L vals) (n : Int) (s : ByteArray) (l : List Ex) (j : Nat) (hj : atV L s = j) : PuP here L vals ⟨2, n, s, l⟩ := by
  intro b hb va cap hcp gn vcp w hr hv
  have hjl := atV_lt hj
  have hjv : j < vals.length := by have := pk.l; omega
  have EQ := hide (show putX here L vals ⟨2, n, s, l⟩ = xAt vals j by rw [putX_eq]; unfold putC; rw [if_neg (by decide), if_pos ⟨rfl, by omega⟩, hj]; rfl)
  rw [unhide EQ]
  have X0 := hide (By.new w #[.int .i64 2, .int .i64 n, .string s, .slice b l.length cap] #[.int .i64 here.k, .int .i64 here.n, .string here.s, .slice hb here.l.length hcp])
  have hv0 := hv.later (unhide X0).bel
  have AT := hide (at_anyF L s gn L.length L.length _ rfl pk.n hv0.n)
  rw [hj] at AT
  obtain ⟨p, off, rfl, hpl, hc⟩ := hv0.v.at (by intro e; rw [show vals = [] from e] at hjv; simp at hjv)
  obtain ⟨c0, c1, c2, q, qp, c3, r0⟩ := hc j hjv
  have CP := hide (copyS_any (xAt vals j) q qp _ r0 (pk.v j hjv))
  generalize hX : GiR _ (Up w) w = X
  have HX := hide hX
  unfold GiR at CP
  unfold Ex.cs at CP ⊢
  have xe : xAt (Ex.mk 0 0 E0 vals).l j = xAt vals j := rfl
  rw [xe] at c0 c1 c2 c3
  have hlv : vals.length ≤ 1100000 := by have := pk.l; have := pk.n; omega
  show Calls Tryd.prog 54 #[.agg #[.int .i64 2, .int .i64 n, .string s, .slice b l.length cap], .agg #[.int .i64 here.k, .int .i64 here.n, .string here.s, .slice hb here.l.length hcp], .slice (some ⟨gn, 0, none⟩) L.length L.length, .slice (some ⟨p, off, none⟩) vals.length vcp] w X
  clear hX hr hv hv0 EQ pk hc r0 xe hj
  go_enter Tryd.func54, Tryd.ntmps54
  go_wp2_with (go_at_call 81; refine (unhide AT).mono ?_; rintro e w' ⟨rfl, hw'⟩; rw [hw']; clear hw' w')
  generalize ((w.alloc (.cells #[.int .i64 2, .int .i64 n, .string s, .slice b l.length cap] 26)).alloc (.cells #[.int .i64 here.k, .int .i64 here.n, .string here.s, .slice hb here.l.length hcp] 26)).alloc (.cells #[.int .i64 0, .int .i64 0, .string ⟨#[]⟩, .slice none 0 0] 26) = W at *
  clear c0 c1 c2 c3
  refine (unhide CP).mono ?_
  rintro r w1 ⟨c, cp, rfl, hx, hb1⟩
  have hzW := (unhide X0).lt
  have X1 := hide ((unhide X0).later hb1)
  have A1 := hide (hx.mono (fun b h => up_oy (w := w) (b := b) (Nat.le_trans hzW h)))
  clear hx hb1 X0 CP AT
  generalize xAt vals j = y at *
  go_wp2_with (refine wpList_store_row rfl 26 _ _ rfl (w.heap.size + 2) #[.int .i64 y.k, .int .i64 y.n, .string y.s, .slice c y.l.length cp] rfl rfl 26 _ ((unhide X1).res) szE rfl (ex_one _ _ _ _ _ _) ?_)
  refine bodyPost_ret (results_cell_row (P := Tryd.prog) rfl _ _ (w.heap.size + 2) 26 #[.int .i64 y.k, .int .i64 y.n, .string y.s, .slice c y.l.length cp] (0, 0) _ rfl (setRow_heap _ _ _ _ _ _ ((unhide X1).res)) Tryd.underlying26 rfl szE) rfl ?_
  rw [← unhide HX]
  exact (unhide X1).end (unhide A1) _
end Go.Proofs.YtkolflcjkofleaaDoor
