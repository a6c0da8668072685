/- Contracts over this seat's translation, laid together; conditions stand as hypotheses of each. -/
import Derived.Test.YtmhcbehplhfgfaaGreatDoorTxA
import Derived.Laws.Strings3
import Derived.BigGuard
import Derived.Lib.BufferWrite
import Derived.Lib.UnsafeStr
import Derived.Lib.IfaceEq
import Derived.Lib.AtoiErrMem
import Derived.Lib.Walk
import Derived.Deep.RegionWith
import Derived.Laws.MakeOwn
import Derived.Laws.Closers25b
import Derived.Deep.RegionHeld
import Derived.Laws.OwnMore
import Derived.Laws.Rows
import Derived.Lib.Builder

namespace Go.Proofs.YtmhcbehplhfgfaaGreatDoor
open Go.ChangeShapes Go.WideShapes Go.ChangeAt Go.RowKit
set_option linter.unusedVariables false
set_option maxRecDepth 8000
set_option linter.unusedSimpArgs false
/-- The same, by a term's own fields. -/
def hereV (k n : Int) (s : ByteArray) (ll : Nat) : Bool := Ex.here ⟨k, n, s, List.replicate ll X0⟩
theorem here_is (e : Ex) : e.here = hereV e.k e.n e.s e.l.length := by
  unfold hereV Ex.here
  simp only [List.length_replicate]
theorem emp_E (s : ByteArray) (h : s ≠ E0) : s.toList.isEmpty = false ∧ eqS s E0 = false := by
  refine ⟨emp_no s (fun e => h (empty_of s e)), ?_⟩
  cases he : eqS s E0 with
  | false => rfl
  | true => exact absurd ((eqS_iff _ _).1 he) h
theorem eqE : eqS E0 E0 = true := (eqS_iff _ _).2 rfl
theorem eqE1 : eqS ⟨#[]⟩ E0 = true := eqE
def HereG (k n : Int) (s : ByteArray) (ll : Nat) : Prop := ∀ (b : Option Addr) (cap : Nat) (w : World), Calls Tryz.prog 86 #[.agg #[.int .i64 k, .int .i64 n, .string s, .slice b ll cap]] w fun r w' => r = .returned (.bool (hereV k n s ll)) ∧ Below w.heap.size w w'
set_option maxHeartbeats 2000000 in
theorem here1_s (n : Int) (s : ByteArray) (ll : Nat) (h : s ≠ E0) (hs : s.size ≤ 1099511627776) (hl : ll ≤ 9223372036854775807) : HereG (1) n s ll := by
  intro b cap w
  have B0 := hide (below_new w (.cells #[.int .i64 1, .int .i64 n, .string s, .slice b ll cap] 33))
  obtain ⟨h1, h2⟩ := emp_E s h
  have V : hereV (1) n s ll = false := by simp [hereV, Ex.here, eqE, eqE1, *]
  rw [V]
  clear V
  go_enter Tryz.func86, Tryz.ntmps86
  go_wp2
  go_ret
  exact ⟨rfl, unhide B0⟩
set_option maxHeartbeats 2000000 in
theorem here1_0 (n : Int) (s : ByteArray) (ll : Nat) (hs : s.size ≤ 1099511627776) (hl : ll ≤ 9223372036854775807) : HereG (1) n ⟨#[]⟩ ll := by
  intro b cap w
  have B0 := hide (below_new w (.cells #[.int .i64 1, .int .i64 n, .string ⟨#[]⟩, .slice b ll cap] 33))
  have V : hereV (1) n ⟨#[]⟩ ll = (inB n 0 65535 && ll == 0) := by simp [hereV, Ex.here, eqE, eqE1, *]
  rw [V]
  clear V
  have Q := hide (fun w => in_any n 0 65535 w)
  generalize inB n 0 65535 = q at *
  by_cases h0 : ll = 0
  · subst h0
    cases q <;> (go_enter Tryz.func86, Tryz.ntmps86; go_wp2_with (go_at_call 28; refine (unhide Q _).mono ?_; rintro e w' ⟨rfl, hw'⟩; rw [hw']; clear hw' w'); go_ret; exact ⟨rfl, unhide B0⟩)
  · have h1 : (ll == 0) = false := beq_eq_false_iff_ne.2 h0
    have h2 : ((ll : Int) == 0) = false := beq_eq_false_iff_ne.2 (by omega)
    rw [h1]
    clear h1 h0
    cases q <;> (go_enter Tryz.func86, Tryz.ntmps86; go_wp2_with (go_at_call 28; refine (unhide Q _).mono ?_; rintro e w' ⟨rfl, hw'⟩; rw [hw']; clear hw' w'); go_ret; exact ⟨rfl, unhide B0⟩)
set_option maxHeartbeats 2000000 in
theorem here11_s (n : Int) (s : ByteArray) (ll : Nat) (h : s ≠ E0) (hs : s.size ≤ 1099511627776) (hl : ll ≤ 9223372036854775807) : HereG (11) n s ll := by
  intro b cap w
  have B0 := hide (below_new w (.cells #[.int .i64 11, .int .i64 n, .string s, .slice b ll cap] 33))
  obtain ⟨h1, h2⟩ := emp_E s h
  have V : hereV (11) n s ll = false := by simp [hereV, Ex.here, eqE, eqE1, *]
  rw [V]
  clear V
  go_enter Tryz.func86, Tryz.ntmps86
  go_wp2
  go_ret
  exact ⟨rfl, unhide B0⟩
set_option maxHeartbeats 2000000 in
theorem here11_0 (n : Int) (s : ByteArray) (ll : Nat) (hs : s.size ≤ 1099511627776) (hl : ll ≤ 9223372036854775807) : HereG (11) n ⟨#[]⟩ ll := by
  intro b cap w
  have B0 := hide (below_new w (.cells #[.int .i64 11, .int .i64 n, .string ⟨#[]⟩, .slice b ll cap] 33))
  have V : hereV (11) n ⟨#[]⟩ ll = (inB n 0 9 && ll == 0) := by simp [hereV, Ex.here, eqE, eqE1, *]
  rw [V]
  clear V
  have Q := hide (fun w => in_any n 0 9 w)
  generalize inB n 0 9 = q at *
  by_cases h0 : ll = 0
  · subst h0
    cases q <;> (go_enter Tryz.func86, Tryz.ntmps86; go_wp2_with (go_at_call 28; refine (unhide Q _).mono ?_; rintro e w' ⟨rfl, hw'⟩; rw [hw']; clear hw' w'); go_ret; exact ⟨rfl, unhide B0⟩)
  · have h1 : (ll == 0) = false := beq_eq_false_iff_ne.2 h0
    have h2 : ((ll : Int) == 0) = false := beq_eq_false_iff_ne.2 (by omega)
    rw [h1]
    clear h1 h0
    cases q <;> (go_enter Tryz.func86, Tryz.ntmps86; go_wp2_with (go_at_call 28; refine (unhide Q _).mono ?_; rintro e w' ⟨rfl, hw'⟩; rw [hw']; clear hw' w'); go_ret; exact ⟨rfl, unhide B0⟩)
set_option maxHeartbeats 2000000 in
theorem here2_n (n : Int) (s : ByteArray) (ll : Nat) (h : n ≠ 0) (hs : s.size ≤ 1099511627776) (hl : ll ≤ 9223372036854775807) : HereG (2) n s ll := by
  intro b cap w
  have B0 := hide (below_new w (.cells #[.int .i64 2, .int .i64 n, .string s, .slice b ll cap] 33))
  have V : hereV (2) n s ll = false := by simp [hereV, Ex.here, eqE, eqE1, *]
  rw [V]
  clear V
  go_enter Tryz.func86, Tryz.ntmps86
  go_wp2
  go_ret
  exact ⟨rfl, unhide B0⟩
set_option maxHeartbeats 2000000 in
theorem here2_0 (n : Int) (s : ByteArray) (ll : Nat) (hs : s.size ≤ 1099511627776) (hl : ll ≤ 9223372036854775807) : HereG (2) 0 s ll := by
  intro b cap w
  have B0 := hide (below_new w (.cells #[.int .i64 2, .int .i64 0, .string s, .slice b ll cap] 33))
  have V : hereV (2) 0 s ll = (nameB s && ll == 0) := by simp [hereV, Ex.here, eqE, eqE1, *]
  rw [V]
  clear V
  have Q := hide (nameS_any s (w.alloc (.cells #[.int .i64 2, .int .i64 0, .string s, .slice b ll cap] 33)) hs)
  generalize nameB s = q at *
  by_cases h0 : ll = 0
  · subst h0
    cases q <;> (go_enter Tryz.func86, Tryz.ntmps86; go_wp2_with (go_at_call 26; refine (unhide Q).mono ?_; rintro e w' ⟨rfl, hb⟩); go_ret; exact ⟨rfl, (unhide B0).trans (hb.mono (unhide B0).size)⟩)
  · have h1 : (ll == 0) = false := beq_eq_false_iff_ne.2 h0
    have h2 : ((ll : Int) == 0) = false := beq_eq_false_iff_ne.2 (by omega)
    rw [h1]
    clear h1 h0
    cases q <;> (go_enter Tryz.func86, Tryz.ntmps86; go_wp2_with (go_at_call 26; refine (unhide Q).mono ?_; rintro e w' ⟨rfl, hb⟩); go_ret; exact ⟨rfl, (unhide B0).trans (hb.mono (unhide B0).size)⟩)
set_option maxHeartbeats 2000000 in
theorem here12_n (n : Int) (s : ByteArray) (ll : Nat) (h : n ≠ 0) (hs : s.size ≤ 1099511627776) (hl : ll ≤ 9223372036854775807) : HereG (12) n s ll := by
  intro b cap w
  have B0 := hide (below_new w (.cells #[.int .i64 12, .int .i64 n, .string s, .slice b ll cap] 33))
  have V : hereV (12) n s ll = false := by simp [hereV, Ex.here, eqE, eqE1, *]
  rw [V]
  clear V
  go_enter Tryz.func86, Tryz.ntmps86
  go_wp2
  go_ret
  exact ⟨rfl, unhide B0⟩
set_option maxHeartbeats 2000000 in
theorem here12_0 (n : Int) (s : ByteArray) (ll : Nat) (hs : s.size ≤ 1099511627776) (hl : ll ≤ 9223372036854775807) : HereG (12) 0 s ll := by
  intro b cap w
  have B0 := hide (below_new w (.cells #[.int .i64 12, .int .i64 0, .string s, .slice b ll cap] 33))
  have V : hereV (12) 0 s ll = (nameB s && ll == 0) := by simp [hereV, Ex.here, eqE, eqE1, *]
  rw [V]
  clear V
  have Q := hide (nameS_any s (w.alloc (.cells #[.int .i64 12, .int .i64 0, .string s, .slice b ll cap] 33)) hs)
  generalize nameB s = q at *
  by_cases h0 : ll = 0
  · subst h0
    cases q <;> (go_enter Tryz.func86, Tryz.ntmps86; go_wp2_with (go_at_call 26; refine (unhide Q).mono ?_; rintro e w' ⟨rfl, hb⟩); go_ret; exact ⟨rfl, (unhide B0).trans (hb.mono (unhide B0).size)⟩)
  · have h1 : (ll == 0) = false := beq_eq_false_iff_ne.2 h0
    have h2 : ((ll : Int) == 0) = false := beq_eq_false_iff_ne.2 (by omega)
    rw [h1]
    clear h1 h0
    cases q <;> (go_enter Tryz.func86, Tryz.ntmps86; go_wp2_with (go_at_call 26; refine (unhide Q).mono ?_; rintro e w' ⟨rfl, hb⟩); go_ret; exact ⟨rfl, (unhide B0).trans (hb.mono (unhide B0).size)⟩)
set_option maxHeartbeats 2000000 in
theorem here3_n (n : Int) (s : ByteArray) (ll : Nat) (h : n ≠ 0) (hs : s.size ≤ 1099511627776) (hl : ll ≤ 9223372036854775807) : HereG (3) n s ll := by
  intro b cap w
  have B0 := hide (below_new w (.cells #[.int .i64 3, .int .i64 n, .string s, .slice b ll cap] 33))
  have V : hereV (3) n s ll = false := by simp [hereV, Ex.here, eqE, eqE1, *]
  rw [V]
  clear V
  go_enter Tryz.func86, Tryz.ntmps86
  go_wp2
  go_ret
  exact ⟨rfl, unhide B0⟩
set_option maxHeartbeats 2000000 in
theorem here3_s (n : Int) (s : ByteArray) (ll : Nat) (h : s ≠ E0) (hs : s.size ≤ 1099511627776) (hl : ll ≤ 9223372036854775807) : HereG (3) 0 s ll := by
  intro b cap w
  have B0 := hide (below_new w (.cells #[.int .i64 3, .int .i64 0, .string s, .slice b ll cap] 33))
  obtain ⟨h1, h2⟩ := emp_E s h
  have V : hereV (3) 0 s ll = false := by simp [hereV, Ex.here, eqE, eqE1, *]
  rw [V]
  clear V
  go_enter Tryz.func86, Tryz.ntmps86
  go_wp2
  go_ret
  exact ⟨rfl, unhide B0⟩
set_option maxHeartbeats 2000000 in
theorem here3_0 (n : Int) (s : ByteArray) (ll : Nat) (hs : s.size ≤ 1099511627776) (hl : ll ≤ 9223372036854775807) : HereG (3) 0 ⟨#[]⟩ ll := by
  intro b cap w
  have B0 := hide (below_new w (.cells #[.int .i64 3, .int .i64 0, .string ⟨#[]⟩, .slice b ll cap] 33))
  have V : hereV (3) 0 ⟨#[]⟩ ll = (ll == 0) := by simp [hereV, Ex.here, eqE, eqE1, *]
  rw [V]
  clear V
  by_cases h0 : ll = 0
  · subst h0
    go_enter Tryz.func86, Tryz.ntmps86
    go_wp2
    go_ret
    exact ⟨rfl, unhide B0⟩
  · have h1 : (ll == 0) = false := beq_eq_false_iff_ne.2 h0
    have h2 : ((ll : Int) == 0) = false := beq_eq_false_iff_ne.2 (by omega)
    rw [h1]
    clear h1 h0
    go_enter Tryz.func86, Tryz.ntmps86
    go_wp2
    go_ret
    exact ⟨rfl, unhide B0⟩
set_option maxHeartbeats 2000000 in
theorem here4_n (n : Int) (s : ByteArray) (ll : Nat) (h : n ≠ 0) (hs : s.size ≤ 1099511627776) (hl : ll ≤ 9223372036854775807) : HereG (4) n s ll := by
  intro b cap w
  have B0 := hide (below_new w (.cells #[.int .i64 4, .int .i64 n, .string s, .slice b ll cap] 33))
  have V : hereV (4) n s ll = false := by simp [hereV, Ex.here, eqE, eqE1, *]
  rw [V]
  clear V
  go_enter Tryz.func86, Tryz.ntmps86
  go_wp2
  go_ret
  exact ⟨rfl, unhide B0⟩
set_option maxHeartbeats 2000000 in
theorem here4_s (n : Int) (s : ByteArray) (ll : Nat) (h : s ≠ E0) (hs : s.size ≤ 1099511627776) (hl : ll ≤ 9223372036854775807) : HereG (4) 0 s ll := by
  intro b cap w
  have B0 := hide (below_new w (.cells #[.int .i64 4, .int .i64 0, .string s, .slice b ll cap] 33))
  obtain ⟨h1, h2⟩ := emp_E s h
  have V : hereV (4) 0 s ll = false := by simp [hereV, Ex.here, eqE, eqE1, *]
  rw [V]
  clear V
  go_enter Tryz.func86, Tryz.ntmps86
  go_wp2
  go_ret
  exact ⟨rfl, unhide B0⟩
set_option maxHeartbeats 2000000 in
theorem here4_0 (n : Int) (s : ByteArray) (ll : Nat) (hs : s.size ≤ 1099511627776) (hl : ll ≤ 9223372036854775807) : HereG (4) 0 ⟨#[]⟩ ll := by
  intro b cap w
  have B0 := hide (below_new w (.cells #[.int .i64 4, .int .i64 0, .string ⟨#[]⟩, .slice b ll cap] 33))
  have V : hereV (4) 0 ⟨#[]⟩ ll = (ll == 1) := by simp [hereV, Ex.here, eqE, eqE1, *]
  rw [V]
  clear V
  by_cases h0 : ll = 1
  · subst h0
    go_enter Tryz.func86, Tryz.ntmps86
    go_wp2
    go_ret
    exact ⟨rfl, unhide B0⟩
  · have h1 : (ll == 1) = false := beq_eq_false_iff_ne.2 h0
    have h2 : ((ll : Int) == 1) = false := beq_eq_false_iff_ne.2 (by omega)
    rw [h1]
    clear h1 h0
    go_enter Tryz.func86, Tryz.ntmps86
    go_wp2
    go_ret
    exact ⟨rfl, unhide B0⟩
set_option maxHeartbeats 2000000 in
theorem here5_n (n : Int) (s : ByteArray) (ll : Nat) (h : n ≠ 0) (hs : s.size ≤ 1099511627776) (hl : ll ≤ 9223372036854775807) : HereG (5) n s ll := by
  intro b cap w
  have B0 := hide (below_new w (.cells #[.int .i64 5, .int .i64 n, .string s, .slice b ll cap] 33))
  have V : hereV (5) n s ll = false := by simp [hereV, Ex.here, eqE, eqE1, *]
  rw [V]
  clear V
  go_enter Tryz.func86, Tryz.ntmps86
  go_wp2
  go_ret
  exact ⟨rfl, unhide B0⟩
set_option maxHeartbeats 2000000 in
theorem here5_s (n : Int) (s : ByteArray) (ll : Nat) (h : s ≠ E0) (hs : s.size ≤ 1099511627776) (hl : ll ≤ 9223372036854775807) : HereG (5) 0 s ll := by
  intro b cap w
  have B0 := hide (below_new w (.cells #[.int .i64 5, .int .i64 0, .string s, .slice b ll cap] 33))
  obtain ⟨h1, h2⟩ := emp_E s h
  have V : hereV (5) 0 s ll = false := by simp [hereV, Ex.here, eqE, eqE1, *]
  rw [V]
  clear V
  go_enter Tryz.func86, Tryz.ntmps86
  go_wp2
  go_ret
  exact ⟨rfl, unhide B0⟩
set_option maxHeartbeats 2000000 in
theorem here5_0 (n : Int) (s : ByteArray) (ll : Nat) (hs : s.size ≤ 1099511627776) (hl : ll ≤ 9223372036854775807) : HereG (5) 0 ⟨#[]⟩ ll := by
  intro b cap w
  have B0 := hide (below_new w (.cells #[.int .i64 5, .int .i64 0, .string ⟨#[]⟩, .slice b ll cap] 33))
  have V : hereV (5) 0 ⟨#[]⟩ ll = (ll == 2) := by simp [hereV, Ex.here, eqE, eqE1, *]
  rw [V]
  clear V
  by_cases h0 : ll = 2
  · subst h0
    go_enter Tryz.func86, Tryz.ntmps86
    go_wp2
    go_ret
    exact ⟨rfl, unhide B0⟩
  · have h1 : (ll == 2) = false := beq_eq_false_iff_ne.2 h0
    have h2 : ((ll : Int) == 2) = false := beq_eq_false_iff_ne.2 (by omega)
    rw [h1]
    clear h1 h0
    go_enter Tryz.func86, Tryz.ntmps86
    go_wp2
    go_ret
    exact ⟨rfl, unhide B0⟩
set_option maxHeartbeats 2000000 in
theorem here6_n (n : Int) (s : ByteArray) (ll : Nat) (h : n ≠ 0) (hs : s.size ≤ 1099511627776) (hl : ll ≤ 9223372036854775807) : HereG (6) n s ll := by
  intro b cap w
  have B0 := hide (below_new w (.cells #[.int .i64 6, .int .i64 n, .string s, .slice b ll cap] 33))
  have V : hereV (6) n s ll = false := by simp [hereV, Ex.here, eqE, eqE1, *]
  rw [V]
  clear V
  go_enter Tryz.func86, Tryz.ntmps86
  go_wp2
  go_ret
  exact ⟨rfl, unhide B0⟩
set_option maxHeartbeats 2000000 in
theorem here6_s (n : Int) (s : ByteArray) (ll : Nat) (h : s ≠ E0) (hs : s.size ≤ 1099511627776) (hl : ll ≤ 9223372036854775807) : HereG (6) 0 s ll := by
  intro b cap w
  have B0 := hide (below_new w (.cells #[.int .i64 6, .int .i64 0, .string s, .slice b ll cap] 33))
  obtain ⟨h1, h2⟩ := emp_E s h
  have V : hereV (6) 0 s ll = false := by simp [hereV, Ex.here, eqE, eqE1, *]
  rw [V]
  clear V
  go_enter Tryz.func86, Tryz.ntmps86
  go_wp2
  go_ret
  exact ⟨rfl, unhide B0⟩
set_option maxHeartbeats 2000000 in
theorem here6_0 (n : Int) (s : ByteArray) (ll : Nat) (hs : s.size ≤ 1099511627776) (hl : ll ≤ 9223372036854775807) : HereG (6) 0 ⟨#[]⟩ ll := by
  intro b cap w
  have B0 := hide (below_new w (.cells #[.int .i64 6, .int .i64 0, .string ⟨#[]⟩, .slice b ll cap] 33))
  have V : hereV (6) 0 ⟨#[]⟩ ll = (ll == 2) := by simp [hereV, Ex.here, eqE, eqE1, *]
  rw [V]
  clear V
  by_cases h0 : ll = 2
  · subst h0
    go_enter Tryz.func86, Tryz.ntmps86
    go_wp2
    go_ret
    exact ⟨rfl, unhide B0⟩
  · have h1 : (ll == 2) = false := beq_eq_false_iff_ne.2 h0
    have h2 : ((ll : Int) == 2) = false := beq_eq_false_iff_ne.2 (by omega)
    rw [h1]
    clear h1 h0
    go_enter Tryz.func86, Tryz.ntmps86
    go_wp2
    go_ret
    exact ⟨rfl, unhide B0⟩
set_option maxHeartbeats 2000000 in
theorem here7_n (n : Int) (s : ByteArray) (ll : Nat) (h : n ≠ 0) (hs : s.size ≤ 1099511627776) (hl : ll ≤ 9223372036854775807) : HereG (7) n s ll := by
  intro b cap w
  have B0 := hide (below_new w (.cells #[.int .i64 7, .int .i64 n, .string s, .slice b ll cap] 33))
  have V : hereV (7) n s ll = false := by simp [hereV, Ex.here, eqE, eqE1, *]
  rw [V]
  clear V
  go_enter Tryz.func86, Tryz.ntmps86
  go_wp2
  go_ret
  exact ⟨rfl, unhide B0⟩
set_option maxHeartbeats 2000000 in
theorem here7_s (n : Int) (s : ByteArray) (ll : Nat) (h : s ≠ E0) (hs : s.size ≤ 1099511627776) (hl : ll ≤ 9223372036854775807) : HereG (7) 0 s ll := by
  intro b cap w
  have B0 := hide (below_new w (.cells #[.int .i64 7, .int .i64 0, .string s, .slice b ll cap] 33))
  obtain ⟨h1, h2⟩ := emp_E s h
  have V : hereV (7) 0 s ll = false := by simp [hereV, Ex.here, eqE, eqE1, *]
  rw [V]
  clear V
  go_enter Tryz.func86, Tryz.ntmps86
  go_wp2
  go_ret
  exact ⟨rfl, unhide B0⟩
set_option maxHeartbeats 2000000 in
theorem here7_0 (n : Int) (s : ByteArray) (ll : Nat) (hs : s.size ≤ 1099511627776) (hl : ll ≤ 9223372036854775807) : HereG (7) 0 ⟨#[]⟩ ll := by
  intro b cap w
  have B0 := hide (below_new w (.cells #[.int .i64 7, .int .i64 0, .string ⟨#[]⟩, .slice b ll cap] 33))
  have V : hereV (7) 0 ⟨#[]⟩ ll = (ll == 2) := by simp [hereV, Ex.here, eqE, eqE1, *]
  rw [V]
  clear V
  by_cases h0 : ll = 2
  · subst h0
    go_enter Tryz.func86, Tryz.ntmps86
    go_wp2
    go_ret
    exact ⟨rfl, unhide B0⟩
  · have h1 : (ll == 2) = false := beq_eq_false_iff_ne.2 h0
    have h2 : ((ll : Int) == 2) = false := beq_eq_false_iff_ne.2 (by omega)
    rw [h1]
    clear h1 h0
    go_enter Tryz.func86, Tryz.ntmps86
    go_wp2
    go_ret
    exact ⟨rfl, unhide B0⟩
set_option maxHeartbeats 2000000 in
theorem here8_n (n : Int) (s : ByteArray) (ll : Nat) (h : n ≠ 0) (hs : s.size ≤ 1099511627776) (hl : ll ≤ 9223372036854775807) : HereG (8) n s ll := by
  intro b cap w
  have B0 := hide (below_new w (.cells #[.int .i64 8, .int .i64 n, .string s, .slice b ll cap] 33))
  have V : hereV (8) n s ll = false := by simp [hereV, Ex.here, eqE, eqE1, *]
  rw [V]
  clear V
  go_enter Tryz.func86, Tryz.ntmps86
  go_wp2
  go_ret
  exact ⟨rfl, unhide B0⟩
set_option maxHeartbeats 2000000 in
theorem here8_s (n : Int) (s : ByteArray) (ll : Nat) (h : s ≠ E0) (hs : s.size ≤ 1099511627776) (hl : ll ≤ 9223372036854775807) : HereG (8) 0 s ll := by
  intro b cap w
  have B0 := hide (below_new w (.cells #[.int .i64 8, .int .i64 0, .string s, .slice b ll cap] 33))
  obtain ⟨h1, h2⟩ := emp_E s h
  have V : hereV (8) 0 s ll = false := by simp [hereV, Ex.here, eqE, eqE1, *]
  rw [V]
  clear V
  go_enter Tryz.func86, Tryz.ntmps86
  go_wp2
  go_ret
  exact ⟨rfl, unhide B0⟩
set_option maxHeartbeats 2000000 in
theorem here8_0 (n : Int) (s : ByteArray) (ll : Nat) (hs : s.size ≤ 1099511627776) (hl : ll ≤ 9223372036854775807) : HereG (8) 0 ⟨#[]⟩ ll := by
  intro b cap w
  have B0 := hide (below_new w (.cells #[.int .i64 8, .int .i64 0, .string ⟨#[]⟩, .slice b ll cap] 33))
  have V : hereV (8) 0 ⟨#[]⟩ ll = (ll == 2) := by simp [hereV, Ex.here, eqE, eqE1, *]
  rw [V]
  clear V
  by_cases h0 : ll = 2
  · subst h0
    go_enter Tryz.func86, Tryz.ntmps86
    go_wp2
    go_ret
    exact ⟨rfl, unhide B0⟩
  · have h1 : (ll == 2) = false := beq_eq_false_iff_ne.2 h0
    have h2 : ((ll : Int) == 2) = false := beq_eq_false_iff_ne.2 (by omega)
    rw [h1]
    clear h1 h0
    go_enter Tryz.func86, Tryz.ntmps86
    go_wp2
    go_ret
    exact ⟨rfl, unhide B0⟩
set_option maxHeartbeats 2000000 in
theorem here9_n (n : Int) (s : ByteArray) (ll : Nat) (h : n ≠ 0) (hs : s.size ≤ 1099511627776) (hl : ll ≤ 9223372036854775807) : HereG (9) n s ll := by
  intro b cap w
  have B0 := hide (below_new w (.cells #[.int .i64 9, .int .i64 n, .string s, .slice b ll cap] 33))
  have V : hereV (9) n s ll = false := by simp [hereV, Ex.here, eqE, eqE1, *]
  rw [V]
  clear V
  go_enter Tryz.func86, Tryz.ntmps86
  go_wp2
  go_ret
  exact ⟨rfl, unhide B0⟩
set_option maxHeartbeats 2000000 in
theorem here9_s (n : Int) (s : ByteArray) (ll : Nat) (h : s ≠ E0) (hs : s.size ≤ 1099511627776) (hl : ll ≤ 9223372036854775807) : HereG (9) 0 s ll := by
  intro b cap w
  have B0 := hide (below_new w (.cells #[.int .i64 9, .int .i64 0, .string s, .slice b ll cap] 33))
  obtain ⟨h1, h2⟩ := emp_E s h
  have V : hereV (9) 0 s ll = false := by simp [hereV, Ex.here, eqE, eqE1, *]
  rw [V]
  clear V
  go_enter Tryz.func86, Tryz.ntmps86
  go_wp2
  go_ret
  exact ⟨rfl, unhide B0⟩
set_option maxHeartbeats 2000000 in
theorem here9_0 (n : Int) (s : ByteArray) (ll : Nat) (hs : s.size ≤ 1099511627776) (hl : ll ≤ 9223372036854775807) : HereG (9) 0 ⟨#[]⟩ ll := by
  intro b cap w
  have B0 := hide (below_new w (.cells #[.int .i64 9, .int .i64 0, .string ⟨#[]⟩, .slice b ll cap] 33))
  have V : hereV (9) 0 ⟨#[]⟩ ll = (ll == 2) := by simp [hereV, Ex.here, eqE, eqE1, *]
  rw [V]
  clear V
  by_cases h0 : ll = 2
  · subst h0
    go_enter Tryz.func86, Tryz.ntmps86
    go_wp2
    go_ret
    exact ⟨rfl, unhide B0⟩
  · have h1 : (ll == 2) = false := beq_eq_false_iff_ne.2 h0
    have h2 : ((ll : Int) == 2) = false := beq_eq_false_iff_ne.2 (by omega)
    rw [h1]
    clear h1 h0
    go_enter Tryz.func86, Tryz.ntmps86
    go_wp2
    go_ret
    exact ⟨rfl, unhide B0⟩
set_option maxHeartbeats 2000000 in
theorem here10_n (n : Int) (s : ByteArray) (ll : Nat) (h : n ≠ 0) (hs : s.size ≤ 1099511627776) (hl : ll ≤ 9223372036854775807) : HereG (10) n s ll := by
  intro b cap w
  have B0 := hide (below_new w (.cells #[.int .i64 10, .int .i64 n, .string s, .slice b ll cap] 33))
  have V : hereV (10) n s ll = false := by simp [hereV, Ex.here, eqE, eqE1, *]
  rw [V]
  clear V
  go_enter Tryz.func86, Tryz.ntmps86
  go_wp2
  go_ret
  exact ⟨rfl, unhide B0⟩
set_option maxHeartbeats 2000000 in
theorem here10_s (n : Int) (s : ByteArray) (ll : Nat) (h : s ≠ E0) (hs : s.size ≤ 1099511627776) (hl : ll ≤ 9223372036854775807) : HereG (10) 0 s ll := by
  intro b cap w
  have B0 := hide (below_new w (.cells #[.int .i64 10, .int .i64 0, .string s, .slice b ll cap] 33))
  obtain ⟨h1, h2⟩ := emp_E s h
  have V : hereV (10) 0 s ll = false := by simp [hereV, Ex.here, eqE, eqE1, *]
  rw [V]
  clear V
  go_enter Tryz.func86, Tryz.ntmps86
  go_wp2
  go_ret
  exact ⟨rfl, unhide B0⟩
set_option maxHeartbeats 2000000 in
theorem here10_0 (n : Int) (s : ByteArray) (ll : Nat) (hs : s.size ≤ 1099511627776) (hl : ll ≤ 9223372036854775807) : HereG (10) 0 ⟨#[]⟩ ll := by
  intro b cap w
  have B0 := hide (below_new w (.cells #[.int .i64 10, .int .i64 0, .string ⟨#[]⟩, .slice b ll cap] 33))
  have V : hereV (10) 0 ⟨#[]⟩ ll = (ll == 2) := by simp [hereV, Ex.here, eqE, eqE1, *]
  rw [V]
  clear V
  by_cases h0 : ll = 2
  · subst h0
    go_enter Tryz.func86, Tryz.ntmps86
    go_wp2
    go_ret
    exact ⟨rfl, unhide B0⟩
  · have h1 : (ll == 2) = false := beq_eq_false_iff_ne.2 h0
    have h2 : ((ll : Int) == 2) = false := beq_eq_false_iff_ne.2 (by omega)
    rw [h1]
    clear h1 h0
    go_enter Tryz.func86, Tryz.ntmps86
    go_wp2
    go_ret
    exact ⟨rfl, unhide B0⟩
set_option maxHeartbeats 2000000 in
theorem here_n (n : Int) (s : ByteArray) (ll : Nat) (k : Int) (h1 : k ≠ 1) (h2 : k ≠ 2) (h3 : k ≠ 3) (h4 : k ≠ 4) (h5 : k ≠ 5) (h6 : k ≠ 6) (h7 : k ≠ 7) (h8 : k ≠ 8) (h9 : k ≠ 9) (h10 : k ≠ 10) (h11 : k ≠ 11) (h12 : k ≠ 12) (h : n ≠ 0) (hs : s.size ≤ 1099511627776) (hl : ll ≤ 9223372036854775807) : HereG k n s ll := by
  intro b cap w
  have B0 := hide (below_new w (.cells #[.int .i64 k, .int .i64 n, .string s, .slice b ll cap] 33))
  have g1 : (k == 1) = false := beq_eq_false_iff_ne.2 h1
  have g2 : (k == 2) = false := beq_eq_false_iff_ne.2 h2
  have g3 : (k == 3) = false := beq_eq_false_iff_ne.2 h3
  have g4 : (k == 4) = false := beq_eq_false_iff_ne.2 h4
  have g5 : (k == 5) = false := beq_eq_false_iff_ne.2 h5
  have g6 : (k == 6) = false := beq_eq_false_iff_ne.2 h6
  have g7 : (k == 7) = false := beq_eq_false_iff_ne.2 h7
  have g8 : (k == 8) = false := beq_eq_false_iff_ne.2 h8
  have g9 : (k == 9) = false := beq_eq_false_iff_ne.2 h9
  have g10 : (k == 10) = false := beq_eq_false_iff_ne.2 h10
  have g11 : (k == 11) = false := beq_eq_false_iff_ne.2 h11
  have g12 : (k == 12) = false := beq_eq_false_iff_ne.2 h12
  have m1 : (k != 1) = true := by simp [h1]
  have m2 : (k != 2) = true := by simp [h2]
  have m11 : (k != 11) = true := by simp [h11]
  have m12 : (k != 12) = true := by simp [h12]
  have V : hereV k n s ll = false := by unfold hereV Ex.here; simp only; split; rfl; repeat (first | rfl | rw [if_neg (by omega)])
  rw [V]
  clear V
  go_enter Tryz.func86, Tryz.ntmps86
  go_wp2
  go_ret
  exact ⟨rfl, unhide B0⟩
set_option maxHeartbeats 2000000 in
theorem here_s (n : Int) (s : ByteArray) (ll : Nat) (k : Int) (h1 : k ≠ 1) (h2 : k ≠ 2) (h3 : k ≠ 3) (h4 : k ≠ 4) (h5 : k ≠ 5) (h6 : k ≠ 6) (h7 : k ≠ 7) (h8 : k ≠ 8) (h9 : k ≠ 9) (h10 : k ≠ 10) (h11 : k ≠ 11) (h12 : k ≠ 12) (h : s ≠ E0) (hs : s.size ≤ 1099511627776) (hl : ll ≤ 9223372036854775807) : HereG k 0 s ll := by
  intro b cap w
  have B0 := hide (below_new w (.cells #[.int .i64 k, .int .i64 0, .string s, .slice b ll cap] 33))
  have g1 : (k == 1) = false := beq_eq_false_iff_ne.2 h1
  have g2 : (k == 2) = false := beq_eq_false_iff_ne.2 h2
  have g3 : (k == 3) = false := beq_eq_false_iff_ne.2 h3
  have g4 : (k == 4) = false := beq_eq_false_iff_ne.2 h4
  have g5 : (k == 5) = false := beq_eq_false_iff_ne.2 h5
  have g6 : (k == 6) = false := beq_eq_false_iff_ne.2 h6
  have g7 : (k == 7) = false := beq_eq_false_iff_ne.2 h7
  have g8 : (k == 8) = false := beq_eq_false_iff_ne.2 h8
  have g9 : (k == 9) = false := beq_eq_false_iff_ne.2 h9
  have g10 : (k == 10) = false := beq_eq_false_iff_ne.2 h10
  have g11 : (k == 11) = false := beq_eq_false_iff_ne.2 h11
  have g12 : (k == 12) = false := beq_eq_false_iff_ne.2 h12
  have m1 : (k != 1) = true := by simp [h1]
  have m2 : (k != 2) = true := by simp [h2]
  have m11 : (k != 11) = true := by simp [h11]
  have m12 : (k != 12) = true := by simp [h12]
  obtain ⟨hh1, hh2⟩ := emp_E s h
  have V : hereV k 0 s ll = false := by unfold hereV Ex.here; simp only; split; rfl; repeat (first | rfl | rw [if_neg (by omega)])
  rw [V]
  clear V
  go_enter Tryz.func86, Tryz.ntmps86
  go_wp2
  go_ret
  exact ⟨rfl, unhide B0⟩
set_option maxHeartbeats 2000000 in
theorem here_0 (n : Int) (s : ByteArray) (ll : Nat) (k : Int) (h1 : k ≠ 1) (h2 : k ≠ 2) (h3 : k ≠ 3) (h4 : k ≠ 4) (h5 : k ≠ 5) (h6 : k ≠ 6) (h7 : k ≠ 7) (h8 : k ≠ 8) (h9 : k ≠ 9) (h10 : k ≠ 10) (h11 : k ≠ 11) (h12 : k ≠ 12) (hs : s.size ≤ 1099511627776) (hl : ll ≤ 9223372036854775807) : HereG k 0 ⟨#[]⟩ ll := by
  intro b cap w
  have B0 := hide (below_new w (.cells #[.int .i64 k, .int .i64 0, .string ⟨#[]⟩, .slice b ll cap] 33))
  have g1 : (k == 1) = false := beq_eq_false_iff_ne.2 h1
  have g2 : (k == 2) = false := beq_eq_false_iff_ne.2 h2
  have g3 : (k == 3) = false := beq_eq_false_iff_ne.2 h3
  have g4 : (k == 4) = false := beq_eq_false_iff_ne.2 h4
  have g5 : (k == 5) = false := beq_eq_false_iff_ne.2 h5
  have g6 : (k == 6) = false := beq_eq_false_iff_ne.2 h6
  have g7 : (k == 7) = false := beq_eq_false_iff_ne.2 h7
  have g8 : (k == 8) = false := beq_eq_false_iff_ne.2 h8
  have g9 : (k == 9) = false := beq_eq_false_iff_ne.2 h9
  have g10 : (k == 10) = false := beq_eq_false_iff_ne.2 h10
  have g11 : (k == 11) = false := beq_eq_false_iff_ne.2 h11
  have g12 : (k == 12) = false := beq_eq_false_iff_ne.2 h12
  have m1 : (k != 1) = true := by simp [h1]
  have m2 : (k != 2) = true := by simp [h2]
  have m11 : (k != 11) = true := by simp [h11]
  have m12 : (k != 12) = true := by simp [h12]
  have V : hereV k 0 ⟨#[]⟩ ll = false := by unfold hereV Ex.here; simp only; split; rfl; repeat (first | rfl | rw [if_neg (by omega)])
  rw [V]
  clear V
  go_enter Tryz.func86, Tryz.ntmps86
  go_wp2
  go_ret
  exact ⟨rfl, unhide B0⟩
theorem hereS_any (e : Ex) (b : Option Addr) (cap : Nat) (w : World) (hs : e.s.size ≤ 1099511627776) (hl : e.l.length ≤ 9223372036854775807) : Calls Tryz.prog 86 #[.agg (e.cs b cap)] w fun r w' => r = .returned (.bool e.here) ∧ Below w.heap.size w w' := by
  rw [here_is]
  unfold Ex.cs
  obtain ⟨k, n, s, l⟩ := e
  simp only at hs hl ⊢
  generalize l.length = ll at *
  revert b cap w
  show HereG k n s ll
  by_cases c1 : k = 1
  · subst c1
    by_cases h : s = E0
    · subst h; exact here1_0 n E0 ll hs hl
    · exact here1_s n s ll h hs hl
  by_cases c11 : k = 11
  · subst c11
    by_cases h : s = E0
    · subst h; exact here11_0 n E0 ll hs hl
    · exact here11_s n s ll h hs hl
  by_cases c2 : k = 2
  · subst c2
    by_cases h : n = 0
    · subst h; exact here2_0 0 s ll hs hl
    · exact here2_n n s ll h hs hl
  by_cases c12 : k = 12
  · subst c12
    by_cases h : n = 0
    · subst h; exact here12_0 0 s ll hs hl
    · exact here12_n n s ll h hs hl
  by_cases c3 : k = 3
  · subst c3
    by_cases h : n = 0
    · subst h
      by_cases h : s = E0
      · subst h; exact here3_0 0 E0 ll hs hl
      · exact here3_s 0 s ll h hs hl
    · exact here3_n n s ll h hs hl
  by_cases c4 : k = 4
  · subst c4
    by_cases h : n = 0
    · subst h
      by_cases h : s = E0
      · subst h; exact here4_0 0 E0 ll hs hl
      · exact here4_s 0 s ll h hs hl
    · exact here4_n n s ll h hs hl
  by_cases c5 : k = 5
  · subst c5
    by_cases h : n = 0
    · subst h
      by_cases h : s = E0
      · subst h; exact here5_0 0 E0 ll hs hl
      · exact here5_s 0 s ll h hs hl
    · exact here5_n n s ll h hs hl
  by_cases c6 : k = 6
  · subst c6
    by_cases h : n = 0
    · subst h
      by_cases h : s = E0
      · subst h; exact here6_0 0 E0 ll hs hl
      · exact here6_s 0 s ll h hs hl
    · exact here6_n n s ll h hs hl
  by_cases c7 : k = 7
  · subst c7
    by_cases h : n = 0
    · subst h
      by_cases h : s = E0
      · subst h; exact here7_0 0 E0 ll hs hl
      · exact here7_s 0 s ll h hs hl
    · exact here7_n n s ll h hs hl
  by_cases c8 : k = 8
  · subst c8
    by_cases h : n = 0
    · subst h
      by_cases h : s = E0
      · subst h; exact here8_0 0 E0 ll hs hl
      · exact here8_s 0 s ll h hs hl
    · exact here8_n n s ll h hs hl
  by_cases c9 : k = 9
  · subst c9
    by_cases h : n = 0
    · subst h
      by_cases h : s = E0
      · subst h; exact here9_0 0 E0 ll hs hl
      · exact here9_s 0 s ll h hs hl
    · exact here9_n n s ll h hs hl
  by_cases c10 : k = 10
  · subst c10
    by_cases h : n = 0
    · subst h
      by_cases h : s = E0
      · subst h; exact here10_0 0 E0 ll hs hl
      · exact here10_s 0 s ll h hs hl
    · exact here10_n n s ll h hs hl
  by_cases h : n = 0
  · subst h
    by_cases h : s = E0
    · subst h; exact here_0 0 E0 ll k c1 c2 c3 c4 c5 c6 c7 c8 c9 c10 c11 c12 hs hl
    · exact here_s 0 s ll k c1 c2 c3 c4 c5 c6 c7 c8 c9 c10 c11 c12 h hs hl
  · exact here_n n s ll k c1 c2 c3 c4 c5 c6 c7 c8 c9 c10 c11 c12 h hs hl
end Go.Proofs.YtmhcbehplhfgfaaGreatDoor

namespace Go.Proofs.YtmhcbehplhfgfaaGreatDoor
open Go.ChangeShapes Go.WideShapes Go.ChangeAt Go.RowKit
set_option linter.unusedVariables false
set_option maxRecDepth 8000
/-- What is left of so much. -/
def lessX (left : Int) (z : Nat) : Int := if left - (z : Int) < 0 then -1 else left - (z : Int)
def SzP (e : Ex) : Prop := ∀ (b : Option Addr) (cap : Nat) (left : Int) (w : World), RdX w 0 e b → Fit e → 0 ≤ left → left ≤ 1048576 → Calls Tryz.prog 23 #[.agg (e.cs b cap), .int .i64 left] w fun r w' => r = .returned (.int .i64 (lessX left e.sz)) ∧ Below w.heap.size w w'
set_option maxHeartbeats 1000000 in
theorem szXS_of (e : Ex) (ih : ∀ i, i < e.l.length → SzP (xAt e.l i)) (b : Option Addr) (cap : Nat) (left : Int) (w : World) (hr : RdX w 0 e b) (hf : Fit e) (h0 : 0 ≤ left) (h1 : left ≤ 1048576) : Calls Tryz.prog 10 #[.slice b e.l.length cap, .int .i64 left] w fun r w' => r = .returned (.int .i64 (lessX left (e.l.length + szX e.l))) ∧ Below w.heap.size w w' := by
  obtain ⟨_, hm, hfi⟩ := (Fit_eq e).1 hf
  rw [RdX_eq] at hr
  generalize e.l = l at *
  clear hf
  obtain ⟨len, hl⟩ : ∃ len, l.length = len := ⟨_, rfl⟩
  rw [hl] at hm ih hfi hr ⊢
  by_cases hbig : left - (len : Int) < 0
  · have E := hide (show lessX left (len + szX l) = -1 by unfold lessX; rw [if_pos (by omega)])
    rw [unhide E]
    go_enter Tryz.func10, Tryz.ntmps10
    go_wp2
    go_ret
    exact ⟨rfl, Below.refl _ _⟩
  · obtain ⟨T, hT⟩ : ∃ T, lessX left (len + szX l) = T := ⟨_, rfl⟩
    have HT := hide hT
    rw [hT]
    clear hT
    go_enter Tryz.func10, Tryz.ntmps10
    go_wp2
    go_loopw [1, 5] (fun lv i wr => ∃ k : Nat, k ≤ len ∧ i = .int .i64 k ∧ 0 ≤ left - (len : Int) - (szX (l.take k) : Int) ∧ lv = .int .i64 (left - len - szX (l.take k)) ∧ Below w.heap.size w wr) (fun _ i _ => len - (intOf i).toNat)
    case atStart => exact ⟨0, Nat.zero_le _, rfl, by simp [szX]; omega, by simp [szX], Below.refl _ _⟩
    case round =>
      obtain ⟨k, hk, rfl, hs, rfl, hb⟩ := hrel
      by_cases hlt : k < len
      · rcases hr with h00 | ⟨b, off, rfl, _, hbl, hc⟩
        · rw [h00] at hl; simp at hl; omega
        obtain ⟨c0, c1, c2, c, cap', c3, c4⟩ := hc k (by omega)
        have d0 : wr.cell? ⟨b, off + k * 4, none⟩ = _ := (hb.cell (p := ⟨b, _, none⟩) hbl).trans c0
        have d1 : wr.cell? ⟨b, off + k * 4 + 1, none⟩ = _ := (hb.cell (p := ⟨b, _, none⟩) hbl).trans c1
        have d2 : wr.cell? ⟨b, off + k * 4 + 2, none⟩ = _ := (hb.cell (p := ⟨b, _, none⟩) hbl).trans c2
        have d3 : wr.cell? ⟨b, off + k * 4 + 3, none⟩ = _ := (hb.cell (p := ⟨b, _, none⟩) hbl).trans c3
        have HS := hide (ih k hlt c cap' (left - len - szX (l.take k)) wr (c4.later hb) (hfi k hlt) hs (by omega))
        have ST := hide (szX_take l k (by omega))
        have SL := hide (szX_le l (k + 1))
        clear c0 c1 c2 c3 c4 hc
        unfold Ex.cs at HS
        generalize hzs : (xAt l k).sz = z at HS ST
        generalize (xAt l k).s = ss at d2 HS
        generalize (xAt l k).k = kk at d0 HS
        generalize (xAt l k).n = nn at d1 HS
        generalize (xAt l k).l.length = ll at d3 HS
        by_cases hneg : left - (len : Int) - (szX (l.take k) : Int) - (z : Int) < 0
        · have E := hide (show T = -1 by rw [← unhide HT]; unfold lessX; rw [if_pos]; have := unhide ST; have := unhide SL; omega)
          have E2 : lessX (left - (len : Int) - (szX (l.take k) : Int)) z = -1 := by unfold lessX; rw [if_pos hneg]
          rw [E2] at HS
          go_wp2_with (go_at_call 23; refine (unhide HS).mono ?_; rintro e w1 ⟨rfl, hb1⟩)
          go_ret
          exact ⟨by rw [unhide E]; rfl, hb.trans (hb1.mono hb.size)⟩
        · have E2 : lessX (left - (len : Int) - (szX (l.take k) : Int)) z = left - (len : Int) - (szX (l.take k) : Int) - (z : Int) := by unfold lessX; rw [if_neg hneg]
          rw [E2] at HS
          go_wp2_with (go_at_call 23; refine (unhide HS).mono ?_; rintro e w1 ⟨rfl, hb1⟩)
          go_roundw
          case rel =>
            refine ⟨k + 1, by omega, by go_num, ?_, ?_, hb.trans (hb1.mono hb.size)⟩
            · rw [unhide ST]; omega
            · rw [unhide ST]; congr 1; omega
          case measure => simp [intOf]; omega
      · obtain rfl : k = len := by omega
        have E := hide (show l.take k = l by rw [← hl, List.take_length])
        rw [unhide E] at hs
        have E2 := hide (show T = left - (k : Int) - (szX (l.take k) : Int) by rw [← unhide HT]; unfold lessX; rw [unhide E, if_neg (by omega)]; omega)
        go_wp2
        go_ret
        exact ⟨by rw [unhide E2]; rfl, hb⟩
set_option maxHeartbeats 1000000 in
theorem szX_any (e : Ex) : SzP e := by
  induction e using Ex.ind with
  | h k n s l ih =>
    intro b cap left w hr hf h0 h1
    have hs := ((Fit_eq _).1 hf).1
    have HZ := hide (fun (w1 : World) (hb : Below w.heap.size w w1) (lv : Int) (h2 : 0 ≤ lv) (h3 : lv ≤ 1048576) => szXS_of ⟨k, n, s, l⟩ (fun i hi => ih _ (xAt_mem hi)) b cap lv w1 (hr.later hb) hf h2 h3)
    have SZ := hide (sz_is ⟨k, n, s, l⟩)
    have e1 : (Ex.mk k n s l).s = s := rfl
    have e2 : (Ex.mk k n s l).l = l := rfl
    rw [e1] at hs
    rw [e1, e2] at SZ
    rw [e2] at HZ
    unfold Ex.cs
    simp only
    rw [unhide SZ]
    clear hr hf ih SZ e1 e2
    generalize hll : l.length = ll at *
    generalize szX l = zz at *
    have hbW : Below w.heap.size w (w.alloc (.cells #[.int .i64 k, .int .i64 n, .string s, .slice b ll cap] 24)) := (Below.refl _ _).alloc (Nat.le_refl _) _
    have HB := hide hbW
    by_cases hneg : left - (s.size : Int) < 0
    · have E := hide (show lessX left (s.size + ll + zz) = -1 by unfold lessX; rw [if_pos (by omega)])
      rw [unhide E]
      clear HZ hbW
      go_enter Tryz.func23, Tryz.ntmps23
      go_wp2
      go_ret
      exact ⟨rfl, unhide HB⟩
    · have HS := hide (unhide HZ _ hbW (left - s.size) (by omega) (by omega))
      by_cases hneg2 : left - (s.size : Int) - ((ll + zz : Nat) : Int) < 0
      · have E := hide (show lessX left (s.size + ll + zz) = -1 by unfold lessX; rw [if_pos (by omega)])
        have E2 : lessX (left - s.size) (ll + zz) = -1 := by unfold lessX; rw [if_pos (by omega)]
        rw [E2] at HS
        rw [unhide E]
        clear HZ hbW
        go_enter Tryz.func23, Tryz.ntmps23
        go_wp2_with (go_at_call 10; refine (unhide HS).mono ?_; rintro e w1 ⟨rfl, hb1⟩)
        go_ret
        exact ⟨rfl, (unhide HB).trans (hb1.mono (unhide HB).size)⟩
      · have E := hide (show lessX left (s.size + ll + zz) = left - (s.size : Int) - ((ll + zz : Nat) : Int) by unfold lessX; rw [if_neg (by omega)]; omega)
        have E2 : lessX (left - s.size) (ll + zz) = left - (s.size : Int) - ((ll + zz : Nat) : Int) := by unfold lessX; rw [if_neg (by omega)]
        rw [E2] at HS
        rw [unhide E]
        have hp : 0 ≤ left - (s.size : Int) - ((ll + zz : Nat) : Int) := by omega
        clear HZ hbW
        generalize left - (s.size : Int) - ((ll + zz : Nat) : Int) = rest at *
        go_enter Tryz.func23, Tryz.ntmps23
        go_wp2_with (go_at_call 10; refine (unhide HS).mono ?_; rintro e w1 ⟨rfl, hb1⟩)
        go_ret
        exact ⟨rfl, (unhide HB).trans (hb1.mono (unhide HB).size)⟩
end Go.Proofs.YtmhcbehplhfgfaaGreatDoor

namespace Go.Proofs.YtmhcbehplhfgfaaGreatDoor
open Go.ChangeShapes Go.WideShapes Go.ChangeAt Go.RowKit
set_option linter.unusedVariables false
set_option maxRecDepth 8000
/-- The parts of a term lie at a, each list in a whole block of cells that is not frozen; F: the blocks. -/
def OwX (w : World) : Ex → Option Addr → List Nat → Prop
  | ⟨_, _, _, l⟩, a, F => (l = [] ∧ F = []) ∨ ∃ (b : Nat) (cs : Array Value) (t : TypeId) (Fs : List (List Nat)), a = some ⟨b, 0, none⟩ ∧ w.heap[b]? = some (.cells cs t (0, 0)) ∧ l.length * 4 ≤ cs.size ∧ Fs.length = l.length ∧ F = b :: Fs.flatten ∧ ∀ x ∈ l, ∀ i, l[i]? = some x → cs[i * 4]? = some (.int .i64 x.k) ∧ cs[i * 4 + 1]? = some (.int .i64 x.n) ∧ cs[i * 4 + 2]? = some (.string x.s) ∧ ∃ c cap, cs[i * 4 + 3]? = some (.slice c x.l.length cap) ∧ OwX w x c (Fs.getD i [])
/-- One part in a row, owned. -/
def OwOne (w : World) (cs : Array Value) (i : Nat) (x : Ex) (F : List Nat) : Prop := cs[i * 4]? = some (.int .i64 x.k) ∧ cs[i * 4 + 1]? = some (.int .i64 x.n) ∧ cs[i * 4 + 2]? = some (.string x.s) ∧ ∃ c cap, cs[i * 4 + 3]? = some (.slice c x.l.length cap) ∧ OwX w x c F
theorem OwX_eq (w : World) (e : Ex) (a : Option Addr) (F : List Nat) : OwX w e a F ↔ ((e.l = [] ∧ F = []) ∨ ∃ (b : Nat) (cs : Array Value) (t : TypeId) (Fs : List (List Nat)), a = some ⟨b, 0, none⟩ ∧ w.heap[b]? = some (.cells cs t (0, 0)) ∧ e.l.length * 4 ≤ cs.size ∧ Fs.length = e.l.length ∧ F = b :: Fs.flatten ∧ ∀ i, i < e.l.length → OwOne w cs i (xAt e.l i) (Fs.getD i [])) := by
  obtain ⟨k, n, s, l⟩ := e
  rw [OwX]
  refine or_congr Iff.rfl (exists_congr fun b => exists_congr fun cs => exists_congr fun t => exists_congr fun Fs => and_congr Iff.rfl (and_congr Iff.rfl (and_congr Iff.rfl (and_congr Iff.rfl (and_congr Iff.rfl ⟨fun h i hi => ?_, fun h x hx i hi => ?_⟩)))))
  · exact h _ (xAt_mem hi) i (by rw [xAt_get hi]; exact List.getElem?_eq_getElem hi)
  · obtain ⟨hl, e⟩ := List.getElem?_eq_some_iff.1 hi
    have := h i hl
    rw [xAt_get hl, e] at this
    exact this
theorem getD_flat {Fs : List (List Nat)} {i : Nat} {b : Nat} (h : b ∈ Fs.getD i []) : b ∈ Fs.flatten := by
  rw [List.getD_eq_getElem?_getD] at h
  by_cases hi : i < Fs.length
  · rw [List.getElem?_eq_getElem hi] at h
    exact List.mem_flatten.2 ⟨_, List.getElem_mem hi, h⟩
  · rw [List.getElem?_eq_none (by omega)] at h
    cases h
theorem OwX.keep {w w' : World} (e : Ex) : ∀ a F, (∀ b ∈ F, w'.heap[b]? = w.heap[b]?) → OwX w e a F → OwX w' e a F := by
  induction e using Ex.ind with
  | h k n s l ih =>
    intro a F hk h
    rw [OwX_eq] at h ⊢
    rcases h with h | ⟨b, cs, t, Fs, ha, hh, hz, hF, rfl, h3⟩
    · exact .inl h
    · refine .inr ⟨b, cs, t, Fs, ha, (hk b List.mem_cons_self).trans hh, hz, hF, rfl, fun i hi => ?_⟩
      obtain ⟨c1, c2, c3, c, cap, c4, c5⟩ := h3 i hi
      exact ⟨c1, c2, c3, c, cap, c4, ih _ (xAt_mem hi) _ _ (fun b hb => hk b (List.mem_cons_of_mem _ (getD_flat hb))) c5⟩
theorem OwX.lt {w : World} (e : Ex) : ∀ a F, OwX w e a F → ∀ b ∈ F, b < w.heap.size := by
  induction e using Ex.ind with
  | h k n s l ih =>
    intro a F h
    rw [OwX_eq] at h
    rcases h with ⟨_, rfl⟩ | ⟨b, cs, t, Fs, ha, hh, hz, hF, rfl, h3⟩
    · intro b hb; cases hb
    · intro x hx
      rcases List.mem_cons.1 hx with rfl | hx
      · exact (Array.getElem?_eq_some_iff.1 hh).1
      · obtain ⟨G, hG, hx⟩ := List.mem_flatten.1 hx
        obtain ⟨i, hi, rfl⟩ := List.getElem_of_mem hG
        have hi2 : i < l.length := hF ▸ hi
        obtain ⟨c1, c2, c3, c, cap, c4, c5⟩ := h3 i hi2
        rw [List.getD_eq_getElem?_getD, List.getElem?_eq_getElem hi] at c5
        exact ih _ (xAt_mem hi2) _ _ c5 _ hx
theorem OwX.later {w w' : World} {e : Ex} {a : Option Addr} {F : List Nat} (h : OwX w e a F) (hb : Below w.heap.size w w') : OwX w' e a F :=
  OwX.keep e a F (fun b hF => hb.block b (OwX.lt e a F h b hF)) h
theorem OwX.rd {w : World} {B : Nat} (e : Ex) : ∀ a F, (∀ b ∈ F, B ≤ b) → OwX w e a F → RdX w B e a := by
  induction e using Ex.ind with
  | h k n s l ih =>
    intro a F hB h
    rw [OwX_eq] at h
    rw [RdX_eq]
    rcases h with h | ⟨b, cs, t, Fs, ha, hh, hz, hF, rfl, h3⟩
    · exact .inl h.1
    · refine .inr ⟨b, 0, ha, hB b List.mem_cons_self, (Array.getElem?_eq_some_iff.1 hh).1, fun i hi => ?_⟩
      obtain ⟨c1, c2, c3, c, cap, c4, c5⟩ := h3 i hi
      unfold OneX
      simp only [Nat.zero_add]
      exact ⟨(Lib.cell_of_heap hh _).trans c1, (Lib.cell_of_heap hh _).trans c2, (Lib.cell_of_heap hh _).trans c3, c, cap, (Lib.cell_of_heap hh _).trans c4, ih _ (xAt_mem hi) _ _ (fun b hb => hB b (List.mem_cons_of_mem _ (getD_flat hb))) c5⟩
/-- The parts of a term lie at a, in blocks of its own from B on, no two the same. -/
def NewX (w : World) (B : Nat) (e : Ex) (a : Option Addr) : Prop := ∃ F, OwX w e a F ∧ F.Nodup ∧ ∀ b ∈ F, B ≤ b
section
variable {w w' : World} {B C : Nat} {e : Ex} {a : Option Addr}
theorem NewX.rd (h : NewX w B e a) : RdX w B e a := by obtain ⟨F, h1, _, h3⟩ := h; exact OwX.rd e a F h3 h1
theorem NewX.later (h : NewX w B e a) (hb : Below w.heap.size w w') : NewX w' B e a := by obtain ⟨F, h1, h2, h3⟩ := h; exact ⟨F, h1.later hb, h2, h3⟩
theorem NewX.lower (h : NewX w B e a) (hC : C ≤ B) : NewX w C e a := by obtain ⟨F, h1, h2, h3⟩ := h; exact ⟨F, h1, h2, fun b hb => Nat.le_trans hC (h3 b hb)⟩
theorem NewX.far (h : NewX w B e a) (p : Addr) (v : Value) (hp : p.block < B) : NewX (w.setCell p v) B e a := by
  obtain ⟨F, h1, h2, h3⟩ := h
  exact ⟨F, OwX.keep e a F (fun b hb => heap_setCell_other w p b v (by have := h3 b hb; omega)) h1, h2, h3⟩
theorem NewX.nil (w : World) (B : Nat) (k n : Int) (s : ByteArray) (a : Option Addr) : NewX w B ⟨k, n, s, []⟩ a := ⟨[], (OwX_eq _ _ _ _).2 (.inl ⟨rfl, rfl⟩), List.nodup_nil, fun b hb => by cases hb⟩
end
end Go.Proofs.YtmhcbehplhfgfaaGreatDoor

namespace Go.Proofs.YtmhcbehplhfgfaaGreatDoor
open Go.ChangeShapes Go.WideShapes Go.ChangeAt Go.RowKit
set_option linter.unusedVariables false
set_option maxRecDepth 8000
theorem infoX : (Tryz.prog.info? 33).map (fun i => (i.zero, i.size, i.bytes)) = some (some (.agg #[.int .i64 0, .int .i64 0, .string ⟨#[]⟩, .slice none 0 0]), 4, 56) := by kernel_rfl
theorem sz_part {l : List Ex} {i : Nat} (h : i < l.length) : (xAt l i).sz ≤ szX l := by
  have h1 := szX_take l i h
  have h2 := szX_le l (i + 1)
  omega
/-- One part in a list of cells, owned. -/
def OwIn (w : World) (cs : List Value) (i : Nat) (x : Ex) (F : List Nat) : Prop := cs[i * 4]? = some (.int .i64 x.k) ∧ cs[i * 4 + 1]? = some (.int .i64 x.n) ∧ cs[i * 4 + 2]? = some (.string x.s) ∧ ∃ c cap, cs[i * 4 + 3]? = some (.slice c x.l.length cap) ∧ OwX w x c F
theorem OwIn.keep {w w' : World} {cs : List Value} {i : Nat} {x : Ex} {F : List Nat} (h : OwIn w cs i x F) (hk : ∀ b ∈ F, w'.heap[b]? = w.heap[b]?) : OwIn w' cs i x F := by
  obtain ⟨h0, h1, h2, c, cap, h3, h4⟩ := h
  exact ⟨h0, h1, h2, c, cap, h3, OwX.keep _ _ _ hk h4⟩
/-- A row of cells at a block of its own, as it lies. -/
theorem ownsRow_heap {w : World} {B g n cap size : Nat} {t : TypeId} {cs : List Value} (h : w.ownsRow B t size (.slice (some ⟨g, 0, none⟩) n cap) n cs) : ∃ cur : Array Value, w.heap[g]? = some (.cells cur t (0, 0)) ∧ n * size ≤ cur.size ∧ ∀ j, j < n * size → cur[j]? = cs[j]? := by
  obtain ⟨h1, ⟨e, _⟩ | ⟨g', cap', cur, e, hg, hh, hn, hm, hz, ht⟩⟩ := h
  · cases e
  · cases e
    refine ⟨cur, hh, by rw [hz]; exact Nat.mul_le_mul_right _ hn, fun j hj => ?_⟩
    rw [← ht, List.getElem?_take, if_pos hj, Array.getElem?_toList]
/-- So many parts lie in the row of block g, each in blocks of its own between g and M. -/
def DoneX (w : World) (g : Nat) (l : List Ex) (n cap k M : Nat) : Prop := ∃ (cs : List Value) (Fs : List (List Nat)), w.ownsRow g 33 4 (.slice (some ⟨g, 0, none⟩) n cap) n cs ∧ Fs.length = k ∧ Fs.flatten.Nodup ∧ (∀ b ∈ Fs.flatten, g < b ∧ b < M) ∧ ∀ i, i < k → OwIn w cs i (xAt l i) (Fs.getD i [])
theorem ownsRow_later {w w' : World} {B g n cap m : Nat} {t : TypeId} {cs : List Value} (h : w.ownsRow B t m (.slice (some ⟨g, 0, none⟩) n cap) n cs) (hb : Below w.heap.size w w') : w'.ownsRow B t m (.slice (some ⟨g, 0, none⟩) n cap) n cs := by
  obtain ⟨h1, h2 | ⟨g, cap, cur, e, hg, hh, r⟩⟩ := h
  · exact ⟨h1, .inl h2⟩
  · exact ⟨h1, .inr ⟨g, cap, cur, e, hg, (hb.block g (Array.getElem?_eq_some_iff.1 hh).1).trans hh, r⟩⟩
theorem OwIn.lt {w : World} {cs : List Value} {i : Nat} {x : Ex} {F : List Nat} (h : OwIn w cs i x F) : ∀ b ∈ F, b < w.heap.size := by
  obtain ⟨_, _, _, c, cap, _, h⟩ := h
  exact OwX.lt _ _ _ h
theorem DoneX.later {w w' : World} {g n cap k M : Nat} {l : List Ex} (h : DoneX w g l n cap k M) (hb : Below w.heap.size w w') : DoneX w' g l n cap k M := by
  obtain ⟨cs, Fs, h1, h2, h3, h4, h5⟩ := h
  exact ⟨cs, Fs, ownsRow_later h1 hb, h2, h3, h4, fun i hi => (h5 i hi).keep fun b hF => hb.block b ((h5 i hi).lt b hF)⟩
theorem flat_snoc (Fs : List (List Nat)) (F : List Nat) : (Fs ++ [F]).flatten = Fs.flatten ++ F := by simp
theorem getD_snoc_lt {Fs : List (List Nat)} {F : List Nat} {i : Nat} (h : i < Fs.length) : (Fs ++ [F]).getD i [] = Fs.getD i [] := by
  rw [List.getD_eq_getElem?_getD, List.getD_eq_getElem?_getD, List.getElem?_append_left h]
theorem getD_snoc_eq {Fs : List (List Nat)} {F : List Nat} {i : Nat} (h : i = Fs.length) : (Fs ++ [F]).getD i [] = F := by
  rw [List.getD_eq_getElem?_getD, h, List.getElem?_append_right (Nat.le_refl _)]
  simp
theorem nodup_snoc {a b : List Nat} {M : Nat} (ha : a.Nodup) (hb : b.Nodup) (h1 : ∀ x ∈ a, x < M) (h2 : ∀ x ∈ b, M ≤ x) : (a ++ b).Nodup := by
  rw [List.nodup_append]
  exact ⟨ha, hb, fun x hx y hy e => by have := h1 x hx; have := h2 y hy; omega⟩
theorem DoneX.put {w : World} {g n cap k M M' : Nat} {l : List Ex} (h : DoneX w g l n cap k M) (hk : k < n) (hg : g < M) (hM : M ≤ M') (c : Option Addr) (cp : Nat) (hr : NewX w M (xAt l k) c) (hz : w.heap.size ≤ M') :
    DoneX ((((w.setCell ⟨g, k * 4, none⟩ (.int .i64 (xAt l k).k)).setCell ⟨g, k * 4 + 1, none⟩ (.int .i64 (xAt l k).n)).setCell ⟨g, k * 4 + 2, none⟩ (.string (xAt l k).s)).setCell ⟨g, k * 4 + 3, none⟩ (.slice c (xAt l k).l.length cp)) g l n cap (k + 1) M' := by
  obtain ⟨cs, Fs, h1, h2, h3, h4, h5⟩ := h
  obtain ⟨F, q1, q2, q3⟩ := hr
  have hlen : cs.length = n * 4 := h1.1
  have s1 := (World.ownsRow.stored h1 (k * 4) (.int .i64 (xAt l k).k)).1
  have s2 := (World.ownsRow.stored s1 (k * 4 + 1) (.int .i64 (xAt l k).n)).1
  have s3 := (World.ownsRow.stored s2 (k * 4 + 2) (.string (xAt l k).s)).1
  have s4 := (World.ownsRow.stored s3 (k * 4 + 3) (.slice c (xAt l k).l.length cp)).1
  have hkeep : ∀ b, g < b → ((((w.setCell ⟨g, k * 4, none⟩ (.int .i64 (xAt l k).k)).setCell ⟨g, k * 4 + 1, none⟩ (.int .i64 (xAt l k).n)).setCell ⟨g, k * 4 + 2, none⟩ (.string (xAt l k).s)).setCell ⟨g, k * 4 + 3, none⟩ (.slice c (xAt l k).l.length cp)).heap[b]? = w.heap[b]? := fun b hb => by
    rw [heap_setCell_other _ _ _ _ (by show b ≠ g; omega), heap_setCell_other _ _ _ _ (by show b ≠ g; omega), heap_setCell_other _ _ _ _ (by show b ≠ g; omega), heap_setCell_other _ _ _ _ (by show b ≠ g; omega)]
  refine ⟨_, Fs ++ [F], s4, by simp [h2], ?_, ?_, fun i hi => ?_⟩
  · rw [flat_snoc]
    exact nodup_snoc h3 q2 (fun x hx => (h4 x hx).2) q3
  · rw [flat_snoc]
    intro b hb
    rcases List.mem_append.1 hb with hb | hb
    · have := h4 b hb; exact ⟨this.1, by omega⟩
    · have := q3 b hb
      have := OwX.lt _ _ _ q1 b hb
      exact ⟨by omega, by omega⟩
  · by_cases hik : i = k
    · subst hik
      rw [getD_snoc_eq h2.symm]
      refine ⟨?_, ?_, ?_, c, cp, ?_, OwX.keep _ _ _ (fun b hb => hkeep b (by have := q3 b hb; omega)) q1⟩
      · rw [List.getElem?_set_ne (by omega), List.getElem?_set_ne (by omega), List.getElem?_set_ne (by omega), List.getElem?_set_self (by omega)]
      · rw [List.getElem?_set_ne (by omega), List.getElem?_set_ne (by omega), List.getElem?_set_self (by simp; omega)]
      · rw [List.getElem?_set_ne (by omega), List.getElem?_set_self (by simp; omega)]
      · rw [List.getElem?_set_self (by simp; omega)]
    · rw [getD_snoc_lt (by omega)]
      obtain ⟨p0, p1, p2, c', cap', p3, p4⟩ := (h5 i (by omega)).keep (w' := ((((w.setCell ⟨g, k * 4, none⟩ (.int .i64 (xAt l k).k)).setCell ⟨g, k * 4 + 1, none⟩ (.int .i64 (xAt l k).n)).setCell ⟨g, k * 4 + 2, none⟩ (.string (xAt l k).s)).setCell ⟨g, k * 4 + 3, none⟩ (.slice c (xAt l k).l.length cp))) (fun b hb => hkeep b (h4 b (getD_flat hb)).1)
      refine ⟨?_, ?_, ?_, c', cap', ?_, p4⟩
      · rw [List.getElem?_set_ne (by omega), List.getElem?_set_ne (by omega), List.getElem?_set_ne (by omega), List.getElem?_set_ne (by omega)]; exact p0
      · rw [List.getElem?_set_ne (by omega), List.getElem?_set_ne (by omega), List.getElem?_set_ne (by omega), List.getElem?_set_ne (by omega)]; exact p1
      · rw [List.getElem?_set_ne (by omega), List.getElem?_set_ne (by omega), List.getElem?_set_ne (by omega), List.getElem?_set_ne (by omega)]; exact p2
      · rw [List.getElem?_set_ne (by omega), List.getElem?_set_ne (by omega), List.getElem?_set_ne (by omega), List.getElem?_set_ne (by omega)]; exact p3
/-- A row whose parts are all there is the term's. -/
theorem DoneX.new {w : World} {g cap M : Nat} {e : Ex} (h : DoneX w g e.l e.l.length cap e.l.length M) : NewX w g e (some ⟨g, 0, none⟩) := by
  obtain ⟨cs, Fs, h1, h2, h3, h4, h5⟩ := h
  by_cases h0 : e.l.length = 0
  · obtain ⟨k, n, s, l⟩ := e
    obtain rfl : l = [] := List.length_eq_zero_iff.1 h0
    exact NewX.nil ..
  · obtain ⟨cur, hh, hz, hc⟩ := ownsRow_heap h1
    refine ⟨g :: Fs.flatten, (OwX_eq _ _ _ _).2 (.inr ⟨g, cur, 33, Fs, rfl, hh, hz, h2, rfl, fun i hi => ?_⟩), ?_, ?_⟩
    · obtain ⟨p0, p1, p2, c, cp, p3, p4⟩ := h5 i hi
      exact ⟨(hc _ (by omega)).trans p0, (hc _ (by omega)).trans p1, (hc _ (by omega)).trans p2, c, cp, (hc _ (by omega)).trans p3, p4⟩
    · exact List.nodup_cons.2 ⟨fun hb => by have := (h4 g hb).1; omega, h3⟩
    · intro b hb
      rcases List.mem_cons.1 hb with rfl | hb
      · exact Nat.le_refl _
      · exact Nat.le_of_lt (h4 b hb).1
def ToP (e : Ex) : Prop := ∀ (b : Option Addr) (cap : Nat) (w : World), RdX w 0 e b → e.sz ≤ 1048576 → Calls Tryz.prog 35 #[.agg (e.cs b cap)] w fun r w' => ∃ (c : Option Addr) (cap' : Nat), r = .returned (.agg (e.cs c cap')) ∧ NewX w' w.heap.size e c ∧ Below w.heap.size w w'
end Go.Proofs.YtmhcbehplhfgfaaGreatDoor

namespace Go.Proofs.YtmhcbehplhfgfaaGreatDoor
open Go.ChangeShapes Go.WideShapes Go.ChangeAt Go.RowKit
set_option linter.unusedVariables false
set_option maxRecDepth 8000
theorem box4 (w : World) (e : Ex) (b : Option Addr) (cap : Nat) (ty : TypeId) : (w.alloc (.cells (e.cs b cap) ty)).cell? ⟨w.heap.size, 0, none⟩ = some (.int .i64 e.k) ∧ (w.alloc (.cells (e.cs b cap) ty)).cell? ⟨w.heap.size, 1, none⟩ = some (.int .i64 e.n) ∧ (w.alloc (.cells (e.cs b cap) ty)).cell? ⟨w.heap.size, 2, none⟩ = some (.string e.s) ∧ (w.alloc (.cells (e.cs b cap) ty)).cell? ⟨w.heap.size, 3, none⟩ = some (.slice b e.l.length cap) := by
  have h : (w.alloc (.cells (e.cs b cap) ty)).heap[w.heap.size]? = some (.cells (e.cs b cap) ty (0, 0)) := Array.getElem?_push_size
  exact ⟨Lib.cell_of_heap h 0, Lib.cell_of_heap h 1, Lib.cell_of_heap h 2, Lib.cell_of_heap h 3⟩
theorem all_take (l : List Ex) (f : Ex → Bool) (k : Nat) (h : k < l.length) : (l.take (k + 1)).all f = ((l.take k).all f && f (xAt l k)) := by
  rw [List.take_succ_eq_append_getElem h, List.all_append, xAt_get h]
  simp
theorem all_part {l : List Ex} {f : Ex → Bool} {k : Nat} (h : k < l.length) (hf : f (xAt l k) = false) : l.all f = false := by
  rw [List.all_eq_false]
  exact ⟨_, xAt_mem h, by rw [hf]; decide⟩
theorem okF_s (d : Nat) (p : Bool) (e : Ex) : okF (d + 1) p e = (e.here && (!(p && (e.k == 11 || e.k == 12)) && e.l.all (okF d p))) := rfl
set_option maxHeartbeats 2000000 in
theorem okS_all : ∀ d : Nat, d ≤ 6 → ∀ (e : Ex) (b : Option Addr) (cap : Nat) (p : Bool) (w : World), RdX w 0 e b → e.sz ≤ 1048576 → Calls Tryz.prog 73 #[.agg (e.cs b cap), .int .i64 (7 - (d : Int)), .bool p] w fun r w' => r = .returned (.bool (okF d p e)) ∧ Below w.heap.size w w' := by
  intro d
  induction d with
  | zero =>
    intro _ e b cap p w hr hz
    have B0 := hide (below_new w (.cells (e.cs b cap) 33))
    rw [show okF 0 p e = false from rfl]
    unfold Ex.cs at B0 ⊢
    go_enter Tryz.func73, Tryz.ntmps73
    go_wp2
    go_ret
    exact ⟨rfl, unhide B0⟩
  | succ d ih =>
    intro hd e b cap p w hr hz
    have hsz := sz_is e
    rw [okF_s]
    have hbW := below_new w (.cells (e.cs b cap) 33)
    have B0 := hide hbW
    have HH := hereS_any e b cap (w.alloc (.cells (e.cs b cap) 33)) (by omega) (by omega)
    obtain ⟨x0, x1, x2, x3⟩ := box4 w e b cap 33
    have xl : w.heap.size < (w.alloc (.cells (e.cs b cap) 33)).heap.size := by simp
    have hrW := hr.later hbW
    rw [RdX_eq] at hrW
    have hp : ∀ i, i < e.l.length → (xAt e.l i).sz ≤ 1048576 := fun i hi => by have := sz_part hi; omega
    have hm : e.l.length ≤ 1048576 := by omega
    have ihd := ih (by omega)
    have hD : (7 : Int) - ((d + 1 : Nat) : Int) + 1 = 7 - (d : Int) := by omega
    have hD6 : ¬ (6 < (7 : Int) - ((d + 1 : Nat) : Int)) := by omega
    have hDb : -100 ≤ (7 : Int) - ((d + 1 : Nat) : Int) ∧ (7 : Int) - ((d + 1 : Nat) : Int) ≤ 100 := by omega
    generalize hDD : (7 : Int) - ((d + 1 : Nat) : Int) = DD at *
    clear hr hsz hz hbW ih hDD
    generalize e.here = hq at *
    unfold Ex.cs at B0 HH x0 x1 x2 x3 xl hrW ⊢
    generalize e.l = l at *
    generalize e.k = k at *
    generalize e.n = n at *
    generalize e.s = s at *
    obtain ⟨len, hl⟩ : ∃ len, l.length = len := ⟨_, rfl⟩
    rw [hl] at hm hp HH x0 x1 x2 x3 B0 xl hrW ⊢
    obtain ⟨W, hW⟩ : ∃ W, w.alloc (.cells #[.int .i64 k, .int .i64 n, .string s, .slice b len cap] 33) = W := ⟨_, rfl⟩
    rw [hW] at HH x0 x1 x2 x3 B0 xl hrW
    have HC := hide HH
    have E0 : ∀ y : Sub W.heap.size W, y.w.cell? ⟨w.heap.size, 0, none⟩ = _ := fun y => (y.h.cell (p := ⟨w.heap.size, _, none⟩) xl).trans x0
    have E3 : ∀ y : Sub W.heap.size W, y.w.cell? ⟨w.heap.size, 3, none⟩ = _ := fun y => (y.h.cell (p := ⟨w.heap.size, _, none⟩) xl).trans x3
    have ne := Sub.ne W.heap.size W
    have HZ := hide (Nat.le_refl W.heap.size)
    have HB := hide (fun y : Sub W.heap.size W => (unhide B0).trans (y.h.mono (unhide B0).size))
    clear HH xl
    obtain ⟨T, hT⟩ : ∃ T, (hq && (!(p && (k == 11 || k == 12)) && l.all (okF d p))) = T := ⟨_, rfl⟩
    have HT := hide hT
    rw [hT]
    clear hT
    go_enter Tryz.func73, Tryz.ntmps73
    go_wp2_with fail
    refine (Sub.call (x := ⟨W, Below.refl _ _⟩) (unhide HZ) (unhide HC)).mono ?_
    rintro r _ ⟨rfl, y, rfl⟩
    clear HC x0 x1 x2 x3
    cases hq with
    | false =>
      have EF := hide ((unhide HT).symm.trans (Bool.false_and _))
      go_wp2
      go_ret
      exact ⟨by rw [unhide EF]; rfl, unhide HB _⟩
    | true =>
      by_cases hx : (p && (k == 11 || k == 12)) = true
      · have EF := hide (show T = false by rw [← unhide HT, hx]; rfl)
        have hpp : p = true := by cases p with | true => rfl | false => simp at hx
        subst hpp
        by_cases h11 : k = 11
        · subst h11
          go_wp2
          go_ret
          exact ⟨by rw [unhide EF]; rfl, unhide HB _⟩
        · have h12 : k = 12 := by simpa [h11] using hx
          subst h12
          go_wp2
          go_ret
          exact ⟨by rw [unhide EF]; rfl, unhide HB _⟩
      · have hxf : (p && (k == 11 || k == 12)) = false := by simpa using hx
        rw [hxf] at HT
        have HT := hide (show l.all (okF d p) = T by rw [← unhide HT]; simp)
        clear hxf
        cases p with
        | false =>
          clear hx
          go_wp2
          go_loopw [7] (fun i wr => ∃ (j : Nat) (z : Sub W.heap.size W), j ≤ len ∧ i = .int .i64 j ∧ (l.take j).all (okF d false) = true ∧ wr = z.w) (fun i _ => len - (intOf i).toNat)
          case atStart => exact ⟨0, y, Nat.zero_le _, rfl, rfl, rfl⟩
          case round =>
            obtain ⟨j, z, hj, rfl, hdone, rfl⟩ := hrel
            have HD := hide hdone
            clear hdone
            by_cases hlt : j < len
            · rcases hrW with h0 | ⟨p1, po, hb1, _, hp1, hpc⟩
              · rw [h0] at hl; simp at hl; omega
              subst hb1
              obtain ⟨e0, e1, e2, pc, pp, e3, e4⟩ := hpc j (by omega)
              have d0 : ∀ y : Sub W.heap.size W, y.w.cell? ⟨p1, po + j * 4, none⟩ = _ := fun y => (y.h.cell (p := ⟨p1, _, none⟩) hp1).trans e0
              have d1 : ∀ y : Sub W.heap.size W, y.w.cell? ⟨p1, po + j * 4 + 1, none⟩ = _ := fun y => (y.h.cell (p := ⟨p1, _, none⟩) hp1).trans e1
              have d2 : ∀ y : Sub W.heap.size W, y.w.cell? ⟨p1, po + j * 4 + 2, none⟩ = _ := fun y => (y.h.cell (p := ⟨p1, _, none⟩) hp1).trans e2
              have d3 : ∀ y : Sub W.heap.size W, y.w.cell? ⟨p1, po + j * 4 + 3, none⟩ = _ := fun y => (y.h.cell (p := ⟨p1, _, none⟩) hp1).trans e3
              have HE := hide (fun y : Sub W.heap.size W => ihd (xAt l j) pc pp false y.w (e4.later y.h) (hp j hlt))
              have AT := hide (all_take l (okF d false) j (by omega))
              have AP := hide (fun h => all_part (f := okF d false) (show j < l.length by omega) h)
              clear e0 e1 e2 e3 e4 hpc ihd hp
              unfold Ex.cs at HE
              generalize okF d false (xAt l j) = q at *
              generalize (xAt l j).s = ss at *
              generalize (xAt l j).k = kk at *
              generalize (xAt l j).n = nn at *
              generalize (xAt l j).l.length = ll at *
              cases q with
              | false =>
                have EF := hide ((unhide HT).symm.trans (unhide AP rfl))
                go_wp2_with (go_at_call 73; refine (Sub.call (unhide HZ) (unhide HE _)).mono ?_; rintro r _ ⟨rfl, z2, rfl⟩)
                go_ret
                exact ⟨by rw [unhide EF]; rfl, unhide HB _⟩
              | true =>
                go_wp2_with (go_at_call 73; refine (Sub.call (unhide HZ) (unhide HE _)).mono ?_; rintro r _ ⟨rfl, z2, rfl⟩)
                go_roundw
                case rel => exact ⟨j + 1, z2, by omega, by go_num, by rw [unhide AT, unhide HD]; rfl, rfl⟩
                case measure => simp [intOf]; omega
            · obtain rfl : j = len := by omega
              have EF := hide ((unhide HT).symm.trans ((show l.all (okF d false) = (l.take j).all (okF d false) by rw [← hl, List.take_length]).trans (unhide HD)))
              go_wp2
              go_ret
              exact ⟨by rw [unhide EF]; rfl, unhide HB _⟩
        | true =>
          have h11 : (k == 11) = false := by simp at hx; simp [hx.1]
          have h12 : (k == 12) = false := by simp at hx; simp [hx.2]
          clear hx
          go_wp2
          go_loopw [7] (fun i wr => ∃ (j : Nat) (z : Sub W.heap.size W), j ≤ len ∧ i = .int .i64 j ∧ (l.take j).all (okF d true) = true ∧ wr = z.w) (fun i _ => len - (intOf i).toNat)
          case atStart => exact ⟨0, y, Nat.zero_le _, rfl, rfl, rfl⟩
          case round =>
            obtain ⟨j, z, hj, rfl, hdone, rfl⟩ := hrel
            have HD := hide hdone
            clear hdone
            by_cases hlt : j < len
            · rcases hrW with h0 | ⟨p1, po, hb1, _, hp1, hpc⟩
              · rw [h0] at hl; simp at hl; omega
              subst hb1
              obtain ⟨e0, e1, e2, pc, pp, e3, e4⟩ := hpc j (by omega)
              have d0 : ∀ y : Sub W.heap.size W, y.w.cell? ⟨p1, po + j * 4, none⟩ = _ := fun y => (y.h.cell (p := ⟨p1, _, none⟩) hp1).trans e0
              have d1 : ∀ y : Sub W.heap.size W, y.w.cell? ⟨p1, po + j * 4 + 1, none⟩ = _ := fun y => (y.h.cell (p := ⟨p1, _, none⟩) hp1).trans e1
              have d2 : ∀ y : Sub W.heap.size W, y.w.cell? ⟨p1, po + j * 4 + 2, none⟩ = _ := fun y => (y.h.cell (p := ⟨p1, _, none⟩) hp1).trans e2
              have d3 : ∀ y : Sub W.heap.size W, y.w.cell? ⟨p1, po + j * 4 + 3, none⟩ = _ := fun y => (y.h.cell (p := ⟨p1, _, none⟩) hp1).trans e3
              have HE := hide (fun y : Sub W.heap.size W => ihd (xAt l j) pc pp true y.w (e4.later y.h) (hp j hlt))
              have AT := hide (all_take l (okF d true) j (by omega))
              have AP := hide (fun h => all_part (f := okF d true) (show j < l.length by omega) h)
              clear e0 e1 e2 e3 e4 hpc ihd hp
              unfold Ex.cs at HE
              generalize okF d true (xAt l j) = q at *
              generalize (xAt l j).s = ss at *
              generalize (xAt l j).k = kk at *
              generalize (xAt l j).n = nn at *
              generalize (xAt l j).l.length = ll at *
              cases q with
              | false =>
                have EF := hide ((unhide HT).symm.trans (unhide AP rfl))
                go_wp2_with (go_at_call 73; refine (Sub.call (unhide HZ) (unhide HE _)).mono ?_; rintro r _ ⟨rfl, z2, rfl⟩)
                go_ret
                exact ⟨by rw [unhide EF]; rfl, unhide HB _⟩
              | true =>
                go_wp2_with (go_at_call 73; refine (Sub.call (unhide HZ) (unhide HE _)).mono ?_; rintro r _ ⟨rfl, z2, rfl⟩)
                go_roundw
                case rel => exact ⟨j + 1, z2, by omega, by go_num, by rw [unhide AT, unhide HD]; rfl, rfl⟩
                case measure => simp [intOf]; omega
            · obtain rfl : j = len := by omega
              have EF := hide ((unhide HT).symm.trans ((show l.all (okF d true) = (l.take j).all (okF d true) by rw [← hl, List.take_length]).trans (unhide HD)))
              go_wp2
              go_ret
              exact ⟨by rw [unhide EF]; rfl, unhide HB _⟩
set_option maxHeartbeats 1000000 in
theorem plainS_any (e : Ex) (b : Option Addr) (cap : Nat) (w : World) (hr : RdX w 0 e b) (hz : e.sz ≤ 1048576) : Calls Tryz.prog 56 #[.agg (e.cs b cap)] w fun r w' => r = .returned (.bool (okF 6 true e)) ∧ Below w.heap.size w w' := by
  have B0 := below_new w (.cells (e.cs b cap) 33)
  have H := (okS_all 6 (by omega) e b cap true _ (hr.later B0) hz).mono (R' := fun r w' => r = .returned (.bool (okF 6 true e)) ∧ Below w.heap.size w w') (fun r w' h => ⟨h.1, B0.trans (h.2.mono B0.size)⟩)
  rw [show (7 : Int) - ((6 : Nat) : Int) = 1 by omega] at H
  have HH := hide H
  clear H hr B0
  unfold Ex.cs at HH ⊢
  generalize okF 6 true e = q at *
  generalize e.l.length = ll at *
  go_enter Tryz.func56, Tryz.ntmps56
  go_wp2_with (go_at_call 73; refine (unhide HH).mono ?_; rintro r w1 ⟨rfl, hb1⟩)
  go_ret
  exact ⟨rfl, hb1⟩
end Go.Proofs.YtmhcbehplhfgfaaGreatDoor

namespace Go.Proofs.YtmhcbehplhfgfaaGreatDoor
open Go.ChangeShapes Go.WideShapes Go.ChangeAt Go.RowKit
set_option linter.unusedVariables false
set_option maxRecDepth 8000
set_option linter.unusedSimpArgs false
/-- An operand. -/
structure Ag where
  f : Int
  r : Int
  e : Ex
/-- An operand's value, its term's parts lying at b. -/
def Ag.cs (a : Ag) (b : Option Addr) (cap : Nat) : Array Value := #[.int .i64 a.f, .int .i64 a.r, .int .i64 a.e.k, .int .i64 a.e.n, .string a.e.s, .slice b a.e.l.length cap]
/-- A line. -/
structure Ln where
  k : Int
  s : ByteArray
  op : Int
  src : Ag
  dst : Ag
  n : Int
  l : List Ex
/-- Where the lists of a line lie: the operands' terms' parts, and its terms. -/
structure La where
  b1 : Option Addr
  c1 : Nat
  b2 : Option Addr
  c2 : Nat
  b3 : Option Addr
  c3 : Nat
def Ln.cs (x : Ln) (p : La) : Array Value := #[.int .i64 x.k, .string x.s, .int .i64 x.op, .int .i64 x.src.f, .int .i64 x.src.r, .int .i64 x.src.e.k, .int .i64 x.src.e.n, .string x.src.e.s, .slice p.b1 x.src.e.l.length p.c1, .int .i64 x.dst.f, .int .i64 x.dst.r, .int .i64 x.dst.e.k, .int .i64 x.dst.e.n, .string x.dst.e.s, .slice p.b2 x.dst.e.l.length p.c2, .int .i64 x.n, .slice p.b3 x.l.length p.c3]
def zroV (k n : Int) (s : ByteArray) (ll : Nat) : Bool := k == 0 && (n == 0 && (eqS s E0 && ll == 0))
/-- No term at all. -/
def zroX (e : Ex) : Bool := zroV e.k e.n e.s e.l.length
/-- No operand at all. -/
def nonX (a : Ag) : Bool := a.f == 0 && (a.r == 0 && zroX a.e)
/-- An operand that is right. -/
def agX (a : Ag) : Bool := if inB a.f 0 5 = true then inB a.r 0 7 && zroX a.e else if a.f == 6 || a.f == 7 then inB a.r 0 7 && okF 6 true a.e else if inB a.f 8 11 = true then a.r == 0 && okF 6 true a.e else false
set_option maxHeartbeats 2000000 in
theorem zroS (k n : Int) (s : ByteArray) (ll : Nat) (hs : s.size ≤ 1099511627776) (hl : ll ≤ 1099511627776) (b : Option Addr) (cap : Nat) (w : World) : Calls Tryz.prog 52 #[.agg #[.int .i64 k, .int .i64 n, .string s, .slice b ll cap]] w fun r w' => r = .returned (.bool (zroV k n s ll)) ∧ Below w.heap.size w w' := by
  by_cases h1 : k = 0
  · subst h1
    by_cases h2 : n = 0
    · subst h2
      by_cases h3 : s = ⟨#[]⟩
      · subst h3
        by_cases h4 : ll = 0
        · subst h4
          have B0 := hide (below_new w (.cells #[.int .i64 0, .int .i64 0, .string ⟨#[]⟩, .slice b 0 cap] 33))
          have V : zroV 0 0 ⟨#[]⟩ 0 = true := by simp [zroV, eqE, eqE1, *]
          rw [V]
          clear V
          go_enter Tryz.func52, Tryz.ntmps52
          go_wp2
          go_ret
          exact ⟨rfl, unhide B0⟩
        have h4f : (ll == 0) = false := beq_eq_false_iff_ne.2 h4
        have h4g : ((ll : Int) == 0) = false := beq_eq_false_iff_ne.2 (by omega)
        have B0 := hide (below_new w (.cells #[.int .i64 0, .int .i64 0, .string ⟨#[]⟩, .slice b ll cap] 33))
        have V : zroV 0 0 ⟨#[]⟩ ll = false := by simp [zroV, eqE, eqE1, *]
        rw [V]
        clear V
        go_enter Tryz.func52, Tryz.ntmps52
        go_wp2
        go_ret
        exact ⟨rfl, unhide B0⟩
      obtain ⟨h3a, h3b⟩ := emp_E s h3
      have B0 := hide (below_new w (.cells #[.int .i64 0, .int .i64 0, .string s, .slice b ll cap] 33))
      have V : zroV 0 0 s ll = false := by simp [zroV, eqE, eqE1, *]
      rw [V]
      clear V
      go_enter Tryz.func52, Tryz.ntmps52
      go_wp2
      go_ret
      exact ⟨rfl, unhide B0⟩
    have h2f : (n == 0) = false := beq_eq_false_iff_ne.2 h2
    have B0 := hide (below_new w (.cells #[.int .i64 0, .int .i64 n, .string s, .slice b ll cap] 33))
    have V : zroV 0 n s ll = false := by simp [zroV, eqE, eqE1, *]
    rw [V]
    clear V
    go_enter Tryz.func52, Tryz.ntmps52
    go_wp2
    go_ret
    exact ⟨rfl, unhide B0⟩
  have h1f : (k == 0) = false := beq_eq_false_iff_ne.2 h1
  have B0 := hide (below_new w (.cells #[.int .i64 k, .int .i64 n, .string s, .slice b ll cap] 33))
  have V : zroV k n s ll = false := by simp [zroV, eqE, eqE1, *]
  rw [V]
  clear V
  go_enter Tryz.func52, Tryz.ntmps52
  go_wp2
  go_ret
  exact ⟨rfl, unhide B0⟩
def nonV (f r : Int) (q : Bool) : Bool := f == 0 && (r == 0 && q)
set_option maxHeartbeats 2000000 in
theorem nonS_any (a : Ag) (hs : a.e.s.size ≤ 1099511627776) (hl : a.e.l.length ≤ 1099511627776) (b : Option Addr) (cap : Nat) (w : World) : Calls Tryz.prog 25 #[.agg (a.cs b cap)] w fun r w' => r = .returned (.bool (nonX a)) ∧ Below w.heap.size w w' := by
  have Q := hide (fun w => zroS a.e.k a.e.n a.e.s a.e.l.length hs hl b cap w)
  unfold Ag.cs
  rw [show nonX a = nonV a.f a.r (zroX a.e) from rfl]
  rw [show zroX a.e = zroV a.e.k a.e.n a.e.s a.e.l.length from rfl]
  generalize zroV a.e.k a.e.n a.e.s a.e.l.length = q at *
  generalize a.f = f at *
  generalize a.r = r at *
  generalize a.e.k = k at *
  generalize a.e.n = n at *
  generalize a.e.s = s at *
  generalize a.e.l.length = ll at *
  by_cases h15 : f = 0
  · subst h15
    by_cases h16 : r = 0
    · subst h16
      have B0 := hide (below_new w (.cells #[.int .i64 0, .int .i64 0, .int .i64 k, .int .i64 n, .string s, .slice b ll cap] 35))
      have V : nonV 0 0 q = q := by simp [nonV, *]
      rw [V]
      clear V
      go_enter Tryz.func25, Tryz.ntmps25
      go_wp2_with (go_at_call 52; refine (unhide Q _).mono ?_; rintro e w1 ⟨rfl, hb1⟩)
      go_ret
      exact ⟨rfl, (unhide B0).trans (hb1.mono (unhide B0).size)⟩
    have h16f : (r == 0) = false := beq_eq_false_iff_ne.2 h16
    have B0 := hide (below_new w (.cells #[.int .i64 0, .int .i64 r, .int .i64 k, .int .i64 n, .string s, .slice b ll cap] 35))
    have V : nonV 0 r q = false := by simp [nonV, *]
    rw [V]
    clear V
    go_enter Tryz.func25, Tryz.ntmps25
    go_wp2_with (go_at_call 52; refine (unhide Q _).mono ?_; rintro e w1 ⟨rfl, hb1⟩)
    go_ret
    exact ⟨rfl, unhide B0⟩
  have h15f : (f == 0) = false := beq_eq_false_iff_ne.2 h15
  have B0 := hide (below_new w (.cells #[.int .i64 f, .int .i64 r, .int .i64 k, .int .i64 n, .string s, .slice b ll cap] 35))
  have V : nonV f r q = false := by simp [nonV, *]
  rw [V]
  clear V
  go_enter Tryz.func25, Tryz.ntmps25
  go_wp2_with (go_at_call 52; refine (unhide Q _).mono ?_; rintro e w1 ⟨rfl, hb1⟩)
  go_ret
  exact ⟨rfl, unhide B0⟩
def agV (f r : Int) (q p : Bool) : Bool := if inB f 0 5 = true then inB r 0 7 && q else if f == 6 || f == 7 then inB r 0 7 && p else if inB f 8 11 = true then r == 0 && p else false
set_option maxHeartbeats 4000000 in
theorem agS_any (a : Ag) (b : Option Addr) (cap : Nat) (w : World) (hr : RdX w 0 a.e b) (hz : a.e.sz ≤ 1048576) : Calls Tryz.prog 51 #[.agg (a.cs b cap)] w fun r w' => r = .returned (.bool (agX a)) ∧ Below w.heap.size w w' := by
  have hsz := sz_is a.e
  have Q := hide (fun w => zroS a.e.k a.e.n a.e.s a.e.l.length (by omega) (by omega) b cap w)
  have P := hide (fun w' (h : Below w.heap.size w w') => plainS_any a.e b cap w' (hr.later h) hz)
  unfold Ex.cs at P
  unfold Ag.cs
  rw [show agX a = agV a.f a.r (zroX a.e) (okF 6 true a.e) from rfl]
  rw [show zroX a.e = zroV a.e.k a.e.n a.e.s a.e.l.length from rfl]
  generalize zroV a.e.k a.e.n a.e.s a.e.l.length = q at *
  generalize okF 6 true a.e = p at *
  generalize a.f = f at *
  generalize a.r = r at *
  generalize a.e.k = k at *
  generalize a.e.n = n at *
  generalize a.e.s = s at *
  generalize a.e.l.length = ll at *
  clear hsz hr hz
  cases h23 : inB f 0 5 with
  | true =>
    cases h24 : inB r 0 7 with
    | true =>
      have B0 := hide (below_new w (.cells #[.int .i64 f, .int .i64 r, .int .i64 k, .int .i64 n, .string s, .slice b ll cap] 35))
      have V : agV f r q p = q := by simp [agV, *]
      rw [V]
      clear V
      go_enter Tryz.func51, Tryz.ntmps51
      go_wp2_with (first | (go_at_call 28; refine (in_any _ _ _ _).mono ?_; rintro e w' ⟨rfl, hw'⟩; rw [hw']; clear hw' w') | (go_at_call 52; refine (unhide Q _).mono ?_; rintro e w1 ⟨rfl, hb1⟩))
      go_ret
      exact ⟨rfl, (unhide B0).trans (hb1.mono (unhide B0).size)⟩
    | false =>
      have B0 := hide (below_new w (.cells #[.int .i64 f, .int .i64 r, .int .i64 k, .int .i64 n, .string s, .slice b ll cap] 35))
      have V : agV f r q p = false := by simp [agV, *]
      rw [V]
      clear V
      go_enter Tryz.func51, Tryz.ntmps51
      go_wp2_with (go_at_call 28; refine (in_any _ _ _ _).mono ?_; rintro e w' ⟨rfl, hw'⟩; rw [hw']; clear hw' w')
      go_ret
      exact ⟨rfl, unhide B0⟩
  | false =>
    by_cases h29 : f = 6
    · subst h29
      cases h30 : inB r 0 7 with
      | true =>
        have B0 := hide (below_new w (.cells #[.int .i64 6, .int .i64 r, .int .i64 k, .int .i64 n, .string s, .slice b ll cap] 35))
        have V : agV 6 r q p = p := by simp [agV, *]
        rw [V]
        clear V
        have P1 := hide (unhide P _ (unhide B0))
        go_enter Tryz.func51, Tryz.ntmps51
        go_wp2_with (first | (go_at_call 28; refine (in_any _ _ _ _).mono ?_; rintro e w' ⟨rfl, hw'⟩; rw [hw']; clear hw' w') | (go_at_call 56; refine (unhide P1).mono ?_; rintro e w1 ⟨rfl, hb1⟩))
        go_ret
        exact ⟨rfl, (unhide B0).trans (hb1.mono (unhide B0).size)⟩
      | false =>
        have B0 := hide (below_new w (.cells #[.int .i64 6, .int .i64 r, .int .i64 k, .int .i64 n, .string s, .slice b ll cap] 35))
        have V : agV 6 r q p = false := by simp [agV, *]
        rw [V]
        clear V
        go_enter Tryz.func51, Tryz.ntmps51
        go_wp2_with (go_at_call 28; refine (in_any _ _ _ _).mono ?_; rintro e w' ⟨rfl, hw'⟩; rw [hw']; clear hw' w')
        go_ret
        exact ⟨rfl, unhide B0⟩
    have h29f : (f == 6) = false := beq_eq_false_iff_ne.2 h29
    by_cases h35 : f = 7
    · subst h35
      cases h36 : inB r 0 7 with
      | true =>
        have B0 := hide (below_new w (.cells #[.int .i64 7, .int .i64 r, .int .i64 k, .int .i64 n, .string s, .slice b ll cap] 35))
        have V : agV 7 r q p = p := by simp [agV, *]
        rw [V]
        clear V
        have P1 := hide (unhide P _ (unhide B0))
        go_enter Tryz.func51, Tryz.ntmps51
        go_wp2_with (first | (go_at_call 28; refine (in_any _ _ _ _).mono ?_; rintro e w' ⟨rfl, hw'⟩; rw [hw']; clear hw' w') | (go_at_call 56; refine (unhide P1).mono ?_; rintro e w1 ⟨rfl, hb1⟩))
        go_ret
        exact ⟨rfl, (unhide B0).trans (hb1.mono (unhide B0).size)⟩
      | false =>
        have B0 := hide (below_new w (.cells #[.int .i64 7, .int .i64 r, .int .i64 k, .int .i64 n, .string s, .slice b ll cap] 35))
        have V : agV 7 r q p = false := by simp [agV, *]
        rw [V]
        clear V
        go_enter Tryz.func51, Tryz.ntmps51
        go_wp2_with (go_at_call 28; refine (in_any _ _ _ _).mono ?_; rintro e w' ⟨rfl, hw'⟩; rw [hw']; clear hw' w')
        go_ret
        exact ⟨rfl, unhide B0⟩
    have h35f : (f == 7) = false := beq_eq_false_iff_ne.2 h35
    cases h41 : inB f 8 11 with
    | true =>
      by_cases h42 : r = 0
      · subst h42
        have B0 := hide (below_new w (.cells #[.int .i64 f, .int .i64 0, .int .i64 k, .int .i64 n, .string s, .slice b ll cap] 35))
        have V : agV f 0 q p = p := by simp [agV, *]
        rw [V]
        clear V
        have P1 := hide (unhide P _ (unhide B0))
        go_enter Tryz.func51, Tryz.ntmps51
        go_wp2_with (first | (go_at_call 28; refine (in_any _ _ _ _).mono ?_; rintro e w' ⟨rfl, hw'⟩; rw [hw']; clear hw' w') | (go_at_call 56; refine (unhide P1).mono ?_; rintro e w1 ⟨rfl, hb1⟩))
        go_ret
        exact ⟨rfl, (unhide B0).trans (hb1.mono (unhide B0).size)⟩
      have h42f : (r == 0) = false := beq_eq_false_iff_ne.2 h42
      have B0 := hide (below_new w (.cells #[.int .i64 f, .int .i64 r, .int .i64 k, .int .i64 n, .string s, .slice b ll cap] 35))
      have V : agV f r q p = false := by simp [agV, *]
      rw [V]
      clear V
      go_enter Tryz.func51, Tryz.ntmps51
      go_wp2_with (go_at_call 28; refine (in_any _ _ _ _).mono ?_; rintro e w' ⟨rfl, hw'⟩; rw [hw']; clear hw' w')
      go_ret
      exact ⟨rfl, unhide B0⟩
    | false =>
      have B0 := hide (below_new w (.cells #[.int .i64 f, .int .i64 r, .int .i64 k, .int .i64 n, .string s, .slice b ll cap] 35))
      have V : agV f r q p = false := by simp [agV, *]
      rw [V]
      clear V
      go_enter Tryz.func51, Tryz.ntmps51
      go_wp2_with (go_at_call 28; refine (in_any _ _ _ _).mono ?_; rintro e w' ⟨rfl, hw'⟩; rw [hw']; clear hw' w')
      go_ret
      exact ⟨rfl, unhide B0⟩
end Go.Proofs.YtmhcbehplhfgfaaGreatDoor

namespace Go.Proofs.YtmhcbehplhfgfaaGreatDoor
open Go.ChangeShapes Go.WideShapes Go.ChangeAt Go.RowKit
set_option linter.unusedVariables false
set_option maxRecDepth 8000
set_option maxHeartbeats 1000000 in
theorem wordI_any (x : ByteArray) (w : World) (ht : TabK w) : Calls Tryz.prog 41 #[.string x] w fun e w' => e = .returned (wordT x).v ∧ Below w.heap.size w w' := by
  have WT := hide (wordT_v x)
  have B0 := hide (below_new w (.cells T0c 59))
  have R0 := hide (heap_alloc_new w (.cells T0c 59))
  have HK := hide (keptI_any x (w.alloc (.cells T0c 59)) (ht.next (unhide B0)))
  unfold T0c at B0 R0 HK
  generalize keptB x = q at *
  clear ht
  cases q
  · have W1 := hide ((unhide WT).2 rfl)
    rw [unhide W1]
    unfold Tk.v Tk.cs
    simp only
    clear WT
    go_enter Tryz.func41, Tryz.ntmps41
    go_wp2_with (first | (go_at_call 67; refine (unhide HK).mono ?_; rintro e w' ⟨rfl, hw'⟩; rw [hw']; clear hw' w') | (refine wpList_store_row rfl 59 _ _ rfl w.heap.size #[.int .i64 1, .int .i64 0, .string x] rfl rfl 59 _ (unhide R0) szK rfl (tk_one _ _ _) ?_))
    refine bodyPost_ret (results_cell_row (P := Tryz.prog) rfl _ _ w.heap.size 59 #[.int .i64 1, .int .i64 0, .string x] (0, 0) _ rfl (setRow_heap _ _ _ _ _ _ (unhide R0)) Tryz.underlying59 rfl szK) rfl ?_
    exact ⟨rfl, below_row (unhide B0)⟩
  · have W1 := hide ((unhide WT).1 rfl)
    rw [unhide W1]
    unfold Tk.v Tk.cs
    simp only
    clear WT
    go_enter Tryz.func41, Tryz.ntmps41
    go_wp2_with (first | (go_at_call 67; refine (unhide HK).mono ?_; rintro e w' ⟨rfl, hw'⟩; rw [hw']; clear hw' w') | (refine wpList_store_row rfl 59 _ _ rfl w.heap.size #[.int .i64 5, .int .i64 0, .string x] rfl rfl 59 _ (unhide R0) szK rfl (tk_one _ _ _) ?_))
    refine bodyPost_ret (results_cell_row (P := Tryz.prog) rfl _ _ w.heap.size 59 #[.int .i64 5, .int .i64 0, .string x] (0, 0) _ rfl (setRow_heap _ _ _ _ _ _ (unhide R0)) Tryz.underlying59 rfl szK) rfl ?_
    exact ⟨rfl, below_row (unhide B0)⟩
end Go.Proofs.YtmhcbehplhfgfaaGreatDoor

namespace Go.Proofs.YtmhcbehplhfgfaaGreatDoor
open Go.ChangeShapes Go.WideShapes Go.ChangeAt Go.RowKit
set_option linter.unusedVariables false
set_option maxRecDepth 8000
set_option linter.unusedSimpArgs false
/-- The type of a kind of those of two. -/
def pairT (k : Int) : TypeId := if k = 5 then 138 else if k = 6 then 139 else if k = 7 then 140 else if k = 8 then 141 else if k = 9 then 142 else 143
/-- A term's value in the program, by the values of its parts. -/
def tvC (k n : Int) (s : ByteArray) (vs : List Value) : Value :=
  if k = 1 then .iface 117 (.agg #[.int .i64 n]) else if k = 2 then .iface 119 (.agg #[.string s]) else if k = 3 then .iface 121 (.agg #[])
  else if k = 4 then .iface 123 (.agg vs.toArray) else if k = 11 then .iface 144 (.agg #[.int .i64 n]) else if k = 12 then .iface 145 (.agg #[.string s]) else .iface (pairT k) (.agg vs.toArray)
def tv : Ex → Value
  | ⟨k, n, s, l⟩ => tvC k n s (l.map tv)
theorem tv_num (n : Int) (s : ByteArray) : tv ⟨1, n, s, []⟩ = .iface 117 (.agg #[.int .i64 n]) := by rw [tv]; rfl
theorem tv_sym (n : Int) (s : ByteArray) : tv ⟨2, n, s, []⟩ = .iface 119 (.agg #[.string s]) := by rw [tv]; rfl
theorem tv_here (n : Int) (s : ByteArray) : tv ⟨3, n, s, []⟩ = .iface 121 (.agg #[]) := by rw [tv]; rfl
theorem tv_neg (n : Int) (s : ByteArray) (a : Ex) : tv ⟨4, n, s, [a]⟩ = .iface 123 (.agg #[tv a]) := by rw [tv]; rfl
theorem tv_sect (n : Int) (s : ByteArray) : tv ⟨11, n, s, []⟩ = .iface 144 (.agg #[.int .i64 n]) := by rw [tv]; rfl
theorem tv_glob (n : Int) (s : ByteArray) : tv ⟨12, n, s, []⟩ = .iface 145 (.agg #[.string s]) := by rw [tv]; rfl
theorem tv_two {k : Int} (hk : 5 ≤ k ∧ k ≤ 10) (n : Int) (s : ByteArray) (a b : Ex) : tv ⟨k, n, s, [a, b]⟩ = .iface (pairT k) (.agg #[tv a, tv b]) := by
  rw [tv]
  unfold tvC
  rw [if_neg (by omega), if_neg (by omega), if_neg (by omega), if_neg (by omega), if_neg (by omega), if_neg (by omega)]
  rfl
/-- What an interface holds: nothing, or a value with its type. -/
def IfV (v : Value) : Prop := v = .nilIface ∨ ∃ t x, v = .iface t x
theorem IfV.of {v : Value} {p : Prop} (h : v = .nilIface ∨ ∃ t x, v = .iface t x) (hp : p) : IfV v ∧ p := ⟨h, hp⟩
theorem IfV.one {v : Value} (h : IfV v) : v.oneCell' = true := by
  rcases h with rfl | ⟨t, x, rfl⟩ <;> rfl
/-- What leafOf answers. -/
def LeafR (k n : Int) (s : ByteArray) (w : World) (r : Ending) (w' : World) : Prop := ∃ v, r = .returned (.tuple #[v, .bool (hereV k n s 0)]) ∧ (IfV v ∧ (hereV k n s 0 = true → v = tvC k n s [])) ∧ Below w.heap.size w w'
def LeafG (k n : Int) (s : ByteArray) : Prop := ∀ (b : Option Addr) (ll cap : Nat) (w : World), TabK w → Calls Tryz.prog 91 #[.agg #[.int .i64 k, .int .i64 n, .string s, .slice b ll cap]] w (LeafR k n s w)
theorem nil_val {r : Ending} {k n : Int} {s : ByteArray} {w w' : World} {v : Value} {q : Bool} (h : hereV k n s 0 = q) (hr : r = .returned (.tuple #[v, .bool q])) (hv : IfV v ∧ (q = true → v = tvC k n s [])) (hb : Below w.heap.size w w') : LeafR k n s w r w' := ⟨v, by rw [h]; exact hr, ⟨hv.1, fun e => hv.2 (by rw [← h]; exact e)⟩, hb⟩
set_option maxHeartbeats 2000000 in
theorem leaf1_0 (n : Int) (s : ByteArray) : LeafG 1 n ⟨#[]⟩ := by
  intro b ll cap w ht
  obtain ⟨W, hW⟩ : ∃ W, w.alloc (.cells #[.int .i64 1, .int .i64 n, .string ⟨#[]⟩, .slice b ll cap] 33) = W := ⟨_, rfl⟩
  have B0 := hide (below_new w (.cells #[.int .i64 1, .int .i64 n, .string ⟨#[]⟩, .slice b ll cap] 33))
  have hg : W.heap[w.heap.size]? = some (.cells #[.int .i64 1, .int .i64 n, .string ⟨#[]⟩, .slice b ll cap] 33 (0, 0)) := by rw [← hW]; exact Array.getElem?_push_size
  rw [hW] at B0
  have x0 := Lib.cell_of_heap hg 0
  have x1 := Lib.cell_of_heap hg 1
  have x2 := Lib.cell_of_heap hg 2
  have xl : w.heap.size < W.heap.size := (Array.getElem?_eq_some_iff.1 hg).1
  have y0 : ∀ y : Sub W.heap.size W, y.w.cell? ⟨w.heap.size, 0, none⟩ = some (.int .i64 1) := fun y => (y.h.cell (p := ⟨w.heap.size, _, none⟩) xl).trans x0
  have y1 : ∀ y : Sub W.heap.size W, y.w.cell? ⟨w.heap.size, 1, none⟩ = some (.int .i64 n) := fun y => (y.h.cell (p := ⟨w.heap.size, _, none⟩) xl).trans x1
  have y2 : ∀ y : Sub W.heap.size W, y.w.cell? ⟨w.heap.size, 2, none⟩ = some (.string ⟨#[]⟩) := fun y => (y.h.cell (p := ⟨w.heap.size, _, none⟩) xl).trans x2
  have ne := Sub.ne W.heap.size W
  have HZ := hide (Nat.le_refl W.heap.size)
  have TB := hide (fun y : Sub W.heap.size W => (ht.next (unhide B0)).next y.h)
  have HB := hide (fun y : Sub W.heap.size W => (unhide B0).trans (y.h.mono (unhide B0).size))
  clear hg xl ht
  have V := hide (show hereV 1 n ⟨#[]⟩ 0 = inB n 0 65535 by simp [hereV, Ex.here, eqE, eqE1, *])
  have FN := hide (fun r w' (v : Value) => nil_val (r := r) (w := w) (w' := w') (v := v) (unhide V))
  have Q := hide (fun y : Sub W.heap.size W => isWord_any n y.w)
  generalize inB n 0 65535 = q at *
  generalize LeafR 1 n ⟨#[]⟩ w = R at *
  cases q <;> (go_enter Tryz.func91, Tryz.ntmps91; go_wp2_with fail; refine wp_region_sub (⟨W, Below.refl _ _⟩ : Sub W.heap.size W) (by kernel_rfl) (by kernel_rfl) ?_; (repeat (go_big_quiet_step (first | (go_at_call 99; exact Sub.same (unhide Q _))))); refine wpQuiet_nil ?_; intro y; go_wp2; (try go_ret2); exact unhide FN _ _ _ rfl (IfV.of (by first | exact .inl rfl | exact .inr ⟨_, _, rfl⟩) (fun h => by first | rfl | cases h)) (unhide HB _))
set_option maxHeartbeats 2000000 in
theorem leaf1_s (n : Int) (s : ByteArray) (h : s ≠ E0) : LeafG 1 n s := by
  intro b ll cap w ht
  obtain ⟨W, hW⟩ : ∃ W, w.alloc (.cells #[.int .i64 1, .int .i64 n, .string s, .slice b ll cap] 33) = W := ⟨_, rfl⟩
  have B0 := hide (below_new w (.cells #[.int .i64 1, .int .i64 n, .string s, .slice b ll cap] 33))
  have hg : W.heap[w.heap.size]? = some (.cells #[.int .i64 1, .int .i64 n, .string s, .slice b ll cap] 33 (0, 0)) := by rw [← hW]; exact Array.getElem?_push_size
  rw [hW] at B0
  have x0 := Lib.cell_of_heap hg 0
  have x1 := Lib.cell_of_heap hg 1
  have x2 := Lib.cell_of_heap hg 2
  have xl : w.heap.size < W.heap.size := (Array.getElem?_eq_some_iff.1 hg).1
  have y0 : ∀ y : Sub W.heap.size W, y.w.cell? ⟨w.heap.size, 0, none⟩ = some (.int .i64 1) := fun y => (y.h.cell (p := ⟨w.heap.size, _, none⟩) xl).trans x0
  have y1 : ∀ y : Sub W.heap.size W, y.w.cell? ⟨w.heap.size, 1, none⟩ = some (.int .i64 n) := fun y => (y.h.cell (p := ⟨w.heap.size, _, none⟩) xl).trans x1
  have y2 : ∀ y : Sub W.heap.size W, y.w.cell? ⟨w.heap.size, 2, none⟩ = some (.string s) := fun y => (y.h.cell (p := ⟨w.heap.size, _, none⟩) xl).trans x2
  have ne := Sub.ne W.heap.size W
  have HZ := hide (Nat.le_refl W.heap.size)
  have TB := hide (fun y : Sub W.heap.size W => (ht.next (unhide B0)).next y.h)
  have HB := hide (fun y : Sub W.heap.size W => (unhide B0).trans (y.h.mono (unhide B0).size))
  clear hg xl ht
  obtain ⟨h1, h2⟩ := emp_E s h
  have V := hide (show hereV 1 n s 0 = false by simp [hereV, Ex.here, eqE, eqE1, *])
  have FN := hide (fun r w' (v : Value) => nil_val (r := r) (w := w) (w' := w') (v := v) (unhide V))
  have Q := hide (fun y : Sub W.heap.size W => isWord_any n y.w)
  generalize inB n 0 65535 = q at *
  generalize LeafR 1 n s w = R at *
  cases q <;> (go_enter Tryz.func91, Tryz.ntmps91; go_wp2_with fail; refine wp_region_sub (⟨W, Below.refl _ _⟩ : Sub W.heap.size W) (by kernel_rfl) (by kernel_rfl) ?_; (repeat (go_big_quiet_step (first | (go_at_call 99; exact Sub.same (unhide Q _))))); refine wpQuiet_nil ?_; intro y; go_wp2; (try go_ret2); exact unhide FN _ _ _ rfl (IfV.of (by first | exact .inl rfl | exact .inr ⟨_, _, rfl⟩) (fun h => by first | rfl | cases h)) (unhide HB _))
set_option maxHeartbeats 2000000 in
theorem leaf2_0 (n : Int) (s : ByteArray) (hs : s.size ≤ 1099511627776) : LeafG 2 0 s := by
  intro b ll cap w ht
  obtain ⟨W, hW⟩ : ∃ W, w.alloc (.cells #[.int .i64 2, .int .i64 0, .string s, .slice b ll cap] 33) = W := ⟨_, rfl⟩
  have B0 := hide (below_new w (.cells #[.int .i64 2, .int .i64 0, .string s, .slice b ll cap] 33))
  have hg : W.heap[w.heap.size]? = some (.cells #[.int .i64 2, .int .i64 0, .string s, .slice b ll cap] 33 (0, 0)) := by rw [← hW]; exact Array.getElem?_push_size
  rw [hW] at B0
  have x0 := Lib.cell_of_heap hg 0
  have x1 := Lib.cell_of_heap hg 1
  have x2 := Lib.cell_of_heap hg 2
  have xl : w.heap.size < W.heap.size := (Array.getElem?_eq_some_iff.1 hg).1
  have y0 : ∀ y : Sub W.heap.size W, y.w.cell? ⟨w.heap.size, 0, none⟩ = some (.int .i64 2) := fun y => (y.h.cell (p := ⟨w.heap.size, _, none⟩) xl).trans x0
  have y1 : ∀ y : Sub W.heap.size W, y.w.cell? ⟨w.heap.size, 1, none⟩ = some (.int .i64 0) := fun y => (y.h.cell (p := ⟨w.heap.size, _, none⟩) xl).trans x1
  have y2 : ∀ y : Sub W.heap.size W, y.w.cell? ⟨w.heap.size, 2, none⟩ = some (.string s) := fun y => (y.h.cell (p := ⟨w.heap.size, _, none⟩) xl).trans x2
  have ne := Sub.ne W.heap.size W
  have HZ := hide (Nat.le_refl W.heap.size)
  have TB := hide (fun y : Sub W.heap.size W => (ht.next (unhide B0)).next y.h)
  have HB := hide (fun y : Sub W.heap.size W => (unhide B0).trans (y.h.mono (unhide B0).size))
  clear hg xl ht
  have V := hide (show hereV 2 0 s 0 = nameB s by simp [hereV, Ex.here, eqE, eqE1, *])
  have FN := hide (fun r w' (v : Value) => nil_val (r := r) (w := w) (w' := w') (v := v) (unhide V))
  have Q := hide (fun y : Sub W.heap.size W => nameI_any s y.w hs (unhide TB y))
  generalize nameB s = q at *
  generalize LeafR 2 0 s w = R at *
  cases q <;> (go_enter Tryz.func91, Tryz.ntmps91; go_wp2_with fail; refine wp_region_sub (⟨W, Below.refl _ _⟩ : Sub W.heap.size W) (by kernel_rfl) (by kernel_rfl) ?_; (repeat (go_big_quiet_step (first | (go_at_call 63; exact Sub.same (unhide Q _))))); refine wpQuiet_nil ?_; intro y; go_wp2; (try go_ret2); exact unhide FN _ _ _ rfl (IfV.of (by first | exact .inl rfl | exact .inr ⟨_, _, rfl⟩) (fun h => by first | rfl | cases h)) (unhide HB _))
set_option maxHeartbeats 2000000 in
theorem leaf2_n (n : Int) (s : ByteArray) (h : n ≠ 0) (hs : s.size ≤ 1099511627776) : LeafG 2 n s := by
  intro b ll cap w ht
  obtain ⟨W, hW⟩ : ∃ W, w.alloc (.cells #[.int .i64 2, .int .i64 n, .string s, .slice b ll cap] 33) = W := ⟨_, rfl⟩
  have B0 := hide (below_new w (.cells #[.int .i64 2, .int .i64 n, .string s, .slice b ll cap] 33))
  have hg : W.heap[w.heap.size]? = some (.cells #[.int .i64 2, .int .i64 n, .string s, .slice b ll cap] 33 (0, 0)) := by rw [← hW]; exact Array.getElem?_push_size
  rw [hW] at B0
  have x0 := Lib.cell_of_heap hg 0
  have x1 := Lib.cell_of_heap hg 1
  have x2 := Lib.cell_of_heap hg 2
  have xl : w.heap.size < W.heap.size := (Array.getElem?_eq_some_iff.1 hg).1
  have y0 : ∀ y : Sub W.heap.size W, y.w.cell? ⟨w.heap.size, 0, none⟩ = some (.int .i64 2) := fun y => (y.h.cell (p := ⟨w.heap.size, _, none⟩) xl).trans x0
  have y1 : ∀ y : Sub W.heap.size W, y.w.cell? ⟨w.heap.size, 1, none⟩ = some (.int .i64 n) := fun y => (y.h.cell (p := ⟨w.heap.size, _, none⟩) xl).trans x1
  have y2 : ∀ y : Sub W.heap.size W, y.w.cell? ⟨w.heap.size, 2, none⟩ = some (.string s) := fun y => (y.h.cell (p := ⟨w.heap.size, _, none⟩) xl).trans x2
  have ne := Sub.ne W.heap.size W
  have HZ := hide (Nat.le_refl W.heap.size)
  have TB := hide (fun y : Sub W.heap.size W => (ht.next (unhide B0)).next y.h)
  have HB := hide (fun y : Sub W.heap.size W => (unhide B0).trans (y.h.mono (unhide B0).size))
  clear hg xl ht
  have hn : (n == 0) = false := beq_eq_false_iff_ne.2 h
  have V := hide (show hereV 2 n s 0 = false by simp [hereV, Ex.here, eqE, eqE1, *])
  have FN := hide (fun r w' (v : Value) => nil_val (r := r) (w := w) (w' := w') (v := v) (unhide V))
  have Q := hide (fun y : Sub W.heap.size W => nameI_any s y.w hs (unhide TB y))
  generalize nameB s = q at *
  generalize LeafR 2 n s w = R at *
  cases q <;> (go_enter Tryz.func91, Tryz.ntmps91; go_wp2_with fail; refine wp_region_sub (⟨W, Below.refl _ _⟩ : Sub W.heap.size W) (by kernel_rfl) (by kernel_rfl) ?_; (repeat (go_big_quiet_step (first | (go_at_call 63; exact Sub.same (unhide Q _))))); refine wpQuiet_nil ?_; intro y; go_wp2; (try go_ret2); exact unhide FN _ _ _ rfl (IfV.of (by first | exact .inl rfl | exact .inr ⟨_, _, rfl⟩) (fun h => by first | rfl | cases h)) (unhide HB _))
set_option maxHeartbeats 2000000 in
theorem leaf12_0 (n : Int) (s : ByteArray) (hs : s.size ≤ 1099511627776) : LeafG 12 0 s := by
  intro b ll cap w ht
  obtain ⟨W, hW⟩ : ∃ W, w.alloc (.cells #[.int .i64 12, .int .i64 0, .string s, .slice b ll cap] 33) = W := ⟨_, rfl⟩
  have B0 := hide (below_new w (.cells #[.int .i64 12, .int .i64 0, .string s, .slice b ll cap] 33))
  have hg : W.heap[w.heap.size]? = some (.cells #[.int .i64 12, .int .i64 0, .string s, .slice b ll cap] 33 (0, 0)) := by rw [← hW]; exact Array.getElem?_push_size
  rw [hW] at B0
  have x0 := Lib.cell_of_heap hg 0
  have x1 := Lib.cell_of_heap hg 1
  have x2 := Lib.cell_of_heap hg 2
  have xl : w.heap.size < W.heap.size := (Array.getElem?_eq_some_iff.1 hg).1
  have y0 : ∀ y : Sub W.heap.size W, y.w.cell? ⟨w.heap.size, 0, none⟩ = some (.int .i64 12) := fun y => (y.h.cell (p := ⟨w.heap.size, _, none⟩) xl).trans x0
  have y1 : ∀ y : Sub W.heap.size W, y.w.cell? ⟨w.heap.size, 1, none⟩ = some (.int .i64 0) := fun y => (y.h.cell (p := ⟨w.heap.size, _, none⟩) xl).trans x1
  have y2 : ∀ y : Sub W.heap.size W, y.w.cell? ⟨w.heap.size, 2, none⟩ = some (.string s) := fun y => (y.h.cell (p := ⟨w.heap.size, _, none⟩) xl).trans x2
  have ne := Sub.ne W.heap.size W
  have HZ := hide (Nat.le_refl W.heap.size)
  have TB := hide (fun y : Sub W.heap.size W => (ht.next (unhide B0)).next y.h)
  have HB := hide (fun y : Sub W.heap.size W => (unhide B0).trans (y.h.mono (unhide B0).size))
  clear hg xl ht
  have V := hide (show hereV 12 0 s 0 = nameB s by simp [hereV, Ex.here, eqE, eqE1, *])
  have FN := hide (fun r w' (v : Value) => nil_val (r := r) (w := w) (w' := w') (v := v) (unhide V))
  have Q := hide (fun y : Sub W.heap.size W => nameI_any s y.w hs (unhide TB y))
  generalize nameB s = q at *
  generalize LeafR 12 0 s w = R at *
  cases q <;> (go_enter Tryz.func91, Tryz.ntmps91; go_wp2_with fail; refine wp_region_sub (⟨W, Below.refl _ _⟩ : Sub W.heap.size W) (by kernel_rfl) (by kernel_rfl) ?_; (repeat (go_big_quiet_step (first | (go_at_call 63; exact Sub.same (unhide Q _))))); refine wpQuiet_nil ?_; intro y; go_wp2; (try go_ret2); exact unhide FN _ _ _ rfl (IfV.of (by first | exact .inl rfl | exact .inr ⟨_, _, rfl⟩) (fun h => by first | rfl | cases h)) (unhide HB _))
set_option maxHeartbeats 2000000 in
theorem leaf12_n (n : Int) (s : ByteArray) (h : n ≠ 0) (hs : s.size ≤ 1099511627776) : LeafG 12 n s := by
  intro b ll cap w ht
  obtain ⟨W, hW⟩ : ∃ W, w.alloc (.cells #[.int .i64 12, .int .i64 n, .string s, .slice b ll cap] 33) = W := ⟨_, rfl⟩
  have B0 := hide (below_new w (.cells #[.int .i64 12, .int .i64 n, .string s, .slice b ll cap] 33))
  have hg : W.heap[w.heap.size]? = some (.cells #[.int .i64 12, .int .i64 n, .string s, .slice b ll cap] 33 (0, 0)) := by rw [← hW]; exact Array.getElem?_push_size
  rw [hW] at B0
  have x0 := Lib.cell_of_heap hg 0
  have x1 := Lib.cell_of_heap hg 1
  have x2 := Lib.cell_of_heap hg 2
  have xl : w.heap.size < W.heap.size := (Array.getElem?_eq_some_iff.1 hg).1
  have y0 : ∀ y : Sub W.heap.size W, y.w.cell? ⟨w.heap.size, 0, none⟩ = some (.int .i64 12) := fun y => (y.h.cell (p := ⟨w.heap.size, _, none⟩) xl).trans x0
  have y1 : ∀ y : Sub W.heap.size W, y.w.cell? ⟨w.heap.size, 1, none⟩ = some (.int .i64 n) := fun y => (y.h.cell (p := ⟨w.heap.size, _, none⟩) xl).trans x1
  have y2 : ∀ y : Sub W.heap.size W, y.w.cell? ⟨w.heap.size, 2, none⟩ = some (.string s) := fun y => (y.h.cell (p := ⟨w.heap.size, _, none⟩) xl).trans x2
  have ne := Sub.ne W.heap.size W
  have HZ := hide (Nat.le_refl W.heap.size)
  have TB := hide (fun y : Sub W.heap.size W => (ht.next (unhide B0)).next y.h)
  have HB := hide (fun y : Sub W.heap.size W => (unhide B0).trans (y.h.mono (unhide B0).size))
  clear hg xl ht
  have hn : (n == 0) = false := beq_eq_false_iff_ne.2 h
  have V := hide (show hereV 12 n s 0 = false by simp [hereV, Ex.here, eqE, eqE1, *])
  have FN := hide (fun r w' (v : Value) => nil_val (r := r) (w := w) (w' := w') (v := v) (unhide V))
  have Q := hide (fun y : Sub W.heap.size W => nameI_any s y.w hs (unhide TB y))
  generalize nameB s = q at *
  generalize LeafR 12 n s w = R at *
  cases q <;> (go_enter Tryz.func91, Tryz.ntmps91; go_wp2_with fail; refine wp_region_sub (⟨W, Below.refl _ _⟩ : Sub W.heap.size W) (by kernel_rfl) (by kernel_rfl) ?_; (repeat (go_big_quiet_step (first | (go_at_call 63; exact Sub.same (unhide Q _))))); refine wpQuiet_nil ?_; intro y; go_wp2; (try go_ret2); exact unhide FN _ _ _ rfl (IfV.of (by first | exact .inl rfl | exact .inr ⟨_, _, rfl⟩) (fun h => by first | rfl | cases h)) (unhide HB _))
set_option maxHeartbeats 2000000 in
theorem leaf3_0 (n : Int) (s : ByteArray) : LeafG 3 0 ⟨#[]⟩ := by
  intro b ll cap w ht
  obtain ⟨W, hW⟩ : ∃ W, w.alloc (.cells #[.int .i64 3, .int .i64 0, .string ⟨#[]⟩, .slice b ll cap] 33) = W := ⟨_, rfl⟩
  have B0 := hide (below_new w (.cells #[.int .i64 3, .int .i64 0, .string ⟨#[]⟩, .slice b ll cap] 33))
  have hg : W.heap[w.heap.size]? = some (.cells #[.int .i64 3, .int .i64 0, .string ⟨#[]⟩, .slice b ll cap] 33 (0, 0)) := by rw [← hW]; exact Array.getElem?_push_size
  rw [hW] at B0
  have x0 := Lib.cell_of_heap hg 0
  have x1 := Lib.cell_of_heap hg 1
  have x2 := Lib.cell_of_heap hg 2
  have xl : w.heap.size < W.heap.size := (Array.getElem?_eq_some_iff.1 hg).1
  have y0 : ∀ y : Sub W.heap.size W, y.w.cell? ⟨w.heap.size, 0, none⟩ = some (.int .i64 3) := fun y => (y.h.cell (p := ⟨w.heap.size, _, none⟩) xl).trans x0
  have y1 : ∀ y : Sub W.heap.size W, y.w.cell? ⟨w.heap.size, 1, none⟩ = some (.int .i64 0) := fun y => (y.h.cell (p := ⟨w.heap.size, _, none⟩) xl).trans x1
  have y2 : ∀ y : Sub W.heap.size W, y.w.cell? ⟨w.heap.size, 2, none⟩ = some (.string ⟨#[]⟩) := fun y => (y.h.cell (p := ⟨w.heap.size, _, none⟩) xl).trans x2
  have ne := Sub.ne W.heap.size W
  have HZ := hide (Nat.le_refl W.heap.size)
  have TB := hide (fun y : Sub W.heap.size W => (ht.next (unhide B0)).next y.h)
  have HB := hide (fun y : Sub W.heap.size W => (unhide B0).trans (y.h.mono (unhide B0).size))
  clear hg xl ht
  have V := hide (show hereV 3 0 ⟨#[]⟩ 0 = true by simp [hereV, Ex.here, eqE, eqE1, *])
  have FN := hide (fun r w' (v : Value) => nil_val (r := r) (w := w) (w' := w') (v := v) (unhide V))
  generalize LeafR 3 0 ⟨#[]⟩ w = R at *
  (go_enter Tryz.func91, Tryz.ntmps91; go_wp2_with fail; refine wp_region_sub (⟨W, Below.refl _ _⟩ : Sub W.heap.size W) (by kernel_rfl) (by kernel_rfl) ?_; (repeat (go_big_quiet_step (first | fail))); refine wpQuiet_nil ?_; intro y; go_wp2; (try go_ret2); exact unhide FN _ _ _ rfl (IfV.of (by first | exact .inl rfl | exact .inr ⟨_, _, rfl⟩) (fun h => by first | rfl | cases h)) (unhide HB _))
set_option maxHeartbeats 2000000 in
theorem leaf3_n (n : Int) (s : ByteArray) (h : n ≠ 0) : LeafG 3 n s := by
  intro b ll cap w ht
  obtain ⟨W, hW⟩ : ∃ W, w.alloc (.cells #[.int .i64 3, .int .i64 n, .string s, .slice b ll cap] 33) = W := ⟨_, rfl⟩
  have B0 := hide (below_new w (.cells #[.int .i64 3, .int .i64 n, .string s, .slice b ll cap] 33))
  have hg : W.heap[w.heap.size]? = some (.cells #[.int .i64 3, .int .i64 n, .string s, .slice b ll cap] 33 (0, 0)) := by rw [← hW]; exact Array.getElem?_push_size
  rw [hW] at B0
  have x0 := Lib.cell_of_heap hg 0
  have x1 := Lib.cell_of_heap hg 1
  have x2 := Lib.cell_of_heap hg 2
  have xl : w.heap.size < W.heap.size := (Array.getElem?_eq_some_iff.1 hg).1
  have y0 : ∀ y : Sub W.heap.size W, y.w.cell? ⟨w.heap.size, 0, none⟩ = some (.int .i64 3) := fun y => (y.h.cell (p := ⟨w.heap.size, _, none⟩) xl).trans x0
  have y1 : ∀ y : Sub W.heap.size W, y.w.cell? ⟨w.heap.size, 1, none⟩ = some (.int .i64 n) := fun y => (y.h.cell (p := ⟨w.heap.size, _, none⟩) xl).trans x1
  have y2 : ∀ y : Sub W.heap.size W, y.w.cell? ⟨w.heap.size, 2, none⟩ = some (.string s) := fun y => (y.h.cell (p := ⟨w.heap.size, _, none⟩) xl).trans x2
  have ne := Sub.ne W.heap.size W
  have HZ := hide (Nat.le_refl W.heap.size)
  have TB := hide (fun y : Sub W.heap.size W => (ht.next (unhide B0)).next y.h)
  have HB := hide (fun y : Sub W.heap.size W => (unhide B0).trans (y.h.mono (unhide B0).size))
  clear hg xl ht
  have hn : (n == 0) = false := beq_eq_false_iff_ne.2 h
  have V := hide (show hereV 3 n s 0 = false by simp [hereV, Ex.here, eqE, eqE1, *])
  have FN := hide (fun r w' (v : Value) => nil_val (r := r) (w := w) (w' := w') (v := v) (unhide V))
  generalize LeafR 3 n s w = R at *
  (go_enter Tryz.func91, Tryz.ntmps91; go_wp2_with fail; refine wp_region_sub (⟨W, Below.refl _ _⟩ : Sub W.heap.size W) (by kernel_rfl) (by kernel_rfl) ?_; (repeat (go_big_quiet_step (first | fail))); refine wpQuiet_nil ?_; intro y; go_wp2; (try go_ret2); exact unhide FN _ _ _ rfl (IfV.of (by first | exact .inl rfl | exact .inr ⟨_, _, rfl⟩) (fun h => by first | rfl | cases h)) (unhide HB _))
set_option maxHeartbeats 2000000 in
theorem leaf3_s (n : Int) (s : ByteArray) (h : s ≠ E0) : LeafG 3 0 s := by
  intro b ll cap w ht
  obtain ⟨W, hW⟩ : ∃ W, w.alloc (.cells #[.int .i64 3, .int .i64 0, .string s, .slice b ll cap] 33) = W := ⟨_, rfl⟩
  have B0 := hide (below_new w (.cells #[.int .i64 3, .int .i64 0, .string s, .slice b ll cap] 33))
  have hg : W.heap[w.heap.size]? = some (.cells #[.int .i64 3, .int .i64 0, .string s, .slice b ll cap] 33 (0, 0)) := by rw [← hW]; exact Array.getElem?_push_size
  rw [hW] at B0
  have x0 := Lib.cell_of_heap hg 0
  have x1 := Lib.cell_of_heap hg 1
  have x2 := Lib.cell_of_heap hg 2
  have xl : w.heap.size < W.heap.size := (Array.getElem?_eq_some_iff.1 hg).1
  have y0 : ∀ y : Sub W.heap.size W, y.w.cell? ⟨w.heap.size, 0, none⟩ = some (.int .i64 3) := fun y => (y.h.cell (p := ⟨w.heap.size, _, none⟩) xl).trans x0
  have y1 : ∀ y : Sub W.heap.size W, y.w.cell? ⟨w.heap.size, 1, none⟩ = some (.int .i64 0) := fun y => (y.h.cell (p := ⟨w.heap.size, _, none⟩) xl).trans x1
  have y2 : ∀ y : Sub W.heap.size W, y.w.cell? ⟨w.heap.size, 2, none⟩ = some (.string s) := fun y => (y.h.cell (p := ⟨w.heap.size, _, none⟩) xl).trans x2
  have ne := Sub.ne W.heap.size W
  have HZ := hide (Nat.le_refl W.heap.size)
  have TB := hide (fun y : Sub W.heap.size W => (ht.next (unhide B0)).next y.h)
  have HB := hide (fun y : Sub W.heap.size W => (unhide B0).trans (y.h.mono (unhide B0).size))
  clear hg xl ht
  obtain ⟨h1, h2⟩ := emp_E s h
  have V := hide (show hereV 3 0 s 0 = false by simp [hereV, Ex.here, eqE, eqE1, *])
  have FN := hide (fun r w' (v : Value) => nil_val (r := r) (w := w) (w' := w') (v := v) (unhide V))
  generalize LeafR 3 0 s w = R at *
  (go_enter Tryz.func91, Tryz.ntmps91; go_wp2_with fail; refine wp_region_sub (⟨W, Below.refl _ _⟩ : Sub W.heap.size W) (by kernel_rfl) (by kernel_rfl) ?_; (repeat (go_big_quiet_step (first | fail))); refine wpQuiet_nil ?_; intro y; go_wp2; (try go_ret2); exact unhide FN _ _ _ rfl (IfV.of (by first | exact .inl rfl | exact .inr ⟨_, _, rfl⟩) (fun h => by first | rfl | cases h)) (unhide HB _))
set_option maxHeartbeats 2000000 in
theorem leaf11_s (n : Int) (s : ByteArray) (h : s ≠ E0) : LeafG 11 n s := by
  intro b ll cap w ht
  obtain ⟨W, hW⟩ : ∃ W, w.alloc (.cells #[.int .i64 11, .int .i64 n, .string s, .slice b ll cap] 33) = W := ⟨_, rfl⟩
  have B0 := hide (below_new w (.cells #[.int .i64 11, .int .i64 n, .string s, .slice b ll cap] 33))
  have hg : W.heap[w.heap.size]? = some (.cells #[.int .i64 11, .int .i64 n, .string s, .slice b ll cap] 33 (0, 0)) := by rw [← hW]; exact Array.getElem?_push_size
  rw [hW] at B0
  have x0 := Lib.cell_of_heap hg 0
  have x1 := Lib.cell_of_heap hg 1
  have x2 := Lib.cell_of_heap hg 2
  have xl : w.heap.size < W.heap.size := (Array.getElem?_eq_some_iff.1 hg).1
  have y0 : ∀ y : Sub W.heap.size W, y.w.cell? ⟨w.heap.size, 0, none⟩ = some (.int .i64 11) := fun y => (y.h.cell (p := ⟨w.heap.size, _, none⟩) xl).trans x0
  have y1 : ∀ y : Sub W.heap.size W, y.w.cell? ⟨w.heap.size, 1, none⟩ = some (.int .i64 n) := fun y => (y.h.cell (p := ⟨w.heap.size, _, none⟩) xl).trans x1
  have y2 : ∀ y : Sub W.heap.size W, y.w.cell? ⟨w.heap.size, 2, none⟩ = some (.string s) := fun y => (y.h.cell (p := ⟨w.heap.size, _, none⟩) xl).trans x2
  have ne := Sub.ne W.heap.size W
  have HZ := hide (Nat.le_refl W.heap.size)
  have TB := hide (fun y : Sub W.heap.size W => (ht.next (unhide B0)).next y.h)
  have HB := hide (fun y : Sub W.heap.size W => (unhide B0).trans (y.h.mono (unhide B0).size))
  clear hg xl ht
  obtain ⟨h1, h2⟩ := emp_E s h
  have V := hide (show hereV 11 n s 0 = false by simp [hereV, Ex.here, eqE, eqE1, *])
  have FN := hide (fun r w' (v : Value) => nil_val (r := r) (w := w) (w' := w') (v := v) (unhide V))
  generalize LeafR 11 n s w = R at *
  by_cases g1 : 0 ≤ n
  · by_cases g2 : n ≤ 9
    · (go_enter Tryz.func91, Tryz.ntmps91; go_wp2_with fail; refine wp_region_sub (⟨W, Below.refl _ _⟩ : Sub W.heap.size W) (by kernel_rfl) (by kernel_rfl) ?_; (repeat (go_big_quiet_step (first | fail))); refine wpQuiet_nil ?_; intro y; go_wp2; (try go_ret2); exact unhide FN _ _ _ rfl (IfV.of (by first | exact .inl rfl | exact .inr ⟨_, _, rfl⟩) (fun h => by first | rfl | cases h)) (unhide HB _))
    · have g4 : decide (n ≤ 9) = false := decide_eq_false g2
      (go_enter Tryz.func91, Tryz.ntmps91; go_wp2_with fail; refine wp_region_sub (⟨W, Below.refl _ _⟩ : Sub W.heap.size W) (by kernel_rfl) (by kernel_rfl) ?_; (repeat (go_big_quiet_step (first | fail))); refine wpQuiet_nil ?_; intro y; go_wp2; (try go_ret2); exact unhide FN _ _ _ rfl (IfV.of (by first | exact .inl rfl | exact .inr ⟨_, _, rfl⟩) (fun h => by first | rfl | cases h)) (unhide HB _))
  · have g3 : decide (0 ≤ n) = false := decide_eq_false g1
    (go_enter Tryz.func91, Tryz.ntmps91; go_wp2_with fail; refine wp_region_sub (⟨W, Below.refl _ _⟩ : Sub W.heap.size W) (by kernel_rfl) (by kernel_rfl) ?_; (repeat (go_big_quiet_step (first | fail))); refine wpQuiet_nil ?_; intro y; go_wp2; (try go_ret2); exact unhide FN _ _ _ rfl (IfV.of (by first | exact .inl rfl | exact .inr ⟨_, _, rfl⟩) (fun h => by first | rfl | cases h)) (unhide HB _))
set_option maxHeartbeats 2000000 in
theorem leaf11_0 (n : Int) (s : ByteArray) : LeafG 11 n ⟨#[]⟩ := by
  intro b ll cap w ht
  obtain ⟨W, hW⟩ : ∃ W, w.alloc (.cells #[.int .i64 11, .int .i64 n, .string ⟨#[]⟩, .slice b ll cap] 33) = W := ⟨_, rfl⟩
  have B0 := hide (below_new w (.cells #[.int .i64 11, .int .i64 n, .string ⟨#[]⟩, .slice b ll cap] 33))
  have hg : W.heap[w.heap.size]? = some (.cells #[.int .i64 11, .int .i64 n, .string ⟨#[]⟩, .slice b ll cap] 33 (0, 0)) := by rw [← hW]; exact Array.getElem?_push_size
  rw [hW] at B0
  have x0 := Lib.cell_of_heap hg 0
  have x1 := Lib.cell_of_heap hg 1
  have x2 := Lib.cell_of_heap hg 2
  have xl : w.heap.size < W.heap.size := (Array.getElem?_eq_some_iff.1 hg).1
  have y0 : ∀ y : Sub W.heap.size W, y.w.cell? ⟨w.heap.size, 0, none⟩ = some (.int .i64 11) := fun y => (y.h.cell (p := ⟨w.heap.size, _, none⟩) xl).trans x0
  have y1 : ∀ y : Sub W.heap.size W, y.w.cell? ⟨w.heap.size, 1, none⟩ = some (.int .i64 n) := fun y => (y.h.cell (p := ⟨w.heap.size, _, none⟩) xl).trans x1
  have y2 : ∀ y : Sub W.heap.size W, y.w.cell? ⟨w.heap.size, 2, none⟩ = some (.string ⟨#[]⟩) := fun y => (y.h.cell (p := ⟨w.heap.size, _, none⟩) xl).trans x2
  have ne := Sub.ne W.heap.size W
  have HZ := hide (Nat.le_refl W.heap.size)
  have TB := hide (fun y : Sub W.heap.size W => (ht.next (unhide B0)).next y.h)
  have HB := hide (fun y : Sub W.heap.size W => (unhide B0).trans (y.h.mono (unhide B0).size))
  clear hg xl ht
  by_cases g1 : 0 ≤ n
  · by_cases g2 : n ≤ 9
    · have e : inB n 0 9 = true := by unfold inB; simp <;> omega
      have V := hide (show hereV 11 n ⟨#[]⟩ 0 = true by simp [hereV, Ex.here, eqE, eqE1, e])
      have FN := hide (fun r w' (v : Value) => nil_val (r := r) (w := w) (w' := w') (v := v) (unhide V))
      generalize LeafR 11 n ⟨#[]⟩ w = R at *
      clear e
      (go_enter Tryz.func91, Tryz.ntmps91; go_wp2_with fail; refine wp_region_sub (⟨W, Below.refl _ _⟩ : Sub W.heap.size W) (by kernel_rfl) (by kernel_rfl) ?_; (repeat (go_big_quiet_step (first | fail))); refine wpQuiet_nil ?_; intro y; go_wp2; (try go_ret2); exact unhide FN _ _ _ rfl (IfV.of (by first | exact .inl rfl | exact .inr ⟨_, _, rfl⟩) (fun h => by first | rfl | cases h)) (unhide HB _))
    · have g4 : decide (n ≤ 9) = false := decide_eq_false g2
      have e : inB n 0 9 = false := by unfold inB; simp <;> omega
      have V := hide (show hereV 11 n ⟨#[]⟩ 0 = false by simp [hereV, Ex.here, eqE, eqE1, e])
      have FN := hide (fun r w' (v : Value) => nil_val (r := r) (w := w) (w' := w') (v := v) (unhide V))
      generalize LeafR 11 n ⟨#[]⟩ w = R at *
      clear e
      (go_enter Tryz.func91, Tryz.ntmps91; go_wp2_with fail; refine wp_region_sub (⟨W, Below.refl _ _⟩ : Sub W.heap.size W) (by kernel_rfl) (by kernel_rfl) ?_; (repeat (go_big_quiet_step (first | fail))); refine wpQuiet_nil ?_; intro y; go_wp2; (try go_ret2); exact unhide FN _ _ _ rfl (IfV.of (by first | exact .inl rfl | exact .inr ⟨_, _, rfl⟩) (fun h => by first | rfl | cases h)) (unhide HB _))
  · have g3 : decide (0 ≤ n) = false := decide_eq_false g1
    have e : inB n 0 9 = false := by unfold inB; simp <;> omega
    have V := hide (show hereV 11 n ⟨#[]⟩ 0 = false by simp [hereV, Ex.here, eqE, eqE1, e])
    have FN := hide (fun r w' (v : Value) => nil_val (r := r) (w := w) (w' := w') (v := v) (unhide V))
    generalize LeafR 11 n ⟨#[]⟩ w = R at *
    clear e
    (go_enter Tryz.func91, Tryz.ntmps91; go_wp2_with fail; refine wp_region_sub (⟨W, Below.refl _ _⟩ : Sub W.heap.size W) (by kernel_rfl) (by kernel_rfl) ?_; (repeat (go_big_quiet_step (first | fail))); refine wpQuiet_nil ?_; intro y; go_wp2; (try go_ret2); exact unhide FN _ _ _ rfl (IfV.of (by first | exact .inl rfl | exact .inr ⟨_, _, rfl⟩) (fun h => by first | rfl | cases h)) (unhide HB _))
set_option maxHeartbeats 2000000 in
theorem leaf_no (k n : Int) (s : ByteArray) (h1 : k ≠ 1) (h2 : k ≠ 2) (h3 : k ≠ 3) (h11 : k ≠ 11) (h12 : k ≠ 12) : LeafG k n s := by
  intro b ll cap w ht
  obtain ⟨W, hW⟩ : ∃ W, w.alloc (.cells #[.int .i64 k, .int .i64 n, .string s, .slice b ll cap] 33) = W := ⟨_, rfl⟩
  have B0 := hide (below_new w (.cells #[.int .i64 k, .int .i64 n, .string s, .slice b ll cap] 33))
  have hg : W.heap[w.heap.size]? = some (.cells #[.int .i64 k, .int .i64 n, .string s, .slice b ll cap] 33 (0, 0)) := by rw [← hW]; exact Array.getElem?_push_size
  rw [hW] at B0
  have x0 := Lib.cell_of_heap hg 0
  have x1 := Lib.cell_of_heap hg 1
  have x2 := Lib.cell_of_heap hg 2
  have xl : w.heap.size < W.heap.size := (Array.getElem?_eq_some_iff.1 hg).1
  have y0 : ∀ y : Sub W.heap.size W, y.w.cell? ⟨w.heap.size, 0, none⟩ = some (.int .i64 k) := fun y => (y.h.cell (p := ⟨w.heap.size, _, none⟩) xl).trans x0
  have y1 : ∀ y : Sub W.heap.size W, y.w.cell? ⟨w.heap.size, 1, none⟩ = some (.int .i64 n) := fun y => (y.h.cell (p := ⟨w.heap.size, _, none⟩) xl).trans x1
  have y2 : ∀ y : Sub W.heap.size W, y.w.cell? ⟨w.heap.size, 2, none⟩ = some (.string s) := fun y => (y.h.cell (p := ⟨w.heap.size, _, none⟩) xl).trans x2
  have ne := Sub.ne W.heap.size W
  have HZ := hide (Nat.le_refl W.heap.size)
  have TB := hide (fun y : Sub W.heap.size W => (ht.next (unhide B0)).next y.h)
  have HB := hide (fun y : Sub W.heap.size W => (unhide B0).trans (y.h.mono (unhide B0).size))
  clear hg xl ht
  have g1 : (k == 1) = false := beq_eq_false_iff_ne.2 h1
  have g2 : (k == 2) = false := beq_eq_false_iff_ne.2 h2
  have g3 : (k == 3) = false := beq_eq_false_iff_ne.2 h3
  have g11 : (k == 11) = false := beq_eq_false_iff_ne.2 h11
  have g12 : (k == 12) = false := beq_eq_false_iff_ne.2 h12
  have V := hide (show hereV k n s 0 = false by unfold hereV Ex.here; simp only [List.length_replicate]; split; rfl; rw [if_neg (by omega)]; (repeat' (first | rfl | split)); all_goals first | rfl | omega)
  have FN := hide (fun r w' (v : Value) => nil_val (r := r) (w := w) (w' := w') (v := v) (unhide V))
  generalize LeafR k n s w = R at *
  (go_enter Tryz.func91, Tryz.ntmps91; go_wp2; (try go_ret2); exact unhide FN _ _ _ rfl (IfV.of (by first | exact .inl rfl | exact .inr ⟨_, _, rfl⟩) (fun h => by cases h)) (unhide B0))
theorem leaf_any (k n : Int) (s : ByteArray) (b : Option Addr) (ll cap : Nat) (w : World) (hs : s.size ≤ 1099511627776) (ht : TabK w) : Calls Tryz.prog 91 #[.agg #[.int .i64 k, .int .i64 n, .string s, .slice b ll cap]] w (LeafR k n s w) := by
  revert b ll cap w
  show ∀ b ll cap w, TabK w → _
  by_cases c1 : k = 1
  · subst c1
    by_cases h : s = E0
    · subst h; exact leaf1_0 n E0
    · exact leaf1_s n s h
  by_cases c2 : k = 2
  · subst c2
    by_cases h : n = 0
    · subst h; exact leaf2_0 0 s hs
    · exact leaf2_n n s h hs
  by_cases c12 : k = 12
  · subst c12
    by_cases h : n = 0
    · subst h; exact leaf12_0 0 s hs
    · exact leaf12_n n s h hs
  by_cases c3 : k = 3
  · subst c3
    by_cases h : n = 0
    · subst h
      by_cases h : s = E0
      · subst h; exact leaf3_0 0 E0
      · exact leaf3_s 0 s h
    · exact leaf3_n n s h
  by_cases c11 : k = 11
  · subst c11
    by_cases h : s = E0
    · subst h; exact leaf11_0 n E0
    · exact leaf11_s n s h
  exact leaf_no k n s c1 c2 c3 c11 c12
end Go.Proofs.YtmhcbehplhfgfaaGreatDoor
