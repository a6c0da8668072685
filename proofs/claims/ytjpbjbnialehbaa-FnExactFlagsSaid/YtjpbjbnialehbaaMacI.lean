/- Words at addresses: read by the program and by the model; over this seat's translation; conditions stand as hypotheses of each. -/
import Derived.Test.YtjpbjbnialehbaaMacH
namespace Go.Proofs.Ytjpbjbnialehbaa
open Go.ChangeShapes Go.WideShapes Go.ChangeAt Go.RowKit
set_option linter.unusedVariables false
set_option maxRecDepth 8000
set_option linter.unusedSimpArgs false

/-- Is it an address? -/
def adB (a : Int) : Bool := inB a 0 510 && (a % 2 == 0)
theorem adB_t {a : Int} (h : adB a = true) : 0 ≤ a ∧ a ≤ 510 ∧ a % 2 = 0 := by
  unfold adB inB at h
  simp at h
  omega
theorem adB_f {a : Int} (h : a < 0 ∨ 511 ≤ a ∨ a % 2 ≠ 0) : adB a = false := by
  cases hb : adB a
  · rfl
  · have := adB_t hb; omega
theorem adB_i {a : Int} (h0 : 0 ≤ a) (h1 : a ≤ 510) (h2 : a % 2 = 0) : adB a = true := by
  unfold adB inB
  simp
  omega
/-- Has it a word there? -/
def Md.has (d : Md) (a : Int) : Bool := adB a && decide (a / 2 < (d.m.length : Int))
def Md.get (d : Md) (a : Int) : Int := if d.has a = true then nAt d.m (a / 2).toNat else 0
theorem has_t {d : Md} {a : Int} (h : d.has a = true) : adB a = true ∧ a / 2 < (d.m.length : Int) := by
  unfold Md.has at h
  simpa using h

set_option maxHeartbeats 1000000 in
theorem isAddr_any (a : Int) (w : World) : Calls Try.prog 61 #[.int .i64 a] w fun e w' => e = .returned (.bool (adB a)) ∧ w' = w := by
  by_cases h0 : 0 ≤ a
  · by_cases h1 : a < 512
    · cases h2 : (a % 2 == 0)
      · have F := hide (adB_f (a := a) (.inr (.inr (by simpa using h2))))
        go_enter Try.func61, Try.ntmps61
        go_wp2
        go_ret
        exact ⟨ret_bool (unhide F).symm, rfl⟩
      · have e2 : a % 2 = 0 := by simpa using h2
        have F := hide (adB_i h0 (by omega) e2)
        clear e2
        go_enter Try.func61, Try.ntmps61
        go_wp2
        go_ret
        exact ⟨ret_bool (unhide F).symm, rfl⟩
    · have F := hide (adB_f (a := a) (.inr (.inl (by omega))))
      go_enter Try.func61, Try.ntmps61
      go_wp2
      go_ret
      exact ⟨ret_bool (unhide F).symm, rfl⟩
  · have F := hide (adB_f (a := a) (.inl (by omega)))
    go_enter Try.func61, Try.ntmps61
    go_wp2
    go_ret
    exact ⟨ret_bool (unhide F).symm, rfl⟩

set_option maxHeartbeats 1000000 in
theorem has_any (x : Mv) (d : Md) (a : Int) (w : World) (hl : d.m.length = x.m.n) (hs : x.m.n ≤ 1048576) : Calls Try.prog 43 #[.agg x.cs, .int .i64 a] w fun e w' => e = .returned (.bool (d.has a)) ∧ Below w.heap.size w w' := by
  have HB := hide ((Below.refl w.heap.size w).alloc (Nat.le_refl _) (.cells x.cs 38))
  have c0 : x.cs[0]? = some (.slice x.m.a x.m.n x.m.c) := rfl
  have I := hide (fun w => isAddr_any a w)
  unfold Md.has
  rw [hl]
  have T := hide (adB_t (a := a))
  generalize adB a = q at I T ⊢
  cases q
  · go_enter Try.func43, Try.ntmps43
    go_wp2_with (go_at_call 61; refine (unhide I _).mono ?_; rintro e w' ⟨rfl, rfl⟩)
    go_ret
    exact ⟨rfl, unhide HB⟩
  · obtain ⟨t0, t1, _⟩ := unhide T (by trivial)
    go_enter Try.func43, Try.ntmps43
    go_wp2_with (go_at_call 61; refine (unhide I _).mono ?_; rintro e w' ⟨rfl, rfl⟩)
    go_ret
    exact ⟨rfl, unhide HB⟩

set_option maxHeartbeats 1000000 in
theorem readS_any (x : Mv) (d : Md) (a : Int) (w : World) (hs : x.small) (hr : RdM w x d) : Calls Try.prog 20 #[.agg x.cs, .int .i64 a] w fun e w' => e = .returned (.tuple #[.int .i64 (d.get a), .bool (d.has a)]) ∧ Below w.heap.size w w' := by
  have HB := hide ((Below.refl w.heap.size w).alloc (Nat.le_refl _) (.cells x.cs 38))
  have X := hide (hr.later (unhide HB))
  have c0 : x.cs[0]? = some (.slice x.m.a x.m.n x.m.c) := rfl
  have hl := hr.ml
  have hs0 := hs.1
  unfold Md.get
  have I := hide (fun w => in_any a 0 510 w)
  clear hr hs
  by_cases h0 : inB a 0 510 = true
  · have hb : 0 ≤ a ∧ a ≤ 510 := by unfold inB at h0; simpa using h0
    obtain ⟨b0, b1⟩ := hb
    rw [h0] at I
    by_cases h2 : a % 2 = 0
    · have e2 := hide h2
      have g2 : a % 2 ≤ 0 := by omega
      by_cases h3 : a / 2 < (x.m.n : Int)
      · have hh : d.has a = true := by unfold Md.has; rw [adB_i b0 b1 h2, hl]; simpa using h3
        rw [hh, if_pos rfl]
        obtain ⟨k, hk⟩ := Int.eq_ofNat_of_zero_le (show 0 ≤ a / 2 by omega)
        have hkl : k < x.m.n := by omega
        rcases (unhide X).m with h00 | ⟨b, off, ha, hbl, hc⟩
        · rw [h00] at hl; simp at hl; omega
        have hcx := hc k (by omega)
        rw [hk, show ((k : Int)).toNat = k by omega]
        rw [ha] at c0
        have HK := hide hk
        have HX := hide X
        clear h2 hl hh hc X ha
        go_enter Try.func20, Try.ntmps20
        go_wp2_with (go_at_call 46; refine (unhide I _).mono ?_; rintro e w' ⟨rfl, hw'⟩; rw [hw']; clear hw' w')
        go_ret2
        exact ⟨rfl, unhide HB⟩
      · have hh : d.has a = false := by unfold Md.has; rw [hl]; simp; intro _; omega
        rw [hh, if_neg (by simp)]
        clear h2 hl hh
        go_enter Try.func20, Try.ntmps20
        go_wp2_with (go_at_call 46; refine (unhide I _).mono ?_; rintro e w' ⟨rfl, hw'⟩; rw [hw']; clear hw' w')
        go_ret2
        exact ⟨rfl, unhide HB⟩
    · have hh : d.has a = false := by unfold Md.has; rw [adB_f (.inr (.inr h2))]; rfl
      rw [hh, if_neg (by simp)]
      have g2 : 0 < a % 2 := by omega
      clear hl hh
      go_enter Try.func20, Try.ntmps20
      go_wp2_with (go_at_call 46; refine (unhide I _).mono ?_; rintro e w' ⟨rfl, hw'⟩; rw [hw']; clear hw' w')
      go_ret2
      exact ⟨rfl, unhide HB⟩
  · have h0' : inB a 0 510 = false := by simpa using h0
    have hh : d.has a = false := by unfold Md.has adB; rw [h0']; rfl
    rw [hh, if_neg (by simp)]
    rw [h0'] at I
    clear hl hh h0 h0'
    go_enter Try.func20, Try.ntmps20
    go_wp2_with (go_at_call 46; refine (unhide I _).mono ?_; rintro e w' ⟨rfl, hw'⟩; rw [hw']; clear hw' w')
    go_ret2
    exact ⟨rfl, unhide HB⟩
end Go.Proofs.Ytjpbjbnialehbaa
