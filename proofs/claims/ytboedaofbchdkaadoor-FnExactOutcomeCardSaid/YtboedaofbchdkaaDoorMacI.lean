/- Words at addresses: read by the program and by the model; over this seat's translation; conditions stand as hypotheses of each. -/
import Derived.Test.YtboedaofbchdkaaDoorMacH
namespace Go.Proofs.YtboedaofbchdkaaDoor
open Go.ChangeShapes Go.WideShapes Go.ChangeAt Go.RowKit
set_option linter.unusedVariables false
set_option maxRecDepth 8000
set_option linter.unusedSimpArgs false

/-- Is it an address? -/
def adB (a : Int) : Bool := inB a 0 510 && (a % 2 == 0)
theorem adB_t {a : Int} (h : adB a = true) : 0 ≤ a ∧ a ≤ 510 ∧ a % 2 = 0 := by
  unfold adB inB at h
  simp at h
  omega
theorem adB_f {a : Int} (h : a < 0 ∨ 511 ≤ a ∨ a % 2 ≠ 0) : adB a = false := by
  cases hb : adB a
  · rfl
  · have := adB_t hb; omega
theorem adB_i {a : Int} (h0 : 0 ≤ a) (h1 : a ≤ 510) (h2 : a % 2 = 0) : adB a = true := by
  unfold adB inB
  simp
  omega
/-- Has it a word there? -/
def Md.has (d : Md) (a : Int) : Bool := adB a && decide (a / 2 < (d.m.length : Int))
def Md.get (d : Md) (a : Int) : Int := if d.has a = true then nAt d.m (a / 2).toNat else 0
theorem has_t {d : Md} {a : Int} (h : d.has a = true) : adB a = true ∧ a / 2 < (d.m.length : Int) := by
  unfold Md.has at h
  simpa using h

set_option maxHeartbeats 1000000 in
theorem isAddr_any (a : Int) (w : World) : Calls Tryd.prog 22 #[.int .i64 a] w fun e w' => e = .returned (.bool (adB a)) ∧ w' = w := by
  by_cases h0 : 0 ≤ a
  · by_cases h1 : a < 512
    · cases h2 : (a % 2 == 0)
      · have F := hide (adB_f (a := a) (.inr (.inr (by simpa using h2))))
        go_enter Tryd.func22, Tryd.ntmps22
        go_wp2
        go_ret
        exact ⟨ret_bool (unhide F).symm, rfl⟩
      · have e2 : a % 2 = 0 := by simpa using h2
        have F := hide (adB_i h0 (by omega) e2)
        clear e2
        go_enter Tryd.func22, Tryd.ntmps22
        go_wp2
        go_ret
        exact ⟨ret_bool (unhide F).symm, rfl⟩
    · have F := hide (adB_f (a := a) (.inr (.inl (by omega))))
      go_enter Tryd.func22, Tryd.ntmps22
      go_wp2
      go_ret
      exact ⟨ret_bool (unhide F).symm, rfl⟩
  · have F := hide (adB_f (a := a) (.inl (by omega)))
    go_enter Tryd.func22, Tryd.ntmps22
    go_wp2
    go_ret
    exact ⟨ret_bool (unhide F).symm, rfl⟩

set_option maxHeartbeats 1000000 in
theorem has_any (x : Mv) (d : Md) (a : Int) (w : World) (hl : d.m.length = x.m.n) (hs : x.m.n ≤ 1048576) : Calls Tryd.prog 28 #[.agg x.cs, .int .i64 a] w fun e w' => e = .returned (.bool (d.has a)) ∧ Below w.heap.size w w' := by
  have HB := hide ((Below.refl w.heap.size w).alloc (Nat.le_refl _) (.cells x.cs 32))
  have c0 : x.cs[0]? = some (.slice x.m.a x.m.n x.m.c) := rfl
  have I := hide (fun w => isAddr_any a w)
  unfold Md.has
  rw [hl]
  have T := hide (adB_t (a := a))
  generalize adB a = q at I T ⊢
  cases q
  · go_enter Tryd.func28, Tryd.ntmps28
    go_wp2_with (go_at_call 22; refine (unhide I _).mono ?_; rintro e w' ⟨rfl, rfl⟩)
    go_ret
    exact ⟨rfl, unhide HB⟩
  · obtain ⟨t0, t1, _⟩ := unhide T (by trivial)
    go_enter Tryd.func28, Tryd.ntmps28
    go_wp2_with (go_at_call 22; refine (unhide I _).mono ?_; rintro e w' ⟨rfl, rfl⟩)
    go_ret
    exact ⟨rfl, unhide HB⟩

end Go.Proofs.YtboedaofbchdkaaDoor
