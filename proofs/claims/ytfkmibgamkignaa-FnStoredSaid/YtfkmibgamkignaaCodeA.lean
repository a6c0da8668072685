/- Contracts of chapter 4's model (the words of instructions), over a trial's translation; conditions stand as hypotheses of each. -/
import Derived.Test.YtfkmibgamkignaaDraw
import Derived.Deep.RegionWith
namespace Go.Proofs.Ytfkmibgamkignaa
open Go.ChangeShapes Go.WideShapes Go.ChangeAt Go.RowKit
set_option linter.unusedVariables false
set_option maxRecDepth 8000

def baseL : List Int := [0, 4096, 8192, 16384, 20480, 24576, 57344, 2560, 2688, 2752, 2816, 3008, 3200, 3264, 64, 2048, 128, 256, 512, 768, 1024, 1280, 0, 34816]
def baseAt (k : Nat) : Int := baseL.getD k 0
theorem base_bd : ∀ i : Fin 24, 0 ≤ baseAt i.val ∧ baseAt i.val ≤ 57344 := by decide +kernel
theorem base_lit (k : Nat) (hk : k < 24) : ((baseL.map (Value.int .i64)).toArray)[k]? = some (.int .i64 (baseAt k)) := by
  rw [List.getElem?_toArray, List.getElem?_map]
  have : k < baseL.length := hk
  rw [List.getElem?_eq_getElem this]
  unfold baseAt
  rw [List.getD_eq_getElem?_getD, List.getElem?_eq_getElem this]
  rfl

set_option maxHeartbeats 1000000 in
theorem base_any (k : Nat) (hk : k < 24) (w : World) : Calls Try.prog 96 #[.int .i64 k] w fun e w' => e = .returned (.int .i64 (baseAt k)) ∧ Below w.heap.size w w' := by
  have hl := hide (base_lit k hk)
  go_enter Try.func96, Try.ntmps96
  go_wp2
  go_ret
  have hl2 := unhide hl
  rw [List.getElem?_toArray] at hl2
  obtain ⟨_, hv⟩ := List.getElem?_eq_some_iff.1 hl2
  exact ⟨congrArg Ending.returned hv, (Below.refl _ _).alloc (Nat.le_refl _) _⟩

def Od.six (o : Od) : Int := o.m * 8 + o.r
set_option maxHeartbeats 1000000 in
theorem six_any (o : Od) (h : 0 ≤ o.m ∧ o.m ≤ 7 ∧ 0 ≤ o.r ∧ o.r ≤ 7) (w : World) : Calls Try.prog 97 #[o.v] w fun e w' => e = .returned (.int .i64 o.six) ∧ Below w.heap.size w w' := by
  obtain ⟨m, r, x⟩ := o
  unfold Od.v Od.six
  simp only at h ⊢
  go_enter Try.func97, Try.ntmps97
  go_wp2
  go_ret
  exact ⟨rfl, (Below.refl _ _).alloc (Nat.le_refl _) _⟩
end Go.Proofs.Ytfkmibgamkignaa
