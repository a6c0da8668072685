/- For every operand, whatever its numbers, the program's HasX answers as the model's: the law FnExactHasX returns true at every argument; no condition. -/
import Derived.Test.YtailpommaeedoaaRows
import Derived.Test.YtailpommaeedoaaInsA
import Derived.Test.YtailpommaeedoaaInsB
import Derived.Test.YtailpommaeedoaaImpA
import Derived.Test.YtailpommaeedoaaOpen
import Derived.WalkKit
import Derived.ProofKit
import Derived.OpenShut
import Derived.ShutString
import Derived.ChangeOld
import Derived.Below
namespace Go.Proofs.Ytailpommaeedoaa.fnExactHasX
open Go.ChangeShapes Go.WideShapes Go.ChangeAt Go.RowKit
open Go.ChangeMaps (open_string shut_string)
set_option linter.unusedVariables false

theorem own : ownKnob Try.prog.godebug = none := by kernel_rfl
theorem laidOut : laidOutB Try.prog = true := by kernel_rfl

set_option maxHeartbeats 1000000 in
theorem walk (o : Od) (b : Bd64 o.m ∧ Bd64 o.r ∧ Bd64 o.x) (w : World) : Calls Try.prog 3 #[o.v] w fun e w' => e = .returned (.bool true) ∧ Below w.heap.size w w' := by
  clear b
  have HT := hide (fun w => toOpd_any o w)
  have H1 := hide (fun w => hasX_any o w)
  have H2 := hide (fun w => hasXI_any o w)
  obtain ⟨m, r, x⟩ := o
  have HS := hide (box_below w (Obj.cells #[.int .i64 m, .int .i64 r, .int .i64 x] 23))
  have HZ := hide (show w.heap.size + 1 ≤ (w.alloc (Obj.cells #[.int .i64 m, .int .i64 r, .int .i64 x] 23)).heap.size by simp)
  have c0 : ∀ y : Sub (w.heap.size + 1) (w.alloc (Obj.cells #[.int .i64 m, .int .i64 r, .int .i64 x] 23)), y.w.cell? ⟨w.heap.size, 0, none⟩ = some (.int .i64 m) := fun y => y.cells 0 _ rfl
  have c1 : ∀ y : Sub (w.heap.size + 1) (w.alloc (Obj.cells #[.int .i64 m, .int .i64 r, .int .i64 x] 23)), y.w.cell? ⟨w.heap.size, 1, none⟩ = some (.int .i64 r) := fun y => y.cells 1 _ rfl
  have c2 : ∀ y : Sub (w.heap.size + 1) (w.alloc (Obj.cells #[.int .i64 m, .int .i64 r, .int .i64 x] 23)), y.w.cell? ⟨w.heap.size, 2, none⟩ = some (.int .i64 x) := fun y => y.cells 2 _ rfl
  generalize Od.hasX ⟨m, r, x⟩ = q at H1 H2
  unfold Od.v at *
  simp only at *
  go_enter Try.func3, Try.ntmps3
  go_wp2_with fail
  refine (Sub.call (x := Sub.top w (Obj.cells #[.int .i64 m, .int .i64 r, .int .i64 x] 23)) (unhide HZ) (unhide HT _)).mono ?_
  rintro e _ ⟨rfl, y1, rfl⟩
  go_wp2_with fail
  refine (Sub.call (unhide HZ) (unhide H1 _)).mono ?_
  rintro e _ ⟨rfl, y2, rfl⟩
  go_wp2_with fail
  refine (Sub.call (unhide HZ) (unhide HT _)).mono ?_
  rintro e _ ⟨rfl, y3, rfl⟩
  go_wp2_with fail
  refine (Sub.call (unhide HZ) (unhide H2 _)).mono ?_
  rintro e _ ⟨rfl, y4, rfl⟩
  go_wp2
  all_goals go_ret
  all_goals exact ⟨rfl, unhide HS _ y4.h⟩

set_option maxRecDepth 100000 in
theorem lifted (os : Os) (started : os.Started) (H : Type) (enc : TypeId × Value → H) :
    ReturnsInHanded {} Try.checked os 3 .any (Rows.fnExactHasXSpec.pre6 enc Try.prog Try.f3 Rows.fnExactHasXRow.domain false) (Rows.fnExactHasXSpec.post enc Try.prog Try.f3 false true false false) := by
  refine returnsInHanded_of_change (C := Try.checked) own started (by kernel_rfl) Try.func3
    (ChangeSpec.witness6 (enc := enc) (C := Try.checked) false ⟨#[], #[.agg #[.int .i64 0, .int .i64 0, .int .i64 0]], []⟩ 8 (by kernel_rfl) (by kernel_rfl) (by kernel_rfl) (by kernel_rfl)) ?_
  intro W base args ds gs before hval0 hW hcnd _
  have hval : ∀ (j : Nat) t v, Try.f3.params[j]? = some t → args[j]? = some v → Value.okWide Try.prog W .any base t v := hval0
  have hW' := hW
  obtain ⟨p, q, hA0, hV, rfl, hfz, hnd⟩ := hW
  have hA : DataW.TrodAll enc Try.prog W 0 (fun _ => true) true Try.f3.params.toList args.toList ds p := hA0
  rw [Try.params3] at hA hval
  obtain ⟨v0, vs0, d0, ds0, p0, q0, hargs, rfl, rfl, h0, r0⟩ := trodAll_cons hA
  obtain ⟨rfl, rfl, rfl⟩ := trodAll_nil r0
  obtain rfl : args = #[v0] := by cases args; simp_all
  obtain ⟨rfl, rfl⟩ := trodVars_none hV
  have k0 := h0
  have lt0 : ∀ x ∈ p0, x.block < W.heap.size := by obtain ⟨m, hm⟩ := k0; exact DataW.trod_lt m _ _ _ hm
  obtain ⟨o0, rfl, b0⟩ := open_od (hval 0 23 v0 rfl rfl) h0
  clear hA0 hval0
  refine (walk o0 b0 W).mono fun e W' ⟨he, bel⟩ => ?_
  subst he
  exact ⟨_, rfl, _, _, _, [], _, [], hW', trodAll_mk1 (shut_bool Try.underlying4 _), (trodAll_cons_mk (Below.trod laidOut (by kernel_rfl) (of_decide_eq_true (by kernel_rfl)) k0 bel lt0) trodAll_mk0), rfl, bel.frame _, fun h => by cases h⟩

theorem over : Rows.fnExactHasXRow.holds Try.pinned (OpenSpec.ofChange Rows.fnExactHasXSpec) :=
  OpenClaim.holds_of_wide 3 Try.f3 rfl rfl rfl rfl rfl rfl rfl ⟨rfl, rfl, rfl, rfl, rfl⟩ rfl rfl rfl rfl rfl (by kernel_rfl) Try.func3 (by kernel_rfl)
    (of_decide_eq_true (by kernel_rfl)) (by unfold Func.isWrapper; first | (rw [if_pos (by decide +kernel)]; kernel_rfl) | (rw [if_neg (by decide +kernel)]; exact ⟨rfl, rfl⟩))
    (fun os started H enc _ => lifted os started H enc)

theorem proved : Rows.FnExactHasXSaid := over
end Go.Proofs.Ytailpommaeedoaa.fnExactHasX

namespace Go.Proofs.Ytailpommaeedoaa
theorem fnExactHasX_holds : Rows.FnExactHasXSaid := fnExactHasX.proved
#print axioms fnExactHasX_holds
end Go.Proofs.Ytailpommaeedoaa
