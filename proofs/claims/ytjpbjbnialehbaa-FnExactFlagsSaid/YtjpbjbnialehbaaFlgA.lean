/- The flags together, by the model and by the program; over this seat's translation; conditions stand as hypotheses of each. -/
import Derived.Test.YtjpbjbnialehbaaLawA
import Derived.Test.YtjpbjbnialehbaaLawB
namespace Go.Proofs.Ytjpbjbnialehbaa
open Go.ChangeShapes Go.WideShapes Go.ChangeAt Go.RowKit
set_option linter.unusedVariables false
set_option maxRecDepth 8000
set_option linter.unusedSimpArgs false

theorem wpList_index_at {P : Program} {ops : Array Oper} {rest : List Oper} {o : Oper} {a : Act} {w : World} {Q : Exit → Act → World → Prop} (hgd : o.guard = none) (xt : TypeId) (x ix : Operand) (ho : o.op = .index xt x ix) (cs : Array Value) (i : Int) (v : Value)
    (hx : a.eval x = .agg cs) (hi : a.eval ix = .int .i64 i) (hr : ∀ w, (Instr.index xt (.agg cs) (.int .i64 i)).run P w = .ok v w) (h : wpList P ops Q rest (a.put o.dst v) w) : wpList P ops Q (o :: rest) a w :=
  wpList_plain hgd fun _ hK => by
    unfold Oper.wp execOp
    simp only [ho, hx, hi, hr, Sem.run_bind, Sem.run_pure, Result.andThen_ok]
    exact hK _ _ h
theorem ixb_0 (a b c d : Bool) (w : World) : (Instr.index 78 (.agg #[.bool a, .bool b, .bool c, .bool d]) (.int .i64 0)).run Try.prog w = .ok (.bool a) w := by kernel_rfl
theorem ixb_1 (a b c d : Bool) (w : World) : (Instr.index 78 (.agg #[.bool a, .bool b, .bool c, .bool d]) (.int .i64 1)).run Try.prog w = .ok (.bool b) w := by kernel_rfl
theorem ixb_2 (a b c d : Bool) (w : World) : (Instr.index 78 (.agg #[.bool a, .bool b, .bool c, .bool d]) (.int .i64 2)).run Try.prog w = .ok (.bool c) w := by kernel_rfl
theorem ixb_3 (a b c d : Bool) (w : World) : (Instr.index 78 (.agg #[.bool a, .bool b, .bool c, .bool d]) (.int .i64 3)).run Try.prog w = .ok (.bool d) w := by kernel_rfl
/-- The flags together. -/
def flQ (n z v c : Bool) : Int := (if n then 8 else 0) + (if z then 4 else 0) + (if v then 2 else 0) + (if c then 1 else 0)
set_option maxHeartbeats 2000000 in
theorem flagsS_any (x : Mv) (w : World) : Calls Try.prog 29 #[.agg x.cs] w fun e w' => e = .returned (.int .i64 (flQ x.n x.z x.v x.c)) ∧ Below w.heap.size w w' := by
  have HB := hide (below_new w (.cells x.cs 38))
  have R0 := heap_alloc_last w (.cells x.cs 38)
  have c2 := row_n R0
  have c3 := row_z R0
  have c4 := row_v R0
  have c5 := row_c R0
  generalize x.n = a at c2 ⊢
  generalize x.z = b at c3 ⊢
  generalize x.v = c at c4 ⊢
  generalize x.c = d at c5 ⊢
  clear R0
  cases a <;> cases b <;> cases c <;> cases d
  all_goals
    go_enter Try.func29, Try.ntmps29
    go_wp2
    go_ret
    exact ⟨rfl, unhide HB⟩
/-- The flags' sum behind so many rounds. -/
def flK (n z v c : Bool) : Nat → Int
  | 0 => 0
  | 1 => if n then 1 else 0
  | 2 => (if n then 2 else 0) + (if z then 1 else 0)
  | 3 => (if n then 4 else 0) + (if z then 2 else 0) + (if v then 1 else 0)
  | _ => flQ n z v c
set_option maxHeartbeats 2000000 in
theorem flagsI_any (x : Mv) (w : World) : Calls Try.prog 28 #[.agg x.cs] w fun e w' => e = .returned (.int .i64 (flQ x.n x.z x.v x.c)) ∧ Below w.heap.size w w' := by
  have HB := hide (below_new w (.cells x.cs 38))
  have R0 := heap_alloc_last w (.cells x.cs 38)
  have c2 := row_n R0
  have c3 := row_z R0
  have c4 := row_v R0
  have c5 := row_c R0
  generalize x.n = a at c2 ⊢
  generalize x.z = b at c3 ⊢
  generalize x.v = c at c4 ⊢
  generalize x.c = d at c5 ⊢
  clear R0
  go_enter Try.func28, Try.ntmps28
  go_wp2
  go_loop [3, 15] (fun n i => ∃ k : Nat, k ≤ 4 ∧ i = .int .i64 k ∧ n = .int .i64 (flK a b c d k)) (fun _ i => 4 - (intOf i).toNat)
  case atStart => exact ⟨0, by omega, rfl, rfl⟩
  case round =>
    obtain ⟨k, hk, rfl, rfl⟩ := hrel
    clear c2 c3 c4 c5
    match k, hk with
    | 0, _ =>
      cases a
      all_goals
        simp only [flK]
        go_wp2_with (refine wpList_index_at rfl 78 _ _ rfl _ 0 _ rfl rfl (ixb_0 _ _ _ _) ?_)
        go_round
        case rel => exact ⟨1, by omega, by go_num, by simp [flK]⟩
        case measure => simp [intOf]
    | 1, _ =>
      cases a <;> cases b
      all_goals
        simp only [flK]
        go_wp2_with (refine wpList_index_at rfl 78 _ _ rfl _ 1 _ rfl rfl (ixb_1 _ _ _ _) ?_)
        go_round
        case rel => exact ⟨2, by omega, by go_num, by simp [flK]⟩
        case measure => simp [intOf]
    | 2, _ =>
      cases a <;> cases b <;> cases c
      all_goals
        simp only [flK]
        go_wp2_with (refine wpList_index_at rfl 78 _ _ rfl _ 2 _ rfl rfl (ixb_2 _ _ _ _) ?_)
        go_round
        case rel => exact ⟨3, by omega, by go_num, by simp [flK]⟩
        case measure => simp [intOf]
    | 3, _ =>
      cases a <;> cases b <;> cases c <;> cases d
      all_goals
        simp only [flK]
        go_wp2_with (refine wpList_index_at rfl 78 _ _ rfl _ 3 _ rfl rfl (ixb_3 _ _ _ _) ?_)
        go_round
        case rel => exact ⟨4, by omega, by go_num, by simp [flK, flQ]⟩
        case measure => simp [intOf]
    | 4, _ =>
      simp only [flK]
      go_wp2
      go_ret
      exact ⟨rfl, unhide HB⟩
end Go.Proofs.Ytjpbjbnialehbaa
