/- Contracts over this seat's translation, laid together; conditions stand as hypotheses of each. -/
import Derived.Test.YtfkmibgamkignaaBndC
import Derived.Maps.AppendAt

namespace Go.Proofs.Ytfkmibgamkignaa
open Go.ChangeShapes Go.WideShapes Go.ChangeAt Go.RowKit
set_option linter.unusedVariables false
set_option maxRecDepth 8000
set_option linter.unusedSimpArgs false

/-- Can a machine be made of this? -/
def newB (im : List Int) (a st : Int) (ins : List Int) : Bool :=
  inB a 0 510 && ((a % 2 == 0) && (decide ((im.length : Int) ≤ 256 - a / 2) && (wdB im && (inB st 0 65535 && (decide ((ins.length : Int) ≤ 50) && wdB ins)))))
/-- Numbers laid over a list from a place on. -/
def over (ns : List Int) (k : Nat) (im : List Int) : List Int := ns.take k ++ (im ++ ns.drop (k + im.length))
def newR (st : Int) : List Int := [0, 0, 0, 0, 0, 0, 512, st]
/-- What a new machine holds. -/
def newD (im : List Int) (a st : Int) (ins : List Int) : Md := if newB im a st ins = true then ⟨over z256 (a / 2).toNat im, newR st, ins, []⟩ else ⟨[], [], [], []⟩
theorem ap_none (s t : Sl) (h : s.a = none) : Ap s t := fun g e _ => by unfold Sl.v at e; rw [h] at e; simp [Value.ownBlock] at e
theorem own_zero (w : World) (B : Nat) : OwnM w B zMv ⟨[], [], [], []⟩ :=
  ⟨ownN_none _ _, ownN_none _ _, ownN_none _ _, ownN_none _ _, ap_none _ _ rfl, ap_none _ _ rfl, ap_none _ _ rfl, ap_none _ _ rfl, ap_none _ _ rfl, ap_none _ _ rfl⟩
theorem inB_t (x a b : Int) (h : a ≤ x ∧ x ≤ b) : inB x a b = true := by simp [inB, h]
theorem inB_b {x a b : Int} (h : inB x a b = true) : a ≤ x ∧ x ≤ b := by unfold inB at h; simpa using h

set_option maxHeartbeats 4000000 in
theorem newS_no (im ins : Sl) (ni nn : List Int) (a st : Int) (w : World) (hi : RdN w im.a ni) (hn : RdN w ins.a nn) (li : ni.length = im.n) (ln : nn.length = ins.n) (si : im.n ≤ 1048576) (sn : ins.n ≤ 1048576) (hb : newB ni a st nn = false) :
    Calls Try.prog 19 #[.slice im.a im.n im.c, .int .i64 a, .int .i64 st, .slice ins.a ins.n ins.c] w fun e w' => e = .returned (.agg zMv.cs) ∧ Below w.heap.size w w' := by
  have HB := hide (below_new w (.cells #[Value.slice none 0 0, Value.slice none 0 0, Value.bool false, Value.bool false, Value.bool false, Value.bool false, Value.slice none 0 0, Value.slice none 0 0, Value.int .i64 0] 28))
  have HB2 := hide (below_new w (.cells zMv.cs 28))
  have W0 := hide (wordsS_any im.a im.n im.c ni _ li (by omega) (hi.later (unhide HB)))
  have W1 := hide (wordsS_any ins.a ins.n ins.c nn _ ln (by omega) (hn.later (unhide HB)))
  have I0 := hide (fun w => in_any a 0 510 w)
  have I1 := hide (fun w => in_any st 0 65535 w)
  unfold newB at hb
  rw [li, ln] at hb
  clear hi hn
  have IB := hide (inB_b (x := a) (a := 0) (b := 510))
  generalize wdB ni = b2 at W0 hb
  generalize wdB nn = b4 at W1 hb
  generalize inB a 0 510 = b0 at I0 hb IB
  generalize inB st 0 65535 = b3 at I1 hb
  cases b0
  · clear hb
    go_enter Try.func19, Try.ntmps19
    go_wp2_with (first | (go_at_call_of 59 (Value.int IntKind.i64 a); refine (unhide I0 _).mono ?_; rintro e w' ⟨rfl, rfl⟩) | (go_at_call_of 59 (Value.int IntKind.i64 st); refine (unhide I1 _).mono ?_; rintro e w' ⟨rfl, rfl⟩) | (go_at_call_of 60 (Value.slice im.a im.n im.c); refine (unhide W0).mono ?_; rintro e w' ⟨rfl, rfl⟩) | (go_at_call_of 60 (Value.slice ins.a ins.n ins.c); refine (unhide W1).mono ?_; rintro e w' ⟨rfl, rfl⟩) | (refine wpList_store_new rfl 28 _ _ rfl zMv.cs rfl rfl _ (by kernel_rfl) rfl (Mv.cs_one _) ?_))
    refine bodyPost_ret (results_cell_row (P := Try.prog) rfl _ _ w.heap.size 28 zMv.cs (0, 0) _ rfl (heap_alloc_last w _) Try.underlying28 rfl (by kernel_rfl)) rfl ?_
    exact ⟨rfl, unhide HB2⟩
  obtain ⟨a0, a1⟩ := unhide IB (by trivial)
  clear IB
  by_cases h1 : a % 2 = 0
  rotate_left
  · have g1 : 0 < a % 2 := by omega
    clear hb h1
    go_enter Try.func19, Try.ntmps19
    go_wp2_with (first | (go_at_call_of 59 (Value.int IntKind.i64 a); refine (unhide I0 _).mono ?_; rintro e w' ⟨rfl, rfl⟩) | (go_at_call_of 59 (Value.int IntKind.i64 st); refine (unhide I1 _).mono ?_; rintro e w' ⟨rfl, rfl⟩) | (go_at_call_of 60 (Value.slice im.a im.n im.c); refine (unhide W0).mono ?_; rintro e w' ⟨rfl, rfl⟩) | (go_at_call_of 60 (Value.slice ins.a ins.n ins.c); refine (unhide W1).mono ?_; rintro e w' ⟨rfl, rfl⟩) | (refine wpList_store_new rfl 28 _ _ rfl zMv.cs rfl rfl _ (by kernel_rfl) rfl (Mv.cs_one _) ?_))
    refine bodyPost_ret (results_cell_row (P := Try.prog) rfl _ _ w.heap.size 28 zMv.cs (0, 0) _ rfl (heap_alloc_last w _) Try.underlying28 rfl (by kernel_rfl)) rfl ?_
    exact ⟨rfl, unhide HB2⟩
  have e1 : (a % 2 == 0) = true := by simpa using h1
  have g1 : a % 2 ≤ 0 := by omega
  rw [e1] at hb
  clear e1
  have g0 : 0 ≤ a % 2 := by omega
  clear h1
  by_cases h2 : (im.n : Int) ≤ 256 - a / 2
  rotate_left
  · clear hb
    go_enter Try.func19, Try.ntmps19
    go_wp2_with (first | (go_at_call_of 59 (Value.int IntKind.i64 a); refine (unhide I0 _).mono ?_; rintro e w' ⟨rfl, rfl⟩) | (go_at_call_of 59 (Value.int IntKind.i64 st); refine (unhide I1 _).mono ?_; rintro e w' ⟨rfl, rfl⟩) | (go_at_call_of 60 (Value.slice im.a im.n im.c); refine (unhide W0).mono ?_; rintro e w' ⟨rfl, rfl⟩) | (go_at_call_of 60 (Value.slice ins.a ins.n ins.c); refine (unhide W1).mono ?_; rintro e w' ⟨rfl, rfl⟩) | (refine wpList_store_new rfl 28 _ _ rfl zMv.cs rfl rfl _ (by kernel_rfl) rfl (Mv.cs_one _) ?_))
    refine bodyPost_ret (results_cell_row (P := Try.prog) rfl _ _ w.heap.size 28 zMv.cs (0, 0) _ rfl (heap_alloc_last w _) Try.underlying28 rfl (by kernel_rfl)) rfl ?_
    exact ⟨rfl, unhide HB2⟩
  rw [decide_eq_true h2] at hb
  cases b2
  · clear hb
    go_enter Try.func19, Try.ntmps19
    go_wp2_with (first | (go_at_call_of 59 (Value.int IntKind.i64 a); refine (unhide I0 _).mono ?_; rintro e w' ⟨rfl, rfl⟩) | (go_at_call_of 59 (Value.int IntKind.i64 st); refine (unhide I1 _).mono ?_; rintro e w' ⟨rfl, rfl⟩) | (go_at_call_of 60 (Value.slice im.a im.n im.c); refine (unhide W0).mono ?_; rintro e w' ⟨rfl, rfl⟩) | (go_at_call_of 60 (Value.slice ins.a ins.n ins.c); refine (unhide W1).mono ?_; rintro e w' ⟨rfl, rfl⟩) | (refine wpList_store_new rfl 28 _ _ rfl zMv.cs rfl rfl _ (by kernel_rfl) rfl (Mv.cs_one _) ?_))
    refine bodyPost_ret (results_cell_row (P := Try.prog) rfl _ _ w.heap.size 28 zMv.cs (0, 0) _ rfl (heap_alloc_last w _) Try.underlying28 rfl (by kernel_rfl)) rfl ?_
    exact ⟨rfl, unhide HB2⟩
  cases b3
  · clear hb
    go_enter Try.func19, Try.ntmps19
    go_wp2_with (first | (go_at_call_of 59 (Value.int IntKind.i64 a); refine (unhide I0 _).mono ?_; rintro e w' ⟨rfl, rfl⟩) | (go_at_call_of 59 (Value.int IntKind.i64 st); refine (unhide I1 _).mono ?_; rintro e w' ⟨rfl, rfl⟩) | (go_at_call_of 60 (Value.slice im.a im.n im.c); refine (unhide W0).mono ?_; rintro e w' ⟨rfl, rfl⟩) | (go_at_call_of 60 (Value.slice ins.a ins.n ins.c); refine (unhide W1).mono ?_; rintro e w' ⟨rfl, rfl⟩) | (refine wpList_store_new rfl 28 _ _ rfl zMv.cs rfl rfl _ (by kernel_rfl) rfl (Mv.cs_one _) ?_))
    refine bodyPost_ret (results_cell_row (P := Try.prog) rfl _ _ w.heap.size 28 zMv.cs (0, 0) _ rfl (heap_alloc_last w _) Try.underlying28 rfl (by kernel_rfl)) rfl ?_
    exact ⟨rfl, unhide HB2⟩
  by_cases h4 : (ins.n : Int) ≤ 50
  rotate_left
  · clear hb
    go_enter Try.func19, Try.ntmps19
    go_wp2_with (first | (go_at_call_of 59 (Value.int IntKind.i64 a); refine (unhide I0 _).mono ?_; rintro e w' ⟨rfl, rfl⟩) | (go_at_call_of 59 (Value.int IntKind.i64 st); refine (unhide I1 _).mono ?_; rintro e w' ⟨rfl, rfl⟩) | (go_at_call_of 60 (Value.slice im.a im.n im.c); refine (unhide W0).mono ?_; rintro e w' ⟨rfl, rfl⟩) | (go_at_call_of 60 (Value.slice ins.a ins.n ins.c); refine (unhide W1).mono ?_; rintro e w' ⟨rfl, rfl⟩) | (refine wpList_store_new rfl 28 _ _ rfl zMv.cs rfl rfl _ (by kernel_rfl) rfl (Mv.cs_one _) ?_))
    refine bodyPost_ret (results_cell_row (P := Try.prog) rfl _ _ w.heap.size 28 zMv.cs (0, 0) _ rfl (heap_alloc_last w _) Try.underlying28 rfl (by kernel_rfl)) rfl ?_
    exact ⟨rfl, unhide HB2⟩
  rw [decide_eq_true h4] at hb
  cases b4
  · clear hb
    go_enter Try.func19, Try.ntmps19
    go_wp2_with (first | (go_at_call_of 59 (Value.int IntKind.i64 a); refine (unhide I0 _).mono ?_; rintro e w' ⟨rfl, rfl⟩) | (go_at_call_of 59 (Value.int IntKind.i64 st); refine (unhide I1 _).mono ?_; rintro e w' ⟨rfl, rfl⟩) | (go_at_call_of 60 (Value.slice im.a im.n im.c); refine (unhide W0).mono ?_; rintro e w' ⟨rfl, rfl⟩) | (go_at_call_of 60 (Value.slice ins.a ins.n ins.c); refine (unhide W1).mono ?_; rintro e w' ⟨rfl, rfl⟩) | (refine wpList_store_new rfl 28 _ _ rfl zMv.cs rfl rfl _ (by kernel_rfl) rfl (Mv.cs_one _) ?_))
    refine bodyPost_ret (results_cell_row (P := Try.prog) rfl _ _ w.heap.size 28 zMv.cs (0, 0) _ rfl (heap_alloc_last w _) Try.underlying28 rfl (by kernel_rfl)) rfl ?_
    exact ⟨rfl, unhide HB2⟩
  simp at hb
end Go.Proofs.Ytfkmibgamkignaa

namespace Go.Proofs.Ytfkmibgamkignaa
open Go.ChangeShapes Go.WideShapes Go.ChangeAt Go.RowKit
set_option linter.unusedVariables false
set_option maxRecDepth 8000
set_option linter.unusedSimpArgs false

/-- The cells of so many noughts. -/
def zA (n : Nat) : Array Value := (cellsN (List.replicate n 0)).toArray
theorem zA_size (n : Nat) : (zA n).size = n := by simp [zA, cellsN]
theorem made256 : madeCells #[Value.int .i64 0] 256 = zA 256 := by kernel_rfl
theorem made8 : madeCells #[Value.int .i64 0] 8 = zA 8 := by kernel_rfl
section
variable {o : Oper} {a : Act} {w : World} {K : Act → World → Prop} {Q : Exit → Act → World → Prop}
theorem wp_make (n : Nat) (hn : madeCells #[Value.int .i64 0] n = zA n) (hb : n ≤ 1048576) (ho : o.op = .makeSlice 24 (.const (.int .i64 (n : Int))) (.const (.int .i64 (n : Int))))
    (h : K (a.put o.dst (.slice (some ⟨w.heap.size, 0, none⟩) n n)) (w.alloc (.cells (zA n) 3))) : o.wp Try.prog a w K Q := by
  have hr := run_make_row' (P := Try.prog) 24 3 (.int .i64 0) 8 Try.underlying24 info3 rfl .i64 .i64 n (by omega) (by omega) w
  rw [hn] at hr
  unfold Oper.wp execOp
  simp only [ho, Act.eval, hr, Sem.run_bind, Sem.run_pure, Result.andThen_ok]
  exact h
/-- 'append(v, s...)' as one operation: where the answer lies, too. -/
theorem wp_app (p q : Operand) (ho : o.op = .call { callee := .builtin .append, args := #[p, q], argTypes := #[24, 24] })
    (B : Nat) (v : Value) (xs : List Int) (hs : a.eval p = v) (hown : OwnN w B v xs) (s : Sl) (ns : List Int) (hx : a.eval q = .slice s.a s.n s.c) (hr : RdN w s.a ns) (hl : ns.length = s.n) (hz : s.nz) (hm : xs.length + s.n ≤ 4194304) (hB : B ≤ w.heap.size)
    (h : ∀ v' w', OwnN w' B v' (xs ++ ns) → w.grownBy w' v.ownBlock → (v'.ownBlock = v.ownBlock ∨ v'.ownBlock = some w.heap.size) → K (a.put o.dst v') w') : o.wp Try.prog a w K Q := by
  obtain ⟨i0, hi, hz0, hz1, hz2⟩ := info_parts info3
  obtain ⟨sa, sn, sc⟩ := s
  simp only at hx hr hl hm
  cases sa with
  | none =>
    have h0 : ns = [] := by
      rcases hr with h0 | ⟨_, _, e, _⟩
      · exact h0
      · cases e
    subst h0
    have hn : sn = 0 := by simp at hl; omega
    have hc : sc = 0 := hz rfl
    subst hn hc
    have hrun := run_append_owned_none (P := Try.prog) (w := w) B 24 o.type 3 i0 1 Try.underlying24 hi v xs.length (cellsN xs) hown
    have hk := h v w (by rw [List.append_nil]; exact hown) (World.grownBy.refl _ _) (.inl rfl)
    unfold Oper.wp
    simp [execOp, ho, resolve, invoke, builtin, hs, hx, hrun, Result.andThen]
    exact hk
  | some ad =>
    obtain ⟨v', w', hr', h2, h3, _, h5⟩ := run_append_own_at (P := Try.prog) w B 24 o.type 3 i0 (.int .i64 0) 1 8 Try.underlying24 hi hz0 hz1 hz2 rfl (by decide) v xs.length (cellsN xs) hown ad sn sc (cellsN ns) (by rw [cellsN_length]; omega) (rdN_cells hr) (cellsN_one _) (by unfold maxLen; omega) (by omega) hB
    unfold Oper.wp execOp
    simp only [ho, resolve, invoke, builtin, Sem.run_bind, Sem.run_pure, Result.andThen_ok, List.map_toArray, List.map_cons, List.map_nil, hs, hx, hr']
    refine h v' w' ?_ h3 h5
    unfold OwnN
    rw [cellsN_append, List.length_append, hl]
    exact h2
theorem wp_empty (ho : o.op = .buildSlice 24 0 #[]) (h : K (a.put o.dst (.slice (some ⟨w.heap.size, 0, none⟩) 0 0)) (w.alloc (.cells #[] 3))) : o.wp Try.prog a w K Q := by
  obtain ⟨i0, hi, hz0, hz1, hz2⟩ := info_parts info3
  unfold Oper.wp execOp
  simp only [ho]
  go_simp
  exact h
theorem zero28 : (Try.prog.info? 28).map (fun i => (i.zero, i.size)) = some (some (.agg zMv.cs), 9) := by kernel_rfl
theorem wp_alloc28 (ho : o.op = .alloc 28) (h : K (a.put o.dst (.pointer (some ⟨w.heap.size, 0, none⟩))) (w.alloc (.cells zMv.cs 28))) : o.wp Try.prog a w K Q := by
  have hz := (zero_of_info zero28).1
  unfold Oper.wp execOp
  simp only [ho, Instr.alloc, hz, Sem.run_bind, Sem.run_pure, Result.andThen_ok]
  simp [go_sem]
  exact h
theorem wp_move (x : Operand) (ho : o.op = .move x) (h : K (a.put o.dst (a.eval x)) w) : o.wp Try.prog a w K Q := by
  unfold Oper.wp execOp
  simp only [ho, Sem.run_bind, Sem.run_pure, Result.andThen_ok]
  exact h
end
theorem own_made {w : World} {g n B : Nat} (h : w.heap[g]? = some (.cells (zA n) 3 (0, 0))) (hB : B ≤ g) (hn : n ≤ 1048576) : OwnN w B (.slice (some ⟨g, 0, none⟩) n n) (List.replicate n 0) := by
  unfold OwnN
  rw [List.length_replicate]
  refine ⟨by rw [cellsN_length, List.length_replicate]; omega, .inr ⟨g, n, zA n, rfl, hB, h, Nat.le_refl _, by unfold maxLen; omega, by rw [zA_size]; omega, ?_⟩⟩
  unfold zA
  rw [List.toList_toArray, List.take_of_length_le (by rw [cellsN_length, List.length_replicate]; omega)]
theorem own_bare {w : World} {g B : Nat} (h : w.heap[g]? = some (.cells #[] 3 (0, 0))) (hB : B ≤ g) : OwnN w B (.slice (some ⟨g, 0, none⟩) 0 0) [] :=
  ⟨rfl, .inr ⟨g, 0, #[], rfl, hB, h, Nat.le_refl _, Nat.zero_le _, rfl, rfl⟩⟩
/-- Rows that differ lie in blocks that differ. -/
theorem ne_of_rows {w : World} {g g' : Nat} {o o' : Obj} (h : w.heap[g]? = some o) (h' : w.heap[g']? = some o') (hne : o ≠ o') : g ≠ g' := fun e => by
  subst e
  rw [h] at h'
  exact hne (Option.some.inj h')
theorem ne_size {c c' : Array Value} {t t' : TypeId} {f f' : Nat × Nat} (h : c.size ≠ c'.size) : Obj.cells c t f ≠ Obj.cells c' t' f' := fun e => by
  injection e with e1
  exact h (by rw [e1])
end Go.Proofs.Ytfkmibgamkignaa

namespace Go.Proofs.Ytfkmibgamkignaa
open Go.ChangeShapes Go.WideShapes Go.ChangeAt Go.RowKit
set_option linter.unusedVariables false
set_option maxRecDepth 8000
set_option linter.unusedSimpArgs false

theorem newB_parts {im : List Int} {a st : Int} {ins : List Int} (h : newB im a st ins = true) : inB a 0 510 = true ∧ a % 2 = 0 ∧ (im.length : Int) ≤ 256 - a / 2 ∧ wdB im = true ∧ inB st 0 65535 = true ∧ (ins.length : Int) ≤ 50 ∧ wdB ins = true := by
  unfold newB at h
  simpa using h

/-- What holds of the region in which a machine's parts are made, whatever part of it has come up. -/
structure Ir (w : World) (ins : Sl) (nn : List Int) (w' : World) (b0 b1 b2 b3 b4 b5 b6 b7 : Bool) (v9 v48 v49 v50 v51 v52 v53 : Value) : Prop where
  bel : Below (w.heap.size + 1) (w.alloc (.cells zMv.cs 28)) w'
  h0 : b0 = true → ∃ g, v48 = .slice (some ⟨g, 0, none⟩) 256 256 ∧ w.heap.size < g ∧ w'.heap[g]? = some (.cells (zA 256) 3 (0, 0))
  h1 : b1 = true → ∃ g, v49 = .slice (some ⟨g, 0, none⟩) 8 8 ∧ w.heap.size < g ∧ w'.heap[g]? = some (.cells (zA 8) 3 (0, 0))
  h2 : b2 = true → b4 = false → ∃ g, v50 = .slice (some ⟨g, 0, none⟩) 0 0 ∧ w.heap.size < g ∧ w'.heap[g]? = some (.cells #[] 3 (0, 0))
  h3 : b3 = true → v51 = .slice ins.a ins.n ins.c
  h4 : b4 = true → ∃ s : Sl, v52 = s.v ∧ OwnN w' (w.heap.size + 1) s.v nn
  x4 : b4 = true → ∀ g, v52.ownBlock = some g → (b0 = true → v48.ownBlock ≠ some g) ∧ (b1 = true → v49.ownBlock ≠ some g) ∧ (b6 = true → v9 ≠ .pointer (some ⟨g, 0, none⟩))
  h5 : b5 = true → v53 = .agg #[v48, v49, .bool false, .bool false, .bool false, .bool false, v52, .slice none 0 0, .int .i64 0]
  h6 : b6 = true → b7 = false → ∃ g, v9 = .pointer (some ⟨g, 0, none⟩) ∧ w.heap.size < g ∧ w'.heap[g]? = some (.cells zMv.cs 28 (0, 0))
  h7 : b7 = true → ∃ g, v9 = .pointer (some ⟨g, 0, none⟩) ∧ w.heap.size < g ∧ w'.heap[g]? = some (.cells #[v48, v49, .bool false, .bool false, .bool false, .bool false, v52, .slice none 0 0, .int .i64 0] 28 (0, 0))
section
variable {w w' : World} {ins : Sl} {nn : List Int} {b0 b1 b2 b3 b4 b5 b6 b7 : Bool} {v9 v48 v49 v50 v51 v52 v53 : Value}
theorem Ir.low (J : Ir w ins nn w' b0 b1 b2 b3 b4 b5 b6 b7 v9 v48 v49 v50 v51 v52 v53) : Below w.heap.size w w' := (below_new w (.cells zMv.cs 28)).trans (J.bel.mono (by omega))
theorem Ir.size (J : Ir w ins nn w' b0 b1 b2 b3 b4 b5 b6 b7 v9 v48 v49 v50 v51 v52 v53) : w.heap.size + 1 ≤ w'.heap.size := by have := J.bel.size; have := alloc_size w (.cells zMv.cs 28); omega
theorem row_al {w : World} {g : Nat} {o o' : Obj} (h : w.heap[g]? = some o) : (w.alloc o').heap[g]? = some o := row_lat h (below_new w o')
theorem ex_al {w : World} {p : Nat → Prop} {o o' : Obj} (h : ∃ g, p g ∧ w.heap[g]? = some o) : ∃ g, p g ∧ (w.alloc o').heap[g]? = some o := by
  obtain ⟨g, h1, h2⟩ := h
  exact ⟨g, h1, row_al h2⟩
theorem Ir.op0 (J : Ir w ins nn w' b0 b1 b2 b3 b4 false b6 false v9 v48 v49 v50 v51 v52 v53) : Ir w ins nn (w'.alloc (.cells (zA 256) 3)) true b1 b2 b3 b4 false b6 false v9 (.slice (some ⟨w'.heap.size, 0, none⟩) 256 256) v49 v50 v51 v52 v53 := by
  have sz := J.size
  refine ⟨J.bel.alloc sz _, fun _ => ⟨_, rfl, by omega, heap_alloc_last w' _⟩, fun h => ?_, fun h k => ?_, J.h3, fun h => ?_, fun h g e => ⟨fun _ => ?_, fun k => ((J.x4 h g e).2.1 k), fun k => ((J.x4 h g e).2.2 k)⟩, fun h => by (cases h), fun h k => ?_, fun h => by cases h⟩
  · obtain ⟨g, e, l, r⟩ := J.h1 h; exact ⟨g, e, l, row_al r⟩
  · obtain ⟨g, e, l, r⟩ := J.h2 h k; exact ⟨g, e, l, row_al r⟩
  · obtain ⟨s, e, l⟩ := J.h4 h; exact ⟨s, e, l.later (below_new _ _)⟩
  · obtain ⟨s, e', l⟩ := J.h4 h
    rw [e'] at e
    have := (l.lt e).2
    simp [Value.ownBlock]
    omega
  · obtain ⟨g, e, l, r⟩ := J.h6 h k; exact ⟨g, e, l, row_al r⟩
theorem Ir.op1 (J : Ir w ins nn w' b0 b1 b2 b3 b4 false b6 false v9 v48 v49 v50 v51 v52 v53) : Ir w ins nn (w'.alloc (.cells (zA 8) 3)) b0 true b2 b3 b4 false b6 false v9 v48 (.slice (some ⟨w'.heap.size, 0, none⟩) 8 8) v50 v51 v52 v53 := by
  have sz := J.size
  refine ⟨J.bel.alloc sz _, fun h => ?_, fun _ => ⟨_, rfl, by omega, heap_alloc_last w' _⟩, fun h k => ?_, J.h3, fun h => ?_, fun h g e => ⟨fun k => ((J.x4 h g e).1 k), fun _ => ?_, fun k => ((J.x4 h g e).2.2 k)⟩, fun h => by (cases h), fun h k => ?_, fun h => by cases h⟩
  · obtain ⟨g, e, l, r⟩ := J.h0 h; exact ⟨g, e, l, row_al r⟩
  · obtain ⟨g, e, l, r⟩ := J.h2 h k; exact ⟨g, e, l, row_al r⟩
  · obtain ⟨s, e, l⟩ := J.h4 h; exact ⟨s, e, l.later (below_new _ _)⟩
  · obtain ⟨s, e', l⟩ := J.h4 h
    rw [e'] at e
    have := (l.lt e).2
    simp [Value.ownBlock]
    omega
  · obtain ⟨g, e, l, r⟩ := J.h6 h k; exact ⟨g, e, l, row_al r⟩
theorem Ir.op2 (J : Ir w ins nn w' b0 b1 b2 b3 false false b6 false v9 v48 v49 v50 v51 v52 v53) : Ir w ins nn (w'.alloc (.cells #[] 3)) b0 b1 true b3 false false b6 false v9 v48 v49 (.slice (some ⟨w'.heap.size, 0, none⟩) 0 0) v51 v52 v53 := by
  have sz := J.size
  refine ⟨J.bel.alloc sz _, fun h => ?_, fun h => ?_, fun _ _ => ⟨_, rfl, by omega, heap_alloc_last w' _⟩, J.h3, fun h => by (cases h), fun h => by (cases h), fun h => by (cases h), fun h k => ?_, fun h => by cases h⟩
  · obtain ⟨g, e, l, r⟩ := J.h0 h; exact ⟨g, e, l, row_al r⟩
  · obtain ⟨g, e, l, r⟩ := J.h1 h; exact ⟨g, e, l, row_al r⟩
  · obtain ⟨g, e, l, r⟩ := J.h6 h k; exact ⟨g, e, l, row_al r⟩
theorem Ir.op3 (J : Ir w ins nn w' b0 b1 b2 b3 false b5 b6 b7 v9 v48 v49 v50 v51 v52 v53) : Ir w ins nn w' b0 b1 b2 true false b5 b6 b7 v9 v48 v49 v50 (.slice ins.a ins.n ins.c) v52 v53 :=
  { J with h3 := fun _ => rfl }
theorem Ir.op4 (J : Ir w ins nn w' b0 b1 true true false false b6 false v9 v48 v49 v50 v51 v52 v53) {g50 : Nat} (e50 : v50 = .slice (some ⟨g50, 0, none⟩) 0 0) (l50 : w.heap.size < g50) (r50 : w'.heap[g50]? = some (.cells #[] 3 (0, 0))) {s : Sl} {w2 : World}
    (ho : OwnN w2 (w.heap.size + 1) s.v nn) (hg : w'.grownBy w2 (some g50)) (hb : s.v.ownBlock = some g50 ∨ s.v.ownBlock = some w'.heap.size) : Ir w ins nn w2 b0 b1 true true true false b6 false v9 v48 v49 v50 v51 s.v v53 := by
  have keep : ∀ {g : Nat} {o : Obj}, w'.heap[g]? = some o → g ≠ g50 → w2.heap[g]? = some o := fun h hne => (hg.block _ (row_lt h) (by simpa using hne)).trans h
  have n0 : ∀ {g : Nat}, w'.heap[g]? = some (.cells (zA 256) 3 (0, 0)) → g ≠ g50 := fun h => ne_of_rows h r50 (ne_size (by rw [zA_size]; simp))
  have n1 : ∀ {g : Nat}, w'.heap[g]? = some (.cells (zA 8) 3 (0, 0)) → g ≠ g50 := fun h => ne_of_rows h r50 (ne_size (by rw [zA_size]; simp))
  have n6 : ∀ {g : Nat}, w'.heap[g]? = some (.cells zMv.cs 28 (0, 0)) → g ≠ g50 := fun h => ne_of_rows h r50 (ne_size (by rw [Mv.cs_size]; simp))
  have off : ∀ {g b : Nat} {o : Obj}, w'.heap[g]? = some o → g ≠ g50 → s.v.ownBlock = some b → g ≠ b := fun h hne e => by
    have := row_lt h
    rcases hb with hb | hb
    · rw [hb] at e; simp at e; omega
    · rw [hb] at e; simp at e; omega
  refine ⟨J.bel.grown hg J.size (fun k e => by cases e; omega), fun h => ?_, fun h => ?_, fun _ k => by (cases k), J.h3, fun _ => ⟨s, rfl, ho⟩, fun _ b e => ⟨fun h => ?_, fun h => ?_, fun h => ?_⟩, fun h => by (cases h), fun h k => ?_, fun h => by cases h⟩
  · obtain ⟨g, e, l, r⟩ := J.h0 h; exact ⟨g, e, l, keep r (n0 r)⟩
  · obtain ⟨g, e, l, r⟩ := J.h1 h; exact ⟨g, e, l, keep r (n1 r)⟩
  · obtain ⟨g, e', l, r⟩ := J.h0 h; rw [e']; simpa [Value.ownBlock] using off r (n0 r) e
  · obtain ⟨g, e', l, r⟩ := J.h1 h; rw [e']; simpa [Value.ownBlock] using off r (n1 r) e
  · obtain ⟨g, e', l, r⟩ := J.h6 h rfl; rw [e']; simpa using off r (n6 r) e
  · obtain ⟨g, e, l, r⟩ := J.h6 h k; exact ⟨g, e, l, keep r (n6 r)⟩
theorem Ir.op5 (J : Ir w ins nn w' b0 b1 b2 b3 b4 b5 b6 b7 v9 v48 v49 v50 v51 v52 v53) : Ir w ins nn w' b0 b1 b2 b3 b4 true b6 b7 v9 v48 v49 v50 v51 v52 (.agg #[v48, v49, .bool false, .bool false, .bool false, .bool false, v52, .slice none 0 0, .int .i64 0]) :=
  { J with h5 := fun _ => rfl }
theorem Ir.op6 (J : Ir w ins nn w' b0 b1 b2 b3 b4 b5 b6 false v9 v48 v49 v50 v51 v52 v53) : Ir w ins nn (w'.alloc (.cells zMv.cs 28)) b0 b1 b2 b3 b4 b5 true false (.pointer (some ⟨w'.heap.size, 0, none⟩)) v48 v49 v50 v51 v52 v53 := by
  have sz := J.size
  refine ⟨J.bel.alloc sz _, fun h => ?_, fun h => ?_, fun h k => ?_, J.h3, fun h => ?_, fun h g e => ⟨(J.x4 h g e).1, (J.x4 h g e).2.1, fun _ => ?_⟩, J.h5, fun _ _ => ⟨_, rfl, by omega, heap_alloc_last w' _⟩, fun h => by cases h⟩
  · obtain ⟨g, e, l, r⟩ := J.h0 h; exact ⟨g, e, l, row_al r⟩
  · obtain ⟨g, e, l, r⟩ := J.h1 h; exact ⟨g, e, l, row_al r⟩
  · obtain ⟨g, e, l, r⟩ := J.h2 h k; exact ⟨g, e, l, row_al r⟩
  · obtain ⟨s, e, l⟩ := J.h4 h; exact ⟨s, e, l.later (below_new _ _)⟩
  · obtain ⟨s, e', l⟩ := J.h4 h
    rw [e'] at e
    have := (l.lt e).2
    intro e2
    cases e2
    omega
/-- What stands at the end of it: a machine with its lists. -/
structure Ie (w w' : World) (nn : List Int) (v9 : Value) (g9 : Nat) (y : Mv) : Prop where
  bel : Below (w.heap.size + 1) (w.alloc (.cells zMv.cs 28)) w'
  p9 : v9 = .pointer (some ⟨g9, 0, none⟩)
  l9 : w.heap.size < g9
  r9 : w'.heap[g9]? = some (.cells y.cs 28 (0, 0))
  own : OwnM w' (w.heap.size + 1) y ⟨List.replicate 256 0, List.replicate 8 0, nn, []⟩
  fl : y.fl = zMv.fl
  ne : ∀ b, y.at b → b ≠ g9
  ym : ∃ gm, y.m = ⟨some ⟨gm, 0, none⟩, 256, 256⟩
  yr : ∃ gr, y.r = ⟨some ⟨gr, 0, none⟩, 8, 8⟩
theorem Ir.op7 (J : Ir w ins nn w' true true true true true true true false v9 v48 v49 v50 v51 v52 v53) : ∃ (g9 : Nat) (y : Mv), v9 = .pointer (some ⟨g9, 0, none⟩) ∧ v53 = .agg y.cs ∧ w'.heap[g9]? = some (.cells zMv.cs 28 (0, 0)) ∧ Ie w (w'.setRow g9 y.cs) nn v9 g9 y := by
  obtain ⟨g48, e48, l48, r48⟩ := J.h0 rfl
  obtain ⟨g49, e49, l49, r49⟩ := J.h1 rfl
  obtain ⟨s, e52, o52⟩ := J.h4 rfl
  obtain ⟨g9, e9, l9, r9⟩ := J.h6 rfl rfl
  have h53 := J.h5 rfl
  have x4 := J.x4 rfl
  subst e48 e49 e52 e9
  have n1 : g48 ≠ g49 := ne_of_rows r48 r49 (ne_size (by rw [zA_size, zA_size]; omega))
  have n2 : g48 ≠ g9 := ne_of_rows r48 r9 (ne_size (by rw [zA_size, Mv.cs_size]; omega))
  have n3 : g49 ≠ g9 := ne_of_rows r49 r9 (ne_size (by rw [zA_size, Mv.cs_size]; omega))
  have n4 : ∀ g, s.v.ownBlock = some g → g ≠ g48 ∧ g ≠ g49 ∧ g ≠ g9 := fun g e => by
    have := x4 g e
    simp [Value.ownBlock] at this
    omega
  refine ⟨g9, ⟨⟨some ⟨g48, 0, none⟩, 256, 256⟩, ⟨some ⟨g49, 0, none⟩, 8, 8⟩, false, false, false, false, s, ⟨none, 0, 0⟩, 0⟩, rfl, h53, r9, ?_⟩
  have k48 := (setRow_other w' g9 g48 (Mv.cs ⟨⟨some ⟨g48, 0, none⟩, 256, 256⟩, ⟨some ⟨g49, 0, none⟩, 8, 8⟩, false, false, false, false, s, ⟨none, 0, 0⟩, 0⟩) n2).trans r48
  have k49 := (setRow_other w' g9 g49 (Mv.cs ⟨⟨some ⟨g48, 0, none⟩, 256, 256⟩, ⟨some ⟨g49, 0, none⟩, 8, 8⟩, false, false, false, false, s, ⟨none, 0, 0⟩, 0⟩) n3).trans r49
  refine ⟨below_setRow J.bel (by omega) _, rfl, l9, setRow_heap w' g9 _ _ 28 _ r9, ⟨own_made (n := 256) k48 (by omega) (by omega), own_made (n := 8) k49 (by omega) (by omega), o52.keep fun g hv _ => setRow_other w' g9 g _ (n4 g hv).2.2, ownN_none _ _, ?_, ?_, fun g _ e => by (simp [Sl.v, Value.ownBlock] at e), ?_, fun g _ e => by (simp [Sl.v, Value.ownBlock] at e), fun g _ e => by (simp [Sl.v, Value.ownBlock] at e)⟩, rfl, ?_, ⟨g48, rfl⟩, ⟨g49, rfl⟩⟩
  · intro g e1 e2
    simp [Sl.v, Value.ownBlock] at e1 e2
    omega
  · intro g e1 e2
    have := n4 g e2
    simp [Sl.v, Value.ownBlock] at e1
    omega
  · intro g e1 e2
    have := n4 g e2
    simp [Sl.v, Value.ownBlock] at e1
    omega
  · intro b hb
    rcases hb with hb | hb | hb | hb
    · simp [Sl.v, Value.ownBlock] at hb; omega
    · simp [Sl.v, Value.ownBlock] at hb; omega
    · exact (n4 b hb).2.2
    · simp [Sl.v, Value.ownBlock] at hb
end
end Go.Proofs.Ytfkmibgamkignaa

namespace Go.Proofs.Ytfkmibgamkignaa
open Go.ChangeShapes Go.WideShapes Go.ChangeAt Go.RowKit
set_option linter.unusedVariables false
set_option maxRecDepth 8000
set_option linter.unusedSimpArgs false

/-- What has come up, by what waits for what. -/
structure Dp (f : Nat → Bool) : Prop where
  d4 : f 4 = true → f 2 = true ∧ f 3 = true
  d5 : f 5 = true → f 0 = true ∧ f 1 = true ∧ f 4 = true
  d7 : f 7 = true → f 0 = true ∧ f 1 = true ∧ f 2 = true ∧ f 3 = true ∧ f 4 = true ∧ f 5 = true ∧ f 6 = true
theorem no {p : Prop} (h : false = true) : p := by cases h
theorem dp_new : Dp (fun _ => false) := ⟨fun h => no h, fun h => no h, fun h => no h⟩
theorem f_no {b c : Bool} (h : b = true → c = true) (hc : c = false) : b = false := by
  cases hb : b
  · rfl
  · rw [h hb] at hc; cases hc
theorem built28 (s0 s1 s2 : Sl) : Try.prog.built 28 [(0, s0.v), (1, s1.v), (6, s2.v)] = some #[s0.v, s1.v, .bool false, .bool false, .bool false, .bool false, s2.v, .slice none 0 0, .int .i64 0] := by kernel_rfl
theorem wp_build28 {o : Oper} {a : Act} {w : World} {K : Act → World → Prop} {Q : Exit → Act → World → Prop} (x0 x1 x2 : Operand) (ho : o.op = .build 28 #[(0, x0), (1, x1), (6, x2)]) (s0 s1 s2 : Sl) (h0 : a.eval x0 = s0.v) (h1 : a.eval x1 = s1.v) (h2 : a.eval x2 = s2.v)
    (h : K (a.put o.dst (.agg #[s0.v, s1.v, .bool false, .bool false, .bool false, .bool false, s2.v, .slice none 0 0, .int .i64 0])) w) : o.wp Try.prog a w K Q := by
  have e : Try.prog.built 28 ((#[(0, x0), (1, x1), (6, x2)] : Array (Nat × Operand)).map fun (i, x) => (i, a.eval x)).toList = some #[s0.v, s1.v, .bool false, .bool false, .bool false, .bool false, s2.v, .slice none 0 0, .int .i64 0] := by
    simp only [List.map_toArray, List.map_cons, List.map_nil, h0, h1, h2]
    exact built28 s0 s1 s2
  refine wp_build 28 _ ho (by rw [e]; rfl) ?_
  rw [e]
  exact h
theorem over_nil (ns : List Int) (k : Nat) : over ns k [] = ns := by simp [over]
theorem over_len (ns im : List Int) (k : Nat) (h : k + im.length ≤ ns.length) : (over ns k im).length = ns.length := by
  unfold over
  simp only [List.length_append, List.length_take, List.length_drop]
  omega
theorem over_set (ns im : List Int) (k j : Nat) (hj : j < im.length) (h : k + im.length ≤ ns.length) : (over ns k (im.take j)).set (k + j) (nAt im j) = over ns k (im.take (j + 1)) := by
  have e1 : (im.take j).length = j := by rw [List.length_take]; omega
  have e2 : (im.take (j + 1)).length = j + 1 := by rw [List.length_take]; omega
  have e3 : (ns.take k).length = k := by rw [List.length_take]; omega
  unfold over
  rw [e1, e2, take_nAt im j hj]
  have e4 : ns.drop (k + j) = ns[k + j]'(by omega) :: ns.drop (k + (j + 1)) := List.drop_eq_getElem_cons (by omega)
  rw [e4, List.set_append_right _ _ (by omega), e3, List.set_append_right _ _ (by omega), e1, show k + j - k - j = 0 by omega, List.set_cons_zero, List.append_assoc]
  rfl
/-- While the image is laid into a new machine. -/
structure Nl (w wr : World) (y : Mv) (g9 : Nat) (d : Md) : Prop where
  bel : Below (w.heap.size + 1) (w.alloc (.cells zMv.cs 28)) wr
  r9 : wr.heap[g9]? = some (.cells y.cs 28 (0, 0))
  own : OwnM wr (w.heap.size + 1) y d
theorem Nl.low {w wr : World} {y : Mv} {g9 : Nat} {d : Md} (h : Nl w wr y g9 d) : Below w.heap.size w wr := (below_new w (.cells zMv.cs 28)).trans (h.bel.mono (by omega))
theorem Nl.re {w wr : World} {y : Mv} {g9 : Nat} {d : Md} (h : Nl w wr y g9 d) : wr.heap[w.heap.size]? = some (.cells zMv.cs 28 (0, 0)) := (h.bel.block w.heap.size (by omega)).trans (heap_alloc_last w _)
theorem Nl.later {w wr w' : World} {y : Mv} {g9 : Nat} {d : Md} (h : Nl w wr y g9 d) (hb : Below wr.heap.size wr w') : Nl w w' y g9 d :=
  ⟨h.bel.trans (hb.mono (by have := h.bel.size; have := alloc_size w (.cells zMv.cs 28); omega)), row_lat h.r9 hb, h.own.later hb⟩
theorem Nl.setM {w wr : World} {y : Mv} {g9 gm n c : Nat} {d : Md} (h : Nl w wr y g9 d) (hm : y.m = ⟨some ⟨gm, 0, none⟩, n, c⟩) (hne : ∀ b, y.at b → b ≠ g9) (k : Nat) (v : Int) (hk : k < d.m.length) : Nl w (wr.setCell ⟨gm, k, none⟩ (.int .i64 v)) y g9 ⟨d.m.set k v, d.r, d.i, d.o⟩ := by
  have e : y.m.v = .slice (some ⟨gm, 0, none⟩) n c := by rw [hm]; rfl
  have o := h.own.m
  rw [e] at o
  have s := o.set k v hk
  have hat : y.at gm := .inl (by rw [e]; rfl)
  have := h.own.lo hat
  exact ⟨h.bel.setCell (p := ⟨gm, k, none⟩) this.1 _, row_keep h.r9 (fun e => hne gm hat e.symm), h.own.putM (by rw [e]; exact s.2) (by rw [e]; exact s.1)⟩
theorem OwnM.putR {w w' : World} {B : Nat} {x : Mv} {d : Md} {ns : List Int} (h : OwnM w B x d) (hg : w.grownBy w' x.r.v.ownBlock) (hn : OwnN w' B x.r.v ns) : OwnM w' B x ⟨d.m, ns, d.i, d.o⟩ :=
  { h with
    r := hn
    m := h.m.keep fun q hv hq => hg.block q hq (fun e => h.mr q hv e.symm)
    i := h.i.keep fun q hv hq => hg.block q hq (fun e => h.ri q e.symm hv)
    o := h.o.keep fun q hv hq => hg.block q hq (fun e => h.ro q e.symm hv) }
theorem Nl.setR {w wr : World} {y : Mv} {g9 gr n c : Nat} {d : Md} (h : Nl w wr y g9 d) (hm : y.r = ⟨some ⟨gr, 0, none⟩, n, c⟩) (hne : ∀ b, y.at b → b ≠ g9) (k : Nat) (v : Int) (hk : k < d.r.length) : Nl w (wr.setCell ⟨gr, k, none⟩ (.int .i64 v)) y g9 ⟨d.m, d.r.set k v, d.i, d.o⟩ := by
  have e : y.r.v = .slice (some ⟨gr, 0, none⟩) n c := by rw [hm]; rfl
  have o := h.own.r
  rw [e] at o
  have s := o.set k v hk
  have hat : y.at gr := .inr (.inl (by rw [e]; rfl))
  have := h.own.lo hat
  exact ⟨h.bel.setCell (p := ⟨gr, k, none⟩) this.1 _, row_keep h.r9 (fun e => hne gr hat e.symm), h.own.putR (by rw [e]; exact s.2) (by rw [e]; exact s.1)⟩
theorem Nl.cellM {w wr : World} {y : Mv} {g9 gm n c : Nat} {d : Md} (h : Nl w wr y g9 d) (hm : y.m = ⟨some ⟨gm, 0, none⟩, n, c⟩) (k : Nat) (hk : k < d.m.length) : wr.cell? ⟨gm, k, none⟩ = some (.int .i64 (nAt d.m k)) ∧ wr.frozen? ⟨gm, k, none⟩ = false := by
  have o := h.own.m
  rw [hm] at o
  exact OwnN.cellAt (b := gm) (n := n) (cap := c) o k hk
theorem Nl.cellR {w wr : World} {y : Mv} {g9 gr n c : Nat} {d : Md} (h : Nl w wr y g9 d) (hm : y.r = ⟨some ⟨gr, 0, none⟩, n, c⟩) (k : Nat) (hk : k < d.r.length) : wr.cell? ⟨gr, k, none⟩ = some (.int .i64 (nAt d.r k)) ∧ wr.frozen? ⟨gr, k, none⟩ = false := by
  have o := h.own.r
  rw [hm] at o
  exact OwnN.cellAt (b := gr) (n := n) (cap := c) o k hk
def Ji (w : World) (ins : Sl) (nn : List Int) (w' : World) (f : Nat → Bool) (v9 v48 v49 v50 v51 v52 v53 : Value) : Prop :=
  Dp f ∧ (f 7 = false → Ir w ins nn w' (f 0) (f 1) (f 2) (f 3) (f 4) (f 5) (f 6) (f 7) v9 v48 v49 v50 v51 v52 v53) ∧ (f 7 = true → ∃ (g9 : Nat) (y : Mv), Ie w w' nn v9 g9 y)
section
variable {w w' : World} {ins : Sl} {nn : List Int} {f : Nat → Bool} {v9 v48 v49 v50 v51 v52 v53 : Value}
theorem ji_new (h : Below (w.heap.size + 1) (w.alloc (.cells zMv.cs 28)) w') : Ji w ins nn w' (fun _ => false) v9 v48 v49 v50 v51 v52 v53 :=
  ⟨dp_new, fun _ => ⟨h, fun h => no h, fun h => no h, fun h => no h, fun h => no h, fun h => no h, fun h => no h, fun h => no h, fun h => no h, fun h => no h⟩, fun h => no h⟩
theorem Ji.op0 (J : Ji w ins nn w' f v9 v48 v49 v50 v51 v52 v53) (hf : f 0 = false) : Ji w ins nn (w'.alloc (.cells (zA 256) 3)) (fun j => if j = 0 then true else f j) v9 (.slice (some ⟨w'.heap.size, 0, none⟩) 256 256) v49 v50 v51 v52 v53 := by
  have f5 := f_no (fun h => (J.1.d5 h).1) hf
  have f7 := f_no (fun h => (J.1.d7 h).1) hf
  have i := J.2.1 f7
  rw [f5, f7] at i
  refine ⟨⟨J.1.d4, fun h => ⟨rfl, (J.1.d5 h).2⟩, fun h => ⟨rfl, (J.1.d7 h).2⟩⟩, fun _ => ?_, fun h => no (f7.symm.trans h)⟩
  have k := i.op0
  show Ir w ins nn _ true (f 1) (f 2) (f 3) (f 4) (f 5) (f 6) (f 7) _ _ _ _ _ _ _
  rw [f5, f7]
  exact k
theorem Ji.op1 (J : Ji w ins nn w' f v9 v48 v49 v50 v51 v52 v53) (hf : f 1 = false) : Ji w ins nn (w'.alloc (.cells (zA 8) 3)) (fun j => if j = 1 then true else f j) v9 v48 (.slice (some ⟨w'.heap.size, 0, none⟩) 8 8) v50 v51 v52 v53 := by
  have f5 := f_no (fun h => (J.1.d5 h).2.1) hf
  have f7 := f_no (fun h => (J.1.d7 h).2.1) hf
  have i := J.2.1 f7
  rw [f5, f7] at i
  refine ⟨⟨J.1.d4, fun h => ⟨(J.1.d5 h).1, rfl, (J.1.d5 h).2.2⟩, fun h => ⟨(J.1.d7 h).1, rfl, (J.1.d7 h).2.2⟩⟩, fun _ => ?_, fun h => no (f7.symm.trans h)⟩
  have k := i.op1
  show Ir w ins nn _ (f 0) true (f 2) (f 3) (f 4) (f 5) (f 6) (f 7) _ _ _ _ _ _ _
  rw [f5, f7]
  exact k
theorem Ji.op2 (J : Ji w ins nn w' f v9 v48 v49 v50 v51 v52 v53) (hf : f 2 = false) : Ji w ins nn (w'.alloc (.cells #[] 3)) (fun j => if j = 2 then true else f j) v9 v48 v49 (.slice (some ⟨w'.heap.size, 0, none⟩) 0 0) v51 v52 v53 := by
  have f4 := f_no (fun h => (J.1.d4 h).1) hf
  have f5 := f_no (fun h => (J.1.d5 h).2.2) f4
  have f7 := f_no (fun h => (J.1.d7 h).2.2.1) hf
  have i := J.2.1 f7
  rw [f4, f5, f7] at i
  refine ⟨⟨fun h => ⟨rfl, (J.1.d4 h).2⟩, J.1.d5, fun h => ⟨(J.1.d7 h).1, (J.1.d7 h).2.1, rfl, (J.1.d7 h).2.2.2⟩⟩, fun _ => ?_, fun h => no (f7.symm.trans h)⟩
  have k := i.op2
  show Ir w ins nn _ (f 0) (f 1) true (f 3) (f 4) (f 5) (f 6) (f 7) _ _ _ _ _ _ _
  rw [f4, f5, f7]
  exact k
theorem Ji.op3 (J : Ji w ins nn w' f v9 v48 v49 v50 v51 v52 v53) (hf : f 3 = false) : Ji w ins nn w' (fun j => if j = 3 then true else f j) v9 v48 v49 v50 (.slice ins.a ins.n ins.c) v52 v53 := by
  have f4 := f_no (fun h => (J.1.d4 h).2) hf
  have f7 := f_no (fun h => (J.1.d7 h).2.2.2.1) hf
  have i := J.2.1 f7
  rw [f4] at i
  refine ⟨⟨fun h => ⟨(J.1.d4 h).1, rfl⟩, J.1.d5, fun h => ⟨(J.1.d7 h).1, (J.1.d7 h).2.1, (J.1.d7 h).2.2.1, rfl, (J.1.d7 h).2.2.2.2⟩⟩, fun _ => ?_, fun h => no (f7.symm.trans h)⟩
  have k := i.op3
  show Ir w ins nn _ (f 0) (f 1) (f 2) true (f 4) (f 5) (f 6) (f 7) _ _ _ _ _ _ _
  rw [f4]
  exact k
theorem Ji.at4 (J : Ji w ins nn w' f v9 v48 v49 v50 v51 v52 v53) (hf : f 4 = false) (h2 : f 2 = true) (h3 : f 3 = true) : v51 = .slice ins.a ins.n ins.c ∧ w.heap.size + 1 ≤ w'.heap.size ∧ Below w.heap.size w w' ∧ ∃ g, v50 = .slice (some ⟨g, 0, none⟩) 0 0 ∧ OwnN w' (w.heap.size + 1) v50 [] ∧
    ∀ (v : Value) (w2 : World), OwnN w2 (w.heap.size + 1) v nn → w'.grownBy w2 (some g) → (v.ownBlock = some g ∨ v.ownBlock = some w'.heap.size) → Ji w ins nn w2 (fun j => if j = 4 then true else f j) v9 v48 v49 v50 v51 v v53 := by
  have f5 := f_no (fun h => (J.1.d5 h).2.2) hf
  have f7 := f_no (fun h => (J.1.d7 h).2.2.2.2.1) hf
  have i := J.2.1 f7
  rw [hf, f5, f7, h2, h3] at i
  obtain ⟨g, e, l, r⟩ := i.h2 rfl rfl
  refine ⟨i.h3 rfl, i.size, i.low, g, e, by rw [e]; exact own_bare r (by omega), fun v w2 ho hg hb => ?_⟩
  refine ⟨⟨fun _ => ⟨h2, h3⟩, fun h => ⟨(J.1.d5 h).1, (J.1.d5 h).2.1, rfl⟩, fun h => no (f7.symm.trans h)⟩, fun _ => ?_, fun h => no (f7.symm.trans h)⟩
  obtain ⟨a, c, ev, _⟩ := ho.rd
  have ev' : v = (Sl.mk a nn.length c).v := ev
  rw [ev'] at ho hb
  have k := i.op4 e l r ho hg hb
  show Ir w ins nn _ (f 0) (f 1) (f 2) (f 3) true (f 5) (f 6) (f 7) _ _ _ _ _ _ _
  rw [f5, f7, h2, h3, ev']
  exact k
theorem Ji.op5 (J : Ji w ins nn w' f v9 v48 v49 v50 v51 v52 v53) (hf : f 5 = false) (h0 : f 0 = true) (h1 : f 1 = true) (h4 : f 4 = true) : Ji w ins nn w' (fun j => if j = 5 then true else f j) v9 v48 v49 v50 v51 v52 (.agg #[v48, v49, .bool false, .bool false, .bool false, .bool false, v52, .slice none 0 0, .int .i64 0]) := by
  have f7 := f_no (fun h => (J.1.d7 h).2.2.2.2.2.1) hf
  have i := J.2.1 f7
  refine ⟨⟨J.1.d4, fun _ => ⟨h0, h1, h4⟩, fun h => no (f7.symm.trans h)⟩, fun _ => i.op5, fun h => no (f7.symm.trans h)⟩
theorem Ji.at5 (J : Ji w ins nn w' f v9 v48 v49 v50 v51 v52 v53) (hf : f 5 = false) (h0 : f 0 = true) (h1 : f 1 = true) (h4 : f 4 = true) : ∃ s0 s1 s2 : Sl, v48 = s0.v ∧ v49 = s1.v ∧ v52 = s2.v := by
  have f7 := f_no (fun h => (J.1.d7 h).2.2.2.2.2.1) hf
  have i := J.2.1 f7
  obtain ⟨g, e, _⟩ := i.h0 h0
  obtain ⟨g', e', _⟩ := i.h1 h1
  obtain ⟨s, e'', _⟩ := i.h4 h4
  exact ⟨⟨_, _, _⟩, ⟨_, _, _⟩, s, e, e', e''⟩
theorem Ji.op6 (J : Ji w ins nn w' f v9 v48 v49 v50 v51 v52 v53) (hf : f 6 = false) : Ji w ins nn (w'.alloc (.cells zMv.cs 28)) (fun j => if j = 6 then true else f j) (.pointer (some ⟨w'.heap.size, 0, none⟩)) v48 v49 v50 v51 v52 v53 := by
  have f7 := f_no (fun h => (J.1.d7 h).2.2.2.2.2.2) hf
  have i := J.2.1 f7
  rw [f7] at i
  refine ⟨⟨J.1.d4, J.1.d5, fun h => no (f7.symm.trans h)⟩, fun _ => ?_, fun h => no (f7.symm.trans h)⟩
  have k := i.op6
  show Ir w ins nn _ (f 0) (f 1) (f 2) (f 3) (f 4) (f 5) true (f 7) _ _ _ _ _ _ _
  rw [f7]
  exact k
theorem Ji.at7 (J : Ji w ins nn w' f v9 v48 v49 v50 v51 v52 v53) (hf : f 7 = false) (h5 : f 5 = true) (h6 : f 6 = true) : ∃ (g9 : Nat) (y : Mv), v9 = .pointer (some ⟨g9, 0, none⟩) ∧ v53 = .agg y.cs ∧ w'.heap[g9]? = some (.cells zMv.cs 28 (0, 0)) ∧ Ji w ins nn (w'.setRow g9 y.cs) (fun j => if j = 7 then true else f j) v9 v48 v49 v50 v51 v52 v53 := by
  obtain ⟨h0, h1, h4⟩ := J.1.d5 h5
  obtain ⟨h2, h3⟩ := J.1.d4 h4
  have i := J.2.1 hf
  rw [h0, h1, h2, h3, h4, h5, h6, hf] at i
  obtain ⟨g9, y, e1, e2, r, k⟩ := i.op7
  exact ⟨g9, y, e1, e2, r, ⟨J.1.d4, J.1.d5, fun _ => ⟨h0, h1, h2, h3, h4, h5, h6⟩⟩, fun h => no h.symm, fun _ => ⟨g9, y, k⟩⟩
end

set_option maxHeartbeats 4000000 in
theorem newS_yes (im ins : Sl) (ni nn : List Int) (a st : Int) (w : World) (hi : RdN w im.a ni) (hn : RdN w ins.a nn) (li : ni.length = im.n) (ln : nn.length = ins.n) (nz : ins.nz) (hb : newB ni a st nn = true) :
    Calls Try.prog 19 #[.slice im.a im.n im.c, .int .i64 a, .int .i64 st, .slice ins.a ins.n ins.c] w fun e w' => ∃ y : Mv, e = .returned (.agg y.cs) ∧ y.fl = zMv.fl ∧ OwnM w' (w.heap.size + 1) y ⟨over z256 (a / 2).toNat ni, newR st, nn, []⟩ ∧ Below w.heap.size w w' := by
  obtain ⟨p0, p1, p2, p3, p4, p5, p6⟩ := newB_parts hb
  have HB := hide (below_new w (.cells #[Value.slice none 0 0, Value.slice none 0 0, Value.bool false, Value.bool false, Value.bool false, Value.bool false, Value.slice none 0 0, Value.slice none 0 0, Value.int .i64 0] 28))
  obtain ⟨a0, a1⟩ := inB_b p0
  have W0 := hide (p3 ▸ wordsS_any im.a im.n im.c ni _ li (by omega) (hi.later (unhide HB)))
  have W1 := hide (p6 ▸ wordsS_any ins.a ins.n ins.c nn _ ln (by omega) (hn.later (unhide HB)))
  have I0 := hide (fun w => p0 ▸ in_any a 0 510 w)
  have I1 := hide (fun w => p4 ▸ in_any st 0 65535 w)
  have HI := hide hi
  have HN := hide hn
  have LI := hide li
  have LN := hide ln
  rw [li] at p2
  rw [ln] at p5
  have g0 : 0 ≤ a % 2 := by omega
  have g1 : a % 2 ≤ 0 := by omega
  have NZ := hide nz
  clear hi hn li ln p0 p1 p3 p4 p6 hb nz
  go_enter Try.func19, Try.ntmps19
  go_wp2_with (first | (go_at_call_of 59 (Value.int IntKind.i64 a); refine (unhide I0 _).mono ?_; rintro e w' ⟨rfl, rfl⟩) | (go_at_call_of 59 (Value.int IntKind.i64 st); refine (unhide I1 _).mono ?_; rintro e w' ⟨rfl, rfl⟩) | (go_at_call_of 60 (Value.slice im.a im.n im.c); refine (unhide W0).mono ?_; rintro e w' ⟨rfl, rfl⟩) | (go_at_call_of 60 (Value.slice ins.a ins.n ins.c); refine (unhide W1).mono ?_; rintro e w' ⟨rfl, rfl⟩))
  refine wp_region_inv (fun f a' w' => ∃ v9 v48 v49 v50 v51 v52 v53 : Value, a' = ⟨#[_, _, _, _, _, _, _, _, _, v9, _, _, _, _, _, _, _, _, _, _, _, _, _, _, _, _, _, _, _, _, _, _, _, _, _, _, _, _, _, _, _, _, _, _, _, _, _, _, v48, v49, v50, v51, v52, v53, _, _, _, _, _, _, _, _, _, _, _, _, _, _, _, _, _, _, _, _, _, _, _, _, _], []⟩ ∧ Ji w ins nn w' f v9 v48 v49 v50 v51 v52 v53) (by kernel_rfl) ⟨undef, undef, undef, undef, undef, undef, undef, rfl, ji_new ⟨rfl, rfl, rfl, Nat.le_refl _, fun _ _ => rfl⟩⟩ (by kernel_rfl) ?_ ?_
  · intro i o ho f a' w' hI hf hd K2 hK2
    obtain ⟨v9, v48, v49, v50, v51, v52, v53, rfl, J⟩ := hI
    have hi8 : i < 8 := by have := (Array.getElem?_eq_some_iff.1 ho).1; simpa using this
    obtain rfl | rfl | rfl | rfl | rfl | rfl | rfl | rfl : i = 0 ∨ i = 1 ∨ i = 2 ∨ i = 3 ∨ i = 4 ∨ i = 5 ∨ i = 6 ∨ i = 7 := by omega
    · obtain rfl := Option.some.inj ho
      rw [if_pos (by rfl)]
      refine wp_make 256 made256 (by omega) rfl ?_
      exact hK2 _ _ ⟨v9, _, v49, v50, v51, v52, v53, rfl, J.op0 hf⟩
    · obtain rfl := Option.some.inj ho
      rw [if_pos (by rfl)]
      refine wp_make 8 made8 (by omega) rfl ?_
      exact hK2 _ _ ⟨v9, v48, _, v50, v51, v52, v53, rfl, J.op1 hf⟩
    · obtain rfl := Option.some.inj ho
      rw [if_pos (by rfl)]
      refine wp_empty rfl ?_
      exact hK2 _ _ ⟨v9, v48, v49, _, v51, v52, v53, rfl, J.op2 hf⟩
    · obtain rfl := Option.some.inj ho
      rw [if_pos (by rfl)]
      refine wp_move _ rfl ?_
      exact hK2 _ _ ⟨v9, v48, v49, v50, _, v52, v53, rfl, J.op3 hf⟩
    · obtain rfl := Option.some.inj ho
      rw [if_pos (by rfl)]
      obtain ⟨e51, z1, bl, g, e50, ow, step⟩ := J.at4 hf (hd ⟨2, .data⟩ (by simp) rfl) (hd ⟨3, .data⟩ (by simp) rfl)
      refine wp_app _ _ rfl (w.heap.size + 1) v50 [] rfl ow ins nn e51 ((unhide HN).later bl) (unhide LN) (unhide NZ) (by simp; omega) z1 ?_
      intro v' w2 o1 o2 o3
      rw [e50] at o2 o3
      exact hK2 _ _ ⟨v9, v48, v49, v50, v51, _, v53, rfl, step v' w2 o1 o2 o3⟩
    · obtain rfl := Option.some.inj ho
      rw [if_pos (by rfl)]
      obtain ⟨s0, s1, s2, e0, e1, e2⟩ := J.at5 hf (hd ⟨0, .data⟩ (by simp) rfl) (hd ⟨1, .data⟩ (by simp) rfl) (hd ⟨4, .data⟩ (by simp) rfl)
      refine wp_build28 _ _ _ rfl s0 s1 s2 e0 e1 e2 ?_
      have J5 := J.op5 hf (hd ⟨0, .data⟩ (by simp) rfl) (hd ⟨1, .data⟩ (by simp) rfl) (hd ⟨4, .data⟩ (by simp) rfl)
      rw [← e0, ← e1, ← e2]
      exact hK2 _ _ ⟨v9, v48, v49, v50, v51, v52, _, rfl, J5⟩
    · obtain rfl := Option.some.inj ho
      rw [if_pos (by rfl)]
      refine wp_alloc28 rfl ?_
      exact hK2 _ _ ⟨_, v48, v49, v50, v51, v52, v53, rfl, J.op6 hf⟩
    · obtain rfl := Option.some.inj ho
      rw [if_pos (by rfl)]
      obtain ⟨g9, y, e9, e53, r9, k⟩ := J.at7 hf (hd ⟨5, .data⟩ (by simp) rfl) (hd ⟨6, .data⟩ (by simp) rfl)
      refine wp_store_row 28 _ _ rfl g9 y.cs e9 e53 28 zMv.cs r9 (by kernel_rfl) rfl (Mv.cs_one _) ?_
      exact hK2 _ _ ⟨v9, v48, v49, v50, v51, v52, v53, rfl, k⟩
  · intro f a' w' hI hall
    obtain ⟨v9, v48, v49, v50, v51, v52, v53, rfl, J⟩ := hI
    obtain ⟨g9, y, E⟩ := J.2.2 (hall 7 (by simp))
    obtain ⟨gm, hgm⟩ := E.ym
    obtain ⟨gr, hgr⟩ := E.yr
    obtain ⟨k, hk⟩ := Int.eq_ofNat_of_zero_le (show 0 ≤ a / 2 by omega)
    have N0 := hide (show Nl w w' y g9 ⟨over z256 k (ni.take 0), List.replicate 8 0, nn, []⟩ from ⟨E.bel, E.r9, by rw [List.take_zero, over_nil]; exact E.own⟩)
    have e9 := E.p9
    subst e9
    have NE := hide E.ne
    have FL := hide E.fl
    have L9 := hide E.l9
    have GM := hide hgm
    have GR := hide hgr
    have HK := hide hk
    have QU := hide (quo2 a0 (by omega) hk)
    have kb : k + im.n ≤ 256 := by omega
    clear E J hall hgm hgr hk W0 W1 I0 I1 HB
    go_wp2
    go_loopw [10] (fun i wr => ∃ j : Nat, j ≤ im.n ∧ i = .int .i64 j ∧ Nl w wr y g9 ⟨over z256 k (ni.take j), List.replicate 8 0, nn, []⟩) (fun i _ => im.n - (intOf i).toNat)
    case atStart => exact ⟨0, Nat.zero_le _, rfl, unhide N0⟩
    case round =>
      obtain ⟨j, hj, rfl, hN⟩ := hrel
      have NR := hide hN
      clear hN N0
      by_cases hlt : j < im.n
      · have LI' := unhide LI
        rcases (unhide HI).later (unhide NR).low with h0 | ⟨b, off, hia, hbl, hcl⟩
        · rw [h0] at LI'; simp at LI'; omega
        have hb0 : b < w.heap.size := by
          rcases (unhide HI) with h0 | ⟨b', off', e', hb', _⟩
          · rw [h0] at LI'; simp at LI'; omega
          · rw [hia] at e'; cases e'; exact hb'
        have HIA := hide hia
        have C9 := hide (show wr.cell? ⟨g9, 0, none⟩ = some (.slice (some ⟨gm, 0, none⟩) 256 256) by rw [row_m (unhide NR).r9, unhide GM])
        have CI := hide (hcl j (by omega))
        have hlen : (over z256 k (ni.take j)).length = 256 := by rw [over_len _ _ _ (by rw [z256_len, List.length_take]; omega), z256_len]
        have CM := hide ((unhide NR).cellM (unhide GM) (k + j) (by show k + j < (over z256 k (ni.take j)).length; omega))
        have nd := ((unhide NR).later (below_drew (w := wr))).setM (unhide GM) (unhide NE) (k + j) (nAt ni j) (by show k + j < (over z256 k (ni.take j)).length; omega)
        have nd2 : Nl w (wr.drew.setCell ⟨gm, k + j, none⟩ (.int .i64 (nAt ni j))) y g9 ⟨over z256 k (ni.take (j + 1)), List.replicate 8 0, nn, []⟩ := by
          rw [← over_set z256 ni k j (by omega) (by rw [z256_len]; omega)]
          exact nd
        have ND := hide nd2
        have hadd : Hid (IntKind.i64.wrap ((k : Int) + (j : Int)) = (k : Int) + (j : Int)) := hide (by rw [IntKind.wrap_i64]; omega)
        have htn : Hid (((k : Int) + (j : Int)).toNat = k + j) := hide (by omega)
        have S2 := hide (show (wr.drew.setCell ⟨gm, k + j, none⟩ (.int .i64 (nAt ni j))).cell? ⟨b, off + j, none⟩ = some (.int .i64 (nAt ni j)) by
          have hat : y.at gm := .inl (by rw [unhide GM]; rfl)
          have := ((unhide NR).own.lo hat).1
          rw [World.cell?_of_block (w := wr.drew) (Below.heap_setCell wr.drew ⟨gm, k + j, none⟩ _ b (by show b ≠ gm; omega))]
          exact unhide CI)
        clear hcl nd nd2 hbl hia
        generalize nAt ni j = q at CI ND S2 ⊢
        go_wp2_with fail
        refine wp_region_held_drew (S := fun w' => w'.cell? ⟨g9, 0, none⟩ = some (.slice (some ⟨gm, 0, none⟩) 256 256) ∧ w'.cell? ⟨b, off + j, none⟩ = some (.int .i64 q)) (by kernel_rfl) ⟨unhide C9, unhide CI⟩ (fun hS => ?_)
        have HS := hide hS
        clear hS
        refine wpAnyH_take (i := 0) (v := .pointer (some ⟨g9, 0, none⟩)) rfl (by kernel_rfl) (by kernel_rfl) (by kernel_rfl) (fun _ _ _ h => h) (Or.inl ⟨by rfl, fun w hc => ?_⟩) (unhide HS) ?_
        · clear hc; go_simp
        go_simp
        refine wpAnyH_take (i := 1) (v := .slice (some ⟨gm, 0, none⟩) 256 256) rfl (by kernel_rfl) (by kernel_rfl) (by kernel_rfl) (fun _ _ _ h => h) (Or.inl ⟨by rfl, fun w hc => ?_⟩) (unhide HS) ?_
        · obtain ⟨hc1, hc2⟩ := hc; go_simp
        go_simp
        refine wpAnyH_take (i := 2) (v := .int .i64 a) rfl (by kernel_rfl) (by kernel_rfl) (by kernel_rfl) (fun _ _ _ h => h) (Or.inl ⟨by rfl, fun w hc => ?_⟩) (unhide HS) ?_
        · clear hc; go_simp
        go_simp
        refine wpAnyH_take (i := 3) (v := .int .i64 (k : Int)) rfl (by kernel_rfl) (by kernel_rfl) (by kernel_rfl) (fun _ _ _ h => h) (Or.inl ⟨by rfl, fun w hc => ?_⟩) (unhide HS) ?_
        · clear hc; have hq := unhide QU; go_simp
        go_simp
        refine wpAnyH_take (i := 4) (v := .int .i64 (j : Int)) rfl (by kernel_rfl) (by kernel_rfl) (by kernel_rfl) (fun _ _ _ h => h) (Or.inl ⟨by rfl, fun w hc => ?_⟩) (unhide HS) ?_
        · clear hc; go_simp
        go_simp
        refine wpAnyH_take (i := 5) (v := .int .i64 ((k : Int) + (j : Int))) rfl (by kernel_rfl) (by kernel_rfl) (by kernel_rfl) (fun _ _ _ h => h) (Or.inl ⟨by rfl, fun w hc => ?_⟩) (unhide HS) ?_
        · clear hc; have hq := unhide hadd; go_simp
        go_simp
        refine wpAnyH_take (i := 6) (v := .slice im.a im.n im.c) rfl (by kernel_rfl) (by kernel_rfl) (by kernel_rfl) (fun _ _ _ h => h) (Or.inl ⟨by rfl, fun w hc => ?_⟩) (unhide HS) ?_
        · clear hc; go_simp
        go_simp
        refine wpAnyH_take (i := 7) (v := .int .i64 (j : Int)) rfl (by kernel_rfl) (by kernel_rfl) (by kernel_rfl) (fun _ _ _ h => h) (Or.inl ⟨by rfl, fun w hc => ?_⟩) (unhide HS) ?_
        · clear hc; go_simp
        go_simp
        refine wpAnyH_take (i := 8) (v := .pointer (some ⟨b, off + j, none⟩)) rfl (by kernel_rfl) (by kernel_rfl) (by kernel_rfl) (fun _ _ _ h => h) (Or.inl ⟨by rfl, fun w hc => ?_⟩) (unhide HS) ?_
        · clear hc; have hq := unhide HIA; go_simp
        go_simp
        refine wpAnyH_take (i := 9) (v := .int .i64 q) rfl (by kernel_rfl) (by kernel_rfl) (by kernel_rfl) (fun _ _ _ h => h) (Or.inl ⟨by rfl, fun w hc => ?_⟩) (unhide HS) ?_
        · obtain ⟨hc1, hc2⟩ := hc; go_simp
        go_simp
        refine wpAnyH_take (i := 10) (v := .pointer (some ⟨gm, k + j, none⟩)) rfl (by kernel_rfl) (by kernel_rfl) (by kernel_rfl) (fun _ _ _ h => h) (Or.inl ⟨by rfl, fun w hc => ?_⟩) (unhide HS) ?_
        · clear hc; have hq := unhide htn; have hq2 : (k : Int) + (j : Int) < 256 := (by omega); go_simp; intro h; omega
        go_simp
        refine wpAnyH_ready (rs := [11]) (by kernel_rfl) (by simp) ?_
        refine AllReadyH.cons rfl (fun K2 hK => ?_) AllReadyH.nil
        obtain ⟨cm1, cm2⟩ := unhide CM
        go_simp
        refine hK.out _ _ ⟨(row_m (unhide ND).r9).trans (by rw [unhide GM]), unhide S2⟩ (fun _ => ?_)
        clear hK K2 cm1 cm2
        refine wpAnyH_done (by kernel_rfl) ?_ _
        go_wp2
        go_roundw
        case rel => exact ⟨j + 1, by omega, by go_num, unhide ND⟩
        case measure => simp [intOf]; omega
      · obtain rfl : j = im.n := by omega
        have LI' := unhide LI
        have N1 := hide (show Nl w wr y g9 ⟨over z256 k ni, List.replicate 8 0, nn, []⟩ by
          have := unhide NR
          rw [List.take_of_length_le (by omega)] at this
          exact this)
        have N2 := hide ((unhide N1).setR (unhide GR) (unhide NE) 6 512 (by simp))
        have N3 := hide ((unhide N2).setR (unhide GR) (unhide NE) 7 st (by simp))
        have hat : y.at gr := .inr (.inl (by rw [unhide GR]; rfl))
        have ng := unhide NE gr hat
        have ng2 : g9 ≠ gr := fun e => ng e.symm
        obtain ⟨c6, f6⟩ := (unhide N1).cellR (unhide GR) 6 (by simp)
        obtain ⟨c7, f7⟩ := (unhide N1).cellR (unhide GR) 7 (by simp)
        have c9 : wr.cell? ⟨g9, 1, none⟩ = some (.slice (some ⟨gr, 0, none⟩) 8 8) := by rw [row_r (unhide N1).r9, unhide GR]
        clear NR hat LI'
        go_wp2_with (first | (refine wpList_load_row rfl 28 _ rfl g9 rfl 28 y.cs (0, 0) _ (unhide N3).r9 Try.underlying28 rfl (by kernel_rfl) ?_) | (refine wpList_store_row rfl 28 _ _ rfl w.heap.size y.cs rfl rfl 28 zMv.cs (unhide N3).re (by kernel_rfl) rfl (Mv.cs_one _) ?_))
        refine bodyPost_ret (results_cell_row (P := Try.prog) rfl _ _ w.heap.size 28 y.cs (0, 0) _ rfl (setRow_heap _ _ _ _ 28 _ (unhide N3).re) Try.underlying28 rfl (by kernel_rfl)) rfl ?_
        refine ⟨y, rfl, unhide FL, ?_, below_setRow (unhide N3).low (Nat.le_refl _) _⟩
        rw [show (a / 2).toNat = k by have := unhide HK; omega]
        exact (unhide N3).own.row (by omega) _
end Go.Proofs.Ytfkmibgamkignaa

namespace Go.Proofs.Ytfkmibgamkignaa
open Go.ChangeShapes Go.WideShapes Go.ChangeAt Go.RowKit
set_option linter.unusedVariables false
set_option maxRecDepth 8000
set_option linter.unusedSimpArgs false

/-- What is there behind a store. -/
def Md.stD (d : Md) (r a n : Int) : Md := if r = -1 then d.put a n else if d.ldB r a = true then ⟨d.m, d.r.set r.toNat (n % 65536), d.i, d.o⟩ else d

/-- The boxes of a machine, a place, and the answer's place. -/
structure Bs (w wr : World) (x : Mv) (r a : Int) : Prop where
  bx : wr.heap[w.heap.size]? = some (.cells x.cs 28 (0, 0))
  bp : wr.heap[w.heap.size + 1]? = some (.cells #[.int .i64 r, .int .i64 a] 44 (0, 0))
  re : wr.heap[w.heap.size + 1 + 1]? = some (.cells zMv.cs 28 (0, 0))
  bel : Below w.heap.size w wr
  sz : w.heap.size + 3 ≤ wr.heap.size
theorem bs_new (w : World) (x : Mv) (r a : Int) : Bs w (((w.alloc (.cells x.cs 28)).alloc (.cells #[.int .i64 r, .int .i64 a] 44)).alloc (.cells zMv.cs 28)) x r a :=
  ⟨row_lat (bp_new w x r a).bx (below_new _ _), row_lat (bp_new w x r a).bp (below_new _ _), by have := heap_alloc_last ((w.alloc (.cells x.cs 28)).alloc (.cells #[.int .i64 r, .int .i64 a] 44)) (.cells zMv.cs 28); simpa using this, (bp_new w x r a).bel.alloc (by simp; omega) _, by simp⟩
section
variable {w wr w' : World} {x : Mv} {r a : Int}
theorem Bs.later (h : Bs w wr x r a) (hb : Below wr.heap.size wr w') : Bs w w' x r a :=
  ⟨row_lat h.bx hb, row_lat h.bp hb, row_lat h.re hb, h.bel.trans (hb.mono (by have := h.sz; omega)), Nat.le_trans h.sz hb.size⟩
theorem Bs.cr (h : Bs w wr x r a) : wr.cell? ⟨w.heap.size + 1, 0, none⟩ = some (.int .i64 r) := (cell_of_row wr _ 0 _ 44 _ h.bp).trans rfl
theorem Bs.ca (h : Bs w wr x r a) : wr.cell? ⟨w.heap.size + 1, 1, none⟩ = some (.int .i64 a) := (cell_of_row wr _ 1 _ 44 _ h.bp).trans rfl
/-- A list of what is new is written: what stood stays. -/
theorem Bs.past (h : Bs w wr x r a) {o : Option Nat} (hg : wr.grownBy w' o) (ho : ∀ b, o = some b → w.heap.size + 3 ≤ b) : Bs w w' x r a :=
  ⟨(hg.block _ (row_lt h.bx) (fun e => by have := ho _ e.symm; omega)).trans h.bx, (hg.block _ (row_lt h.bp) (fun e => by have := ho _ e.symm; omega)).trans h.bp, (hg.block _ (row_lt h.re) (fun e => by have := ho _ e.symm; omega)).trans h.re, h.bel.grown hg h.bel.size (fun k e => by have := ho _ e; omega), Nat.le_trans h.sz hg.size⟩
end

theorem sl_formP {w : World} {B : Nat} {s : Sl} {ns : List Int} (h : OwnN w B s.v ns) (h0 : 0 < ns.length) : ∃ g c, s = ⟨some ⟨g, 0, none⟩, ns.length, c⟩ := by
  obtain ⟨sa, sn, sc⟩ := s
  rcases h.form with ⟨_, e0⟩ | ⟨g, cap, e, _⟩
  · rw [e0] at h0; simp at h0
  · unfold Sl.v at e
    simp at e
    exact ⟨g, cap, by rw [e.1, e.2.1, e.2.2]⟩
/-- One register of an owned machine written. -/
theorem own_setR {w : World} {B gr n c : Nat} {y : Mv} {d : Md} (O : OwnM w B y d) (e : y.r = ⟨some ⟨gr, 0, none⟩, n, c⟩) (k : Nat) (v : Int) (hk : k < d.r.length) :
    OwnM (w.setCell ⟨gr, k, none⟩ (.int .i64 v)) B y ⟨d.m, d.r.set k v, d.i, d.o⟩ ∧ w.grownBy (w.setCell ⟨gr, k, none⟩ (.int .i64 v)) (some gr) ∧ B ≤ gr ∧ gr < w.heap.size ∧ w.cell? ⟨gr, k, none⟩ = some (.int .i64 (nAt d.r k)) ∧ w.frozen? ⟨gr, k, none⟩ = false := by
  have ev : y.r.v = .slice (some ⟨gr, 0, none⟩) n c := by rw [e]; rfl
  have o := O.r
  rw [ev] at o
  obtain ⟨c1, c2⟩ := o.cellAt k hk
  have st := o.set k v hk
  have lt := o.lt (g := gr) rfl
  exact ⟨O.putR (by rw [ev]; exact st.2) (by rw [ev]; exact st.1), st.2, lt.1, lt.2, c1, c2⟩
theorem own_rlt {w : World} {B gr n c : Nat} {y : Mv} {d : Md} (O : OwnM w B y d) (e : y.r = ⟨some ⟨gr, 0, none⟩, n, c⟩) : gr < w.heap.size := by
  have ev : y.r.v = .slice (some ⟨gr, 0, none⟩) n c := by rw [e]; rfl
  have o := O.r
  rw [ev] at o
  exact (o.lt (g := gr) rfl).2
theorem row_past {w w' : World} {g gr : Nat} {o : Obj} (h : w.heap[g]? = some o) (hg : w.grownBy w' (some gr)) (hne : gr ≠ g) : w'.heap[g]? = some o := (hg.block g (row_lt h) (fun e => hne (by cases e; rfl))).trans h

set_option maxHeartbeats 4000000 in
theorem storeS_any (x : Mv) (d : Md) (r a n : Int) (w : World) (hs : x.small) (hz : x.nz) (hr : RdM w x d) :
    Calls Try.prog 30 #[.agg x.cs, .agg #[.int .i64 r, .int .i64 a], .int .i64 n] w fun e w' => ∃ y : Mv, e = .returned (.tuple #[.agg y.cs, .bool (d.ldB r a)]) ∧ y.fl = x.fl ∧ OwnM w' (w.heap.size + 2) y (d.stD r a n) ∧ Below w.heap.size w w' := by
  have B := hide (bs_new w x r a)
  have X := hide (hr.later (unhide B).bel)
  by_cases h1 : r = -1
  · subst h1
    have R := hide (writeS_any x d a n _ hs hz (unhide X))
    unfold Md.stD Md.ldB
    rw [if_pos rfl, if_pos rfl]
    clear hr hs hz X
    go_enter Try.func30, Try.ntmps30
    go_wp2_with (first | (refine wpList_load_row rfl 28 _ rfl w.heap.size rfl 28 x.cs (0, 0) _ (unhide B).bx Try.underlying28 rfl (by kernel_rfl) ?_))
    refine (unhide R).mono ?_
    rintro e w1 ⟨y, rfl, fy, oy, hb⟩
    have FY := hide fy
    have O1 := hide (oy.base (C := w.heap.size + 3) (by have := (unhide B).sz; omega))
    have B1 := hide ((unhide B).later hb)
    clear fy oy hb R B
    go_wp2_with (first | (refine wpList_store_row rfl 28 _ _ rfl (w.heap.size + 1 + 1) y.cs rfl rfl 28 zMv.cs (unhide B1).re (by kernel_rfl) rfl (Mv.cs_one _) ?_))
    refine bodyPost_ret (results_row2 (P := Try.prog) rfl _ _ (w.heap.size + 1 + 1) 28 y.cs (0, 0) _ rfl (setRow_heap _ _ _ _ 28 _ (unhide B1).re) Try.underlying28 rfl (by kernel_rfl)) rfl ?_
    exact ⟨y, rfl, unhide FY, ((unhide O1).row (by omega) _).base (by omega), below_setRow (unhide B1).bel (by omega) _⟩
  · have c1 : x.cs[1]? = some (.slice x.r.a x.r.n x.r.c) := rfl
    have I := hide (fun w => in_any r 0 ((x.r.n : Int) - 1) w)
    have hn := hs.2.1
    have hw1 : IntKind.i64.wrap ((x.r.n : Int) - 1) = (x.r.n : Int) - 1 := by rw [IntKind.wrap_i64]; omega
    have M := hide (copyS_any x d _ hs hz (unhide X))
    unfold Md.stD Md.ldB
    rw [if_neg h1, if_neg h1]
    have HRL := hide hr.rl
    rw [hr.rl]
    obtain ⟨q, hq⟩ : ∃ q, inB r 0 ((x.r.n : Int) - 1) = q := ⟨_, rfl⟩
    rw [hq] at I ⊢
    have HQ := hide hq
    obtain ⟨bb, hbb⟩ : ∃ b, (a == -1) = b := ⟨_, rfl⟩
    rw [hbb]
    have HBB := hide hbb
    clear hr hs hz X hq hbb
    go_enter Try.func30, Try.ntmps30
    go_wp2_with (refine wpList_load_row rfl 28 _ rfl w.heap.size rfl 28 x.cs (0, 0) _ (unhide B).bx Try.underlying28 rfl (by kernel_rfl) ?_)
    refine (unhide M).mono ?_
    rintro e w1 ⟨y, rfl, fy, oy, hb⟩
    have FY := hide fy
    have O1 := hide ((oy.base (C := w.heap.size + 3) (by have := (unhide B).sz; omega)).later (below_new w1 (.cells y.cs 28)))
    have O0 := hide oy
    have B1 := hide (((unhide B).later hb).later (below_new w1 (.cells y.cs 28)))
    have G1 := hide (heap_alloc_last w1 (.cells y.cs 28))
    have Z1 := hide (((unhide B).later hb).sz)
    clear fy oy hb M B
    have b0 := (unhide B1).cr
    have b1 := (unhide B1).ca
    have b2 := row_r (unhide B1).bx
    cases q
    · go_wp2_with (first | (refine wpList_store_new rfl 28 _ _ rfl y.cs rfl rfl _ (by kernel_rfl) rfl (Mv.cs_one _) ?_) | (go_at_call 59; refine (unhide I _).mono ?_; rintro e w' ⟨rfl, hw'⟩; rw [hw']; clear hw' w') | (refine wpList_load_row rfl 28 _ rfl w1.heap.size rfl 28 y.cs (0, 0) _ (unhide G1) Try.underlying28 rfl (by kernel_rfl) ?_) | (refine wpList_store_row rfl 28 _ _ rfl (w.heap.size + 1 + 1) y.cs rfl rfl 28 zMv.cs (unhide B1).re (by kernel_rfl) rfl (Mv.cs_one _) ?_))
      refine bodyPost_ret (results_row2 (P := Try.prog) rfl _ _ (w.heap.size + 1 + 1) 28 y.cs (0, 0) _ rfl (setRow_heap _ _ _ _ 28 _ (unhide B1).re) Try.underlying28 rfl (by kernel_rfl)) rfl ?_
      exact ⟨y, rfl, unhide FY, ((unhide O1).row (by omega) _).base (by omega), below_setRow (unhide B1).bel (by omega) _⟩
    · cases bb
      rotate_left
      · obtain rfl : a = -1 := by simpa using unhide HBB
        go_wp2_with (first | (refine wpList_store_new rfl 28 _ _ rfl y.cs rfl rfl _ (by kernel_rfl) rfl (Mv.cs_one _) ?_) | (go_at_call 59; refine (unhide I _).mono ?_; rintro e w' ⟨rfl, hw'⟩; rw [hw']; clear hw' w'))
        obtain ⟨r0, r1⟩ : 0 ≤ r ∧ r ≤ (x.r.n : Int) - 1 := by have := unhide HQ; unfold inB at this; simpa using this
        obtain ⟨k, rfl⟩ := Int.eq_ofNat_of_zero_le r0
        have hkl : k < d.r.length := by have := unhide HRL; omega
        obtain ⟨gr, rc, er⟩ := sl_formP (unhide O1).r (by omega)
        have glt := own_rlt (unhide O0) er
        have gne : gr ≠ w1.heap.size := by omega
        clear b0 b1 b2
        generalize hwz : w1.alloc (Obj.cells y.cs 28) = wz at O1 B1 G1 ⊢
        clear hwz
        obtain ⟨o3, g3, gb, gl, cA1, cA2⟩ := own_setR ((unhide O1).later (below_drew (w := wz))) er k (n % 65536) hkl
        have O3 := hide o3
        have B3 := hide (((unhide B1).later below_drew).past g3 (fun b e => by cases e; omega))
        have G3 := hide (row_past (row_lat (unhide G1) below_drew) g3 (by omega))
        have D0 : Hid (wz.drew.cell? ⟨w1.heap.size, 1, none⟩ = some (.slice (some ⟨gr, 0, none⟩) d.r.length rc) ∧ wz.drew.cell? ⟨w.heap.size + 1, 0, none⟩ = some (.int .i64 (k : Int))) := hide ⟨by rw [row_r (row_lat (unhide G1) below_drew), er], ((unhide B1).later below_drew).cr⟩
        have C12 := hide (And.intro cA1 cA2)
        have ER := hide er
        have WR := hide (fun w => wrapS_any n w)
        obtain ⟨q, hq⟩ : ∃ q, n % 65536 = q := ⟨_, rfl⟩
        rw [hq] at O3 B3 G3 WR
        have HQQ := hide hq
        have hki : (k : Int) < (d.r.length : Int) := by omega
        clear hq o3 g3 gb gl cA1 cA2 er O1 G1 B1 O0 HQ c1 I glt gne
        refine wp_region_held_drew (S := fun v => v.cell? ⟨w1.heap.size, 1, none⟩ = some (.slice (some ⟨gr, 0, none⟩) d.r.length rc) ∧ v.cell? ⟨w.heap.size + 1, 0, none⟩ = some (.int .i64 (k : Int))) (by kernel_rfl) (unhide D0) (fun hS => ?_)
        have HS := hide hS
        clear hS
        refine wpAnyH_take (i := 0) (v := .pointer (some ⟨w1.heap.size, 1, none⟩)) rfl (by kernel_rfl) (by kernel_rfl) (by kernel_rfl) (fun _ _ _ h => h) (Or.inl ⟨by rfl, fun w hc => ?_⟩) (unhide HS) ?_
        · clear hc; go_simp
        go_simp
        refine wpAnyH_take (i := 1) (v := .slice (some ⟨gr, 0, none⟩) d.r.length rc) rfl (by kernel_rfl) (by kernel_rfl) (by kernel_rfl) (fun _ _ _ h => h) (Or.inl ⟨by rfl, fun w hc => ?_⟩) (unhide HS) ?_
        · have h1 := hc.1; clear hc; go_simp
        go_simp
        refine wpAnyH_take (i := 2) (v := .pointer (some ⟨w.heap.size + 1, 0, none⟩)) rfl (by kernel_rfl) (by kernel_rfl) (by kernel_rfl) (fun _ _ _ h => h) (Or.inl ⟨by rfl, fun w hc => ?_⟩) (unhide HS) ?_
        · clear hc; go_simp
        go_simp
        refine wpAnyH_take (i := 3) (v := .int .i64 (k : Int)) rfl (by kernel_rfl) (by kernel_rfl) (by kernel_rfl) (fun _ _ _ h => h) (Or.inl ⟨by rfl, fun w hc => ?_⟩) (unhide HS) ?_
        · have h1 := hc.2; clear hc; go_simp
        go_simp
        refine wpAnyH_take (i := 4) (v := .int .i64 n) rfl (by kernel_rfl) (by kernel_rfl) (by kernel_rfl) (fun _ _ _ h => h) (Or.inl ⟨by rfl, fun w hc => ?_⟩) (unhide HS) ?_
        · clear hc; go_simp
        go_simp
        refine wpAnyH_ready (rs := [5]) (by kernel_rfl) (by simp) ?_
        refine AllReadyH.cons rfl (fun K2 hK => ?_) AllReadyH.nil
        go_simp
        refine (unhide WR _).mono ?_
        rintro e w' ⟨rfl, hw'⟩
        rw [hw']
        clear hw' w'
        refine hK.out _ _ (unhide D0) (fun hS => ?_)
        clear HS
        have HS := hide hS
        clear hS hK K2
        refine wpAnyH_take (i := 6) (v := .pointer (some ⟨gr, k, none⟩)) rfl (by kernel_rfl) (by kernel_rfl) (by kernel_rfl) (fun _ _ _ h => h) (Or.inl ⟨by rfl, fun w hc => ?_⟩) (unhide HS) ?_
        · clear hc; go_simp
        go_simp
        refine wpAnyH_ready (rs := [7]) (by kernel_rfl) (by simp) ?_
        refine AllReadyH.cons rfl (fun K2 hK => ?_) AllReadyH.nil
        obtain ⟨cA1, cA2⟩ := unhide C12
        go_simp
        refine hK.out _ _ (⟨(row_r (unhide G3)).trans (by rw [unhide ER]), (unhide B3).cr⟩) (fun hS => ?_)
        clear HS
        have HS := hide hS
        clear hS hK K2
        refine wpAnyH_done (by kernel_rfl) ?_ _
        go_wp2_with (first | (refine wpList_load_row rfl 28 _ rfl w1.heap.size rfl 28 y.cs (0, 0) _ (unhide G3) Try.underlying28 rfl (by kernel_rfl) ?_) | (refine wpList_store_row rfl 28 _ _ rfl (w.heap.size + 1 + 1) y.cs rfl rfl 28 zMv.cs (unhide B3).re (by kernel_rfl) rfl (Mv.cs_one _) ?_))
        refine bodyPost_ret (results_row2 (P := Try.prog) rfl _ _ (w.heap.size + 1 + 1) 28 y.cs (0, 0) _ rfl (setRow_heap _ _ _ _ 28 _ (unhide B3).re) Try.underlying28 rfl (by kernel_rfl)) rfl ?_
        refine ⟨y, rfl, unhide FY, ?_, below_setRow (unhide B3).bel (by omega) _⟩
        show OwnM _ _ _ ⟨d.m, d.r.set ((k : Int)).toNat (n % 65536), d.i, d.o⟩
        rw [show ((k : Int)).toNat = k by omega, unhide HQQ]
        exact ((unhide O3).row (by omega) _).base (by omega)
      · have ha : ¬ a = -1 := by simpa using unhide HBB
        go_wp2_with (first | (refine wpList_store_new rfl 28 _ _ rfl y.cs rfl rfl _ (by kernel_rfl) rfl (Mv.cs_one _) ?_) | (go_at_call 59; refine (unhide I _).mono ?_; rintro e w' ⟨rfl, hw'⟩; rw [hw']; clear hw' w') | (refine wpList_load_row rfl 28 _ rfl w1.heap.size rfl 28 y.cs (0, 0) _ (unhide G1) Try.underlying28 rfl (by kernel_rfl) ?_) | (refine wpList_store_row rfl 28 _ _ rfl (w.heap.size + 1 + 1) y.cs rfl rfl 28 zMv.cs (unhide B1).re (by kernel_rfl) rfl (Mv.cs_one _) ?_))
        refine bodyPost_ret (results_row2 (P := Try.prog) rfl _ _ (w.heap.size + 1 + 1) 28 y.cs (0, 0) _ rfl (setRow_heap _ _ _ _ 28 _ (unhide B1).re) Try.underlying28 rfl (by kernel_rfl)) rfl ?_
        exact ⟨y, rfl, unhide FY, ((unhide O1).row (by omega) _).base (by omega), below_setRow (unhide B1).bel (by omega) _⟩
end Go.Proofs.Ytfkmibgamkignaa

namespace Go.Proofs.Ytfkmibgamkignaa
open Go.ChangeShapes Go.WideShapes Go.ChangeAt Go.RowKit
set_option linter.unusedVariables false
set_option maxRecDepth 8000
set_option linter.unusedSimpArgs false

/-- A register set. -/
def Md.reg (d : Md) (k : Nat) (v : Int) : Md := ⟨d.m, d.r.set k v, d.i, d.o⟩
/-- Behind a fetch. -/
def Md.fet (d : Md) : Md := if d.has (nAt d.r 7) = true then d.reg 7 ((nAt d.r 7 + 2) % 65536) else d

/-- A machine at a pointer: its row, and that it is owned; the block of its registers. -/
structure Pm (w : World) (g B gr rc : Nat) (x : Mv) (d : Md) : Prop where
  row : w.heap[g]? = some (.cells x.cs 28 (0, 0))
  own : OwnM w B x d
  er : x.r = ⟨some ⟨gr, 0, none⟩, d.r.length, rc⟩
  ne : gr ≠ g
section
variable {w w' : World} {g B gr rc : Nat} {x : Mv} {d : Md}
theorem Pm.later (h : Pm w g B gr rc x d) (hb : Below w.heap.size w w') : Pm w' g B gr rc x d := ⟨row_lat h.row hb, h.own.later hb, h.er, h.ne⟩
theorem Pm.set (h : Pm w g B gr rc x d) (k : Nat) (v : Int) (hk : k < d.r.length) : Pm (w.setCell ⟨gr, k, none⟩ (.int .i64 v)) g B gr rc x (d.reg k v) ∧ w.grownBy (w.setCell ⟨gr, k, none⟩ (.int .i64 v)) (some gr) ∧ w.cell? ⟨gr, k, none⟩ = some (.int .i64 (nAt d.r k)) ∧ w.frozen? ⟨gr, k, none⟩ = false := by
  obtain ⟨o3, g3, _, _, c1, c2⟩ := own_setR h.own h.er k v hk
  exact ⟨⟨row_past h.row g3 h.ne, o3, by rw [h.er]; unfold Md.reg; simp, h.ne⟩, g3, c1, c2⟩
theorem Pm.cell (h : Pm w g B gr rc x d) (k : Nat) (hk : k < d.r.length) : w.cell? ⟨gr, k, none⟩ = some (.int .i64 (nAt d.r k)) := (h.set k 0 hk).2.2.1
theorem Pm.r (h : Pm w g B gr rc x d) : w.cell? ⟨g, 1, none⟩ = some (.slice (some ⟨gr, 0, none⟩) d.r.length rc) := by rw [row_r h.row, h.er]
end

set_option maxHeartbeats 4000000 in
theorem fetchS_any (g B gr rc : Nat) (x : Mv) (d : Md) (w : World) (hs : x.small) (P : Pm w g B gr rc x d) (h8 : d.r.length = 8) (w0 : 0 ≤ nAt d.r 7) (w1 : nAt d.r 7 ≤ 65535) :
    Calls Try.prog 98 #[.pointer (some ⟨g, 0, none⟩)] w fun e w' => e = .returned (.tuple #[.int .i64 (d.get (nAt d.r 7)), .bool (d.has (nAt d.r 7))]) ∧ Pm w' g B gr rc x d.fet ∧ w.grownBy w' (some gr) := by
  have PM := hide P
  have R := hide (fun w (h : RdM w x d) => readS_any x d (nAt d.r 7) w hs h)
  have H8 := hide h8
  obtain ⟨v7, hv7⟩ : ∃ v, nAt d.r 7 = v := ⟨_, rfl⟩
  have HV := hide hv7
  unfold Md.fet
  rw [hv7] at w0 w1 R ⊢
  have CC := hide (fun v (h : Pm v g B gr rc x d) => (show v.cell? ⟨g, 1, none⟩ = some (.slice (some ⟨gr, 0, none⟩) 8 rc) ∧ v.cell? ⟨gr, 7, none⟩ = some (.int .i64 v7) by rw [h.r, h.cell 7 (by omega), hv7, h8]; exact ⟨rfl, rfl⟩))
  obtain ⟨q, hq⟩ : ∃ q, d.has v7 = q := ⟨_, rfl⟩
  obtain ⟨u, hu⟩ : ∃ u, d.get v7 = u := ⟨_, rfl⟩
  have hu0 : q = false → u = 0 := fun e => by rw [← hu]; unfold Md.get; rw [hq, e]; rfl
  have HU0 := hide hu0
  rw [hq, hu] at R
  rw [hq, hu]
  clear P hs h8 hv7 hq hu hu0
  go_enter Try.func98, Try.ntmps98
  go_wp2_with fail
  refine wp_region_held_drew (S := fun v => Pm v g B gr rc x d) (by kernel_rfl) ((unhide PM).later below_drew) (fun hS => ?_)
  have HS := hide hS
  clear hS
  refine wpAnyH_take (i := 0) (v := .pointer (some ⟨g, 0, none⟩)) rfl (by kernel_rfl) (by kernel_rfl) (by kernel_rfl) (fun _ _ _ h => h) (Or.inl ⟨by rfl, fun w hc => ?_⟩) (unhide HS) ?_
  · clear hc; go_simp
  go_simp
  refine wpAnyH_take (i := 1) (v := .pointer (some ⟨g, 0, none⟩)) rfl (by kernel_rfl) (by kernel_rfl) (by kernel_rfl) (fun _ _ _ h => h) (Or.inl ⟨by rfl, fun w hc => ?_⟩) (unhide HS) ?_
  · clear hc; go_simp
  go_simp
  refine wpAnyH_take (i := 2) (v := .agg x.cs) rfl (by kernel_rfl) (by kernel_rfl) (by kernel_rfl) (fun _ _ _ h => h) (yields_load rfl 28 _ rfl g rfl 28 x.cs _ (fun w h => h.row) Try.underlying28 rfl (by kernel_rfl)) (unhide HS) ?_
  go_simp
  refine wpAnyH_take (i := 3) (v := .pointer (some ⟨g, 0, none⟩)) rfl (by kernel_rfl) (by kernel_rfl) (by kernel_rfl) (fun _ _ _ h => h) (Or.inl ⟨by rfl, fun w hc => ?_⟩) (unhide HS) ?_
  · clear hc; go_simp
  go_simp
  refine wpAnyH_take (i := 4) (v := .pointer (some ⟨g, 0, none⟩)) rfl (by kernel_rfl) (by kernel_rfl) (by kernel_rfl) (fun _ _ _ h => h) (Or.inl ⟨by rfl, fun w hc => ?_⟩) (unhide HS) ?_
  · clear hc; go_simp
  go_simp
  refine wpAnyH_take (i := 5) (v := .pointer (some ⟨g, 1, none⟩)) rfl (by kernel_rfl) (by kernel_rfl) (by kernel_rfl) (fun _ _ _ h => h) (Or.inl ⟨by rfl, fun w hc => ?_⟩) (unhide HS) ?_
  · clear hc; go_simp
  go_simp
  refine wpAnyH_take (i := 6) (v := .slice (some ⟨gr, 0, none⟩) 8 rc) rfl (by kernel_rfl) (by kernel_rfl) (by kernel_rfl) (fun _ _ _ h => h) (Or.inl ⟨by rfl, fun w hc => ?_⟩) (unhide HS) ?_
  · obtain ⟨h1, h2⟩ := unhide CC _ hc; clear hc; go_simp
  go_simp
  refine wpAnyH_take (i := 7) (v := .pointer (some ⟨gr, 7, none⟩)) rfl (by kernel_rfl) (by kernel_rfl) (by kernel_rfl) (fun _ _ _ h => h) (Or.inl ⟨by rfl, fun w hc => ?_⟩) (unhide HS) ?_
  · clear hc; go_simp
  go_simp
  refine wpAnyH_take (i := 8) (v := .int .i64 v7) rfl (by kernel_rfl) (by kernel_rfl) (by kernel_rfl) (fun _ _ _ h => h) (Or.inl ⟨by rfl, fun w hc => ?_⟩) (unhide HS) ?_
  · obtain ⟨h1, h2⟩ := unhide CC _ hc; clear hc; go_simp
  go_simp
  refine wpAnyH_ready (rs := [9]) (by kernel_rfl) (by simp) ?_
  refine AllReadyH.cons rfl (fun K2 hK => ?_) AllReadyH.nil
  go_simp
  refine (unhide R _ (unhide HS).own.rd).mono ?_
  rintro e w2 ⟨rfl, hb⟩
  have GW := hide ((show w.grownBy w.drew (some gr) from ⟨rfl, rfl, rfl, Nat.le_refl _, fun _ _ _ => rfl⟩).trans ⟨hb.os, hb.tape, hb.output, hb.size, fun k hk _ => hb.block k hk⟩)
  refine hK.out _ _ ((unhide HS).later hb) (fun hS => ?_)
  clear HS
  have HS := hide hS
  clear hS hK K2
  clear hb R PM
  refine wpAnyH_take (i := 10) (v := .tuple #[.int .i64 u, .bool q]) rfl (by kernel_rfl) (by kernel_rfl) (by kernel_rfl) (fun _ _ _ h => h) (Or.inl ⟨by rfl, fun w hc => ?_⟩) (unhide HS) ?_
  · clear hc; go_simp
  go_simp
  refine wpAnyH_take (i := 11) (v := .int .i64 u) rfl (by kernel_rfl) (by kernel_rfl) (by kernel_rfl) (fun _ _ _ h => h) (Or.inl ⟨by rfl, fun w hc => ?_⟩) (unhide HS) ?_
  · clear hc; go_simp
  go_simp
  refine wpAnyH_take (i := 12) (v := .bool q) rfl (by kernel_rfl) (by kernel_rfl) (by kernel_rfl) (fun _ _ _ h => h) (Or.inl ⟨by rfl, fun w hc => ?_⟩) (unhide HS) ?_
  · clear hc; go_simp
  go_simp
  refine wpAnyH_take (i := 13) (v := .int .i64 u) rfl (by kernel_rfl) (by kernel_rfl) (by kernel_rfl) (fun _ _ _ h => h) (Or.inl ⟨by rfl, fun w hc => ?_⟩) (unhide HS) ?_
  · clear hc; go_simp
  go_simp
  refine wpAnyH_take (i := 14) (v := .bool q) rfl (by kernel_rfl) (by kernel_rfl) (by kernel_rfl) (fun _ _ _ h => h) (Or.inl ⟨by rfl, fun w hc => ?_⟩) (unhide HS) ?_
  · clear hc; go_simp
  go_simp
  refine wpAnyH_done (by kernel_rfl) ?_ _
  have PM := hide (unhide HS)
  clear HS
  cases q
  · obtain rfl := unhide HU0 (by trivial)
    go_wp2_with fail
    go_ret2
    exact ⟨rfl, unhide PM, unhide GW⟩
  · go_wp2_with fail
    obtain ⟨c1, c2⟩ := unhide CC _ ((unhide PM).later (below_drew (w := w2)))
    obtain ⟨p3, g3, -, c3⟩ := ((unhide PM).later (below_drew (w := w2))).set 7 ((v7 + 2) % 65536) (by have := unhide H8; omega)
    have P3 := hide p3
    have G3 := hide ((unhide GW).trans ((show w2.grownBy w2.drew (some gr) from ⟨rfl, rfl, rfl, Nat.le_refl _, fun _ _ _ => rfl⟩).trans g3))
    have C1 := hide c1
    have C2 := hide (And.intro c2 c3)
    have E3 := hide (show (w2.drew.setCell ⟨gr, 7, none⟩ (.int .i64 ((v7 + 2) % 65536))).cell? ⟨g, 1, none⟩ = some (Value.slice (some ⟨gr, 0, none⟩) 8 rc) by have := p3.r; unfold Md.reg at this; rw [List.length_set, unhide H8] at this; exact this)
    have WR := hide (fun w => wrapS_any (v7 + 2) w)
    have HW := hide (show IntKind.i64.wrap (v7 + 2) = v7 + 2 by rw [IntKind.wrap_i64]; omega)
    obtain ⟨t, ht⟩ : ∃ t, (v7 + 2) % 65536 = t := ⟨_, rfl⟩
    rw [ht] at P3 G3 E3 WR
    have HT := hide ht
    clear ht p3 g3 c1 c2 c3 GW PM CC
    refine wp_region_held_drew (S := fun v => v.cell? ⟨g, 1, none⟩ = some (.slice (some ⟨gr, 0, none⟩) 8 rc)) (by kernel_rfl) (unhide C1) (fun hS => ?_)
    have HS := hide hS
    clear hS
    refine wpAnyH_take (i := 0) (v := .pointer (some ⟨g, 0, none⟩)) rfl (by kernel_rfl) (by kernel_rfl) (by kernel_rfl) (fun _ _ _ h => h) (Or.inl ⟨by rfl, fun w hc => ?_⟩) (unhide HS) ?_
    · clear hc; go_simp
    go_simp
    refine wpAnyH_take (i := 1) (v := .pointer (some ⟨g, 0, none⟩)) rfl (by kernel_rfl) (by kernel_rfl) (by kernel_rfl) (fun _ _ _ h => h) (Or.inl ⟨by rfl, fun w hc => ?_⟩) (unhide HS) ?_
    · clear hc; go_simp
    go_simp
    refine wpAnyH_take (i := 2) (v := .pointer (some ⟨g, 1, none⟩)) rfl (by kernel_rfl) (by kernel_rfl) (by kernel_rfl) (fun _ _ _ h => h) (Or.inl ⟨by rfl, fun w hc => ?_⟩) (unhide HS) ?_
    · clear hc; go_simp
    go_simp
    refine wpAnyH_take (i := 3) (v := .slice (some ⟨gr, 0, none⟩) 8 rc) rfl (by kernel_rfl) (by kernel_rfl) (by kernel_rfl) (fun _ _ _ h => h) (Or.inl ⟨by rfl, fun w hc => ?_⟩) (unhide HS) ?_
    · go_simp
    go_simp
    refine wpAnyH_take (i := 4) (v := .pointer (some ⟨g, 0, none⟩)) rfl (by kernel_rfl) (by kernel_rfl) (by kernel_rfl) (fun _ _ _ h => h) (Or.inl ⟨by rfl, fun w hc => ?_⟩) (unhide HS) ?_
    · clear hc; go_simp
    go_simp
    refine wpAnyH_take (i := 5) (v := .pointer (some ⟨g, 0, none⟩)) rfl (by kernel_rfl) (by kernel_rfl) (by kernel_rfl) (fun _ _ _ h => h) (Or.inl ⟨by rfl, fun w hc => ?_⟩) (unhide HS) ?_
    · clear hc; go_simp
    go_simp
    refine wpAnyH_take (i := 6) (v := .pointer (some ⟨g, 1, none⟩)) rfl (by kernel_rfl) (by kernel_rfl) (by kernel_rfl) (fun _ _ _ h => h) (Or.inl ⟨by rfl, fun w hc => ?_⟩) (unhide HS) ?_
    · clear hc; go_simp
    go_simp
    refine wpAnyH_take (i := 7) (v := .slice (some ⟨gr, 0, none⟩) 8 rc) rfl (by kernel_rfl) (by kernel_rfl) (by kernel_rfl) (fun _ _ _ h => h) (Or.inl ⟨by rfl, fun w hc => ?_⟩) (unhide HS) ?_
    · go_simp
    go_simp
    refine wpAnyH_take (i := 8) (v := .pointer (some ⟨gr, 7, none⟩)) rfl (by kernel_rfl) (by kernel_rfl) (by kernel_rfl) (fun _ _ _ h => h) (Or.inl ⟨by rfl, fun w hc => ?_⟩) (unhide HS) ?_
    · clear hc; go_simp
    go_simp
    refine wpAnyH_ready (rs := [9]) (by kernel_rfl) (by simp) ?_
    refine AllReadyH.cons rfl (fun K2 hK => ?_) AllReadyH.nil
    obtain ⟨c2, c3⟩ := unhide C2
    go_simp
    clear c2 c3
    refine hK.out _ _ (unhide C1) (fun hS => ?_)
    clear HS
    have HS := hide hS
    clear hS hK K2
    refine wpAnyH_take (i := 10) (v := .int .i64 (v7 + 2)) rfl (by kernel_rfl) (by kernel_rfl) (by kernel_rfl) (fun _ _ _ h => h) (Or.inl ⟨by rfl, fun w hc => ?_⟩) (unhide HS) ?_
    · clear hc; have hw := unhide HW; go_simp
    go_simp
    refine wpAnyH_ready (rs := [11]) (by kernel_rfl) (by simp) ?_
    refine AllReadyH.cons rfl (fun K2 hK => ?_) AllReadyH.nil
    go_simp
    refine (unhide WR _).mono ?_
    rintro e w' ⟨rfl, hw'⟩
    rw [hw']
    clear hw' w'
    refine hK.out _ _ (unhide C1) (fun hS => ?_)
    clear HS
    have HS := hide hS
    clear hS hK K2
    refine wpAnyH_take (i := 12) (v := .pointer (some ⟨gr, 7, none⟩)) rfl (by kernel_rfl) (by kernel_rfl) (by kernel_rfl) (fun _ _ _ h => h) (Or.inl ⟨by rfl, fun w hc => ?_⟩) (unhide HS) ?_
    · clear hc; go_simp
    go_simp
    refine wpAnyH_ready (rs := [13]) (by kernel_rfl) (by simp) ?_
    refine AllReadyH.cons rfl (fun K2 hK => ?_) AllReadyH.nil
    obtain ⟨c2, c3⟩ := unhide C2
    go_simp
    clear c2 c3
    refine hK.out _ _ (unhide E3) (fun hS => ?_)
    clear HS
    have HS := hide hS
    clear hS hK K2
    refine wpAnyH_done (by kernel_rfl) ?_ _
    clear HS
    go_wp2_with fail
    go_ret2
    refine ⟨rfl, ?_, unhide G3⟩
    show Pm _ _ _ _ _ _ (d.reg 7 ((v7 + 2) % 65536))
    rw [unhide HT]
    exact unhide P3
end Go.Proofs.Ytfkmibgamkignaa
