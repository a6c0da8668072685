/- A new machine, by the model; over this seat's translation; conditions stand as hypotheses of each. -/
import Derived.Test.YtfkmibgamkignaaLawB
import Derived.Test.YtfkmibgamkignaaInv
namespace Go.Proofs.Ytfkmibgamkignaa
open Go.ChangeShapes Go.WideShapes Go.ChangeAt Go.RowKit
set_option linter.unusedVariables false
set_option maxRecDepth 8000
set_option linter.unusedSimpArgs false

/-- Can a machine be made of this? -/
def newB (im : List Int) (a st : Int) (ins : List Int) : Bool :=
  inB a 0 510 && ((a % 2 == 0) && (decide ((im.length : Int) ≤ 256 - a / 2) && (wdB im && (inB st 0 65535 && (decide ((ins.length : Int) ≤ 50) && wdB ins)))))
/-- Numbers laid over a list from a place on. -/
def over (ns : List Int) (k : Nat) (im : List Int) : List Int := ns.take k ++ (im ++ ns.drop (k + im.length))
def newR (st : Int) : List Int := [0, 0, 0, 0, 0, 0, 512, st]
/-- What a new machine holds. -/
def newD (im : List Int) (a st : Int) (ins : List Int) : Md := if newB im a st ins = true then ⟨over z256 (a / 2).toNat im, newR st, ins, []⟩ else ⟨[], [], [], []⟩
theorem ap_none (s t : Sl) (h : s.a = none) : Ap s t := fun g e _ => by unfold Sl.v at e; rw [h] at e; simp [Value.ownBlock] at e
theorem own_zero (w : World) (B : Nat) : OwnM w B zMv ⟨[], [], [], []⟩ :=
  ⟨ownN_none _ _, ownN_none _ _, ownN_none _ _, ownN_none _ _, ap_none _ _ rfl, ap_none _ _ rfl, ap_none _ _ rfl, ap_none _ _ rfl, ap_none _ _ rfl, ap_none _ _ rfl⟩
theorem inB_t (x a b : Int) (h : a ≤ x ∧ x ≤ b) : inB x a b = true := by simp [inB, h]
theorem inB_b {x a b : Int} (h : inB x a b = true) : a ≤ x ∧ x ≤ b := by unfold inB at h; simpa using h

set_option maxHeartbeats 4000000 in
theorem newS_no (im ins : Sl) (ni nn : List Int) (a st : Int) (w : World) (hi : RdN w im.a ni) (hn : RdN w ins.a nn) (li : ni.length = im.n) (ln : nn.length = ins.n) (si : im.n ≤ 1048576) (sn : ins.n ≤ 1048576) (hb : newB ni a st nn = false) :
    Calls Try.prog 19 #[.slice im.a im.n im.c, .int .i64 a, .int .i64 st, .slice ins.a ins.n ins.c] w fun e w' => e = .returned (.agg zMv.cs) ∧ Below w.heap.size w w' := by
  have HB := hide (below_new w (.cells #[Value.slice none 0 0, Value.slice none 0 0, Value.bool false, Value.bool false, Value.bool false, Value.bool false, Value.slice none 0 0, Value.slice none 0 0, Value.int .i64 0] 28))
  have HB2 := hide (below_new w (.cells zMv.cs 28))
  have W0 := hide (wordsS_any im.a im.n im.c ni _ li (by omega) (hi.later (unhide HB)))
  have W1 := hide (wordsS_any ins.a ins.n ins.c nn _ ln (by omega) (hn.later (unhide HB)))
  have I0 := hide (fun w => in_any a 0 510 w)
  have I1 := hide (fun w => in_any st 0 65535 w)
  unfold newB at hb
  rw [li, ln] at hb
  clear hi hn
  have IB := hide (inB_b (x := a) (a := 0) (b := 510))
  generalize wdB ni = b2 at W0 hb
  generalize wdB nn = b4 at W1 hb
  generalize inB a 0 510 = b0 at I0 hb IB
  generalize inB st 0 65535 = b3 at I1 hb
  cases b0
  · clear hb
    go_enter Try.func19, Try.ntmps19
    go_wp2_with (first | (go_at_call_of 59 (Value.int IntKind.i64 a); refine (unhide I0 _).mono ?_; rintro e w' ⟨rfl, rfl⟩) | (go_at_call_of 59 (Value.int IntKind.i64 st); refine (unhide I1 _).mono ?_; rintro e w' ⟨rfl, rfl⟩) | (go_at_call_of 60 (Value.slice im.a im.n im.c); refine (unhide W0).mono ?_; rintro e w' ⟨rfl, rfl⟩) | (go_at_call_of 60 (Value.slice ins.a ins.n ins.c); refine (unhide W1).mono ?_; rintro e w' ⟨rfl, rfl⟩) | (refine wpList_store_new rfl 28 _ _ rfl zMv.cs rfl rfl _ (by kernel_rfl) rfl (Mv.cs_one _) ?_))
    refine bodyPost_ret (results_cell_row (P := Try.prog) rfl _ _ w.heap.size 28 zMv.cs (0, 0) _ rfl (heap_alloc_last w _) Try.underlying28 rfl (by kernel_rfl)) rfl ?_
    exact ⟨rfl, unhide HB2⟩
  obtain ⟨a0, a1⟩ := unhide IB (by trivial)
  clear IB
  by_cases h1 : a % 2 = 0
  rotate_left
  · have g1 : 0 < a % 2 := by omega
    clear hb h1
    go_enter Try.func19, Try.ntmps19
    go_wp2_with (first | (go_at_call_of 59 (Value.int IntKind.i64 a); refine (unhide I0 _).mono ?_; rintro e w' ⟨rfl, rfl⟩) | (go_at_call_of 59 (Value.int IntKind.i64 st); refine (unhide I1 _).mono ?_; rintro e w' ⟨rfl, rfl⟩) | (go_at_call_of 60 (Value.slice im.a im.n im.c); refine (unhide W0).mono ?_; rintro e w' ⟨rfl, rfl⟩) | (go_at_call_of 60 (Value.slice ins.a ins.n ins.c); refine (unhide W1).mono ?_; rintro e w' ⟨rfl, rfl⟩) | (refine wpList_store_new rfl 28 _ _ rfl zMv.cs rfl rfl _ (by kernel_rfl) rfl (Mv.cs_one _) ?_))
    refine bodyPost_ret (results_cell_row (P := Try.prog) rfl _ _ w.heap.size 28 zMv.cs (0, 0) _ rfl (heap_alloc_last w _) Try.underlying28 rfl (by kernel_rfl)) rfl ?_
    exact ⟨rfl, unhide HB2⟩
  have e1 : (a % 2 == 0) = true := by simpa using h1
  have g1 : a % 2 ≤ 0 := by omega
  rw [e1] at hb
  clear e1
  have g0 : 0 ≤ a % 2 := by omega
  clear h1
  by_cases h2 : (im.n : Int) ≤ 256 - a / 2
  rotate_left
  · clear hb
    go_enter Try.func19, Try.ntmps19
    go_wp2_with (first | (go_at_call_of 59 (Value.int IntKind.i64 a); refine (unhide I0 _).mono ?_; rintro e w' ⟨rfl, rfl⟩) | (go_at_call_of 59 (Value.int IntKind.i64 st); refine (unhide I1 _).mono ?_; rintro e w' ⟨rfl, rfl⟩) | (go_at_call_of 60 (Value.slice im.a im.n im.c); refine (unhide W0).mono ?_; rintro e w' ⟨rfl, rfl⟩) | (go_at_call_of 60 (Value.slice ins.a ins.n ins.c); refine (unhide W1).mono ?_; rintro e w' ⟨rfl, rfl⟩) | (refine wpList_store_new rfl 28 _ _ rfl zMv.cs rfl rfl _ (by kernel_rfl) rfl (Mv.cs_one _) ?_))
    refine bodyPost_ret (results_cell_row (P := Try.prog) rfl _ _ w.heap.size 28 zMv.cs (0, 0) _ rfl (heap_alloc_last w _) Try.underlying28 rfl (by kernel_rfl)) rfl ?_
    exact ⟨rfl, unhide HB2⟩
  rw [decide_eq_true h2] at hb
  cases b2
  · clear hb
    go_enter Try.func19, Try.ntmps19
    go_wp2_with (first | (go_at_call_of 59 (Value.int IntKind.i64 a); refine (unhide I0 _).mono ?_; rintro e w' ⟨rfl, rfl⟩) | (go_at_call_of 59 (Value.int IntKind.i64 st); refine (unhide I1 _).mono ?_; rintro e w' ⟨rfl, rfl⟩) | (go_at_call_of 60 (Value.slice im.a im.n im.c); refine (unhide W0).mono ?_; rintro e w' ⟨rfl, rfl⟩) | (go_at_call_of 60 (Value.slice ins.a ins.n ins.c); refine (unhide W1).mono ?_; rintro e w' ⟨rfl, rfl⟩) | (refine wpList_store_new rfl 28 _ _ rfl zMv.cs rfl rfl _ (by kernel_rfl) rfl (Mv.cs_one _) ?_))
    refine bodyPost_ret (results_cell_row (P := Try.prog) rfl _ _ w.heap.size 28 zMv.cs (0, 0) _ rfl (heap_alloc_last w _) Try.underlying28 rfl (by kernel_rfl)) rfl ?_
    exact ⟨rfl, unhide HB2⟩
  cases b3
  · clear hb
    go_enter Try.func19, Try.ntmps19
    go_wp2_with (first | (go_at_call_of 59 (Value.int IntKind.i64 a); refine (unhide I0 _).mono ?_; rintro e w' ⟨rfl, rfl⟩) | (go_at_call_of 59 (Value.int IntKind.i64 st); refine (unhide I1 _).mono ?_; rintro e w' ⟨rfl, rfl⟩) | (go_at_call_of 60 (Value.slice im.a im.n im.c); refine (unhide W0).mono ?_; rintro e w' ⟨rfl, rfl⟩) | (go_at_call_of 60 (Value.slice ins.a ins.n ins.c); refine (unhide W1).mono ?_; rintro e w' ⟨rfl, rfl⟩) | (refine wpList_store_new rfl 28 _ _ rfl zMv.cs rfl rfl _ (by kernel_rfl) rfl (Mv.cs_one _) ?_))
    refine bodyPost_ret (results_cell_row (P := Try.prog) rfl _ _ w.heap.size 28 zMv.cs (0, 0) _ rfl (heap_alloc_last w _) Try.underlying28 rfl (by kernel_rfl)) rfl ?_
    exact ⟨rfl, unhide HB2⟩
  by_cases h4 : (ins.n : Int) ≤ 50
  rotate_left
  · clear hb
    go_enter Try.func19, Try.ntmps19
    go_wp2_with (first | (go_at_call_of 59 (Value.int IntKind.i64 a); refine (unhide I0 _).mono ?_; rintro e w' ⟨rfl, rfl⟩) | (go_at_call_of 59 (Value.int IntKind.i64 st); refine (unhide I1 _).mono ?_; rintro e w' ⟨rfl, rfl⟩) | (go_at_call_of 60 (Value.slice im.a im.n im.c); refine (unhide W0).mono ?_; rintro e w' ⟨rfl, rfl⟩) | (go_at_call_of 60 (Value.slice ins.a ins.n ins.c); refine (unhide W1).mono ?_; rintro e w' ⟨rfl, rfl⟩) | (refine wpList_store_new rfl 28 _ _ rfl zMv.cs rfl rfl _ (by kernel_rfl) rfl (Mv.cs_one _) ?_))
    refine bodyPost_ret (results_cell_row (P := Try.prog) rfl _ _ w.heap.size 28 zMv.cs (0, 0) _ rfl (heap_alloc_last w _) Try.underlying28 rfl (by kernel_rfl)) rfl ?_
    exact ⟨rfl, unhide HB2⟩
  rw [decide_eq_true h4] at hb
  cases b4
  · clear hb
    go_enter Try.func19, Try.ntmps19
    go_wp2_with (first | (go_at_call_of 59 (Value.int IntKind.i64 a); refine (unhide I0 _).mono ?_; rintro e w' ⟨rfl, rfl⟩) | (go_at_call_of 59 (Value.int IntKind.i64 st); refine (unhide I1 _).mono ?_; rintro e w' ⟨rfl, rfl⟩) | (go_at_call_of 60 (Value.slice im.a im.n im.c); refine (unhide W0).mono ?_; rintro e w' ⟨rfl, rfl⟩) | (go_at_call_of 60 (Value.slice ins.a ins.n ins.c); refine (unhide W1).mono ?_; rintro e w' ⟨rfl, rfl⟩) | (refine wpList_store_new rfl 28 _ _ rfl zMv.cs rfl rfl _ (by kernel_rfl) rfl (Mv.cs_one _) ?_))
    refine bodyPost_ret (results_cell_row (P := Try.prog) rfl _ _ w.heap.size 28 zMv.cs (0, 0) _ rfl (heap_alloc_last w _) Try.underlying28 rfl (by kernel_rfl)) rfl ?_
    exact ⟨rfl, unhide HB2⟩
  simp at hb
end Go.Proofs.Ytfkmibgamkignaa
