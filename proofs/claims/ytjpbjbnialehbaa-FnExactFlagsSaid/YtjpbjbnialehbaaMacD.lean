/- Is a machine right: the model's answer and the program's, over this seat's translation; conditions stand as hypotheses of each. -/
import Derived.Test.YtjpbjbnialehbaaMacC
namespace Go.Proofs.Ytjpbjbnialehbaa
open Go.ChangeShapes Go.WideShapes Go.ChangeAt Go.RowKit
set_option linter.unusedVariables false
set_option maxRecDepth 8000
set_option linter.unusedSimpArgs false

/-- Is the machine right? -/
def Md.ok (d : Md) (st : Int) : Bool :=
  ((d.m.length : Int) == 256) && (wdB d.m && (((d.r.length : Int) == 8) && (wdB d.r && (decide ((d.i.length : Int) ≤ 50) && (wdB d.i && (decide ((d.o.length : Int) ≤ 50) && (wdB d.o && inB st 0 2)))))))
theorem box_row (w : World) (x : Mv) (t : TypeId) : (w.alloc (.cells x.cs t)).heap[w.heap.size]? = some (.cells x.cs t (0, 0)) := heap_alloc_last w _

set_option maxHeartbeats 4000000 in
theorem okS_any (x : Mv) (d : Md) (w : World) (hs : x.small) (hx : RdM w x d) : Calls Try.prog 26 #[.agg x.cs] w fun e w' => e = .returned (.bool (d.ok x.st)) ∧ Below w.heap.size w w' := by
  have HB := hide ((Below.refl w.heap.size w).alloc (Nat.le_refl _) (.cells x.cs 38))
  have X := hide (hx.later (unhide HB))
  have W2 := hide (wordsS_any x.m.a x.m.n x.m.c d.m _ hx.ml (by have := hs.1; omega) (unhide X).m)
  have W4 := hide (wordsS_any x.r.a x.r.n x.r.c d.r _ hx.rl (by have := hs.2.1; omega) (unhide X).r)
  have W6 := hide (wordsS_any x.i.a x.i.n x.i.c d.i _ hx.il (by have := hs.2.2.1; omega) (unhide X).i)
  have W8 := hide (wordsS_any x.o.a x.o.n x.o.c d.o _ hx.ol (by have := hs.2.2.2; omega) (unhide X).o)
  have W9 := hide (fun w => in_any x.st 0 2 w)
  have c0 : x.cs[0]? = some (.slice x.m.a x.m.n x.m.c) := rfl
  have c1 : x.cs[1]? = some (.slice x.r.a x.r.n x.r.c) := rfl
  have c6 : x.cs[6]? = some (.slice x.i.a x.i.n x.i.c) := rfl
  have c7 : x.cs[7]? = some (.slice x.o.a x.o.n x.o.c) := rfl
  have c8 : x.cs[8]? = some (.int .i64 x.st) := rfl
  unfold Md.ok
  rw [hx.ml, hx.rl, hx.il, hx.ol]
  clear hx hs X
  generalize wdB d.m = b2 at W2 ⊢
  generalize wdB d.r = b4 at W4 ⊢
  generalize wdB d.i = b6 at W6 ⊢
  generalize wdB d.o = b8 at W8 ⊢
  generalize inB x.st 0 2 = b9 at W9 ⊢
  cases h1 : ((x.m.n : Int) == 256)
  · go_enter Try.func26, Try.ntmps26
    go_wp2
    go_ret
    exact ⟨rfl, unhide HB⟩
  cases b2
  · go_enter Try.func26, Try.ntmps26
    go_wp2_with (first | (go_at_call_of 52 (Value.slice x.m.a x.m.n x.m.c); refine (unhide W2).mono ?_; rintro e w' ⟨rfl, rfl⟩))
    go_ret
    exact ⟨rfl, unhide HB⟩
  cases h3 : ((x.r.n : Int) == 8)
  · go_enter Try.func26, Try.ntmps26
    go_wp2_with (first | (go_at_call_of 52 (Value.slice x.m.a x.m.n x.m.c); refine (unhide W2).mono ?_; rintro e w' ⟨rfl, rfl⟩))
    go_ret
    exact ⟨rfl, unhide HB⟩
  cases b4
  · go_enter Try.func26, Try.ntmps26
    go_wp2_with (first | (go_at_call_of 52 (Value.slice x.m.a x.m.n x.m.c); refine (unhide W2).mono ?_; rintro e w' ⟨rfl, rfl⟩) | (go_at_call_of 52 (Value.slice x.r.a x.r.n x.r.c); refine (unhide W4).mono ?_; rintro e w' ⟨rfl, rfl⟩))
    go_ret
    exact ⟨rfl, unhide HB⟩
  cases h5 : decide ((x.i.n : Int) ≤ 50)
  · go_enter Try.func26, Try.ntmps26
    go_wp2_with (first | (go_at_call_of 52 (Value.slice x.m.a x.m.n x.m.c); refine (unhide W2).mono ?_; rintro e w' ⟨rfl, rfl⟩) | (go_at_call_of 52 (Value.slice x.r.a x.r.n x.r.c); refine (unhide W4).mono ?_; rintro e w' ⟨rfl, rfl⟩))
    go_ret
    exact ⟨rfl, unhide HB⟩
  cases b6
  · go_enter Try.func26, Try.ntmps26
    go_wp2_with (first | (go_at_call_of 52 (Value.slice x.m.a x.m.n x.m.c); refine (unhide W2).mono ?_; rintro e w' ⟨rfl, rfl⟩) | (go_at_call_of 52 (Value.slice x.r.a x.r.n x.r.c); refine (unhide W4).mono ?_; rintro e w' ⟨rfl, rfl⟩) | (go_at_call_of 52 (Value.slice x.i.a x.i.n x.i.c); refine (unhide W6).mono ?_; rintro e w' ⟨rfl, rfl⟩))
    go_ret
    exact ⟨rfl, unhide HB⟩
  cases h7 : decide ((x.o.n : Int) ≤ 50)
  · go_enter Try.func26, Try.ntmps26
    go_wp2_with (first | (go_at_call_of 52 (Value.slice x.m.a x.m.n x.m.c); refine (unhide W2).mono ?_; rintro e w' ⟨rfl, rfl⟩) | (go_at_call_of 52 (Value.slice x.r.a x.r.n x.r.c); refine (unhide W4).mono ?_; rintro e w' ⟨rfl, rfl⟩) | (go_at_call_of 52 (Value.slice x.i.a x.i.n x.i.c); refine (unhide W6).mono ?_; rintro e w' ⟨rfl, rfl⟩))
    go_ret
    exact ⟨rfl, unhide HB⟩
  cases b8
  · go_enter Try.func26, Try.ntmps26
    go_wp2_with (first | (go_at_call_of 52 (Value.slice x.m.a x.m.n x.m.c); refine (unhide W2).mono ?_; rintro e w' ⟨rfl, rfl⟩) | (go_at_call_of 52 (Value.slice x.r.a x.r.n x.r.c); refine (unhide W4).mono ?_; rintro e w' ⟨rfl, rfl⟩) | (go_at_call_of 52 (Value.slice x.i.a x.i.n x.i.c); refine (unhide W6).mono ?_; rintro e w' ⟨rfl, rfl⟩) | (go_at_call_of 52 (Value.slice x.o.a x.o.n x.o.c); refine (unhide W8).mono ?_; rintro e w' ⟨rfl, rfl⟩))
    go_ret
    exact ⟨rfl, unhide HB⟩
  cases b9
  · go_enter Try.func26, Try.ntmps26
    go_wp2_with (first | (go_at_call_of 52 (Value.slice x.m.a x.m.n x.m.c); refine (unhide W2).mono ?_; rintro e w' ⟨rfl, rfl⟩) | (go_at_call_of 52 (Value.slice x.r.a x.r.n x.r.c); refine (unhide W4).mono ?_; rintro e w' ⟨rfl, rfl⟩) | (go_at_call_of 52 (Value.slice x.i.a x.i.n x.i.c); refine (unhide W6).mono ?_; rintro e w' ⟨rfl, rfl⟩) | (go_at_call_of 52 (Value.slice x.o.a x.o.n x.o.c); refine (unhide W8).mono ?_; rintro e w' ⟨rfl, rfl⟩) | (go_at_call 46; refine (unhide W9 _).mono ?_; rintro e w' ⟨rfl, rfl⟩))
    go_ret
    exact ⟨rfl, unhide HB⟩
  go_enter Try.func26, Try.ntmps26
  go_wp2_with (first | (go_at_call_of 52 (Value.slice x.m.a x.m.n x.m.c); refine (unhide W2).mono ?_; rintro e w' ⟨rfl, rfl⟩) | (go_at_call_of 52 (Value.slice x.r.a x.r.n x.r.c); refine (unhide W4).mono ?_; rintro e w' ⟨rfl, rfl⟩) | (go_at_call_of 52 (Value.slice x.i.a x.i.n x.i.c); refine (unhide W6).mono ?_; rintro e w' ⟨rfl, rfl⟩) | (go_at_call_of 52 (Value.slice x.o.a x.o.n x.o.c); refine (unhide W8).mono ?_; rintro e w' ⟨rfl, rfl⟩) | (go_at_call 46; refine (unhide W9 _).mono ?_; rintro e w' ⟨rfl, rfl⟩))
  go_ret
  exact ⟨rfl, unhide HB⟩
end Go.Proofs.Ytjpbjbnialehbaa
