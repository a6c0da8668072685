/- What an address of the program's machine leads to; over this seat's translation; conditions stand as hypotheses of each. -/
import Derived.Test.YtfkmibgamkignaaPrgD
namespace Go.Proofs.Ytfkmibgamkignaa
open Go.ChangeShapes Go.WideShapes Go.ChangeAt Go.RowKit
set_option linter.unusedVariables false
set_option maxRecDepth 8000
set_option linter.unusedSimpArgs false

theorem reach_ad (g B gr rc : Nat) (a : Int) (y : Mv) (d : Md) (w : World) (P : Pg w g B gr rc y d) (hs : y.small) :
    Calls Try.prog 73 #[.pointer (some ⟨g, 0, none⟩), .agg #[.int .i64 (-1), .int .i64 a]] w fun e w' => e = .returned (.pointer (if d.has a = true then some ⟨g, (a / 2).toNat, none⟩ else none)) ∧ Below w.heap.size w w' := by
  have h := reach_any g gr rc (-1) a d.m y d w P.len P.row P.own.rd.ml P.own.rd.rl hs (fun _ => P.er)
  unfold rchI at h
  have e1 : regB d.r.length (-1) = false := by unfold regB; simp
  rw [e1, if_neg (by simp)] at h
  simpa using h

/-- While a place is answered: its box. -/
structure Rz (w wr : World) : Prop where
  re : wr.heap[w.heap.size]? = some (.cells #[.int .i64 0, .int .i64 0] 44 (0, 0))
  bel : Below w.heap.size w wr
theorem rz_new (w : World) : Rz w (w.alloc (.cells #[.int .i64 0, .int .i64 0] 44)) := ⟨heap_alloc_last w _, below_new w _⟩
theorem Rz.later {w wr w' : World} (h : Rz w wr) (hb : Below wr.heap.size wr w') : Rz w w' := ⟨row_lat h.re hb, h.bel.trans (hb.mono h.bel.size)⟩
theorem Rz.done {w wr : World} (h : Rz w wr) (cs : Array Value) : (wr.setRow w.heap.size cs).heap[w.heap.size]? = some (.cells cs 44 (0, 0)) ∧ Below w.heap.size w (wr.setRow w.heap.size cs) :=
  ⟨setRow_heap wr _ _ _ 44 _ h.re, below_setRow h.bel (Nat.le_refl _) _⟩

set_option maxHeartbeats 2000000 in
theorem through_any (g B gr rc : Nat) (a : Int) (y : Mv) (d : Md) (w : World) (P : Pg w g B gr rc y d) (hs : y.small) :
    Calls Try.prog 89 #[.pointer (some ⟨g, 0, none⟩), .int .i64 a] w fun e w' => e = .returned (.tuple #[.agg #[.int .i64 (if d.has a = true then -1 else 0), .int .i64 (if d.has a = true then d.get a else 0)], .bool (d.has a)]) ∧ Below w.heap.size w w' := by
  have Z := hide (rz_new w)
  have PP := hide (P.later (unhide Z).bel)
  have AP := hide (fun w => adPlace_any a w)
  have RE := hide (fun w (P : Pg w g B gr rc y d) => reach_ad g B gr rc a y d w P hs)
  have WD := hide (fun w (P : Pg w g B gr rc y d) (h : d.has a = true) => P.word h)
  cases hq : d.has a
  · rw [hq] at RE
    simp only [Bool.false_eq_true, if_false] at RE ⊢
    clear hq P
    go_enter Try.func89, Try.ntmps89
    go_wp2_with fail
    refine (unhide AP _).mono ?_
    rintro e w1 ⟨rfl, hb⟩
    have Z1 := hide ((unhide Z).later hb)
    have R1 := hide (unhide RE w1 ((unhide PP).later hb))
    clear hb Z
    go_wp2_with fail
    refine (unhide R1).mono ?_
    rintro e w2 ⟨rfl, hb⟩
    have Z2 := hide ((unhide Z1).later hb)
    clear hb Z1
    go_wp2_with (first | (refine wpList_store_row rfl 44 _ _ rfl w.heap.size #[.int .i64 0, .int .i64 0] rfl rfl 44 #[.int .i64 0, .int .i64 0] (unhide Z2).re (by kernel_rfl) rfl (by simp [Value.oneCell']) ?_))
    obtain ⟨r1, r2⟩ := (unhide Z2).done #[.int .i64 0, .int .i64 0]
    refine bodyPost_ret (results_row2 (P := Try.prog) rfl _ _ w.heap.size 44 #[.int .i64 0, .int .i64 0] (0, 0) _ rfl r1 Try.underlying44 rfl (by kernel_rfl)) rfl ?_
    exact ⟨rfl, r2⟩
  · have W2 := hide (fun w P => unhide WD w P hq)
    rw [hq] at RE
    simp only [if_true] at RE ⊢
    generalize (a / 2).toNat = ka at RE W2
    have A2 := hide (fun w => adPlace_any (d.get a) w)
    generalize d.get a = v at W2 A2 ⊢
    clear hq P WD
    go_enter Try.func89, Try.ntmps89
    go_wp2_with fail
    refine (unhide AP _).mono ?_
    rintro e w1 ⟨rfl, hb⟩
    have Z1 := hide ((unhide Z).later hb)
    have R1 := hide (unhide RE w1 ((unhide PP).later hb))
    have P1 := hide ((unhide PP).later hb)
    clear hb Z
    go_wp2_with fail
    refine (unhide R1).mono ?_
    rintro e w2 ⟨rfl, hb⟩
    have Z2 := hide ((unhide Z1).later hb)
    have c2 := unhide W2 w2 ((unhide P1).later hb)
    clear hb Z1
    go_wp2_with fail
    refine (unhide A2 _).mono ?_
    rintro e w3 ⟨rfl, hb⟩
    have Z3 := hide ((unhide Z2).later hb)
    clear hb Z2
    go_wp2_with (first | (refine wpList_store_row rfl 44 _ _ rfl w.heap.size #[.int .i64 (-1), .int .i64 v] rfl rfl 44 #[.int .i64 0, .int .i64 0] (unhide Z3).re (by kernel_rfl) rfl (by simp [Value.oneCell']) ?_))
    obtain ⟨r1, r2⟩ := (unhide Z3).done #[.int .i64 (-1), .int .i64 v]
    refine bodyPost_ret (results_row2 (P := Try.prog) rfl _ _ w.heap.size 44 #[.int .i64 (-1), .int .i64 v] (0, 0) _ rfl r1 Try.underlying44 rfl (by kernel_rfl)) rfl ?_
    exact ⟨rfl, r2⟩
end Go.Proofs.Ytfkmibgamkignaa
