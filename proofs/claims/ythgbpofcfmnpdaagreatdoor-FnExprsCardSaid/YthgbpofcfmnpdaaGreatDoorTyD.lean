/- Contracts over this seat's translation, laid together; conditions stand as hypotheses of each. -/
import Derived.Test.YthgbpofcfmnpdaaGreatDoorTyA
import Derived.Test.YthgbpofcfmnpdaaGreatDoorTyB
import Derived.Test.YthgbpofcfmnpdaaGreatDoorTyC
import Derived.LoopN
import Derived.OwnWalk
import Derived.Lib.Builder
import Derived.Lib.AppendStr
import Derived.Lib.FrozenHead
import Derived.Lib.UnsafeStr
import Derived.Lib.OthersKept
import Derived.Deep.RegionHeld
import Derived.Laws.Rows

namespace Go.Proofs.YthgbpofcfmnpdaaGreatDoor
open Go.ChangeShapes Go.WideShapes Go.ChangeAt Go.RowKit
set_option linter.unusedVariables false
set_option maxRecDepth 8000
set_option linter.unusedSimpArgs false

set_option maxHeartbeats 2000000 in
theorem pair_any (k : Int) (u v : Value) (w : World) : Calls Tryz.prog 50 #[.int .i64 k, .agg #[u, v]] w fun r w' => ∃ x, r = .returned (.tuple #[x, .bool (inB k 5 10)]) ∧ (inB k 5 10 = true → x = .iface (pairT k) (.agg #[u, v])) ∧ Below w.heap.size w w' := by
  have B0 := hide (below_new w (.cells #[u, v] 88))
  by_cases h5 : k = 5
  · subst h5
    rw [show inB 5 5 10 = true by decide]
    go_enter Tryz.func50, Tryz.ntmps50
    go_wp2
    go_ret2
    exact ⟨_, rfl, fun _ => rfl, unhide B0⟩
  by_cases h6 : k = 6
  · subst h6
    rw [show inB 6 5 10 = true by decide]
    go_enter Tryz.func50, Tryz.ntmps50
    go_wp2
    go_ret2
    exact ⟨_, rfl, fun _ => rfl, unhide B0⟩
  by_cases h7 : k = 7
  · subst h7
    rw [show inB 7 5 10 = true by decide]
    go_enter Tryz.func50, Tryz.ntmps50
    go_wp2
    go_ret2
    exact ⟨_, rfl, fun _ => rfl, unhide B0⟩
  by_cases h8 : k = 8
  · subst h8
    rw [show inB 8 5 10 = true by decide]
    go_enter Tryz.func50, Tryz.ntmps50
    go_wp2
    go_ret2
    exact ⟨_, rfl, fun _ => rfl, unhide B0⟩
  by_cases h9 : k = 9
  · subst h9
    rw [show inB 9 5 10 = true by decide]
    go_enter Tryz.func50, Tryz.ntmps50
    go_wp2
    go_ret2
    exact ⟨_, rfl, fun _ => rfl, unhide B0⟩
  by_cases h10 : k = 10
  · subst h10
    rw [show inB 10 5 10 = true by decide]
    go_enter Tryz.func50, Tryz.ntmps50
    go_wp2
    go_ret2
    exact ⟨_, rfl, fun _ => rfl, unhide B0⟩
  have g5 : (k == 5) = false := beq_eq_false_iff_ne.2 h5
  have g6 : (k == 6) = false := beq_eq_false_iff_ne.2 h6
  have g7 : (k == 7) = false := beq_eq_false_iff_ne.2 h7
  have g8 : (k == 8) = false := beq_eq_false_iff_ne.2 h8
  have g9 : (k == 9) = false := beq_eq_false_iff_ne.2 h9
  have g10 : (k == 10) = false := beq_eq_false_iff_ne.2 h10
  rw [show inB k 5 10 = false by unfold inB; simp; omega]
  go_enter Tryz.func50, Tryz.ntmps50
  go_wp2
  go_ret2
  exact ⟨_, rfl, (fun h => by cases h), unhide B0⟩
theorem here_one (k : Int) : hereV k 0 ⟨#[]⟩ 1 = (k == 4) := by
  unfold hereV Ex.here
  simp only [List.length_replicate, eqE1]
  by_cases h1 : k = 1
  · subst h1; rfl
  by_cases h2 : k = 2
  · subst h2; simp
  by_cases h12 : k = 12
  · subst h12; simp
  by_cases h11 : k = 11
  · subst h11; simp
  by_cases h3 : k = 3
  · subst h3; rfl
  by_cases h4 : k = 4
  · subst h4; rfl
  rw [if_neg (by simp), if_neg h1, if_neg (by omega), if_neg h3, if_neg h4, show (k == 4) = false from beq_eq_false_iff_ne.2 h4]
  split
  · rfl
  · rfl
theorem here_two (k : Int) : hereV k 0 ⟨#[]⟩ 2 = inB k 5 10 := by
  unfold hereV Ex.here
  simp only [List.length_replicate, eqE1]
  by_cases h1 : k = 1
  · subst h1; rfl
  by_cases h2 : k = 2
  · subst h2; simp [inB]
  by_cases h12 : k = 12
  · subst h12; simp [inB]
  by_cases h11 : k = 11
  · subst h11; simp [inB]
  by_cases h3 : k = 3
  · subst h3; rfl
  by_cases h4 : k = 4
  · subst h4; rfl
  rw [if_neg (by simp), if_neg h1, if_neg (by omega), if_neg h3, if_neg h4]
  split
  · rename_i h; rw [inB_t _ _ _ h.1 h.2]; rfl
  · rename_i h; rw [inB_f _ _ _ h]
theorem here_more (k n : Int) (s : ByteArray) (ll : Nat) (h : 3 ≤ ll) : hereV k n s ll = false := by
  have e0 : (ll == 0) = false := beq_eq_false_iff_ne.2 (by omega)
  have e1 : (ll == 1) = false := beq_eq_false_iff_ne.2 (by omega)
  have e2 : (ll == 2) = false := beq_eq_false_iff_ne.2 (by omega)
  unfold hereV Ex.here
  simp only [List.length_replicate, e0, e1, e2, Bool.and_false]
  repeat' split
  all_goals rfl
theorem hereV_n (k n : Int) (s : ByteArray) (ll : Nat) (h : 1 ≤ ll) (hn : n ≠ 0) : hereV k n s ll = false := by
  have e0 : (ll == 0) = false := beq_eq_false_iff_ne.2 (by omega)
  have en : (n != 0) = true := by simp [hn]
  unfold hereV Ex.here
  simp only [List.length_replicate, e0, Bool.and_false, en, Bool.and_true]
  by_cases h1 : k = 1
  · subst h1; repeat' split
    all_goals first | rfl | omega
  by_cases h11 : k = 11
  · subst h11; repeat' split
    all_goals first | rfl | omega
  rw [if_pos (by simp [h1, h11])]
theorem hereV_s (k n : Int) (s : ByteArray) (ll : Nat) (h : 1 ≤ ll) (hs : s ≠ E0) : hereV k n s ll = false := by
  have e0 : (ll == 0) = false := beq_eq_false_iff_ne.2 (by omega)
  have es := (emp_E s hs).2
  unfold hereV Ex.here
  simp only [List.length_replicate, e0, Bool.and_false, es, Bool.not_false, Bool.and_true]
  by_cases h1 : k = 2
  · subst h1; repeat' split
    all_goals first | rfl | omega
  by_cases h11 : k = 12
  · subst h11; repeat' split
    all_goals first | rfl | omega
  rw [if_pos (by simp [h1, h11])]
theorem okf_v (d : Nat) (k n : Int) (s : ByteArray) (l : List Ex) : okF (d + 1) false ⟨k, n, s, l⟩ = (hereV k n s l.length && l.all (okF d false)) := by
  rw [okF_s, here_is]
  rfl
theorem tv_if (e : Ex) : ∃ t x, tv e = .iface t x := by
  obtain ⟨k, n, s, l⟩ := e
  rw [tv]
  unfold tvC
  repeat' split
  all_goals exact ⟨_, _, rfl⟩
def TermR (d : Nat) (e : Ex) (w : World) (r : Ending) (w' : World) : Prop := ∃ v, r = .returned (.tuple #[v, .bool (okF d false e)]) ∧ (okF d false e = true → v = tv e) ∧ Below w.heap.size w w'
theorem termR_of {d : Nat} {e : Ex} {w : World} {r : Ending} {w' : World} {v : Value} {q : Bool} (h : okF d false e = q) (hr : r = .returned (.tuple #[v, .bool q])) (hv : q = true → v = tv e) (hb : Below w.heap.size w w') : TermR d e w r w' := ⟨v, by rw [h]; exact hr, fun x => hv (h.symm.trans x), hb⟩
def TermP (d : Nat) : Prop := ∀ (e : Ex) (b : Option Addr) (cap : Nat) (w : World), RdX w 0 e b → e.sz ≤ 1048576 → TabK w → Calls Tryz.prog 22 #[.agg (e.cs b cap), .int .i64 d] w (TermR d e w)
theorem rd_at {w : World} {e : Ex} {b : Option Addr} (h : RdX w 0 e b) {i : Nat} (hi : i < e.l.length) : ∃ p po, b = some ⟨p, po, none⟩ ∧ p < w.heap.size ∧ OneX w 0 p (po + i * 4) (xAt e.l i) := by
  rw [RdX_eq] at h
  rcases h with h | ⟨p, po, rfl, _, hp, hc⟩
  · rw [h] at hi; simp at hi
  · exact ⟨p, po, rfl, hp, hc i hi⟩
set_option maxHeartbeats 2000000 in
theorem term_zero : TermP 0 := by
  intro e b cap w hr hz ht
  have B0 := hide (below_new w (.cells (e.cs b cap) 26))
  have FN := hide (fun r w' v => termR_of (d := 0) (e := e) (w := w) (r := r) (w' := w') (v := v) rfl)
  generalize TermR 0 e w = R at *
  unfold Ex.cs at B0 ⊢
  go_enter Tryz.func22, Tryz.ntmps22
  go_wp2
  (try go_ret2)
  exact unhide FN _ _ _ rfl (fun h => by cases h) (unhide B0)
set_option maxHeartbeats 2000000 in
theorem term_nil (d : Nat) (h6 : d ≤ 6) (k n : Int) (s : ByteArray) (b : Option Addr) (cap : Nat) (w : World) (hs : s.size ≤ 1048576) (ht : TabK w) : Calls Tryz.prog 22 #[.agg #[.int .i64 k, .int .i64 n, .string s, .slice b 0 cap], .int .i64 ((d + 1 : Nat) : Int)] w (TermR (d + 1) ⟨k, n, s, []⟩ w) := by
  obtain ⟨W, hW⟩ : ∃ W, w.alloc (.cells #[.int .i64 k, .int .i64 n, .string s, .slice b 0 cap] 26) = W := ⟨_, rfl⟩
  have B0 := hide (below_new w (.cells #[.int .i64 k, .int .i64 n, .string s, .slice b 0 cap] 26))
  have hg : W.heap[w.heap.size]? = some (.cells #[.int .i64 k, .int .i64 n, .string s, .slice b 0 cap] 26 (0, 0)) := by rw [← hW]; exact Array.getElem?_push_size
  rw [hW] at B0
  have x0 := Lib.cell_of_heap hg 0
  have x1 := Lib.cell_of_heap hg 1
  have x2 := Lib.cell_of_heap hg 2
  have x3 := Lib.cell_of_heap hg 3
  have xl : w.heap.size < W.heap.size := (Array.getElem?_eq_some_iff.1 hg).1
  have hd0 : (((d + 1 : Nat) : Int) == 0) = false := beq_eq_false_iff_ne.2 (by omega)
  have hd1 : ((d + 1 : Nat) : Int) - 1 = (d : Int) := by omega
  have hdb : 0 ≤ ((d + 1 : Nat) : Int) ∧ ((d + 1 : Nat) : Int) ≤ 100 := by omega
  have LF := hide (leaf_any k n s b 0 cap W (by omega) (ht.next (unhide B0)))
  have FN := hide (fun r w' v q (h : hereV k n s 0 = q) => termR_of (d := d + 1) (e := ⟨k, n, s, []⟩) (w := w) (r := r) (w' := w') (v := v) ((okf_v d k n s []).trans ((Bool.and_true _).trans h)))
  have TV := hide (show tv ⟨k, n, s, []⟩ = tvC k n s [] by rw [tv]; rfl)
  rw [unhide TV] at FN
  generalize TermR (d + 1) ⟨k, n, s, []⟩ w = R at *
  clear hg xl ht TV
  generalize hDD : ((d + 1 : Nat) : Int) = DD at *
  go_enter Tryz.func22, Tryz.ntmps22
  go_wp2_with fail
  refine (unhide LF).mono ?_
  rintro r w1 ⟨v, rfl, hv, hb1⟩
  have F2 := hide (unhide FN (.returned (.tuple #[v, .bool (hereV k n s 0)])) w1 v _ rfl rfl hv ((unhide B0).trans (hb1.mono (unhide B0).size)))
  generalize hereV k n s 0 = q at *
  clear FN hv hb1
  go_wp2
  (try go_ret2)
  exact unhide F2
set_option maxHeartbeats 2000000 in
theorem term_bad (d : Nat) (h6 : d ≤ 6) (k n : Int) (s : ByteArray) (l : List Ex) (b : Option Addr) (cap : Nat) (w : World) (hz : l.length ≤ 1048576) (h1 : 1 ≤ l.length) (h : 3 ≤ l.length ∨ n ≠ 0 ∨ s ≠ E0) : Calls Tryz.prog 22 #[.agg #[.int .i64 k, .int .i64 n, .string s, .slice b l.length cap], .int .i64 ((d + 1 : Nat) : Int)] w (TermR (d + 1) ⟨k, n, s, l⟩ w) := by
  have V : hereV k n s l.length = false := by
    rcases h with h | h | h
    · exact here_more k n s _ h
    · exact hereV_n k n s _ h1 h
    · exact hereV_s k n s _ h1 h
  have FN := hide (fun r w' v => termR_of (d := d + 1) (e := ⟨k, n, s, l⟩) (w := w) (r := r) (w' := w') (v := v) (q := false) (by rw [okf_v, V]; rfl))
  generalize TermR (d + 1) ⟨k, n, s, l⟩ w = R at *
  clear V
  generalize l.length = ll at *
  obtain ⟨W, hW⟩ : ∃ W, w.alloc (.cells #[.int .i64 k, .int .i64 n, .string s, .slice b ll cap] 26) = W := ⟨_, rfl⟩
  have B0 := hide (below_new w (.cells #[.int .i64 k, .int .i64 n, .string s, .slice b ll cap] 26))
  have hg : W.heap[w.heap.size]? = some (.cells #[.int .i64 k, .int .i64 n, .string s, .slice b ll cap] 26 (0, 0)) := by rw [← hW]; exact Array.getElem?_push_size
  rw [hW] at B0
  have x0 := Lib.cell_of_heap hg 0
  have x1 := Lib.cell_of_heap hg 1
  have x2 := Lib.cell_of_heap hg 2
  have x3 := Lib.cell_of_heap hg 3
  have xl : w.heap.size < W.heap.size := (Array.getElem?_eq_some_iff.1 hg).1
  have hd0 : (((d + 1 : Nat) : Int) == 0) = false := beq_eq_false_iff_ne.2 (by omega)
  have hd1 : ((d + 1 : Nat) : Int) - 1 = (d : Int) := by omega
  have hdb : 0 ≤ ((d + 1 : Nat) : Int) ∧ ((d + 1 : Nat) : Int) ≤ 100 := by omega
  clear hg xl
  have h0 : ((ll : Int) == 0) = false := beq_eq_false_iff_ne.2 (by omega)
  generalize hDD : ((d + 1 : Nat) : Int) = DD at *
  by_cases h3 : 3 ≤ ll
  · have g3 : (2 : Int) < (ll : Int) := by omega
    clear h
    go_enter Tryz.func22, Tryz.ntmps22
    go_wp2
    (try go_ret2)
    exact unhide FN _ _ _ rfl (fun h => by cases h) (unhide B0)
  · have g3 : decide ((2 : Int) < (ll : Int)) = false := decide_eq_false (by omega)
    have g4 : decide (2 < ll) = false := decide_eq_false (by omega)
    by_cases hn : n = 0
    · subst hn
      have hs : s ≠ E0 := by rcases h with h | h | h; omega; exact absurd rfl h; exact h
      obtain ⟨e1, e2⟩ := emp_E s hs
      clear h
      go_enter Tryz.func22, Tryz.ntmps22
      go_wp2
      (try go_ret2)
      exact unhide FN _ _ _ rfl (fun h => by cases h) (unhide B0)
    · have en : (n == 0) = false := beq_eq_false_iff_ne.2 hn
      clear h
      go_enter Tryz.func22, Tryz.ntmps22
      go_wp2
      (try go_ret2)
      exact unhide FN _ _ _ rfl (fun h => by cases h) (unhide B0)
set_option maxHeartbeats 4000000 in
theorem term_one (d : Nat) (h6 : d ≤ 6) (ih : TermP d) (k : Int) (a : Ex) (b : Option Addr) (cap : Nat) (w : World) (hr : RdX w 0 ⟨k, 0, ⟨#[]⟩, [a]⟩ b) (hz : a.sz ≤ 1048576) (ht : TabK w) : Calls Tryz.prog 22 #[.agg #[.int .i64 k, .int .i64 0, .string ⟨#[]⟩, .slice b 1 cap], .int .i64 ((d + 1 : Nat) : Int)] w (TermR (d + 1) ⟨k, 0, ⟨#[]⟩, [a]⟩ w) := by
  obtain ⟨W, hW⟩ : ∃ W, w.alloc (.cells #[.int .i64 k, .int .i64 0, .string ⟨#[]⟩, .slice b 1 cap] 26) = W := ⟨_, rfl⟩
  have B0 := hide (below_new w (.cells #[.int .i64 k, .int .i64 0, .string ⟨#[]⟩, .slice b 1 cap] 26))
  have hg : W.heap[w.heap.size]? = some (.cells #[.int .i64 k, .int .i64 0, .string ⟨#[]⟩, .slice b 1 cap] 26 (0, 0)) := by rw [← hW]; exact Array.getElem?_push_size
  rw [hW] at B0
  have x0 := Lib.cell_of_heap hg 0
  have x1 := Lib.cell_of_heap hg 1
  have x2 := Lib.cell_of_heap hg 2
  have x3 := Lib.cell_of_heap hg 3
  have xl : w.heap.size < W.heap.size := (Array.getElem?_eq_some_iff.1 hg).1
  have hd0 : (((d + 1 : Nat) : Int) == 0) = false := beq_eq_false_iff_ne.2 (by omega)
  have hd1 : ((d + 1 : Nat) : Int) - 1 = (d : Int) := by omega
  have hdb : 0 ≤ ((d + 1 : Nat) : Int) ∧ ((d + 1 : Nat) : Int) ≤ 100 := by omega
  obtain ⟨p, po, rfl, hp, o0⟩ := rd_at (hr.later (unhide B0)) (i := 0) (show 0 < [a].length by simp)
  obtain ⟨e00, e01, e02, c0, cp0, e03, e04⟩ := o0
  simp only [show xAt [a] 0 = a from rfl] at e00 e01 e02 e03 e04
  rw [Nat.zero_mul, Nat.add_zero] at e00 e01 e02 e03
  have IH := hide (ih a c0 cp0 W e04 hz (ht.next (unhide B0)))
  have FN := hide (fun r w' v q (h : (k == 4 && okF d false a) = q) => termR_of (d := d + 1) (e := ⟨k, 0, ⟨#[]⟩, [a]⟩) (w := w) (r := r) (w' := w') (v := v) (q := q) (by rw [okf_v, ← h, show [a].length = 1 from rfl, here_one]; simp))
  have TV := hide (show k = 4 → tv ⟨k, 0, ⟨#[]⟩, [a]⟩ = .iface 85 (.agg #[tv a]) by rintro rfl; exact tv_neg _ _ _)
  generalize tv ⟨k, 0, ⟨#[]⟩, [a]⟩ = tve at *
  generalize TermR (d + 1) ⟨k, 0, ⟨#[]⟩, [a]⟩ w = R at *
  unfold Ex.cs at IH
  generalize a.k = ak at *
  generalize a.n = an at *
  generalize a.s = asv at *
  generalize a.l.length = al at *
  have y0 : ∀ w1, Below W.heap.size W w1 → w1.cell? ⟨w.heap.size, 0, none⟩ = some (.int .i64 k) := fun w1 hb => (hb.cell (p := ⟨w.heap.size, _, none⟩) xl).trans x0
  have y3 : ∀ w1, Below W.heap.size W w1 → w1.cell? ⟨w.heap.size, 3, none⟩ = some (.slice (some ⟨p, po, none⟩) 1 cap) := fun w1 hb => (hb.cell (p := ⟨w.heap.size, _, none⟩) xl).trans x3
  have Y0 := hide y0
  have Y3 := hide y3
  have KQ : k = 4 ∨ k ≠ 4 := by omega
  clear hg xl ht hr hz ih e04 y0 y3 hp
  generalize hDD : ((d + 1 : Nat) : Int) = DD at *
  go_enter Tryz.func22, Tryz.ntmps22
  go_wp2_with fail
  refine (unhide IH).mono ?_
  rintro r w1 ⟨v, rfl, hv, hb1⟩
  have BB := hide ((unhide B0).trans (hb1.mono (unhide B0).size))
  have z0 := unhide Y0 w1 hb1
  have z3 := unhide Y3 w1 hb1
  have HV := hide hv
  generalize okF d false a = q at *
  clear hv hb1 Y0 Y3 IH x0 x1 x2 x3 e00 e01 e02 e03
  cases q with
  | false =>
    have F2 := hide (fun r w' v => unhide FN r w' v false (Bool.and_false _))
    clear FN
    go_wp2
    (try go_ret2)
    exact unhide F2 _ _ _ rfl (fun h => by cases h) (unhide BB)
  | true =>
    obtain ⟨t1, x1, e1⟩ := tv_if a
    have hve := unhide HV rfl
    rw [e1] at hve TV
    subst hve
    clear HV e1
    have xl1 : w.heap.size < w1.heap.size := World.block_lt_of_cell? w1 _ z0
    have q0 : ∀ y : Sub w1.heap.size w1, y.w.cell? ⟨w.heap.size, 0, none⟩ = some (.int .i64 k) := fun y => (y.h.cell (p := ⟨w.heap.size, _, none⟩) xl1).trans z0
    have ne := Sub.ne w1.heap.size w1
    have BY := hide (fun y : Sub w1.heap.size w1 => (unhide BB).trans (y.h.mono (unhide BB).size))
    clear xl1
    rcases KQ with rfl | hk
    · have F2 := hide (fun r w' (hr : r = .returned (.tuple #[.iface 85 (.agg #[.iface t1 x1]), .bool true])) hb => unhide FN r w' _ true rfl hr (fun _ => (unhide TV rfl).symm) hb)
      clear FN TV
      go_wp2_with fail
      refine wp_region_sub (⟨w1, Below.refl _ _⟩ : Sub w1.heap.size w1) (by kernel_rfl) (by kernel_rfl) ?_
      repeat (go_big_quiet_step (first | fail))
      refine wpQuiet_nil ?_
      intro y
      go_wp2
      (try go_ret2)
      exact unhide F2 _ _ rfl (unhide BY _)
    · have hk4 : (k == 4) = false := beq_eq_false_iff_ne.2 hk
      have F2 := hide (fun r w' v => unhide FN r w' v false (by rw [hk4]; rfl))
      clear FN TV
      go_wp2_with fail
      refine wp_region_sub (⟨w1, Below.refl _ _⟩ : Sub w1.heap.size w1) (by kernel_rfl) (by kernel_rfl) ?_
      repeat (go_big_quiet_step (first | fail))
      refine wpQuiet_nil ?_
      intro y
      go_wp2
      (try go_ret2)
      exact unhide F2 _ _ _ rfl (fun h => by cases h) (unhide BY _)
set_option maxHeartbeats 4000000 in
theorem term_two (d : Nat) (h6 : d ≤ 6) (ih : TermP d) (k : Int) (a a2 : Ex) (b : Option Addr) (cap : Nat) (w : World) (hr : RdX w 0 ⟨k, 0, ⟨#[]⟩, [a, a2]⟩ b) (hz : a.sz ≤ 1048576) (hz2 : a2.sz ≤ 1048576) (ht : TabK w) : Calls Tryz.prog 22 #[.agg #[.int .i64 k, .int .i64 0, .string ⟨#[]⟩, .slice b 2 cap], .int .i64 ((d + 1 : Nat) : Int)] w (TermR (d + 1) ⟨k, 0, ⟨#[]⟩, [a, a2]⟩ w) := by
  obtain ⟨W, hW⟩ : ∃ W, w.alloc (.cells #[.int .i64 k, .int .i64 0, .string ⟨#[]⟩, .slice b 2 cap] 26) = W := ⟨_, rfl⟩
  have B0 := hide (below_new w (.cells #[.int .i64 k, .int .i64 0, .string ⟨#[]⟩, .slice b 2 cap] 26))
  have hg : W.heap[w.heap.size]? = some (.cells #[.int .i64 k, .int .i64 0, .string ⟨#[]⟩, .slice b 2 cap] 26 (0, 0)) := by rw [← hW]; exact Array.getElem?_push_size
  rw [hW] at B0
  have x0 := Lib.cell_of_heap hg 0
  have x1 := Lib.cell_of_heap hg 1
  have x2 := Lib.cell_of_heap hg 2
  have x3 := Lib.cell_of_heap hg 3
  have xl : w.heap.size < W.heap.size := (Array.getElem?_eq_some_iff.1 hg).1
  have hd0 : (((d + 1 : Nat) : Int) == 0) = false := beq_eq_false_iff_ne.2 (by omega)
  have hd1 : ((d + 1 : Nat) : Int) - 1 = (d : Int) := by omega
  have hdb : 0 ≤ ((d + 1 : Nat) : Int) ∧ ((d + 1 : Nat) : Int) ≤ 100 := by omega
  obtain ⟨p, po, rfl, hp, o0⟩ := rd_at (hr.later (unhide B0)) (i := 0) (show 0 < [a, a2].length by simp)
  obtain ⟨_, _, hpe, _, o1⟩ := rd_at (hr.later (unhide B0)) (i := 1) (show 1 < [a, a2].length by simp)
  cases hpe
  obtain ⟨e00, e01, e02, c0, cp0, e03, e04⟩ := o0
  simp only [show xAt [a, a2] 0 = a from rfl] at e00 e01 e02 e03 e04
  obtain ⟨e10, e11, e12, c1, cp1, e13, e14⟩ := o1
  simp only [show xAt [a, a2] 1 = a2 from rfl] at e10 e11 e12 e13 e14
  rw [Nat.zero_mul, Nat.add_zero] at e00 e01 e02 e03
  rw [Nat.one_mul] at e10 e11 e12 e13
  have IH := hide (ih a c0 cp0 W e04 hz (ht.next (unhide B0)))
  have IH2 := hide (fun w1 (hb : Below W.heap.size W w1) => ih a2 c1 cp1 w1 (e14.later hb) hz2 ((ht.next (unhide B0)).next hb))
  have FN := hide (fun r w' v q (h : (inB k 5 10 && (okF d false a && okF d false a2)) = q) => termR_of (d := d + 1) (e := ⟨k, 0, ⟨#[]⟩, [a, a2]⟩) (w := w) (r := r) (w' := w') (v := v) (q := q) (by rw [okf_v, ← h, show [a, a2].length = 2 from rfl, here_two]; simp))
  have TV := hide (show inB k 5 10 = true → tv ⟨k, 0, ⟨#[]⟩, [a, a2]⟩ = .iface (pairT k) (.agg #[tv a, tv a2]) by intro h; exact tv_two ((inB_iff _ _ _).1 h) _ _ _ _)
  generalize tv ⟨k, 0, ⟨#[]⟩, [a, a2]⟩ = tve at *
  generalize TermR (d + 1) ⟨k, 0, ⟨#[]⟩, [a, a2]⟩ w = R at *
  unfold Ex.cs at IH IH2
  generalize a.k = ak at *
  generalize a.n = an at *
  generalize a.s = asv at *
  generalize a.l.length = al at *
  generalize a2.k = bk at *
  generalize a2.n = bn at *
  generalize a2.s = bs at *
  generalize a2.l.length = bl at *
  have Y0 := hide (fun w1 (hb : Below W.heap.size W w1) => (hb.cell (p := ⟨w.heap.size, 0, none⟩) xl).trans x0)
  have Y3 := hide (fun w1 (hb : Below W.heap.size W w1) => (hb.cell (p := ⟨w.heap.size, 3, none⟩) xl).trans x3)
  have U0 := hide (fun w1 (hb : Below W.heap.size W w1) => (hb.cell (p := ⟨p, po + 4, none⟩) hp).trans e10)
  have U1 := hide (fun w1 (hb : Below W.heap.size W w1) => (hb.cell (p := ⟨p, po + 4 + 1, none⟩) hp).trans e11)
  have U2 := hide (fun w1 (hb : Below W.heap.size W w1) => (hb.cell (p := ⟨p, po + 4 + 2, none⟩) hp).trans e12)
  have U3 := hide (fun w1 (hb : Below W.heap.size W w1) => (hb.cell (p := ⟨p, po + 4 + 3, none⟩) hp).trans e13)
  clear hg xl ht hr hz hz2 ih e04 e14 e10 e11 e12 e13 hp
  generalize hDD : ((d + 1 : Nat) : Int) = DD at *
  go_enter Tryz.func22, Tryz.ntmps22
  go_wp2_with fail
  refine (unhide IH).mono ?_
  rintro r w1 ⟨v, rfl, hv, hb1⟩
  have HB1 := hide hb1
  have BB := hide ((unhide B0).trans (hb1.mono (unhide B0).size))
  have z0 := unhide Y0 w1 hb1
  have z3 := unhide Y3 w1 hb1
  have u0 := unhide U0 w1 hb1
  have u1 := unhide U1 w1 hb1
  have u2 := unhide U2 w1 hb1
  have u3 := unhide U3 w1 hb1
  have HV := hide hv
  have J2 := hide (unhide IH2 w1 hb1)
  generalize okF d false a = q at *
  clear hv hb1 U0 U1 U2 U3 IH IH2 x0 x1 x2 x3 e00 e01 e02 e03
  cases q with
  | false =>
    have F2 := hide (fun r w' v => unhide FN r w' v false (by rw [Bool.false_and, Bool.and_false]))
    clear FN
    go_wp2
    (try go_ret2)
    exact unhide F2 _ _ _ rfl (fun h => by cases h) (unhide BB)
  | true =>
    obtain ⟨t1, x1, e1⟩ := tv_if a
    have hve := unhide HV rfl
    rw [e1] at hve TV
    subst hve
    clear HV e1
    go_wp2_with fail
    refine (unhide J2).mono ?_
    rintro r w2 ⟨v2, rfl, hv2, hb2⟩
    have HB2 := hide ((unhide HB1).trans (hb2.mono (unhide HB1).size))
    have B2 := hide ((unhide BB).trans (hb2.mono (unhide BB).size))
    have t0 := unhide Y0 w2 (unhide HB2)
    have HV2 := hide hv2
    generalize okF d false a2 = q2 at *
    clear hv2 hb2 u0 u1 u2 u3 z0 z3 Y0 Y3 J2
    cases q2 with
    | false =>
      have F2 := hide (fun r w' v => unhide FN r w' v false (Bool.and_false _))
      clear FN
      go_wp2
      (try go_ret2)
      exact unhide F2 _ _ _ rfl (fun h => by cases h) (unhide B2)
    | true =>
      obtain ⟨t2, x2, e2⟩ := tv_if a2
      have hve := unhide HV2 rfl
      rw [e2] at hve TV
      subst hve
      clear HV2 e2
      have F2 := hide (fun r w' v q (h : inB k 5 10 = q) => unhide FN r w' v q ((Bool.and_true _).trans h))
      have P2 := hide (pair_any k (.iface t1 x1) (.iface t2 x2) w2)
      clear FN
      go_wp2_with fail
      refine (unhide P2).mono ?_
      rintro r w3 ⟨x, rfl, hx, hb3⟩
      have F3 := hide (unhide F2 (.returned (.tuple #[x, .bool (inB k 5 10)])) w3 x _ rfl rfl (fun h => by rw [hx h, unhide TV h]) ((unhide B2).trans (hb3.mono (unhide B2).size)))
      generalize inB k 5 10 = qq at *
      clear F2 hx hb3 P2
      go_wp2
      (try go_ret2)
      exact unhide F3
theorem term_all : ∀ d : Nat, d ≤ 6 → TermP d := by
  intro d
  induction d with
  | zero => intro _; exact term_zero
  | succ d ih =>
    intro hd e b cap w hr hz ht
    obtain ⟨k, n, s, l⟩ := e
    have hsz := sz_is ⟨k, n, s, l⟩
    simp only at hsz
    unfold Ex.cs
    simp only
    by_cases hbad : 1 ≤ l.length ∧ (3 ≤ l.length ∨ n ≠ 0 ∨ s ≠ E0)
    · exact term_bad d (by omega) k n s l b cap w (by omega) hbad.1 hbad.2
    · match l, hr, hz, hsz, hbad with
      | [], hr, hz, hsz, hbad => exact term_nil d (by omega) k n s b cap w (by omega) ht
      | [a], hr, hz, hsz, hbad =>
        have hn : n = 0 := Classical.byContradiction fun h => hbad ⟨by simp, .inr (.inl h)⟩
        have hs : s = E0 := Classical.byContradiction fun h => hbad ⟨by simp, .inr (.inr h)⟩
        subst hn hs
        exact term_one d (by omega) (ih (by omega)) k a b cap w hr (by simp [szX] at hsz; omega) ht
      | [a, a2], hr, hz, hsz, hbad =>
        have hn : n = 0 := Classical.byContradiction fun h => hbad ⟨by simp, .inr (.inl h)⟩
        have hs : s = E0 := Classical.byContradiction fun h => hbad ⟨by simp, .inr (.inr h)⟩
        subst hn hs
        exact term_two d (by omega) (ih (by omega)) k a a2 b cap w hr (by simp [szX] at hsz; omega) (by simp [szX] at hsz; omega) ht
      | a :: a2 :: a3 :: r, hr, hz, hsz, hbad => exact absurd ⟨by simp, .inl (by simp)⟩ hbad
end Go.Proofs.YthgbpofcfmnpdaaGreatDoor

namespace Go.Proofs.YthgbpofcfmnpdaaGreatDoor
open Go.ChangeShapes Go.WideShapes Go.ChangeAt Go.RowKit
set_option linter.unusedVariables false
set_option maxRecDepth 8000
set_option linter.unusedSimpArgs false

set_option maxHeartbeats 1000000 in
theorem okI_any (e : Ex) (b : Option Addr) (cap : Nat) (w : World) (hr : RdX w 0 e b) (hz : e.sz ≤ 1048576) (ht : TabK w) : Calls Tryz.prog 16 #[.agg (e.cs b cap)] w fun r w' => r = .returned (.bool (okF 6 false e)) ∧ Below w.heap.size w w' := by
  have B0 := below_new w (.cells (e.cs b cap) 26)
  have HH := hide (term_all 6 (by omega) e b cap _ (hr.later B0) hz (ht.next B0))
  have HB := hide B0
  clear hr B0 ht
  unfold TermR at HH
  generalize okF 6 false e = q at *
  unfold Ex.cs at HH HB ⊢
  generalize e.l.length = ll at *
  go_enter Tryz.func16, Tryz.ntmps16
  go_wp2_with fail
  refine (unhide HH).mono ?_
  rintro r w1 ⟨v, rfl, _, hb1⟩
  have BB := hide ((unhide HB).trans (hb1.mono (unhide HB).size))
  clear hb1 HH HB
  go_wp2
  go_ret
  exact ⟨rfl, unhide BB⟩
/-- The forms of a right term. -/
theorem ok_cases {d : Nat} {e : Ex} (h : okF (d + 1) false e = true) : (∃ n : Int, (0 ≤ n ∧ n ≤ 65535) ∧ e = ⟨1, n, E0, []⟩) ∨ (∃ s, nameB s = true ∧ e = ⟨2, 0, s, []⟩) ∨ e = ⟨3, 0, E0, []⟩ ∨ (∃ a, okF d false a = true ∧ e = ⟨4, 0, E0, [a]⟩) ∨ (∃ k a b, (5 ≤ k ∧ k ≤ 10) ∧ okF d false a = true ∧ okF d false b = true ∧ e = ⟨k, 0, E0, [a, b]⟩) ∨ (∃ n : Int, (0 ≤ n ∧ n ≤ 9) ∧ e = ⟨11, n, E0, []⟩) ∨ (∃ s, nameB s = true ∧ e = ⟨12, 0, s, []⟩) := by
  obtain ⟨k, n, s, l⟩ := e
  rw [okf_v, Bool.and_eq_true] at h
  obtain ⟨h1, h2⟩ := h
  match l, h1, h2 with
  | [], h1, _ =>
    have hn : k ≠ 1 → k ≠ 11 → n = 0 := fun g1 g2 => Classical.byContradiction fun hn => by
      unfold hereV Ex.here at h1
      rw [if_pos (by simp [g1, g2, hn])] at h1
      cases h1
    have hs : k ≠ 2 → k ≠ 12 → s = E0 := fun g1 g2 => Classical.byContradiction fun hn => by
      have es := (emp_E s hn).2
      unfold hereV Ex.here at h1
      rw [if_pos (by simp [g1, g2, es])] at h1
      cases h1
    by_cases k1 : k = 1
    · subst k1
      obtain rfl := hs (by decide) (by decide)
      rw [show hereV 1 n E0 ([] : List Ex).length = inB n 0 65535 by simp [hereV, Ex.here, eqE]] at h1
      exact .inl ⟨n, (inB_iff _ _ _).1 h1, rfl⟩
    by_cases k2 : k = 2
    · subst k2
      obtain rfl := hn (by decide) (by decide)
      rw [show hereV 2 0 s ([] : List Ex).length = nameB s by simp [hereV, Ex.here]] at h1
      exact .inr (.inl ⟨s, h1, rfl⟩)
    by_cases k11 : k = 11
    · subst k11
      obtain rfl := hs (by decide) (by decide)
      rw [show hereV 11 n E0 ([] : List Ex).length = inB n 0 9 by simp [hereV, Ex.here, eqE]] at h1
      exact .inr (.inr (.inr (.inr (.inr (.inl ⟨n, (inB_iff _ _ _).1 h1, rfl⟩)))))
    by_cases k12 : k = 12
    · subst k12
      obtain rfl := hn (by decide) (by decide)
      rw [show hereV 12 0 s ([] : List Ex).length = nameB s by simp [hereV, Ex.here]] at h1
      exact .inr (.inr (.inr (.inr (.inr (.inr ⟨s, h1, rfl⟩)))))
    obtain rfl := hn k1 k11
    obtain rfl := hs k2 k12
    by_cases k3 : k = 3
    · subst k3; exact .inr (.inr (.inl rfl))
    exfalso
    unfold hereV Ex.here at h1
    simp only [List.length_replicate, List.length_nil] at h1
    rw [if_neg (by simp [eqE]), if_neg k1, if_neg (by omega), if_neg k3] at h1
    repeat' (split at h1)
    all_goals first | cases h1 | exact absurd h1 (by decide) | omega
  | [a], h1, h2 =>
    have hn : n = 0 := Classical.byContradiction fun hn => by rw [hereV_n k n s _ (by simp) hn] at h1; cases h1
    have hs : s = E0 := Classical.byContradiction fun hn => by rw [hereV_s k n s _ (by simp) hn] at h1; cases h1
    subst hn hs
    have h3 : hereV k 0 ⟨#[]⟩ 1 = true := h1
    rw [here_one, beq_iff_eq] at h3
    subst h3
    exact .inr (.inr (.inr (.inl ⟨a, by simpa using h2, rfl⟩)))
  | [a, b], h1, h2 =>
    have hn : n = 0 := Classical.byContradiction fun hn => by rw [hereV_n k n s _ (by simp) hn] at h1; cases h1
    have hs : s = E0 := Classical.byContradiction fun hn => by rw [hereV_s k n s _ (by simp) hn] at h1; cases h1
    subst hn hs
    have h3 : hereV k 0 ⟨#[]⟩ 2 = true := h1
    rw [here_two] at h3
    have h4 : okF d false a = true ∧ okF d false b = true := by simpa using h2
    exact .inr (.inr (.inr (.inr (.inl ⟨k, a, b, (inB_iff _ _ _).1 h3, h4.1, h4.2, rfl⟩))))
  | a :: b :: c :: r, h1, _ => rw [here_more k n s _ (by simp)] at h1; cases h1
theorem plain_one (d : Nat) (a : Ex) : okF (d + 1) true ⟨4, 0, E0, [a]⟩ = okF d true a := by simp [okF, Ex.here, eqE]
theorem plain_pair (d : Nat) {k : Int} (hk : 5 ≤ k ∧ k ≤ 10) (a b : Ex) : okF (d + 1) true ⟨k, 0, E0, [a, b]⟩ = (okF d true a && okF d true b) := by
  have : k = 5 ∨ k = 6 ∨ k = 7 ∨ k = 8 ∨ k = 9 ∨ k = 10 := by omega
  rcases this with rfl | rfl | rfl | rfl | rfl | rfl <;> simp [okF, Ex.here, eqE]
def IsP (d : Nat) : Prop := ∀ (e : Ex) (w : World), okF d false e = true → Calls Tryz.prog 23 #[tv e] w fun r w' => r = .returned (.bool (okF d true e)) ∧ Below w.heap.size w w'
end Go.Proofs.YthgbpofcfmnpdaaGreatDoor

namespace Go.Proofs.YthgbpofcfmnpdaaGreatDoor
open Go.ChangeShapes Go.WideShapes Go.ChangeAt Go.RowKit
set_option linter.unusedVariables false
set_option maxRecDepth 8000
set_option linter.unusedSimpArgs false

theorem ta_no {P : Program} {T u it : TypeId} {x z : Value} {fs : Array Field} (w : World) (hu : P.underlying u = some (.struct fs)) (hz : (zeroValue u).run P w = .ok z w) (h : T ≠ u) : (Instr.typeAssert (.iface T x) it u true).run P w = .ok (.tuple #[z, .bool false]) w := by
  simp [Instr.typeAssert, run_underlying hu, h, hz]
theorem taN_num (T : TypeId) (x : Value) (h : T ≠ 106) (w : World) : (Instr.typeAssert (.iface T x) 44 106 true).run Tryz.prog w = .ok (.tuple #[.agg #[.int .i64 0], .bool false]) w := ta_no w Tryz.underlying106 (by kernel_rfl) h
theorem taY_num (x : Value) (w : World) : (Instr.typeAssert (.iface 106 x) 44 106 true).run Tryz.prog w = .ok (.tuple #[x, .bool true]) w := by kernel_rfl
theorem taN_sym (T : TypeId) (x : Value) (h : T ≠ 107) (w : World) : (Instr.typeAssert (.iface T x) 44 107 true).run Tryz.prog w = .ok (.tuple #[.agg #[.string ⟨#[]⟩], .bool false]) w := ta_no w Tryz.underlying107 (by kernel_rfl) h
theorem taY_sym (x : Value) (w : World) : (Instr.typeAssert (.iface 107 x) 44 107 true).run Tryz.prog w = .ok (.tuple #[x, .bool true]) w := by kernel_rfl
theorem taN_here (T : TypeId) (x : Value) (h : T ≠ 109) (w : World) : (Instr.typeAssert (.iface T x) 44 109 true).run Tryz.prog w = .ok (.tuple #[.agg #[], .bool false]) w := ta_no w Tryz.underlying109 (by kernel_rfl) h
theorem taY_here (x : Value) (w : World) : (Instr.typeAssert (.iface 109 x) 44 109 true).run Tryz.prog w = .ok (.tuple #[x, .bool true]) w := by kernel_rfl
theorem taN_neg (T : TypeId) (x : Value) (h : T ≠ 85) (w : World) : (Instr.typeAssert (.iface T x) 44 85 true).run Tryz.prog w = .ok (.tuple #[.agg #[.nilIface], .bool false]) w := ta_no w Tryz.underlying85 (by kernel_rfl) h
theorem taY_neg (x : Value) (w : World) : (Instr.typeAssert (.iface 85 x) 44 85 true).run Tryz.prog w = .ok (.tuple #[x, .bool true]) w := by kernel_rfl
theorem taN_add (T : TypeId) (x : Value) (h : T ≠ 124) (w : World) : (Instr.typeAssert (.iface T x) 44 124 true).run Tryz.prog w = .ok (.tuple #[.agg #[.nilIface, .nilIface], .bool false]) w := ta_no w Tryz.underlying124 (by kernel_rfl) h
theorem taY_add (x : Value) (w : World) : (Instr.typeAssert (.iface 124 x) 44 124 true).run Tryz.prog w = .ok (.tuple #[x, .bool true]) w := by kernel_rfl
theorem taN_sub (T : TypeId) (x : Value) (h : T ≠ 125) (w : World) : (Instr.typeAssert (.iface T x) 44 125 true).run Tryz.prog w = .ok (.tuple #[.agg #[.nilIface, .nilIface], .bool false]) w := ta_no w Tryz.underlying125 (by kernel_rfl) h
theorem taY_sub (x : Value) (w : World) : (Instr.typeAssert (.iface 125 x) 44 125 true).run Tryz.prog w = .ok (.tuple #[x, .bool true]) w := by kernel_rfl
theorem taN_mul (T : TypeId) (x : Value) (h : T ≠ 126) (w : World) : (Instr.typeAssert (.iface T x) 44 126 true).run Tryz.prog w = .ok (.tuple #[.agg #[.nilIface, .nilIface], .bool false]) w := ta_no w Tryz.underlying126 (by kernel_rfl) h
theorem taY_mul (x : Value) (w : World) : (Instr.typeAssert (.iface 126 x) 44 126 true).run Tryz.prog w = .ok (.tuple #[x, .bool true]) w := by kernel_rfl
theorem taN_div (T : TypeId) (x : Value) (h : T ≠ 127) (w : World) : (Instr.typeAssert (.iface T x) 44 127 true).run Tryz.prog w = .ok (.tuple #[.agg #[.nilIface, .nilIface], .bool false]) w := ta_no w Tryz.underlying127 (by kernel_rfl) h
theorem taY_div (x : Value) (w : World) : (Instr.typeAssert (.iface 127 x) 44 127 true).run Tryz.prog w = .ok (.tuple #[x, .bool true]) w := by kernel_rfl
theorem taN_and (T : TypeId) (x : Value) (h : T ≠ 128) (w : World) : (Instr.typeAssert (.iface T x) 44 128 true).run Tryz.prog w = .ok (.tuple #[.agg #[.nilIface, .nilIface], .bool false]) w := ta_no w Tryz.underlying128 (by kernel_rfl) h
theorem taY_and (x : Value) (w : World) : (Instr.typeAssert (.iface 128 x) 44 128 true).run Tryz.prog w = .ok (.tuple #[x, .bool true]) w := by kernel_rfl
theorem taN_or (T : TypeId) (x : Value) (h : T ≠ 129) (w : World) : (Instr.typeAssert (.iface T x) 44 129 true).run Tryz.prog w = .ok (.tuple #[.agg #[.nilIface, .nilIface], .bool false]) w := ta_no w Tryz.underlying129 (by kernel_rfl) h
theorem taY_or (x : Value) (w : World) : (Instr.typeAssert (.iface 129 x) 44 129 true).run Tryz.prog w = .ok (.tuple #[x, .bool true]) w := by kernel_rfl
theorem taN_sect (T : TypeId) (x : Value) (h : T ≠ 91) (w : World) : (Instr.typeAssert (.iface T x) 44 91 true).run Tryz.prog w = .ok (.tuple #[.agg #[.int .i64 0], .bool false]) w := ta_no w Tryz.underlying91 (by kernel_rfl) h
theorem taY_sect (x : Value) (w : World) : (Instr.typeAssert (.iface 91 x) 44 91 true).run Tryz.prog w = .ok (.tuple #[x, .bool true]) w := by kernel_rfl
theorem taN_glob (T : TypeId) (x : Value) (h : T ≠ 93) (w : World) : (Instr.typeAssert (.iface T x) 44 93 true).run Tryz.prog w = .ok (.tuple #[.agg #[.string ⟨#[]⟩], .bool false]) w := ta_no w Tryz.underlying93 (by kernel_rfl) h
theorem taY_glob (x : Value) (w : World) : (Instr.typeAssert (.iface 93 x) 44 93 true).run Tryz.prog w = .ok (.tuple #[x, .bool true]) w := by kernel_rfl
theorem me_num (c : Value) (w : World) : (method 292 106 (.agg #[c]) "loop.example/g00329/impl.parts").run Tryz.prog w = .ok (152, .agg #[]) w := by kernel_rfl
theorem me_sym (c : Value) (w : World) : (method 292 107 (.agg #[c]) "loop.example/g00329/impl.parts").run Tryz.prog w = .ok (152, .agg #[]) w := by kernel_rfl
theorem me_sect (c : Value) (w : World) : (method 292 91 (.agg #[c]) "loop.example/g00329/impl.parts").run Tryz.prog w = .ok (152, .agg #[]) w := by kernel_rfl
theorem me_glob (c : Value) (w : World) : (method 292 93 (.agg #[c]) "loop.example/g00329/impl.parts").run Tryz.prog w = .ok (152, .agg #[]) w := by kernel_rfl
theorem me_here (w : World) : (method 292 109 (.agg #[]) "loop.example/g00329/impl.parts").run Tryz.prog w = .ok (152, .agg #[]) w := by kernel_rfl
theorem me_neg (c : Value) (w : World) : (method 292 85 (.agg #[c]) "loop.example/g00329/impl.parts").run Tryz.prog w = .ok (150, .agg #[c]) w := by kernel_rfl
theorem me_add (c d : Value) (w : World) : (method 292 124 (.agg #[c, d]) "loop.example/g00329/impl.parts").run Tryz.prog w = .ok (151, .agg #[c, d]) w := by kernel_rfl
theorem me_sub (c d : Value) (w : World) : (method 292 125 (.agg #[c, d]) "loop.example/g00329/impl.parts").run Tryz.prog w = .ok (151, .agg #[c, d]) w := by kernel_rfl
theorem me_mul (c d : Value) (w : World) : (method 292 126 (.agg #[c, d]) "loop.example/g00329/impl.parts").run Tryz.prog w = .ok (151, .agg #[c, d]) w := by kernel_rfl
theorem me_div (c d : Value) (w : World) : (method 292 127 (.agg #[c, d]) "loop.example/g00329/impl.parts").run Tryz.prog w = .ok (151, .agg #[c, d]) w := by kernel_rfl
theorem me_and (c d : Value) (w : World) : (method 292 128 (.agg #[c, d]) "loop.example/g00329/impl.parts").run Tryz.prog w = .ok (151, .agg #[c, d]) w := by kernel_rfl
theorem me_or (c d : Value) (w : World) : (method 292 129 (.agg #[c, d]) "loop.example/g00329/impl.parts").run Tryz.prog w = .ok (151, .agg #[c, d]) w := by kernel_rfl
set_option maxHeartbeats 1000000 in
theorem parts0 (w : World) : Calls Tryz.prog 152 #[.agg #[]] w fun r w' => r = .returned (.slice none 0 0) ∧ Below w.heap.size w w' := by
  go_enter Tryz.func152, Tryz.ntmps152
  go_wp2
  go_ret
  exact ⟨rfl, by first | exact Below.refl _ _ | exact below_new w _⟩
theorem two_new (w : World) (o1 o2 : Obj) : ((w.alloc o1).alloc o2).heap[w.heap.size + 1]? = some o2 ∧ Below w.heap.size w ((w.alloc o1).alloc o2) := by
  have h1 : (w.alloc o1).heap.size = w.heap.size + 1 := by simp
  refine ⟨?_, ((Below.refl _ _).alloc (Nat.le_refl _) _).alloc (by simp) _⟩
  rw [← h1]
  exact Array.getElem?_push_size
set_option maxHeartbeats 1000000 in
theorem parts1 (t : TypeId) (x : Value) (w : World) : Calls Tryz.prog 150 #[.agg #[.iface t x]] w fun r w' => ∃ g, r = .returned (.slice (some ⟨g, 0, none⟩) 1 1) ∧ w'.heap[g]? = some (.cells #[.iface t x] 44 (0, 0)) ∧ Below w.heap.size w w' := by
  have T := hide (two_new w (.cells #[.iface t x] 85) (.cells #[.iface t x] 44))
  go_enter Tryz.func150, Tryz.ntmps150
  go_wp2
  go_ret
  exact ⟨_, rfl, (unhide T).1, (unhide T).2⟩
set_option maxHeartbeats 1000000 in
theorem parts2 (t u : TypeId) (x y : Value) (w : World) : Calls Tryz.prog 151 #[.agg #[.iface t x, .iface u y]] w fun r w' => ∃ g, r = .returned (.slice (some ⟨g, 0, none⟩) 2 2) ∧ w'.heap[g]? = some (.cells #[.iface t x, .iface u y] 44 (0, 0)) ∧ Below w.heap.size w w' := by
  have T := hide (two_new w (.cells #[.iface t x, .iface u y] 88) (.cells #[.iface t x, .iface u y] 44))
  go_enter Tryz.func151, Tryz.ntmps151
  go_wp2
  go_ret
  exact ⟨_, rfl, (unhide T).1, (unhide T).2⟩
end Go.Proofs.YthgbpofcfmnpdaaGreatDoor

namespace Go.Proofs.YthgbpofcfmnpdaaGreatDoor
open Go.ChangeShapes Go.WideShapes Go.ChangeAt Go.RowKit
set_option linter.unusedVariables false
set_option maxRecDepth 8000
set_option linter.unusedSimpArgs false

set_option maxHeartbeats 2000000 in
theorem isp_num (n : Int) (w : World) : Calls Tryz.prog 23 #[.iface 106 (.agg #[.int .i64 n])] w fun r w' => r = .returned (.bool true) ∧ Below w.heap.size w w' := by
  have t1 := taN_sect 106 (.agg #[.int .i64 n]) (by decide)
  have t2 := taN_glob 106 (.agg #[.int .i64 n]) (by decide)
  have m := me_num (.int .i64 n)
  have P0 := hide (parts0 w)
  go_enter Tryz.func23, Tryz.ntmps23
  go_wp2_with (go_at_call 152; refine (unhide P0).mono ?_; rintro r w1 ⟨rfl, hb⟩)
  refine wp_loop_rounds 1 ?_
  rw [rounds_succ]
  go_wp2
  go_ret
  exact ⟨rfl, hb⟩
set_option maxHeartbeats 2000000 in
theorem isp_sym (s : ByteArray) (w : World) : Calls Tryz.prog 23 #[.iface 107 (.agg #[.string s])] w fun r w' => r = .returned (.bool true) ∧ Below w.heap.size w w' := by
  have t1 := taN_sect 107 (.agg #[.string s]) (by decide)
  have t2 := taN_glob 107 (.agg #[.string s]) (by decide)
  have m := me_sym (.string s)
  have P0 := hide (parts0 w)
  go_enter Tryz.func23, Tryz.ntmps23
  go_wp2_with (go_at_call 152; refine (unhide P0).mono ?_; rintro r w1 ⟨rfl, hb⟩)
  refine wp_loop_rounds 1 ?_
  rw [rounds_succ]
  go_wp2
  go_ret
  exact ⟨rfl, hb⟩
set_option maxHeartbeats 2000000 in
theorem isp_here (w : World) : Calls Tryz.prog 23 #[.iface 109 (.agg #[])] w fun r w' => r = .returned (.bool true) ∧ Below w.heap.size w w' := by
  have t1 := taN_sect 109 (.agg #[]) (by decide)
  have t2 := taN_glob 109 (.agg #[]) (by decide)
  have m := me_here 
  have P0 := hide (parts0 w)
  go_enter Tryz.func23, Tryz.ntmps23
  go_wp2_with (go_at_call 152; refine (unhide P0).mono ?_; rintro r w1 ⟨rfl, hb⟩)
  refine wp_loop_rounds 1 ?_
  rw [rounds_succ]
  go_wp2
  go_ret
  exact ⟨rfl, hb⟩
set_option maxHeartbeats 2000000 in
theorem isp_sect (n : Int) (w : World) : Calls Tryz.prog 23 #[.iface 91 (.agg #[.int .i64 n])] w fun r w' => r = .returned (.bool false) ∧ Below w.heap.size w w' := by
  have t1 := taY_sect (.agg #[.int .i64 n])
  have t2 := taN_glob 91 (.agg #[.int .i64 n]) (by decide)
  go_enter Tryz.func23, Tryz.ntmps23
  go_wp2
  go_ret
  exact ⟨rfl, Below.refl _ _⟩
set_option maxHeartbeats 2000000 in
theorem isp_glob (s : ByteArray) (w : World) : Calls Tryz.prog 23 #[.iface 93 (.agg #[.string s])] w fun r w' => r = .returned (.bool false) ∧ Below w.heap.size w w' := by
  have t1 := taY_glob (.agg #[.string s])
  have t2 := taN_sect 93 (.agg #[.string s]) (by decide)
  go_enter Tryz.func23, Tryz.ntmps23
  go_wp2
  go_ret
  exact ⟨rfl, Below.refl _ _⟩
set_option maxHeartbeats 2000000 in
theorem isp_neg (t : TypeId) (x : Value) (q1 : Bool) (h1 : ∀ w : World, Calls Tryz.prog 23 #[.iface t x] w fun r w' => r = .returned (.bool q1) ∧ Below w.heap.size w w') (w : World) : Calls Tryz.prog 23 #[.iface 85 (.agg #[.iface t x])] w fun r w' => r = .returned (.bool q1) ∧ Below w.heap.size w w' := by
  have t1 := taN_sect 85 (.agg #[.iface t x]) (by decide)
  have t2 := taN_glob 85 (.agg #[.iface t x]) (by decide)
  have m := me_neg (.iface t x)
  have P1 := hide (parts1 t x w)
  have H1 := hide h1
  clear h1
  go_enter Tryz.func23, Tryz.ntmps23
  go_wp2_with (go_at_call 150; refine (unhide P1).mono ?_; rintro r w1 ⟨g, rfl, hg, hb⟩)
  have c0 := Lib.cell_of_heap hg 0
  have B1 := hide hb
  have H2 := hide (unhide H1 w1)
  clear hg hb P1
  refine wp_loop_rounds 2 ?_
  rw [rounds_succ]
  go_wp2_with fail
  refine (unhide H2).mono ?_
  rintro r w2 ⟨rfl, hb2⟩
  have B2 := hide ((unhide B1).trans (hb2.mono (unhide B1).size))
  clear hb2 c0 H2 H1
  cases q1 with
  | false =>
    go_wp2
    go_ret
    exact ⟨rfl, unhide B2⟩
  | true =>
    go_wp2
    rw [rounds_succ]
    go_wp2
    go_ret
    exact ⟨rfl, unhide B2⟩
set_option maxHeartbeats 4000000 in
theorem isp_add (t u : TypeId) (x y : Value) (q1 q2 : Bool) (h1 : ∀ w : World, Calls Tryz.prog 23 #[.iface t x] w fun r w' => r = .returned (.bool q1) ∧ Below w.heap.size w w') (h2 : ∀ w : World, Calls Tryz.prog 23 #[.iface u y] w fun r w' => r = .returned (.bool q2) ∧ Below w.heap.size w w') (w : World) : Calls Tryz.prog 23 #[.iface 124 (.agg #[.iface t x, .iface u y])] w fun r w' => r = .returned (.bool (q1 && q2)) ∧ Below w.heap.size w w' := by
  have t1 := taN_sect 124 (.agg #[.iface t x, .iface u y]) (by decide)
  have t2 := taN_glob 124 (.agg #[.iface t x, .iface u y]) (by decide)
  have m := me_add (.iface t x) (.iface u y)
  have P1 := hide (parts2 t u x y w)
  have H1 := hide h1
  have H3 := hide h2
  clear h1 h2
  obtain ⟨T, hT⟩ : ∃ T, (q1 && q2) = T := ⟨_, rfl⟩
  have HT := hide hT
  rw [hT]
  clear hT
  go_enter Tryz.func23, Tryz.ntmps23
  go_wp2_with (go_at_call 151; refine (unhide P1).mono ?_; rintro r w1 ⟨g, rfl, hg, hb⟩)
  have c0 := Lib.cell_of_heap hg 0
  have c1 := hide (Lib.cell_of_heap hg 1)
  have gl := hide (Array.getElem?_eq_some_iff.1 hg).1
  have B1 := hide hb
  have H2 := hide (unhide H1 w1)
  clear hg hb P1
  refine wp_loop_rounds 3 ?_
  rw [rounds_succ]
  go_wp2_with fail
  refine (unhide H2).mono ?_
  rintro r w2 ⟨rfl, hb2⟩
  have B2 := hide ((unhide B1).trans (hb2.mono (unhide B1).size))
  have d1 := (hb2.cell (p := ⟨g, 1, none⟩) (unhide gl)).trans (unhide c1)
  clear hb2 c0 c1 H2 H1 gl
  cases q1 with
  | false =>
    have E := hide ((unhide HT).symm.trans (Bool.false_and _))
    go_wp2
    go_ret
    exact ⟨by rw [unhide E]; rfl, unhide B2⟩
  | true =>
    have E := hide ((unhide HT).symm.trans (Bool.true_and _))
    have H4 := hide (unhide H3 w2)
    go_wp2
    rw [rounds_succ]
    go_wp2_with fail
    refine (unhide H4).mono ?_
    rintro r w3 ⟨rfl, hb3⟩
    have B3 := hide ((unhide B2).trans (hb3.mono (unhide B2).size))
    clear hb3 d1 H4 H3
    cases q2 with
    | false =>
      go_wp2
      go_ret
      exact ⟨by rw [unhide E]; rfl, unhide B3⟩
    | true =>
      go_wp2
      rw [rounds_succ]
      go_wp2
      go_ret
      exact ⟨by rw [unhide E]; rfl, unhide B3⟩
set_option maxHeartbeats 4000000 in
theorem isp_sub (t u : TypeId) (x y : Value) (q1 q2 : Bool) (h1 : ∀ w : World, Calls Tryz.prog 23 #[.iface t x] w fun r w' => r = .returned (.bool q1) ∧ Below w.heap.size w w') (h2 : ∀ w : World, Calls Tryz.prog 23 #[.iface u y] w fun r w' => r = .returned (.bool q2) ∧ Below w.heap.size w w') (w : World) : Calls Tryz.prog 23 #[.iface 125 (.agg #[.iface t x, .iface u y])] w fun r w' => r = .returned (.bool (q1 && q2)) ∧ Below w.heap.size w w' := by
  have t1 := taN_sect 125 (.agg #[.iface t x, .iface u y]) (by decide)
  have t2 := taN_glob 125 (.agg #[.iface t x, .iface u y]) (by decide)
  have m := me_sub (.iface t x) (.iface u y)
  have P1 := hide (parts2 t u x y w)
  have H1 := hide h1
  have H3 := hide h2
  clear h1 h2
  obtain ⟨T, hT⟩ : ∃ T, (q1 && q2) = T := ⟨_, rfl⟩
  have HT := hide hT
  rw [hT]
  clear hT
  go_enter Tryz.func23, Tryz.ntmps23
  go_wp2_with (go_at_call 151; refine (unhide P1).mono ?_; rintro r w1 ⟨g, rfl, hg, hb⟩)
  have c0 := Lib.cell_of_heap hg 0
  have c1 := hide (Lib.cell_of_heap hg 1)
  have gl := hide (Array.getElem?_eq_some_iff.1 hg).1
  have B1 := hide hb
  have H2 := hide (unhide H1 w1)
  clear hg hb P1
  refine wp_loop_rounds 3 ?_
  rw [rounds_succ]
  go_wp2_with fail
  refine (unhide H2).mono ?_
  rintro r w2 ⟨rfl, hb2⟩
  have B2 := hide ((unhide B1).trans (hb2.mono (unhide B1).size))
  have d1 := (hb2.cell (p := ⟨g, 1, none⟩) (unhide gl)).trans (unhide c1)
  clear hb2 c0 c1 H2 H1 gl
  cases q1 with
  | false =>
    have E := hide ((unhide HT).symm.trans (Bool.false_and _))
    go_wp2
    go_ret
    exact ⟨by rw [unhide E]; rfl, unhide B2⟩
  | true =>
    have E := hide ((unhide HT).symm.trans (Bool.true_and _))
    have H4 := hide (unhide H3 w2)
    go_wp2
    rw [rounds_succ]
    go_wp2_with fail
    refine (unhide H4).mono ?_
    rintro r w3 ⟨rfl, hb3⟩
    have B3 := hide ((unhide B2).trans (hb3.mono (unhide B2).size))
    clear hb3 d1 H4 H3
    cases q2 with
    | false =>
      go_wp2
      go_ret
      exact ⟨by rw [unhide E]; rfl, unhide B3⟩
    | true =>
      go_wp2
      rw [rounds_succ]
      go_wp2
      go_ret
      exact ⟨by rw [unhide E]; rfl, unhide B3⟩
set_option maxHeartbeats 4000000 in
theorem isp_mul (t u : TypeId) (x y : Value) (q1 q2 : Bool) (h1 : ∀ w : World, Calls Tryz.prog 23 #[.iface t x] w fun r w' => r = .returned (.bool q1) ∧ Below w.heap.size w w') (h2 : ∀ w : World, Calls Tryz.prog 23 #[.iface u y] w fun r w' => r = .returned (.bool q2) ∧ Below w.heap.size w w') (w : World) : Calls Tryz.prog 23 #[.iface 126 (.agg #[.iface t x, .iface u y])] w fun r w' => r = .returned (.bool (q1 && q2)) ∧ Below w.heap.size w w' := by
  have t1 := taN_sect 126 (.agg #[.iface t x, .iface u y]) (by decide)
  have t2 := taN_glob 126 (.agg #[.iface t x, .iface u y]) (by decide)
  have m := me_mul (.iface t x) (.iface u y)
  have P1 := hide (parts2 t u x y w)
  have H1 := hide h1
  have H3 := hide h2
  clear h1 h2
  obtain ⟨T, hT⟩ : ∃ T, (q1 && q2) = T := ⟨_, rfl⟩
  have HT := hide hT
  rw [hT]
  clear hT
  go_enter Tryz.func23, Tryz.ntmps23
  go_wp2_with (go_at_call 151; refine (unhide P1).mono ?_; rintro r w1 ⟨g, rfl, hg, hb⟩)
  have c0 := Lib.cell_of_heap hg 0
  have c1 := hide (Lib.cell_of_heap hg 1)
  have gl := hide (Array.getElem?_eq_some_iff.1 hg).1
  have B1 := hide hb
  have H2 := hide (unhide H1 w1)
  clear hg hb P1
  refine wp_loop_rounds 3 ?_
  rw [rounds_succ]
  go_wp2_with fail
  refine (unhide H2).mono ?_
  rintro r w2 ⟨rfl, hb2⟩
  have B2 := hide ((unhide B1).trans (hb2.mono (unhide B1).size))
  have d1 := (hb2.cell (p := ⟨g, 1, none⟩) (unhide gl)).trans (unhide c1)
  clear hb2 c0 c1 H2 H1 gl
  cases q1 with
  | false =>
    have E := hide ((unhide HT).symm.trans (Bool.false_and _))
    go_wp2
    go_ret
    exact ⟨by rw [unhide E]; rfl, unhide B2⟩
  | true =>
    have E := hide ((unhide HT).symm.trans (Bool.true_and _))
    have H4 := hide (unhide H3 w2)
    go_wp2
    rw [rounds_succ]
    go_wp2_with fail
    refine (unhide H4).mono ?_
    rintro r w3 ⟨rfl, hb3⟩
    have B3 := hide ((unhide B2).trans (hb3.mono (unhide B2).size))
    clear hb3 d1 H4 H3
    cases q2 with
    | false =>
      go_wp2
      go_ret
      exact ⟨by rw [unhide E]; rfl, unhide B3⟩
    | true =>
      go_wp2
      rw [rounds_succ]
      go_wp2
      go_ret
      exact ⟨by rw [unhide E]; rfl, unhide B3⟩
set_option maxHeartbeats 4000000 in
theorem isp_div (t u : TypeId) (x y : Value) (q1 q2 : Bool) (h1 : ∀ w : World, Calls Tryz.prog 23 #[.iface t x] w fun r w' => r = .returned (.bool q1) ∧ Below w.heap.size w w') (h2 : ∀ w : World, Calls Tryz.prog 23 #[.iface u y] w fun r w' => r = .returned (.bool q2) ∧ Below w.heap.size w w') (w : World) : Calls Tryz.prog 23 #[.iface 127 (.agg #[.iface t x, .iface u y])] w fun r w' => r = .returned (.bool (q1 && q2)) ∧ Below w.heap.size w w' := by
  have t1 := taN_sect 127 (.agg #[.iface t x, .iface u y]) (by decide)
  have t2 := taN_glob 127 (.agg #[.iface t x, .iface u y]) (by decide)
  have m := me_div (.iface t x) (.iface u y)
  have P1 := hide (parts2 t u x y w)
  have H1 := hide h1
  have H3 := hide h2
  clear h1 h2
  obtain ⟨T, hT⟩ : ∃ T, (q1 && q2) = T := ⟨_, rfl⟩
  have HT := hide hT
  rw [hT]
  clear hT
  go_enter Tryz.func23, Tryz.ntmps23
  go_wp2_with (go_at_call 151; refine (unhide P1).mono ?_; rintro r w1 ⟨g, rfl, hg, hb⟩)
  have c0 := Lib.cell_of_heap hg 0
  have c1 := hide (Lib.cell_of_heap hg 1)
  have gl := hide (Array.getElem?_eq_some_iff.1 hg).1
  have B1 := hide hb
  have H2 := hide (unhide H1 w1)
  clear hg hb P1
  refine wp_loop_rounds 3 ?_
  rw [rounds_succ]
  go_wp2_with fail
  refine (unhide H2).mono ?_
  rintro r w2 ⟨rfl, hb2⟩
  have B2 := hide ((unhide B1).trans (hb2.mono (unhide B1).size))
  have d1 := (hb2.cell (p := ⟨g, 1, none⟩) (unhide gl)).trans (unhide c1)
  clear hb2 c0 c1 H2 H1 gl
  cases q1 with
  | false =>
    have E := hide ((unhide HT).symm.trans (Bool.false_and _))
    go_wp2
    go_ret
    exact ⟨by rw [unhide E]; rfl, unhide B2⟩
  | true =>
    have E := hide ((unhide HT).symm.trans (Bool.true_and _))
    have H4 := hide (unhide H3 w2)
    go_wp2
    rw [rounds_succ]
    go_wp2_with fail
    refine (unhide H4).mono ?_
    rintro r w3 ⟨rfl, hb3⟩
    have B3 := hide ((unhide B2).trans (hb3.mono (unhide B2).size))
    clear hb3 d1 H4 H3
    cases q2 with
    | false =>
      go_wp2
      go_ret
      exact ⟨by rw [unhide E]; rfl, unhide B3⟩
    | true =>
      go_wp2
      rw [rounds_succ]
      go_wp2
      go_ret
      exact ⟨by rw [unhide E]; rfl, unhide B3⟩
set_option maxHeartbeats 4000000 in
theorem isp_and (t u : TypeId) (x y : Value) (q1 q2 : Bool) (h1 : ∀ w : World, Calls Tryz.prog 23 #[.iface t x] w fun r w' => r = .returned (.bool q1) ∧ Below w.heap.size w w') (h2 : ∀ w : World, Calls Tryz.prog 23 #[.iface u y] w fun r w' => r = .returned (.bool q2) ∧ Below w.heap.size w w') (w : World) : Calls Tryz.prog 23 #[.iface 128 (.agg #[.iface t x, .iface u y])] w fun r w' => r = .returned (.bool (q1 && q2)) ∧ Below w.heap.size w w' := by
  have t1 := taN_sect 128 (.agg #[.iface t x, .iface u y]) (by decide)
  have t2 := taN_glob 128 (.agg #[.iface t x, .iface u y]) (by decide)
  have m := me_and (.iface t x) (.iface u y)
  have P1 := hide (parts2 t u x y w)
  have H1 := hide h1
  have H3 := hide h2
  clear h1 h2
  obtain ⟨T, hT⟩ : ∃ T, (q1 && q2) = T := ⟨_, rfl⟩
  have HT := hide hT
  rw [hT]
  clear hT
  go_enter Tryz.func23, Tryz.ntmps23
  go_wp2_with (go_at_call 151; refine (unhide P1).mono ?_; rintro r w1 ⟨g, rfl, hg, hb⟩)
  have c0 := Lib.cell_of_heap hg 0
  have c1 := hide (Lib.cell_of_heap hg 1)
  have gl := hide (Array.getElem?_eq_some_iff.1 hg).1
  have B1 := hide hb
  have H2 := hide (unhide H1 w1)
  clear hg hb P1
  refine wp_loop_rounds 3 ?_
  rw [rounds_succ]
  go_wp2_with fail
  refine (unhide H2).mono ?_
  rintro r w2 ⟨rfl, hb2⟩
  have B2 := hide ((unhide B1).trans (hb2.mono (unhide B1).size))
  have d1 := (hb2.cell (p := ⟨g, 1, none⟩) (unhide gl)).trans (unhide c1)
  clear hb2 c0 c1 H2 H1 gl
  cases q1 with
  | false =>
    have E := hide ((unhide HT).symm.trans (Bool.false_and _))
    go_wp2
    go_ret
    exact ⟨by rw [unhide E]; rfl, unhide B2⟩
  | true =>
    have E := hide ((unhide HT).symm.trans (Bool.true_and _))
    have H4 := hide (unhide H3 w2)
    go_wp2
    rw [rounds_succ]
    go_wp2_with fail
    refine (unhide H4).mono ?_
    rintro r w3 ⟨rfl, hb3⟩
    have B3 := hide ((unhide B2).trans (hb3.mono (unhide B2).size))
    clear hb3 d1 H4 H3
    cases q2 with
    | false =>
      go_wp2
      go_ret
      exact ⟨by rw [unhide E]; rfl, unhide B3⟩
    | true =>
      go_wp2
      rw [rounds_succ]
      go_wp2
      go_ret
      exact ⟨by rw [unhide E]; rfl, unhide B3⟩
set_option maxHeartbeats 4000000 in
theorem isp_or (t u : TypeId) (x y : Value) (q1 q2 : Bool) (h1 : ∀ w : World, Calls Tryz.prog 23 #[.iface t x] w fun r w' => r = .returned (.bool q1) ∧ Below w.heap.size w w') (h2 : ∀ w : World, Calls Tryz.prog 23 #[.iface u y] w fun r w' => r = .returned (.bool q2) ∧ Below w.heap.size w w') (w : World) : Calls Tryz.prog 23 #[.iface 129 (.agg #[.iface t x, .iface u y])] w fun r w' => r = .returned (.bool (q1 && q2)) ∧ Below w.heap.size w w' := by
  have t1 := taN_sect 129 (.agg #[.iface t x, .iface u y]) (by decide)
  have t2 := taN_glob 129 (.agg #[.iface t x, .iface u y]) (by decide)
  have m := me_or (.iface t x) (.iface u y)
  have P1 := hide (parts2 t u x y w)
  have H1 := hide h1
  have H3 := hide h2
  clear h1 h2
  obtain ⟨T, hT⟩ : ∃ T, (q1 && q2) = T := ⟨_, rfl⟩
  have HT := hide hT
  rw [hT]
  clear hT
  go_enter Tryz.func23, Tryz.ntmps23
  go_wp2_with (go_at_call 151; refine (unhide P1).mono ?_; rintro r w1 ⟨g, rfl, hg, hb⟩)
  have c0 := Lib.cell_of_heap hg 0
  have c1 := hide (Lib.cell_of_heap hg 1)
  have gl := hide (Array.getElem?_eq_some_iff.1 hg).1
  have B1 := hide hb
  have H2 := hide (unhide H1 w1)
  clear hg hb P1
  refine wp_loop_rounds 3 ?_
  rw [rounds_succ]
  go_wp2_with fail
  refine (unhide H2).mono ?_
  rintro r w2 ⟨rfl, hb2⟩
  have B2 := hide ((unhide B1).trans (hb2.mono (unhide B1).size))
  have d1 := (hb2.cell (p := ⟨g, 1, none⟩) (unhide gl)).trans (unhide c1)
  clear hb2 c0 c1 H2 H1 gl
  cases q1 with
  | false =>
    have E := hide ((unhide HT).symm.trans (Bool.false_and _))
    go_wp2
    go_ret
    exact ⟨by rw [unhide E]; rfl, unhide B2⟩
  | true =>
    have E := hide ((unhide HT).symm.trans (Bool.true_and _))
    have H4 := hide (unhide H3 w2)
    go_wp2
    rw [rounds_succ]
    go_wp2_with fail
    refine (unhide H4).mono ?_
    rintro r w3 ⟨rfl, hb3⟩
    have B3 := hide ((unhide B2).trans (hb3.mono (unhide B2).size))
    clear hb3 d1 H4 H3
    cases q2 with
    | false =>
      go_wp2
      go_ret
      exact ⟨by rw [unhide E]; rfl, unhide B3⟩
    | true =>
      go_wp2
      rw [rounds_succ]
      go_wp2
      go_ret
      exact ⟨by rw [unhide E]; rfl, unhide B3⟩
theorem isp_all : ∀ d : Nat, IsP d := by
  intro d
  induction d with
  | zero => intro e w h; cases h
  | succ d ih =>
    intro e w h
    rcases ok_cases h with ⟨n, hn, rfl⟩ | ⟨s, hs, rfl⟩ | rfl | ⟨a, ha, rfl⟩ | ⟨k, a, b, hk, ha, hb, rfl⟩ | ⟨n, hn, rfl⟩ | ⟨s, hs, rfl⟩
    · rw [tv_num, plain_num hn]; exact isp_num n w
    · rw [tv_sym, plain_sym hs]; exact isp_sym s w
    · rw [tv_here, plain_here]; exact isp_here w
    · obtain ⟨t, x, e1⟩ := tv_if a
      have h1 := fun w => ih a w ha
      rw [e1] at h1
      rw [tv_neg, e1, plain_one]
      exact isp_neg t x _ h1 w
    · obtain ⟨t, x, e1⟩ := tv_if a
      obtain ⟨u, y, e2⟩ := tv_if b
      have h1 := fun w => ih a w ha
      have h2 := fun w => ih b w hb
      rw [e1] at h1
      rw [e2] at h2
      rw [tv_two hk, e1, e2, plain_pair d hk]
      have : k = 5 ∨ k = 6 ∨ k = 7 ∨ k = 8 ∨ k = 9 ∨ k = 10 := by omega
      rcases this with rfl | rfl | rfl | rfl | rfl | rfl
      · exact isp_add t u x y _ _ h1 h2 w
      · exact isp_sub t u x y _ _ h1 h2 w
      · exact isp_mul t u x y _ _ h1 h2 w
      · exact isp_div t u x y _ _ h1 h2 w
      · exact isp_and t u x y _ _ h1 h2 w
      · exact isp_or t u x y _ _ h1 h2 w
    · rw [tv_sect, show okF (d + 1) true ⟨11, n, E0, []⟩ = false by simp [okF]]; exact isp_sect n w
    · rw [tv_glob, show okF (d + 1) true ⟨12, 0, s, []⟩ = false by simp [okF]]; exact isp_glob s w
theorem plain_ok : ∀ (d : Nat) (e : Ex), okF d true e = true → okF d false e = true := by
  intro d
  induction d with
  | zero => intro e h; cases h
  | succ d ih =>
    intro e h
    rw [okF_s, Bool.and_eq_true, Bool.and_eq_true] at h
    rw [okF_s, h.1]
    have h3 := h.2.2
    rw [List.all_eq_true] at h3
    have : e.l.all (okF d false) = true := List.all_eq_true.2 fun x hx => ih x (h3 x hx)
    rw [this]
    rfl
theorem plain_not {d : Nat} {e : Ex} (h : okF d false e = false) : okF d true e = false := by
  cases h2 : okF d true e with
  | false => rfl
  | true => rw [plain_ok d e h2] at h; cases h
set_option maxHeartbeats 1000000 in
theorem plainI_any (e : Ex) (b : Option Addr) (cap : Nat) (w : World) (hr : RdX w 0 e b) (hz : e.sz ≤ 1048576) (ht : TabK w) : Calls Tryz.prog 13 #[.agg (e.cs b cap)] w fun r w' => r = .returned (.bool (okF 6 true e)) ∧ Below w.heap.size w w' := by
  have B0 := below_new w (.cells (e.cs b cap) 26)
  have HH := hide (term_all 6 (by omega) e b cap _ (hr.later B0) hz (ht.next B0))
  have HB := hide B0
  have IP := hide (fun w1 h => isp_all 6 e w1 h)
  have NP := hide (plain_not (d := 6) (e := e))
  clear hr B0 ht
  unfold TermR at HH
  obtain ⟨t, x, e1⟩ := tv_if e
  rw [e1] at HH IP
  clear e1
  generalize okF 6 false e = q at *
  generalize okF 6 true e = q2 at *
  unfold Ex.cs at HH HB ⊢
  generalize e.l.length = ll at *
  go_enter Tryz.func13, Tryz.ntmps13
  go_wp2_with fail
  refine (unhide HH).mono ?_
  rintro r w1 ⟨v, rfl, hv, hb1⟩
  have BB := hide ((unhide HB).trans (hb1.mono (unhide HB).size))
  cases q with
  | false =>
    have E := hide (unhide NP rfl)
    clear hb1 HH HB hv IP
    go_wp2
    go_ret
    exact ⟨by rw [unhide E]; rfl, unhide BB⟩
  | true =>
    have hve := hv rfl
    subst hve
    have I2 := hide (unhide IP w1 rfl)
    clear hb1 HH HB hv IP NP
    go_wp2_with (go_at_call 23; refine (unhide I2).mono ?_; rintro r w2 ⟨rfl, hb2⟩)
    go_ret
    exact ⟨rfl, (unhide BB).trans (hb2.mono (unhide BB).size)⟩
end Go.Proofs.YthgbpofcfmnpdaaGreatDoor

namespace Go.Proofs.YthgbpofcfmnpdaaGreatDoor
open Go.ChangeShapes Go.WideShapes Go.ChangeAt Go.RowKit
set_option linter.unusedVariables false
set_option maxRecDepth 8000

theorem infoT : (Tryz.prog.info? 62).map (fun i => (i.zero, i.size, i.bytes)) = some (some (.agg #[.int .i64 0, .int .i64 0, .string ⟨#[]⟩]), 3, 32) := by kernel_rfl
theorem made_cells (n : Nat) : (madeCells #[.int .i64 0, .int .i64 0, .string ⟨#[]⟩] (n * 3)).toList = cellsT (List.replicate n T0) := by
  apply List.ext_getElem?
  intro j
  have hl : (cellsT (List.replicate n T0)).length = n * 3 := by rw [cellsT_len, List.length_replicate]
  by_cases hj : j < n * 3
  · have hT : ∀ i, i < n → tAt (List.replicate n T0) i = T0 := fun i hi => by
      unfold tAt
      rw [List.getD_eq_getElem?_getD, List.getElem?_replicate, if_pos hi]
      rfl
    have hg := cellsT_get (List.replicate n T0) (j / 3) (by rw [List.length_replicate]; omega)
    rw [hT (j / 3) (by omega)] at hg
    have hm : (madeCells #[.int .i64 0, .int .i64 0, .string ⟨#[]⟩] (n * 3)).toList[j]? = some ((#[Value.int .i64 0, .int .i64 0, .string ⟨#[]⟩] : Array Value)[j % 3]!) := by
      simp [madeCells, hj]
    rw [hm]
    have h3 : j % 3 = 0 ∨ j % 3 = 1 ∨ j % 3 = 2 := by omega
    rcases h3 with h | h | h
    · have e : j = j / 3 * 3 := by omega
      rw [h]; conv => rhs; rw [e]
      rw [hg.1]; rfl
    · have e : j = j / 3 * 3 + 1 := by omega
      rw [h]; conv => rhs; rw [e]
      rw [hg.2.1]; rfl
    · have e : j = j / 3 * 3 + 2 := by omega
      rw [h]; conv => rhs; rw [e]
      rw [hg.2.2]; rfl
  · rw [List.getElem?_eq_none (by rw [Array.length_toList, size_madeCells]; omega), List.getElem?_eq_none (by omega)]
theorem fill_step (ts : List Tk) (k n : Nat) (hn : ts.length = n) (hk : k < n) : (ts.take k ++ List.replicate (n - k) T0).set k (tAt ts k) = ts.take (k + 1) ++ List.replicate (n - (k + 1)) T0 := by
  have e1 : (ts.take k).length = k := by rw [List.length_take]; omega
  have e2 : n - k = (n - (k + 1)) + 1 := by omega
  rw [List.set_append_right _ _ (by omega), e1, Nat.sub_self, e2, List.replicate_succ, List.set_cons_zero]
  rw [show ts.take (k + 1) = ts.take k ++ [ts[k]'(by omega)] from List.take_succ_eq_append_getElem (by omega)]
  unfold tAt
  rw [List.getD_eq_getElem?_getD, List.getElem?_eq_getElem (by omega), List.append_assoc]
  rfl
set_option maxHeartbeats 1000000 in
theorem sameToks_same (a b : Option Addr) (len c1 c2 : Nat) (ts : List Tk) (w : World) (hl : ts.length = len) (hm : len ≤ 1048576) (h1 : RdT w a ts) (h2 : RdT w b ts) :
    Calls Tryz.prog 12 #[.slice a len c1, .slice b len c2] w fun e w' => e = .returned (.bool true) ∧ Below w.heap.size w w' := by
  go_enter Tryz.func12, Tryz.ntmps12
  go_wp2
  go_loopw [5] (fun i wr => ∃ (k : Nat) (y : Sub w.heap.size w), k ≤ len ∧ i = .int .i64 k ∧ wr = y.w) (fun i _ => len - (intOf i).toNat)
  case atStart => exact ⟨0, ⟨w, Below.refl _ _⟩, Nat.zero_le _, rfl, rfl⟩
  case round =>
    obtain ⟨k, x, hk, rfl, rfl⟩ := hrel
    by_cases hlt : k < len
    · rcases h1 with h0 | ⟨p, po, rfl, hp, hpc⟩
      · rw [h0] at hl; simp at hl; omega
      rcases h2 with h0 | ⟨q, qo, rfl, hq, hqc⟩
      · rw [h0] at hl; simp at hl; omega
      obtain ⟨e0, e1, e2⟩ := hpc k (by omega)
      obtain ⟨g0, g1, g2⟩ := hqc k (by omega)
      have d0 : ∀ y : Sub w.heap.size w, y.w.cell? ⟨p, po + k * 3, none⟩ = _ := fun y => (y.h.cell (p := ⟨p, _, none⟩) hp).trans e0
      have d1 : ∀ y : Sub w.heap.size w, y.w.cell? ⟨p, po + k * 3 + 1, none⟩ = _ := fun y => (y.h.cell (p := ⟨p, _, none⟩) hp).trans e1
      have d2 : ∀ y : Sub w.heap.size w, y.w.cell? ⟨p, po + k * 3 + 2, none⟩ = _ := fun y => (y.h.cell (p := ⟨p, _, none⟩) hp).trans e2
      have f0 : ∀ y : Sub w.heap.size w, y.w.cell? ⟨q, qo + k * 3, none⟩ = _ := fun y => (y.h.cell (p := ⟨q, _, none⟩) hq).trans g0
      have f1 : ∀ y : Sub w.heap.size w, y.w.cell? ⟨q, qo + k * 3 + 1, none⟩ = _ := fun y => (y.h.cell (p := ⟨q, _, none⟩) hq).trans g1
      have f2 : ∀ y : Sub w.heap.size w, y.w.cell? ⟨q, qo + k * 3 + 2, none⟩ = _ := fun y => (y.h.cell (p := ⟨q, _, none⟩) hq).trans g2
      have ne := Sub.ne w.heap.size w
      generalize (tAt ts k).s = ss at *
      generalize (tAt ts k).k = kk at *
      generalize (tAt ts k).n = nn at *
      clear e0 e1 e2 g0 g1 g2 hpc hqc
      go_wp2_with fail
      refine wp_region_sub x (by kernel_rfl) (by kernel_rfl) ?_
      repeat (go_big_quiet_step (first | fail))
      refine wpQuiet_nil ?_
      intro y
      go_wp2
      go_roundw
      case rel => exact ⟨k + 1, y, by omega, by go_num, rfl⟩
      case measure => simp [intOf]; omega
    · go_wp2
      go_ret
      exact ⟨rfl, x.h⟩
end Go.Proofs.YthgbpofcfmnpdaaGreatDoor

namespace Go.Proofs.YthgbpofcfmnpdaaGreatDoor
open Go.ChangeShapes Go.WideShapes Go.ChangeAt Go.RowKit
set_option linter.unusedVariables false
set_option maxRecDepth 8000

theorem info5b : (Tryz.prog.info? 5).map (fun i => (i.zero, i.size, i.bytes)) = some (some (.int .u8 0), 1, 1) := by kernel_rfl
theorem size48 : (Tryz.prog.info? 98).map (·.size) = some 2 := by kernel_rfl
theorem lies48 : liesAt Tryz.prog Tryz.prog.depth 98 (2 / Tryz.prog.cellsOf 98) 0 98 1 = true := by kernel_rfl
theorem cells5 : Tryz.prog.cellsOf 5 = 1 := by kernel_rfl

/-- A builder of the call's own in block b that holds the bytes bs. -/
def Bd (w : World) (B b : Nat) (bs : List UInt8) : Prop := Lib.IsBuilder 98 5 B b (cellsB bs) w

/-- Blocks that are no bytes and no builder stay. -/
def Kp (w w' : World) : Prop := ∀ (g : Nat) (c : Array Value) (t : TypeId) (fz : Nat × Nat), w.heap[g]? = some (Obj.cells c t fz) → t ≠ 5 → t ≠ 98 → w'.heap[g]? = w.heap[g]?
theorem Kp.refl (w : World) : Kp w w := fun _ _ _ _ _ _ _ => rfl
theorem Kp.trans {a b c : World} (h : Kp a b) (k : Kp b c) : Kp a c := fun g x t fz e h1 h2 => (k g x t fz ((h g x t fz e h1 h2).trans e) h1 h2).trans (h g x t fz e h1 h2)
theorem Kp.set {w : World} {b j : Nat} {c : Array Value} {fz : Nat × Nat} (hb : w.heap[b]? = some (.cells c 98 fz)) (u : Value) : Kp w (w.setCell ⟨b, j, none⟩ u) := fun g x t fz' e h1 h2 =>
  Below.heap_setCell _ _ _ _ (fun (hg : g = b) => by subst hg; rw [hb] at e; cases e; exact h2 rfl)
theorem Kp.below {w w' : World} (h : Below w.heap.size w w') : Kp w w' := fun g x t fz e _ _ => h.block g (Array.getElem?_eq_some_iff.1 e).1
theorem Kp.grown {w w1 w2 : World} {B n : Nat} {v : Value} {L : List Value} (h1 : Below w.heap.size w w1) (hown : w.ownsRow B 5 1 v n L) (hg : w1.grownBy w2 v.ownBlock) : Kp w w2 := fun g x t fz e h2 h3 => by
  have hl := (Array.getElem?_eq_some_iff.1 e).1
  refine (hg.block g (Nat.lt_of_lt_of_le hl h1.size) (fun he => ?_)).trans (h1.block g hl)
  obtain ⟨_, ⟨rfl, _⟩ | ⟨g', cap, cur, rfl, _, hh, _⟩⟩ := hown
  · simp [Value.ownBlock] at he
  · simp [Value.ownBlock] at he
    subst he
    rw [hh] at e
    cases e
    exact h2 rfl
set_option maxHeartbeats 1000000 in
set_option maxRecDepth 100000 in
theorem copyC (B b : Nat) (bs : List UInt8) (w : World) (h : Bd w B b bs) :
    Calls Tryz.prog 75 #[.pointer (some ⟨b, 0, none⟩)] w fun e w' => e = .returned (.tuple #[]) ∧ Lib.BuilderAt 98 5 B b (.pointer (some ⟨b, 0, none⟩)) (cellsB bs) w' ∧ Below B w w' ∧ Kp w w' := by
  obtain ⟨j, hj, hjs⟩ := Option.map_eq_some_iff.1 size48
  rcases h with h | h
  · have c0 := h.cell0
    have f0 := h.frozen0
    have E1 := Lib.run_to_unsafe (P := Tryz.prog) w ⟨b, 0, none⟩ Tryz.underlying96 Tryz.underlying147 hj (by rw [hjs]; decide) h.shape (Nat.zero_lt_succ 1)
    have E3 := Lib.run_from_unsafe (P := Tryz.prog) w ⟨b, 0, none⟩ Tryz.underlying147 Tryz.underlying96 hj h.shape lies48
    have E2 : (callFunc 99 #[.pointer (some ⟨b, 0, none⟩)]).run Tryz.prog w = .ok (.value (.pointer (some ⟨b, 0, none⟩))) w := by
      rw [run_callFunc_extern Tryz.func99 (by kernel_rfl) (by kernel_rfl) (by kernel_rfl) (e := Extern.AbiNoEscape.same) (by kernel_rfl), Lib.run_noEscape]
      rfl
    have HU := hide (h.used (.pointer (some ⟨b, 0, none⟩)))
    have HB := hide ((Below.refl B w).setCell (p := ⟨b, 0, none⟩) h.1 (.pointer (some ⟨b, 0, none⟩)))
    have HKP := hide (show Kp w (w.setCell ⟨b, 0, none⟩ (.pointer (some ⟨b, 0, none⟩))) from by obtain ⟨_, v, hbk, _⟩ := h; exact Kp.set hbk _)
    clear h
    go_enter Tryz.func75, Tryz.ntmps75
    go_wp2
    go_end0
    exact ⟨rfl, unhide HU, unhide HB, unhide HKP⟩
  · have c0 := h.cell0
    have E1 := Lib.run_neq_ptr_same (P := Tryz.prog) w ⟨b, 0, none⟩ Tryz.underlying96 hj
    have HU := hide h
    clear h
    go_enter Tryz.func75, Tryz.ntmps75
    go_wp2
    go_end0
    exact ⟨rfl, unhide HU, Below.refl _ _, Kp.refl _⟩

theorem ownsRow_slice {w : World} {B : Nat} {v : Value} {n : Nat} {L : List Value} (h : w.ownsRow B 5 1 v n L) : ∃ a cap, v = .slice a n cap := by
  obtain ⟨_, ⟨h1, h2⟩ | ⟨g, cap, cur, e, _⟩⟩ := h
  · exact ⟨none, 0, by rw [h1, h2]⟩
  · exact ⟨_, cap, e⟩
theorem ownsRow_other {w : World} {B b : Nat} {v : Value} {n : Nat} {L : List Value} {c : Array Value} {t : TypeId} {fz : Nat × Nat} (h : w.ownsRow B 5 1 v n L) (hb : w.heap[b]? = some (.cells c t fz)) (ht : t ≠ 5) : v.ownBlock ≠ some b := by
  intro e
  obtain ⟨_, ⟨rfl, _⟩ | ⟨g, cap, cur, rfl, _, hh, _⟩⟩ := h
  · simp [Value.ownBlock] at e
  · simp [Value.ownBlock] at e
    subst e
    rw [hh] at hb
    cases hb
    exact ht rfl
theorem ownsRow_keep {w w' : World} {B : Nat} {v : Value} {n : Nat} {L : List Value} (h : w.ownsRow B 5 1 v n L) (hs : ∀ g, v.ownBlock = some g → w'.heap[g]? = w.heap[g]?) : w'.ownsRow B 5 1 v n L := by
  obtain ⟨h1, h2 | ⟨g, cap, cur, rfl, hg, hh, r⟩⟩ := h
  · exact ⟨h1, .inl h2⟩
  · exact ⟨h1, .inr ⟨g, cap, cur, rfl, hg, (hs g rfl).trans hh, r⟩⟩

set_option maxHeartbeats 1000000 in
set_option maxRecDepth 100000 in
theorem writeB (B b : Nat) (bs : List UInt8) (c : UInt8) (w : World) (h : Bd w B b bs) (hlen : bs.length ≤ 16777216) (hBw : B ≤ w.heap.size) :
    Calls Tryz.prog 51 #[.pointer (some ⟨b, 0, none⟩), .int .u8 (c.toNat : Int)] w fun e w' => e = .returned .nilIface ∧ Bd w' B b (bs ++ [c]) ∧ Below B w w' ∧ Kp w w' := by
  obtain ⟨i0, hi, hz0, hz1, hz2⟩ := info_parts info5b
  obtain ⟨y, hy⟩ : ∃ y : Int, (c.toNat : Int) = y := ⟨_, rfl⟩
  have HC := hide (show cellsB bs ++ [Value.int .u8 y] = cellsB (bs ++ [c]) by rw [← hy]; simp [cellsB])
  rw [hy]
  clear hy
  go_enter Tryz.func51, Tryz.ntmps51
  go_wp2_with fail
  refine (copyC B b bs w h).mono ?_
  rintro e w1 ⟨rfl, ⟨hB, v, hbk, hown, hne⟩, hb1, hkp1⟩
  have KP1 := hide hkp1
  rw [cellsB_length] at hown
  have c1 : w1.cell? ⟨b, 1, none⟩ = some v := by rw [Lib.cell_of_heap hbk]; rfl
  have s1 := hb1.size
  have HO := hide hown
  have HK := hide hbk
  have HB1 := hide hb1
  have HNE := hide hne
  have hbl : b < w1.heap.size := (Array.getElem?_eq_some_iff.1 hbk).1
  have K1 := hide (cell_one_new w1 (Value.int .u8 y) 5)
  clear h hown hbk hb1 hne hkp1
  go_wp2_with (at_builtin; go_must (refine wpList_append_own _ rfl (.tmp 11) (.tmp 13) 22 rfl B 5 i0 (.int .u8 0) 1 1 Tryz.underlying22 hi hz0 hz1 hz2 rfl (by decide) v bs.length (cellsB bs) rfl ((unhide HO).alloc _) ⟨w1.heap.size, 0, none⟩ 1 1 [Value.int .u8 y] rfl rfl (unhide K1) (by intro u hu; simp at hu; subst hu; rfl) (by unfold maxLen; omega) (by omega) (by simp; omega) ?_; intro v2 w2 hown2 hgrow2 _; obtain ⟨a2, cp2, hv2⟩ := ownsRow_slice hown2; subst hv2; have hbk2 : w2.heap[b]? = some (.cells #[.pointer (some ⟨b, 0, none⟩), v] 98 (0, 0)) := (hgrow2.block b (by simp; omega) (fun e => (unhide HNE) e.symm)).trans ((((Below.refl w1.heap.size w1).alloc (Nat.le_refl _) (Obj.cells #[Value.int .u8 y] 5)).block b hbl).trans (unhide HK)); have c2 : w2.cell? ⟨b, 1, none⟩ = some v := (by rw [Lib.cell_of_heap hbk2]; rfl); have f2 : w2.frozen? ⟨b, 1, none⟩ = false := (by simp [World.frozen?, hbk2])))
  rw [unhide HC] at hown2
  have hB2 : Below B w w2 := (((unhide HB1).alloc (by omega) _)).grown hgrow2 (by simp; omega) (fun k h => ((unhide HO).lt k h).1)
  go_ret
  refine ⟨rfl, .inr ⟨hB, .slice a2 (bs.length + 1) cp2, ?_, ?_, ?_⟩, hB2.setCell (p := ⟨b, 1, none⟩) hB _, (unhide KP1).trans ((Kp.grown ((Below.refl w1.heap.size w1).alloc (Nat.le_refl _) _) (unhide HO) hgrow2).trans (Kp.set hbk2 _))⟩
  · simp [World.setCell, Array.getElem?_modify, hbk2]
  · rw [cellsB_length, List.length_append]
    exact ownsRow_keep hown2 fun g hg => Below.heap_setCell _ _ _ _ (fun e => ownsRow_other hown2 hbk2 (by decide) (by rw [hg, e]))
  · exact ownsRow_other hown2 hbk2 (by decide)
set_option maxHeartbeats 1000000 in
set_option maxRecDepth 100000 in
theorem strB (B b : Nat) (bs : List UInt8) (w : World) (h : Bd w B b bs) (h0 : bs ≠ []) :
    Calls Tryz.prog 54 #[.pointer (some ⟨b, 0, none⟩)] w fun e w' => e = .returned (.string (strOf bs)) ∧ Below B w w' := by
  obtain ⟨p, hB, v, hbk, hown, hne⟩ : ∃ p, Lib.BuilderAt 98 5 B b p (cellsB bs) w := h.elim (fun x => ⟨_, x⟩) (fun x => ⟨_, x⟩)
  rw [cellsB_length] at hown
  have hl0 : bs.length ≠ 0 := by simpa using h0
  have hO : OwnB w B v bs := hown
  obtain ⟨_, ⟨_, hz⟩ | ⟨g, cap, cur, rfl, hbg, hg, hnc, hcm, hcs, htake⟩⟩ := hown
  · exact absurd hz hl0
  unfold maxLen at hcm
  have c1 : w.drew.cell? ⟨b, 1, none⟩ = some (.slice (some ⟨g, 0, none⟩) bs.length cap) := by
    have : w.drew.heap[b]? = some (.cells #[p, .slice (some ⟨g, 0, none⟩) bs.length cap] 98 (0, 0)) := hbk
    rw [Lib.cell_of_heap this]; rfl
  have hSD : (Builtin.unsafeSliceData_ #[22] 132 #[.slice (some ⟨g, 0, none⟩) bs.length cap]).run Tryz.prog w.drew = .ok (.pointer (some ⟨g, 0, none⟩)) w.drew := Lib.run_unsafeSliceData_row _ _ _ _ _ _ (by omega)
  have hUS : (Builtin.unsafeString_ #[132, 3] 9 #[.pointer (some ⟨g, 0, none⟩), .int .i64 bs.length]).run Tryz.prog w.drew = .ok (.string (strOf bs)) (w.drew.freeze ⟨g, 0, none⟩ bs.length) := by
    refine Lib.run_unsafeString_row w.drew 132 3 9 5 Tryz.underlying132 cells5 g cur.size (by have hg' : w.drew.heap[g]? = some (.cells cur 5 (0, 0)) := hg; simp [World.shape?, hg']) bs h0 (by omega) (by omega) ?_
    intro j x hx
    exact rd_cells hO.rd1 j (.int .u8 x.toNat) (by simp [cellsB, hx])
  have HB := hide (Lib.below_freeze (Below.drew (Below.refl B w)) (p := ⟨g, 0, none⟩) hbg bs.length)
  clear hbk hg htake hO h
  go_enter Tryz.func54, Tryz.ntmps54
  go_wp2
  go_region
  all_goals go_wp2
  all_goals go_ret
  all_goals exact ⟨rfl, unhide HB⟩


set_option maxHeartbeats 1000000 in
set_option maxRecDepth 100000 in
theorem writeS (B b : Nat) (bs ts : List UInt8) (w : World) (h : Bd w B b bs) (hlen : bs.length ≤ 16777216) (htl : ts.length ≤ 16777216) (hBw : B ≤ w.heap.size) :
    Calls Tryz.prog 52 #[.pointer (some ⟨b, 0, none⟩), .string (strOf ts)] w fun e w' => (∃ v, e = .returned v) ∧ Bd w' B b (bs ++ ts) ∧ Below B w w' ∧ Kp w w' := by
  obtain ⟨i0, hi, hz0, hz1, hz2⟩ := info_parts info5b
  obtain ⟨s, hs⟩ : ∃ s, s = strOf ts := ⟨_, rfl⟩
  have hz : s.size = ts.length := by rw [hs, strOf_size]
  have HC := hide (show cellsB bs ++ Lib.strCells s = cellsB (bs ++ ts) by rw [cellsB_append, hs]; rfl)
  rw [← hs]
  clear hs
  go_enter Tryz.func52, Tryz.ntmps52
  go_wp2_with fail
  refine (copyC B b bs w h).mono ?_
  rintro e w1 ⟨rfl, ⟨hB, v, hbk, hown, hne⟩, hb1, hkp1⟩
  have KP1 := hide hkp1
  rw [cellsB_length] at hown
  have c1 : w1.cell? ⟨b, 1, none⟩ = some v := by rw [Lib.cell_of_heap hbk]; rfl
  have s1 := hb1.size
  have HO := hide hown
  have HK := hide hbk
  have HB1 := hide hb1
  have HNE := hide hne
  have hbl : b < w1.heap.size := (Array.getElem?_eq_some_iff.1 hbk).1
  clear h hown hbk hb1 hne hkp1
  go_wp2_with (at_builtin; go_must (refine Lib.wpList_append_own_string _ rfl _ _ 22 9 rfl B 5 i0 Tryz.underlying22 Tryz.underlying9 hi hz0 hz1 hz2 v bs.length (cellsB bs) rfl (unhide HO) s rfl (by unfold maxLen; omega) (by omega) (by omega) ?_; intro v2 w2 hown2 hgrow2 _; obtain ⟨a2, cp2, hv2⟩ := ownsRow_slice hown2; subst hv2; have hbk2 : w2.heap[b]? = some (.cells #[.pointer (some ⟨b, 0, none⟩), v] 98 (0, 0)) := (hgrow2.block b hbl (fun e => (unhide HNE) e.symm)).trans (unhide HK); have c2 : w2.cell? ⟨b, 1, none⟩ = some v := (by rw [Lib.cell_of_heap hbk2]; rfl); have f2 : w2.frozen? ⟨b, 1, none⟩ = false := (by simp [World.frozen?, hbk2])))
  rw [unhide HC] at hown2
  have hB2 : Below B w w2 := (unhide HB1).grown hgrow2 (by omega) (fun k h => ((unhide HO).lt k h).1)
  go_ret2
  refine ⟨⟨_, rfl⟩, .inr ⟨hB, .slice a2 (bs.length + s.size) cp2, ?_, ?_, ?_⟩, hB2.setCell (p := ⟨b, 1, none⟩) hB _, (unhide KP1).trans ((Kp.grown (Below.refl _ _) (unhide HO) hgrow2).trans (Kp.set hbk2 _))⟩
  · simp [World.setCell, Array.getElem?_modify, hbk2]
    exact hz.symm
  · rw [cellsB_length, List.length_append, ← hz]
    exact ownsRow_keep hown2 fun g hg => Below.heap_setCell _ _ _ _ (fun e => ownsRow_other hown2 hbk2 (by decide) (by rw [hg, e]))
  · exact ownsRow_other hown2 hbk2 (by decide)


theorem row_ltT {w : World} {g : Nat} {o : Obj} (h : w.heap[g]? = some o) : g < w.heap.size := (Array.getElem?_eq_some_iff.1 h).1
theorem row_latT {w w' : World} {g : Nat} {o : Obj} (h : w.heap[g]? = some o) (hb : Below w.heap.size w w') : w'.heap[g]? = some o := (hb.block g (row_ltT h)).trans h
theorem bd_later {w w' : World} {B b : Nat} {bs : List UInt8} (h : Bd w B b bs) (hb : Below w.heap.size w w') : Bd w' B b bs := by
  have key : ∀ p, Lib.BuilderAt 98 5 B b p (cellsB bs) w → Lib.BuilderAt 98 5 B b p (cellsB bs) w' := fun p ⟨h1, v, h2, h3, h4⟩ =>
    ⟨h1, v, row_latT h2 hb, ownsRow_keep h3 fun g hg => hb.block g ((h3.lt g hg).2), h4⟩
  exact h.elim (fun x => .inl (key _ x)) (fun x => .inr (key _ x))
theorem bd_new (w : World) (B : Nat) (hB : B ≤ w.heap.size) : Bd (w.alloc (.cells #[.pointer none, .slice none 0 0] 98)) B w.heap.size [] :=
  .inl ⟨hB, .slice none 0 0, heap_alloc_new w _, ⟨rfl, .inl ⟨rfl, rfl⟩⟩, by simp [Value.ownBlock]⟩
set_option maxHeartbeats 1000000 in
set_option maxRecDepth 100000 in
theorem strB0 (B b : Nat) (w : World) (h : Bd w B b []) (hBw : B ≤ w.heap.size) :
    Calls Tryz.prog 54 #[.pointer (some ⟨b, 0, none⟩)] w fun e w' => e = .returned (.string (strOf [])) ∧ Below B w w' := by
  obtain ⟨p, hB, v, hbk, hown, hne⟩ : ∃ p, Lib.BuilderAt 98 5 B b p (cellsB []) w := h.elim (fun x => ⟨_, x⟩) (fun x => ⟨_, x⟩)
  have hUS : ∀ q W, (Builtin.unsafeString_ #[132, 3] 9 #[.pointer q, .int .i64 0]).run Tryz.prog W = .ok (.string (strOf [])) W := fun q W => Lib.run_unsafeString_none W 132 3 9 q
  have HB := hide (Below.drew (Below.refl B w))
  obtain ⟨_, ⟨rfl, _⟩ | ⟨g, cap, cur, rfl, hbg, hg, hnc, hcm, hcs, htake⟩⟩ := hown
  · have c1 : w.drew.cell? ⟨b, 1, none⟩ = some (.slice none 0 0) := by
      have : w.drew.heap[b]? = some (.cells #[p, .slice none 0 0] 98 (0, 0)) := hbk
      rw [Lib.cell_of_heap this]; rfl
    have hSD : (Builtin.unsafeSliceData_ #[22] 132 #[.slice none 0 0]).run Tryz.prog w.drew = .ok (.pointer none) w.drew := rfl
    have hUS' := hUS none w.drew
    generalize strOf [] = S0 at *
    clear hbk h hUS
    go_enter Tryz.func54, Tryz.ntmps54
    go_wp2
    go_region
    all_goals go_wp2
    all_goals go_ret
    all_goals exact ⟨rfl, unhide HB⟩
  · have c1 : w.drew.cell? ⟨b, 1, none⟩ = some (.slice (some ⟨g, 0, none⟩) 0 cap) := by
      have : w.drew.heap[b]? = some (.cells #[p, .slice (some ⟨g, 0, none⟩) 0 cap] 98 (0, 0)) := hbk
      rw [Lib.cell_of_heap this]; rfl
    by_cases hc0 : cap = 0
    · subst hc0
      have hSD : (Builtin.unsafeSliceData_ #[22] 132 #[.slice (some ⟨g, 0, none⟩) 0 0]).run Tryz.prog w.drew = .ok (.pointer (some ⟨w.drew.heap.size, 0, none⟩)) (w.drew.alloc (.view ⟨g, 0, none⟩ 5)) := Lib.run_unsafeSliceData_zero w.drew #[22] 132 5 Tryz.underlying132 ⟨g, 0, none⟩ 0 (5, cur.size) (by have hg' : w.drew.heap[g]? = some (.cells cur 5 (0, 0)) := hg; simp [World.shape?, hg'])
      have hUS' := hUS (some ⟨w.heap.size, 0, none⟩) (w.alloc (.view ⟨g, 0, none⟩ 5)).drew
      have c1b : (w.alloc (.view ⟨g, 0, none⟩ 5)).cell? ⟨b, 1, none⟩ = some (.slice (some ⟨g, 0, none⟩) 0 0) := by
        rw [World.cell?_alloc_past _ _ _ (row_ltT hbk)]; exact c1
      have HB2 := hide (((Below.refl B w).alloc hBw (.view ⟨g, 0, none⟩ 5)).drew)
      generalize strOf [] = S0 at *
      clear hbk h hUS hg
      go_enter Tryz.func54, Tryz.ntmps54
      go_wp2
      go_region
      all_goals go_wp2
      all_goals go_ret
      all_goals exact ⟨rfl, unhide HB2⟩
    · have hSD : (Builtin.unsafeSliceData_ #[22] 132 #[.slice (some ⟨g, 0, none⟩) 0 cap]).run Tryz.prog w.drew = .ok (.pointer (some ⟨g, 0, none⟩)) w.drew := Lib.run_unsafeSliceData_row _ _ _ _ _ _ hc0
      have hUS' := hUS (some ⟨g, 0, none⟩) w.drew
      generalize strOf [] = S0 at *
      clear hbk h hUS hg
      go_enter Tryz.func54, Tryz.ntmps54
      go_wp2
      go_region
      all_goals go_wp2
      all_goals go_ret
      all_goals exact ⟨rfl, unhide HB⟩
theorem strAny (B b : Nat) (bs : List UInt8) (w : World) (h : Bd w B b bs) (hBw : B ≤ w.heap.size) :
    Calls Tryz.prog 54 #[.pointer (some ⟨b, 0, none⟩)] w fun e w' => e = .returned (.string (strOf bs)) ∧ Below B w w' := by
  by_cases h0 : bs = []
  · subst h0; exact strB0 B b w h hBw
  · exact strB B b bs w h h0
end Go.Proofs.YthgbpofcfmnpdaaGreatDoor

namespace Go.Proofs.YthgbpofcfmnpdaaGreatDoor
open Go.ChangeShapes Go.WideShapes Go.ChangeAt Go.RowKit
set_option linter.unusedVariables false
set_option maxRecDepth 8000

/-- What stands while the program's LineOf goes on. -/
structure Lo (w wr : World) (bs : List UInt8) : Prop where
  bel : Below w.heap.size w wr
  bd : Bd wr w.heap.size w.heap.size bs
  sz : w.heap.size ≤ wr.heap.size
section
variable {w wr w' : World} {bs cs : List UInt8}
theorem Lo.next (h : Lo w wr bs) (hb : Below w.heap.size wr w') (k : Bd w' w.heap.size w.heap.size cs) : Lo w w' cs := ⟨h.bel.trans hb, k, Nat.le_trans h.sz hb.size⟩
theorem Lo.later (h : Lo w wr bs) (hb : Below wr.heap.size wr w') : Lo w w' bs := h.next (hb.mono h.sz) (bd_later h.bd hb)
end
theorem lo_new (w : World) : Lo w (w.alloc (.cells #[.pointer none, .slice none 0 0] 98)) [] :=
  ⟨below_new w _, bd_new w w.heap.size (Nat.le_refl _), by simp⟩
theorem tri_cells {W : World} {g : Nat} {t : Tk} {ty : TypeId} (h : W.heap[g]? = some (.cells t.cs ty (0, 0))) : W.cell? ⟨g, 0, none⟩ = some (.int .i64 t.k) ∧ W.cell? ⟨g, 1, none⟩ = some (.int .i64 t.n) ∧ W.cell? ⟨g, 2, none⟩ = some (.string t.s) :=
  ⟨Lib.cell_of_heap h 0, Lib.cell_of_heap h 1, Lib.cell_of_heap h 2⟩
set_option maxHeartbeats 2000000 in
theorem lineI_any (a : Option Addr) (len cap : Nat) (ts : List Tk) (w : World) (hl : ts.length = len) (hm : len + szL ts ≤ 1048576) (hr : RdT w a ts) (hg : w.cell? ⟨8, 7, none⟩ = some (.int .u8 3)) : Calls Tryz.prog 24 #[.slice a len cap] w fun e w' => e = .returned (.string (strOf (lineOf ts))) ∧ Below w.heap.size w w' := by
  unfold lineOf
  rw [hl]
  have O0 := hide (lo_new w)
  have gl : 8 < w.heap.size := World.block_lt_of_cell? w _ hg
  have TB := hide (fun wr (h : Below w.heap.size w wr) => (h.cell (p := ⟨8, 7, none⟩) gl).trans hg)
  clear hg gl
  go_enter Tryz.func24, Tryz.ntmps24
  go_wp2
  go_loopw [8] (fun i wr => ∃ k : Nat, k ≤ len ∧ i = .int .i64 k ∧ Lo w wr (lineT ts k)) (fun i _ => len - (intOf i).toNat)
  case atStart => exact ⟨0, Nat.zero_le _, rfl, unhide O0⟩
  case round =>
    clear O0
    obtain ⟨k, hk, rfl, ho⟩ := hrel
    have O1 := hide ho
    by_cases hlt : k < len
    · rcases hr with h0 | ⟨b, off, rfl, hbl, hc⟩
      · rw [h0] at hl; simp at hl; omega
      obtain ⟨c0, c1, c2⟩ := hc k (by omega)
      have d0 : wr.cell? ⟨b, off + k * 3, none⟩ = _ := (ho.bel.cell (p := ⟨b, _, none⟩) hbl).trans c0
      have d1 : wr.cell? ⟨b, off + k * 3 + 1, none⟩ = _ := (ho.bel.cell (p := ⟨b, _, none⟩) hbl).trans c1
      have d2 : wr.cell? ⟨b, off + k * 3 + 2, none⟩ = _ := (ho.bel.cell (p := ⟨b, _, none⟩) hbl).trans c2
      have LB := hide (show (lineT ts k).length ≤ 8388608 by
        have := lineT_len ts k (by omega)
        have := szL_le ts k
        omega)
      have hz3 : (tAt ts k).s.size ≤ 1048576 := by have := szL_at ts k (by omega); omega
      have LT := hide (show lineT ts (k + 1) = lineT ts k ++ (if k = 0 then [] else [32]) ++ tokL (tAt ts k) from rfl)
      have TL := hide (show tokL (tAt ts k) = if (tAt ts k).k = 2 then octD ((tAt ts k).n % 65536).toNat else (tAt ts k).s.data.toList from rfl)
      have O6 := hide (octD_six (tAt ts k).n)
      rw [unhide TL] at LT
      -- the box
      have O2 := hide (ho.later (below_new wr (.cells (tAt ts k).cs 62)))
      have R2 := hide (heap_alloc_new wr (.cells (tAt ts k).cs 62))
      have OC := hide (fun w2 (h : Below w.heap.size w w2) => octI_any (tAt ts k).n w2 (unhide TB w2 h))
      generalize lineT ts k = bs at *
      generalize hts : tAt ts k = t at *
      obtain ⟨kk, nn, ss⟩ := t
      unfold Tk.cs at O2 R2
      simp only at d0 d1 d2 hz3 LT O2 R2 OC O6
      generalize octD (nn % 65536).toNat = ds at *
      clear c0 c1 c2 hc ho TL hts
      by_cases hk0 : k = 0
      · have hg0 : decide (0 < k) = false := decide_eq_false (by omega)
        have LT0 := hide (show lineT ts (k + 1) = bs ++ (if kk = 2 then ds else ss.data.toList) by have := unhide LT; rw [if_pos hk0, List.append_nil] at this; exact this)
        clear hk0 LT
        by_cases hk2 : kk = 2
        · subst hk2
          have LT1 := hide (show lineT ts (k + 1) = bs ++ ds from unhide LT0)
          clear LT0
          have OC1 := hide (unhide OC _ (unhide O2).bel)
          go_wp2_with fail
          refine (unhide OC1).mono ?_
          rintro e w5 ⟨rfl, hb5⟩
          have O5 := hide ((unhide O2).later hb5)
          have WS := hide (writeS w.heap.size w.heap.size bs ds w5 (unhide O5).bd (by have := unhide LB; omega) (by have := unhide O6; omega) (unhide O5).sz)
          clear hb5 OC1
          go_wp2_with fail
          refine (unhide WS).mono ?_
          rintro e w6 ⟨⟨v6, rfl⟩, k6, hb6, _⟩
          have O7 := hide ((unhide O5).next hb6 k6)
          rw [← unhide LT1] at O7
          clear hb6 k6 WS O5
          go_wp2
          go_roundw
          case rel => exact ⟨k + 1, by omega, by go_num, unhide O7⟩
          case measure => simp [intOf]; omega
        · have LT1 := hide (show lineT ts (k + 1) = bs ++ ss.data.toList from (unhide LT0).trans (by rw [if_neg hk2]))
          clear LT0 OC
          have WS := hide (writeS w.heap.size w.heap.size bs ss.data.toList (wr.alloc (.cells #[.int .i64 kk, .int .i64 nn, .string ss] 62)) (unhide O2).bd (by have := unhide LB; omega) (by rw [size_len]; omega) (unhide O2).sz)
          rw [strOf_of] at WS
          go_wp2_with fail
          refine (unhide WS).mono ?_
          rintro e w6 ⟨⟨v6, rfl⟩, k6, hb6, _⟩
          have O7 := hide ((unhide O2).next hb6 k6)
          rw [← unhide LT1] at O7
          clear hb6 k6 WS
          go_wp2
          go_roundw
          case rel => exact ⟨k + 1, by omega, by go_num, unhide O7⟩
          case measure => simp [intOf]; omega
      · have hg0 : (0 : Int) < (k : Int) := by omega
        have LT0 := hide (show lineT ts (k + 1) = (bs ++ [32]) ++ (if kk = 2 then ds else ss.data.toList) by have := unhide LT; rw [if_neg hk0] at this; exact this)
        clear hk0 LT
        have WB := hide (writeB w.heap.size w.heap.size bs 32 (wr.alloc (.cells #[.int .i64 kk, .int .i64 nn, .string ss] 62)) (unhide O2).bd (by have := unhide LB; omega) (unhide O2).sz)
        go_wp2_with fail
        refine (unhide WB).mono ?_
        rintro e w3 ⟨rfl, k3, hb3, kp3⟩
        have R3 := (kp3 _ _ _ _ (unhide R2) (by decide) (by decide)).trans (unhide R2)
        obtain ⟨c0, c1, c2⟩ := tri_cells (t := ⟨kk, nn, ss⟩) R3
        simp only at c0 c1 c2
        have O3 := hide ((unhide O2).next hb3 k3)
        clear hb3 k3 kp3 R3 R2 O2 WB d0 d1 d2
        by_cases hk2 : kk = 2
        · subst hk2
          have LT1 := hide (show lineT ts (k + 1) = (bs ++ [32]) ++ ds from unhide LT0)
          clear LT0
          have OC1 := hide (unhide OC _ (unhide O3).bel)
          go_wp2_with fail
          refine (unhide OC1).mono ?_
          rintro e w5 ⟨rfl, hb5⟩
          have O5 := hide ((unhide O3).later hb5)
          have WS := hide (writeS w.heap.size w.heap.size (bs ++ [32]) ds w5 (unhide O5).bd (by have := unhide LB; rw [List.length_append]; have h1 : [(32 : UInt8)].length = 1 := rfl; omega) (by have := unhide O6; omega) (unhide O5).sz)
          clear hb5 OC1
          go_wp2_with fail
          refine (unhide WS).mono ?_
          rintro e w6 ⟨⟨v6, rfl⟩, k6, hb6, _⟩
          have O7 := hide ((unhide O5).next hb6 k6)
          rw [← unhide LT1] at O7
          clear hb6 k6 WS O5
          go_wp2
          go_roundw
          case rel => exact ⟨k + 1, by omega, by go_num, unhide O7⟩
          case measure => simp [intOf]; omega
        · have LT1 := hide (show lineT ts (k + 1) = (bs ++ [32]) ++ ss.data.toList from (unhide LT0).trans (by rw [if_neg hk2]))
          clear LT0 OC
          have WS := hide (writeS w.heap.size w.heap.size (bs ++ [32]) ss.data.toList w3 (unhide O3).bd (by have := unhide LB; rw [List.length_append]; have h1 : [(32 : UInt8)].length = 1 := rfl; omega) (by rw [size_len]; omega) (unhide O3).sz)
          rw [strOf_of] at WS
          go_wp2_with fail
          refine (unhide WS).mono ?_
          rintro e w6 ⟨⟨v6, rfl⟩, k6, hb6, _⟩
          have O7 := hide ((unhide O3).next hb6 k6)
          rw [← unhide LT1] at O7
          clear hb6 k6 WS
          go_wp2
          go_roundw
          case rel => exact ⟨k + 1, by omega, by go_num, unhide O7⟩
          case measure => simp [intOf]; omega
    · obtain rfl : k = len := by omega
      have SB := hide (strAny w.heap.size w.heap.size (lineT ts k) wr (unhide O1).bd (unhide O1).sz)
      go_wp2_with fail
      refine (unhide SB).mono ?_
      rintro e w4 ⟨rfl, hb4⟩
      have HB := hide ((unhide O1).bel.trans hb4)
      clear hb4 SB
      go_wp2
      go_ret
      exact ⟨rfl, unhide HB⟩
end Go.Proofs.YthgbpofcfmnpdaaGreatDoor

namespace Go.Proofs.YthgbpofcfmnpdaaGreatDoor
open Go.ChangeShapes Go.WideShapes Go.ChangeAt Go.RowKit
set_option linter.unusedVariables false
set_option maxRecDepth 8000

theorem cell_new (W : World) (cs : Array Value) (t : TypeId) : ∀ j u, cs.toList[j]? = some u → (W.alloc (.cells cs t)).cell? ((⟨W.heap.size, 0, none⟩ : Addr).add j) = some u := by
  intro j u hu
  have h : (W.alloc (.cells cs t)).cell? ⟨W.heap.size, j, none⟩ = some u := by rw [World.cell?_alloc_at _ _ _ _ rfl]; simpa using hu
  unfold Addr.add
  by_cases h0 : j = 0
  · subst h0; simpa using h
  · simpa [h0] using h
theorem ownT_empty (w : World) (B : Nat) (hB : B ≤ w.heap.size) : OwnT (w.alloc (Obj.cells #[] 62)) B (.slice (some ⟨w.heap.size, 0, none⟩) 0 0) [] :=
  World.ownsRow_lit w #[] 0 hB (by decide) rfl
theorem ownT_none (w : World) (B : Nat) : OwnT w B (.slice none 0 0) [] := ⟨rfl, .inl ⟨rfl, rfl⟩⟩
theorem ownT_app {w' : World} {B : Nat} {v : Value} {ts : List Tk} {t : Tk} (h : w'.ownsRow B 62 3 v (ts.length + 1) (cellsT ts ++ [.int .i64 t.k, .int .i64 t.n, .string t.s])) : OwnT w' B v (ts ++ [t]) := by
  unfold OwnT
  rw [List.length_append, cellsT_app]
  exact h
theorem newT_one (k n : Int) (x : ByteArray) : ∀ u ∈ [Value.int .i64 k, .int .i64 n, .string x], u.oneCell' = true := by
  intro u hu
  simp only [List.mem_cons, List.not_mem_nil, or_false] at hu
  rcases hu with rfl | rfl | rfl <;> rfl
set_option maxHeartbeats 4000000 in
theorem lexS_any (s : ByteArray) (w : World) (hz : s.size ≤ 1048576) : Calls Tryz.prog 32 #[.string s] w fun e w' => ∃ v, e = .returned (.tuple #[v, .bool (lexR s 0 []).2]) ∧ OwnT w' w.heap.size v (lexR s 0 []).1 ∧ Below w.heap.size w w' := by
  obtain ⟨i0, hi, hz0, hz1, hz2⟩ := info_parts infoT
  obtain ⟨R, hR⟩ : ∃ R, lexR s 0 [] = R := ⟨_, rfl⟩
  have HR := hide hR
  rw [hR]
  clear hR
  have hl := size_len s
  have O0 := hide (ownT_empty w w.heap.size (Nat.le_refl _))
  have B0 := hide (below_new w (.cells #[] 62))
  go_enter Tryz.func32, Tryz.ntmps32
  go_wp2
  go_loopw [4, 5] (fun o i wr => ∃ (k : Nat) (acc : List Tk) (a : Option Addr) (cap : Nat), k ≤ s.size ∧ i = .int .i64 k ∧ o = .slice a acc.length cap ∧ acc.length ≤ 800 ∧ OwnT wr w.heap.size (.slice a acc.length cap) acc ∧ Below w.heap.size w wr ∧ Hid (lexR s k acc = R)) (fun _ i _ => s.size - (intOf i).toNat)
  case atStart => exact ⟨0, [], _, _, Nat.zero_le _, rfl, rfl, by simp, unhide O0, unhide B0, unhide HR⟩
  case round =>
    clear O0 B0 HR
    obtain ⟨k, acc, a, cap, hk, rfl, rfl, h8, ho, hb, hd⟩ := hrel
    have OW := hide ho
    have HB := hide hb
    clear ho hb
    by_cases hlt : k < s.size
    · have he := sAt s k hlt
      have hbd := bAt_bd s.data.toList k
      by_cases h59 : bAt s.data.toList k = 59
      · have E := hide ((lexR_semi hlt h59).symm.trans hd.out)
        rw [h59] at he
        clear hd h59 hbd
        go_wp2
        go_ret2
        exact ⟨_, by rw [← unhide E]; rfl, by rw [← unhide E]; exact unhide OW, unhide HB⟩
      · cases hbl : blB (bAt s.data.toList k)
        · have EB := hide (fun h => (lexR_bad hlt h59 hbl h).symm.trans hd.out)
          have EN := hide (fun h3 h4 => (lexR_next hlt h59 hbl h3 h4).symm.trans hd.out)
          have BL := hide hbl
          have h32 : (bAt s.data.toList k == 32) = false := beq_eq_false_iff_ne.2 fun e => by rw [e] at hbl; exact absurd hbl (by decide)
          have h9 : (bAt s.data.toList k == 9) = false := beq_eq_false_iff_ne.2 fun e => by rw [e] at hbl; exact absurd hbl (by decide)
          have EE := hide (oneE_bd s k hlt)
          have O1 := hide (oneS_any s k wr hz hlt)
          have TS := hide (fun w => tokS_any (oneT badS s k) w)
          have XS := hide (show (oneT badS s k).s.size ≤ 1099511627776 by
            unfold oneT
            have hx := extract_size s k (oneE s k)
            split
            · unfold wordT; split <;> (show (s.extract k (oneE s k)).size ≤ _; omega)
            · split
              · unfold numT
                split
                · show (0 : Nat) ≤ _; omega
                · show (0 : Nat) ≤ _; omega
              · split <;> (show (s.extract k (oneE s k)).size ≤ _; omega))
          generalize oneE s k = E at *
          generalize bAt s.data.toList k = c at *
          generalize hT : oneT badS s k = T at *
          have TV := hide (fun w => unhide TS w (unhide XS))
          generalize T.ok = q at *
          obtain ⟨tk, tn, tx⟩ := T
          have B2 := hide (fun W => below_new W (.cells (Tk.cs ⟨tk, tn, tx⟩) 62))
          have R2 := hide (fun W => heap_alloc_new W (.cells (Tk.cs ⟨tk, tn, tx⟩) 62))
          unfold Tk.v Tk.cs at *
          simp only at O1 TV B2 R2
          obtain ⟨b1, b2⟩ := unhide EE
          clear TS XS hT hd hbl EE
          go_wp2_with fail
          refine (unhide O1).mono ?_
          rintro e w1 ⟨rfl, hb1⟩
          have OW1 := hide ((unhide OW).later hb1)
          have HB1 := hide ((unhide HB).trans (hb1.mono (unhide HB).size))
          clear hb1 OW HB O1
          go_wp2_with fail
          refine (unhide TV _).mono ?_
          rintro e w3 ⟨rfl, hb3⟩
          have R3 := hide ((hb3.block _ (by simp)).trans (unhide R2 w1))
          have OW3 := hide (((unhide OW1).later (unhide B2 w1)).later hb3)
          have HB3 := hide (((unhide HB1).trans ((unhide B2 w1).mono (unhide HB1).size)).trans (hb3.mono (Nat.le_trans (unhide HB1).size (unhide B2 w1).size)))
          have hs3 := (unhide HB3).size
          clear hb3 OW1 HB1 TV B2 R2
          generalize w1.heap.size = g1 at *
          cases q
          · have E1 := hide (unhide EB (.inl rfl))
            have O4 := hide (ownT_empty w3 w.heap.size hs3)
            have B4 := hide ((unhide HB3).alloc hs3 (.cells #[] 62))
            clear EB EN
            go_wp2
            go_ret2
            exact ⟨_, by rw [← unhide E1]; rfl, by rw [← unhide E1]; exact unhide O4, unhide B4⟩
          · by_cases h800 : acc.length = 800
            · have E1 := hide (unhide EB (.inr h800))
              have O4 := hide (ownT_empty w3 w.heap.size hs3)
              have B4 := hide ((unhide HB3).alloc hs3 (.cells #[] 62))
              have h8e : ((acc.length : Int) == 800) = true := by simp [h800]
              clear EB EN
              go_wp2
              go_ret2
              exact ⟨_, by rw [← unhide E1]; rfl, by rw [← unhide E1]; exact unhide O4, unhide B4⟩
            · have E1 := hide (unhide EN rfl h800)
              have h8e : ((acc.length : Int) == 800) = false := beq_eq_false_iff_ne.2 (by omega)
              have c0 := (tri_cells (t := ⟨tk, tn, tx⟩) (unhide R3)).1
              have c1 := (tri_cells (t := ⟨tk, tn, tx⟩) (unhide R3)).2.1
              have c2 := (tri_cells (t := ⟨tk, tn, tx⟩) (unhide R3)).2.2
              simp only at c0 c1 c2
              have K1 := hide (cell_new w3 #[.int .i64 tk, .int .i64 tn, .string tx] 62)
              clear EB EN R3
              go_wp2_with (at_builtin; go_must (refine wpList_append_own _ rfl (.tmp 46) (.tmp 48) 32 rfl w.heap.size 62 i0 (.agg #[.int .i64 0, .int .i64 0, .string ⟨#[]⟩]) 3 32 Tryz.underlying32 hi hz0 hz1 hz2 rfl (by decide) (.slice a acc.length cap) acc.length (cellsT acc) rfl (World.ownsRow.alloc (unhide OW3) _) ⟨w3.heap.size, 0, none⟩ 1 1 [.int .i64 tk, .int .i64 tn, .string tx] rfl rfl (unhide K1) (newT_one _ _ _) (by unfold maxLen; omega) (by omega) (by simp; omega) ?_; intro v5 w5 hown5 hgrow5 _; have OW5 := hide (ownT_app (t := ⟨tk, tn, tx⟩) hown5); obtain ⟨a5, c5, hv5, _⟩ := (unhide OW5).rd; have HB5 := hide (((unhide HB3).alloc hs3 (.cells #[.int .i64 tk, .int .i64 tn, .string tx] 62)).grown hgrow5 (by simp; omega) (fun g hg => ((unhide OW3).lt hg).1)); clear hown5 hgrow5; subst hv5))
              go_roundw
              case rel => exact ⟨E, acc ++ [Tk.mk tk tn tx], a5, c5, b2, by go_num, by rw [List.length_append]; rfl, by rw [List.length_append]; simp; omega, unhide OW5, unhide HB5, unhide E1⟩
              case measure => simp [intOf]; omega
        · have EL := hide ((lexR_blank hlt h59 hbl).symm.trans hd.out)
          clear hd
          by_cases h32 : bAt s.data.toList k = 32
          · rw [h32] at he
            clear hbl hbd h59 h32
            go_wp2
            go_roundw
            case rel => exact ⟨k + 1, acc, a, cap, by omega, by go_num, rfl, h8, unhide OW, unhide HB, unhide EL⟩
            case measure => simp [intOf]; omega
          · have h9 : bAt s.data.toList k = 9 := by
              unfold blB at hbl
              rw [Bool.or_eq_true, beq_iff_eq, beq_iff_eq] at hbl
              exact hbl.elim (fun e => absurd e h32) id
            rw [h9] at he
            clear hbl hbd h59 h32 h9
            go_wp2
            go_roundw
            case rel => exact ⟨k + 1, acc, a, cap, by omega, by go_num, rfl, h8, unhide OW, unhide HB, unhide EL⟩
            case measure => simp [intOf]; omega
    · have E := hide ((lexR_end hlt).symm.trans hd.out)
      clear hd
      go_wp2
      go_ret2
      exact ⟨_, by rw [← unhide E]; rfl, by rw [← unhide E]; exact unhide OW, unhide HB⟩
end Go.Proofs.YthgbpofcfmnpdaaGreatDoor

namespace Go.Proofs.YthgbpofcfmnpdaaGreatDoor
open Go.ChangeShapes Go.WideShapes Go.ChangeAt Go.RowKit
set_option linter.unusedVariables false
set_option linter.unusedSimpArgs false

theorem below_drew {w : World} : Below w.heap.size w w.drew := ⟨rfl, rfl, rfl, Nat.le_refl _, fun _ _ => rfl⟩
theorem row_keep {w w' : World} {g : Nat} {o : Obj} (h : w.heap[g]? = some o) (hb : Below w.heap.size w w') : w'.heap[g]? = some o := (hb.block g (Array.getElem?_eq_some_iff.1 h).1).trans h
/-- A load of a whole row in a guarded place. -/
theorem yields_loadG {P : Program} {ops : Array Oper} {S : World → Prop} {o : Oper} {a : Act} (hw : Region.wanted o (yielded ops a.tmps) = true) (ty : TypeId) (x : Operand) (ho : o.op = .load ty x) (g : Nat) (hx : a.eval x = .pointer (some ⟨g, 0, none⟩)) (t : TypeId) (cs : Array Value) (d : TypeDesc)
    (hS : ∀ w, S w → w.heap[g]? = some (.cells cs t (0, 0))) (hu : P.underlying ty = some d) (hd : (match d with | .struct _ | .array _ _ => true | _ => false) = true) (hi : (P.info? ty).map (·.size) = some cs.size) : YieldsIf P ops S o (.agg cs) a := by
  refine .inl ⟨hw, fun w hw => ?_⟩
  simp only [execOp, ho, hx, Instr.loadAt, Instr.sureAddr, Sem.run_bind, Sem.run_pure, Result.andThen_ok, run_loadVar_row w g t ty cs (0, 0) d (hS w hw) hu hd hi]
end Go.Proofs.YthgbpofcfmnpdaaGreatDoor

namespace Go.Proofs.YthgbpofcfmnpdaaGreatDoor
open Go.ChangeShapes Go.WideShapes Go.ChangeAt Go.RowKit
set_option linter.unusedVariables false
set_option maxRecDepth 8000
set_option linter.unusedSimpArgs false

set_option maxHeartbeats 1000000 in
theorem markS_ex (x : ByteArray) (w : World) : Calls Tryz.prog 79 #[.string x] w fun e w' => e = .returned (Tk.v ⟨4, 0, x⟩) ∧ Below w.heap.size w w' := by
  have B0 := hide (below_new w (.cells T0c 62))
  have R0 := hide (heap_alloc_new w (.cells T0c 62))
  unfold T0c at B0 R0
  unfold Tk.v Tk.cs
  simp only
  go_enter Tryz.func79, Tryz.ntmps79
  go_wp2_with (first | (refine wpList_store_row rfl 62 _ _ rfl w.heap.size #[.int .i64 4, .int .i64 0, .string x] rfl rfl 62 _ (unhide R0) szK rfl (tk_one _ _ _) ?_))
  refine bodyPost_ret (results_cell_row (P := Tryz.prog) rfl _ _ w.heap.size 62 #[.int .i64 4, .int .i64 0, .string x] (0, 0) _ rfl (setRow_heap _ _ _ _ _ _ (unhide R0)) Tryz.underlying62 rfl szK) rfl ?_
  exact ⟨rfl, below_row (unhide B0)⟩
set_option maxHeartbeats 1000000 in
theorem signS_any (k : Int) (hk : 5 ≤ k ∧ k ≤ 10) (w : World) : Calls Tryz.prog 80 #[.int .i64 k] w fun e w' => e = .returned (.string (mkS (sgnC k))) ∧ w' = w := by
  have : k = 5 ∨ k = 6 ∨ k = 7 ∨ k = 8 ∨ k = 9 ∨ k = 10 := by omega
  rcases this with rfl | rfl | rfl | rfl | rfl | rfl <;> (go_enter Tryz.func80, Tryz.ntmps80; go_wp2; go_ret; exact ⟨rfl, rfl⟩)
/-- Where tokens that are owned lie. -/
theorem OwnT.src {w : World} {B : Nat} {v : Value} {ts : List Tk} (h : OwnT w B v ts) (hts : ts ≠ []) : ∃ g c, v = .slice (some ⟨g, 0, none⟩) ts.length c ∧ ∀ j u, (cellsT ts)[j]? = some u → w.cell? ((⟨g, 0, none⟩ : Addr).add j) = some u := by
  rcases h.form with ⟨rfl, rfl⟩ | ⟨g, c, rfl, _⟩
  · exact absurd rfl hts
  · refine ⟨g, c, rfl, fun j u hu => ?_⟩
    have hj : j < ts.length * 3 := by rw [← cellsT_len]; exact (List.getElem?_eq_some_iff.1 hu).1
    have := (World.ownsRow.cellAt h j hj).trans hu
    unfold Addr.add
    by_cases h0 : j = 0
    · subst h0; simpa using this
    · simpa [h0] using this
theorem ownT_join {w' : World} {B : Nat} {v : Value} {ts us : List Tk} (h : w'.ownsRow B 62 3 v (ts.length + us.length) (cellsT ts ++ cellsT us)) : OwnT w' B v (ts ++ us) := by
  unfold OwnT
  rw [List.length_append, cellsT_app]
  exact h
def ToksP (d : Nat) : Prop := ∀ (e : Ex) (b : Option Addr) (cap : Nat) (w : World), okF d true e = true → RdX w 0 e b → Calls Tryz.prog 57 #[.agg (e.cs b cap)] w fun r w' => ∃ v, r = .returned v ∧ OwnT w' w.heap.size v (toksF d e) ∧ Below w.heap.size w w'
theorem ownT_new (w : World) (t : Tk) (B : Nat) (hB : B ≤ w.heap.size) : OwnT (w.alloc (.cells t.cs 62)) B (.slice (some ⟨w.heap.size, 0, none⟩) 1 1) [t] :=
  ⟨rfl, .inr ⟨w.heap.size, 1, t.cs, rfl, hB, Array.getElem?_push_size, Nat.le_refl _, by unfold maxLen; omega, rfl, rfl⟩⟩
set_option maxHeartbeats 2000000 in
theorem toksS_num (n : Int) (s : ByteArray) (b : Option Addr) (cap : Nat) (w : World) : Calls Tryz.prog 57 #[.agg #[.int .i64 1, .int .i64 n, .string ⟨#[]⟩, .slice b 0 cap]] w fun r w' => ∃ v, r = .returned v ∧ OwnT w' w.heap.size v [⟨2, n, E0⟩] ∧ Below w.heap.size w w' := by
  have B0 := hide (below_new w (.cells #[.int .i64 1, .int .i64 n, .string ⟨#[]⟩, .slice b 0 cap] 26))
  have O1 := hide (ownT_new (w.alloc (.cells #[.int .i64 1, .int .i64 n, .string ⟨#[]⟩, .slice b 0 cap] 26)) ⟨2, n, E0⟩ w.heap.size (unhide B0).size)
  have B1 := hide ((unhide B0).alloc (unhide B0).size (.cells (Tk.cs ⟨2, n, E0⟩) 62))
  rw [show (w.alloc (.cells #[.int .i64 1, .int .i64 n, .string ⟨#[]⟩, .slice b 0 cap] 26)).heap.size = w.heap.size + 1 by simp] at O1
  unfold Tk.cs at O1 B1
  try unfold E0 at O1 B1
  try unfold E0
  simp only at O1 B1
  go_enter Tryz.func57, Tryz.ntmps57
  go_wp2
  go_ret
  exact ⟨_, rfl, unhide O1, unhide B1⟩
set_option maxHeartbeats 2000000 in
theorem toksS_sym (n : Int) (s : ByteArray) (b : Option Addr) (cap : Nat) (w : World) : Calls Tryz.prog 57 #[.agg #[.int .i64 2, .int .i64 0, .string s, .slice b 0 cap]] w fun r w' => ∃ v, r = .returned v ∧ OwnT w' w.heap.size v [⟨1, 0, s⟩] ∧ Below w.heap.size w w' := by
  have B0 := hide (below_new w (.cells #[.int .i64 2, .int .i64 0, .string s, .slice b 0 cap] 26))
  have O1 := hide (ownT_new (w.alloc (.cells #[.int .i64 2, .int .i64 0, .string s, .slice b 0 cap] 26)) ⟨1, 0, s⟩ w.heap.size (unhide B0).size)
  have B1 := hide ((unhide B0).alloc (unhide B0).size (.cells (Tk.cs ⟨1, 0, s⟩) 62))
  rw [show (w.alloc (.cells #[.int .i64 2, .int .i64 0, .string s, .slice b 0 cap] 26)).heap.size = w.heap.size + 1 by simp] at O1
  unfold Tk.cs at O1 B1
  try unfold E0 at O1 B1
  try unfold E0
  simp only at O1 B1
  go_enter Tryz.func57, Tryz.ntmps57
  go_wp2
  go_ret
  exact ⟨_, rfl, unhide O1, unhide B1⟩
set_option maxHeartbeats 2000000 in
theorem toksS_here (b : Option Addr) (cap : Nat) (w : World) : Calls Tryz.prog 57 #[.agg #[.int .i64 3, .int .i64 0, .string ⟨#[]⟩, .slice b 0 cap]] w fun r w' => ∃ v, r = .returned v ∧ OwnT w' w.heap.size v [mkT 46] ∧ Below w.heap.size w w' := by
  have B0 := hide (below_new w (.cells #[.int .i64 3, .int .i64 0, .string ⟨#[]⟩, .slice b 0 cap] 26))
  have MK := hide (markS_ex (mkS 46) (w.alloc (.cells #[.int .i64 3, .int .i64 0, .string ⟨#[]⟩, .slice b 0 cap] 26)))
  have ON := hide (fun w1 (h : w.heap.size ≤ w1.heap.size) => ownT_new w1 (mkT 46) w.heap.size h)
  unfold mkT mkS Tk.cs at ON
  unfold mkT
  unfold mkS Tk.v Tk.cs at MK
  unfold mkS
  simp only at ON MK
  go_enter Tryz.func57, Tryz.ntmps57
  go_wp2_with fail
  refine (unhide MK).mono ?_
  rintro r w1 ⟨rfl, hb1⟩
  have B1 := hide ((unhide B0).trans (hb1.mono (unhide B0).size))
  have O1 := hide (unhide ON w1 (unhide B1).size)
  clear hb1 MK ON
  go_wp2
  go_ret
  exact ⟨_, rfl, unhide O1, (unhide B1).alloc (unhide B1).size _⟩
set_option maxHeartbeats 4000000 in
theorem toksS_neg (c0 : Option Addr) (cp0 p po cap : Nat) (a : Ex) (ts : List Tk) (w : World) (hts : ts ≠ []) (h8 : ts.length ≤ 400) (hp : p < w.heap.size) (e0 : w.cell? ⟨p, po, none⟩ = some (.int .i64 a.k)) (e1 : w.cell? ⟨p, po + 1, none⟩ = some (.int .i64 a.n)) (e2 : w.cell? ⟨p, po + 2, none⟩ = some (.string a.s)) (e3 : w.cell? ⟨p, po + 3, none⟩ = some (.slice c0 a.l.length cp0)) (ih : ∀ w1, Below w.heap.size w w1 → Calls Tryz.prog 57 #[.agg (a.cs c0 cp0)] w1 fun r w' => ∃ v, r = .returned v ∧ OwnT w' w1.heap.size v ts ∧ Below w1.heap.size w1 w') : Calls Tryz.prog 57 #[.agg #[.int .i64 4, .int .i64 0, .string ⟨#[]⟩, .slice (some ⟨p, po, none⟩) 1 cap]] w fun r w' => ∃ v, r = .returned v ∧ OwnT w' w.heap.size v ([Tk.mk 4 0 ⟨#[45]⟩] ++ ts) ∧ Below w.heap.size w w' := by
  obtain ⟨W, hW⟩ : ∃ W, w.alloc (.cells #[.int .i64 4, .int .i64 0, .string ⟨#[]⟩, .slice (some ⟨p, po, none⟩) 1 cap] 26) = W := ⟨_, rfl⟩
  have B0 := hide (below_new w (.cells #[.int .i64 4, .int .i64 0, .string ⟨#[]⟩, .slice (some ⟨p, po, none⟩) 1 cap] 26))
  have hg : W.heap[w.heap.size]? = some (.cells #[.int .i64 4, .int .i64 0, .string ⟨#[]⟩, .slice (some ⟨p, po, none⟩) 1 cap] 26 (0, 0)) := by rw [← hW]; exact Array.getElem?_push_size
  rw [hW] at B0
  have x0 := Lib.cell_of_heap hg 0
  have xl : w.heap.size < W.heap.size := (Array.getElem?_eq_some_iff.1 hg).1
  have Y0 := hide (fun w1 (hb : Below W.heap.size W w1) => (hb.cell (p := ⟨w.heap.size, 0, none⟩) xl).trans (Lib.cell_of_heap hg 0))
  have Y3 := hide (fun w1 (hb : Below W.heap.size W w1) => (hb.cell (p := ⟨w.heap.size, 3, none⟩) xl).trans (Lib.cell_of_heap hg 3))
  have U0 := hide (fun w1 (hb : Below W.heap.size W w1) => (hb.cell (p := ⟨p, po, none⟩) (Nat.lt_trans hp xl)).trans (((unhide B0).cell (p := ⟨p, po, none⟩) hp).trans e0))
  have U1 := hide (fun w1 (hb : Below W.heap.size W w1) => (hb.cell (p := ⟨p, po + 1, none⟩) (Nat.lt_trans hp xl)).trans (((unhide B0).cell (p := ⟨p, po + 1, none⟩) hp).trans e1))
  have U2 := hide (fun w1 (hb : Below W.heap.size W w1) => (hb.cell (p := ⟨p, po + 2, none⟩) (Nat.lt_trans hp xl)).trans (((unhide B0).cell (p := ⟨p, po + 2, none⟩) hp).trans e2))
  have U3 := hide (fun w1 (hb : Below W.heap.size W w1) => (hb.cell (p := ⟨p, po + 3, none⟩) (Nat.lt_trans hp xl)).trans (((unhide B0).cell (p := ⟨p, po + 3, none⟩) hp).trans e3))
  have I0 := hide (fun w1 (hb : Below W.heap.size W w1) => ih w1 ((unhide B0).trans (hb.mono (unhide B0).size)))
  have MK := hide (fun w1 => markS_ex (mkS 45) w1)
  obtain ⟨i0, hi, hz0, hz1, hz2⟩ := info_parts infoT
  clear hg xl ih e0 e1 e2 e3 hp
  unfold Ex.cs at I0
  unfold mkS Tk.v Tk.cs at MK
  simp only at MK
  generalize a.k = ak at *
  generalize a.n = an at *
  generalize a.s = asv at *
  generalize a.l.length = al at *
  go_enter Tryz.func57, Tryz.ntmps57
  go_wp2_with fail
  have D0 := hide (show Below W.heap.size W W.drew from below_drew)
  refine wp_region_held_drew (S := fun w' => Below W.heap.size W w') (by kernel_rfl) (unhide D0) (fun hS => ?_)
  have HS := hide hS
  clear hS
  refine wpAnyH_take (i := 2) (v := .pointer (some ⟨w.heap.size, 3, none⟩)) rfl (by kernel_rfl) (by kernel_rfl) (by kernel_rfl) (fun _ _ _ h => h) (Or.inl ⟨by rfl, fun w hc => ?_⟩) (unhide HS) ?_
  · clear hc; go_simp
  go_simp
  refine wpAnyH_take (i := 3) (v := .slice (some ⟨p, po, none⟩) 1 cap) rfl (by kernel_rfl) (by kernel_rfl) (by kernel_rfl) (fun _ _ _ h => h) (Or.inl ⟨by rfl, fun w hc => ?_⟩) (unhide HS) ?_
  · have q := unhide Y3 _ hc; clear hc; go_simp
  go_simp
  refine wpAnyH_take (i := 4) (v := .pointer (some ⟨p, po, none⟩)) rfl (by kernel_rfl) (by kernel_rfl) (by kernel_rfl) (fun _ _ _ h => h) (Or.inl ⟨by rfl, fun w hc => ?_⟩) (unhide HS) ?_
  · clear hc; go_simp
  go_simp
  refine wpAnyH_take (i := 5) (v := .agg #[.int .i64 ak, .int .i64 an, .string asv, .slice c0 al cp0]) rfl (by kernel_rfl) (by kernel_rfl) (by kernel_rfl) (fun _ _ _ h => h) (Or.inl ⟨by rfl, fun w hc => ?_⟩) (unhide HS) ?_
  · have q0 := unhide U0 _ hc; have q1 := unhide U1 _ hc; have q2 := unhide U2 _ hc; have q3 := unhide U3 _ hc; clear hc; go_simp
  go_simp
  refine wpAnyH_ready (rs := [0]) (by kernel_rfl) (by simp) ?_
  refine AllReadyH.cons rfl (fun K2 hK => ?_) AllReadyH.nil
  go_simp
  refine (unhide MK _).mono ?_
  rintro r w1 ⟨rfl, hb1⟩
  have D1 := hide ((unhide D0).trans (hb1.mono (unhide D0).size))
  refine hK.out _ _ (unhide D1) (fun hS => ?_)
  clear HS
  have HS := hide hS
  clear hS hK K2
  clear hb1 D0
  refine wpAnyH_ready (rs := [1, 6]) (by kernel_rfl) (by simp) ?_
  refine AllReadyH.cons rfl (fun K2 hK => ?_) (AllReadyH.cons rfl (fun K2 hK => ?_) AllReadyH.nil)
  · go_simp
    have D2 := hide ((unhide D1).alloc (unhide D1).size (.cells #[.int .i64 4, .int .i64 0, .string ⟨#[45]⟩] 62))
    have N2 := hide (ownT_new w1 (Tk.mk 4 0 ⟨#[45]⟩) W.heap.size (unhide D1).size)
    unfold Tk.cs at N2
    simp only at N2
    generalize w1.heap.size = g1 at *
    generalize w1.alloc (.cells #[.int .i64 4, .int .i64 0, .string ⟨#[45]⟩] 62) = w2 at *
    refine hK.out _ _ (unhide D2) (fun hS => ?_)
    clear HS
    have HS := hide hS
    clear hS hK K2
    refine wpAnyH_ready (rs := [6]) (by kernel_rfl) (by simp) ?_
    refine AllReadyH.cons rfl (fun K2 hK => ?_) AllReadyH.nil
    go_simp
    refine (unhide I0 _ (unhide D2)).mono ?_
    rintro r w3 ⟨v3, rfl, o3, hb3⟩
    have D3 := hide ((unhide D2).trans (hb3.mono (unhide D2).size))
    have O1 := hide ((unhide N2).later hb3)
    obtain ⟨g2, c2, rfl, sr⟩ := (o3.base (unhide D2).size).src hts
    have SR := hide sr
    refine hK.out _ _ (unhide D3) (fun hS => ?_)
    clear HS
    have HS := hide hS
    clear hS hK K2
    clear hb3 o3 sr N2 D2 D1
    refine wpAnyH_ready (rs := [7]) (by kernel_rfl) (by simp) ?_
    refine AllReadyH.cons rfl (fun K2 hK => ?_) AllReadyH.nil
    rw [if_pos (by rfl)]
    refine wp_append_own _ (.tmp 25) (.tmp 30) 32 rfl W.heap.size 62 i0 (.agg #[.int .i64 0, .int .i64 0, .string ⟨#[]⟩]) 3 32 Tryz.underlying32 hi hz0 hz1 hz2 rfl (by decide) (.slice (some ⟨g1, 0, none⟩) 1 1) 1 (cellsT [Tk.mk 4 0 ⟨#[45]⟩]) rfl (unhide O1) ⟨g2, 0, none⟩ ts.length c2 (cellsT ts) rfl (cellsT_len ts) (unhide SR) (cellsT_one ts) (by unfold maxLen; omega) (by omega) (unhide D3).size ?_
    intro v5 w5 hown5 hgrow5 _
    have O5 := hide (ownT_join (ts := [Tk.mk 4 0 ⟨#[45]⟩]) (us := ts) hown5)
    have D5 := hide ((unhide D3).grown hgrow5 (unhide D3).size (fun g hg => ((unhide O1).lt hg).1))
    refine hK.out _ _ (unhide D5) (fun hS => ?_)
    clear HS
    have HS := hide hS
    clear hS hK K2
    refine wpAnyH_take (i := 8) (v := v5) rfl (by kernel_rfl) (by kernel_rfl) (by kernel_rfl) (fun _ _ _ h => h) (Or.inl ⟨by rfl, fun w hc => ?_⟩) (unhide HS) ?_
    · clear hc; go_simp
    go_simp
    refine wpAnyH_done (by kernel_rfl) ?_ _
    clear hown5 hgrow5 O1 D3 SR HS
    go_wp2
    go_ret
    exact ⟨_, rfl, (unhide O5).base (unhide B0).size, (unhide B0).trans ((unhide D5).mono (unhide B0).size)⟩
  · go_simp
    refine (unhide I0 _ (unhide D1)).mono ?_
    rintro r w2 ⟨v3, rfl, o3, hb3⟩
    have D2 := hide ((unhide D1).trans (hb3.mono (unhide D1).size))
    have O3 := hide (o3.base (unhide D1).size)
    refine hK.out _ _ (unhide D2) (fun hS => ?_)
    clear HS
    have HS := hide hS
    clear hS hK K2
    clear hb3 o3
    refine wpAnyH_ready (rs := [1]) (by kernel_rfl) (by simp) ?_
    refine AllReadyH.cons rfl (fun K2 hK => ?_) AllReadyH.nil
    go_simp
    have D3 := hide ((unhide D2).alloc (unhide D2).size (.cells #[.int .i64 4, .int .i64 0, .string ⟨#[45]⟩] 62))
    have O1 := hide (ownT_new w2 (Tk.mk 4 0 ⟨#[45]⟩) W.heap.size (unhide D2).size)
    obtain ⟨g2, c2, rfl, sr⟩ := ((unhide O3).later (below_new w2 (.cells #[.int .i64 4, .int .i64 0, .string ⟨#[45]⟩] 62))).src hts
    have SR := hide sr
    unfold Tk.cs at O1
    simp only at O1
    clear sr O3
    generalize w2.heap.size = g1 at *
    generalize w2.alloc (.cells #[.int .i64 4, .int .i64 0, .string ⟨#[45]⟩] 62) = w3 at *
    refine hK.out _ _ (unhide D3) (fun hS => ?_)
    clear HS
    have HS := hide hS
    clear hS hK K2
    clear D2 D1
    refine wpAnyH_ready (rs := [7]) (by kernel_rfl) (by simp) ?_
    refine AllReadyH.cons rfl (fun K2 hK => ?_) AllReadyH.nil
    rw [if_pos (by rfl)]
    refine wp_append_own _ (.tmp 25) (.tmp 30) 32 rfl W.heap.size 62 i0 (.agg #[.int .i64 0, .int .i64 0, .string ⟨#[]⟩]) 3 32 Tryz.underlying32 hi hz0 hz1 hz2 rfl (by decide) (.slice (some ⟨g1, 0, none⟩) 1 1) 1 (cellsT [Tk.mk 4 0 ⟨#[45]⟩]) rfl (unhide O1) ⟨g2, 0, none⟩ ts.length c2 (cellsT ts) rfl (cellsT_len ts) (unhide SR) (cellsT_one ts) (by unfold maxLen; omega) (by omega) (unhide D3).size ?_
    intro v5 w5 hown5 hgrow5 _
    have O5 := hide (ownT_join (ts := [Tk.mk 4 0 ⟨#[45]⟩]) (us := ts) hown5)
    have D5 := hide ((unhide D3).grown hgrow5 (unhide D3).size (fun g hg => ((unhide O1).lt hg).1))
    refine hK.out _ _ (unhide D5) (fun hS => ?_)
    clear HS
    have HS := hide hS
    clear hS hK K2
    refine wpAnyH_take (i := 8) (v := v5) rfl (by kernel_rfl) (by kernel_rfl) (by kernel_rfl) (fun _ _ _ h => h) (Or.inl ⟨by rfl, fun w hc => ?_⟩) (unhide HS) ?_
    · clear hc; go_simp
    go_simp
    refine wpAnyH_done (by kernel_rfl) ?_ _
    clear hown5 hgrow5 O1 D3 SR HS
    go_wp2
    go_ret
    exact ⟨_, rfl, (unhide O5).base (unhide B0).size, (unhide B0).trans ((unhide D5).mono (unhide B0).size)⟩
end Go.Proofs.YthgbpofcfmnpdaaGreatDoor
