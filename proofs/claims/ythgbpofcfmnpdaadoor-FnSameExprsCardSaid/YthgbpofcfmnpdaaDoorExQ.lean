/- Terms by the program: which are right, and their values; over this seat's translation; conditions stand as hypotheses of each. -/
import Derived.Test.YthgbpofcfmnpdaaDoorExP
import Derived.Test.YthgbpofcfmnpdaaDoorExK
namespace Go.Proofs.YthgbpofcfmnpdaaDoor
open Go.ChangeShapes Go.WideShapes Go.ChangeAt Go.RowKit
set_option linter.unusedVariables false
set_option maxRecDepth 8000
set_option linter.unusedSimpArgs false

set_option maxHeartbeats 2000000 in
theorem pair_any (k : Int) (u v : Value) (w : World) : Calls Tryd.prog 96 #[.int .i64 k, .agg #[u, v]] w fun r w' => ∃ x, r = .returned (.tuple #[x, .bool (inB k 5 10)]) ∧ (inB k 5 10 = true → x = .iface (pairT k) (.agg #[u, v])) ∧ Below w.heap.size w w' := by
  have B0 := hide (below_new w (.cells #[u, v] 122))
  by_cases h5 : k = 5
  · subst h5
    rw [show inB 5 5 10 = true by decide]
    go_enter Tryd.func96, Tryd.ntmps96
    go_wp2
    go_ret2
    exact ⟨_, rfl, fun _ => rfl, unhide B0⟩
  by_cases h6 : k = 6
  · subst h6
    rw [show inB 6 5 10 = true by decide]
    go_enter Tryd.func96, Tryd.ntmps96
    go_wp2
    go_ret2
    exact ⟨_, rfl, fun _ => rfl, unhide B0⟩
  by_cases h7 : k = 7
  · subst h7
    rw [show inB 7 5 10 = true by decide]
    go_enter Tryd.func96, Tryd.ntmps96
    go_wp2
    go_ret2
    exact ⟨_, rfl, fun _ => rfl, unhide B0⟩
  by_cases h8 : k = 8
  · subst h8
    rw [show inB 8 5 10 = true by decide]
    go_enter Tryd.func96, Tryd.ntmps96
    go_wp2
    go_ret2
    exact ⟨_, rfl, fun _ => rfl, unhide B0⟩
  by_cases h9 : k = 9
  · subst h9
    rw [show inB 9 5 10 = true by decide]
    go_enter Tryd.func96, Tryd.ntmps96
    go_wp2
    go_ret2
    exact ⟨_, rfl, fun _ => rfl, unhide B0⟩
  by_cases h10 : k = 10
  · subst h10
    rw [show inB 10 5 10 = true by decide]
    go_enter Tryd.func96, Tryd.ntmps96
    go_wp2
    go_ret2
    exact ⟨_, rfl, fun _ => rfl, unhide B0⟩
  have g5 : (k == 5) = false := beq_eq_false_iff_ne.2 h5
  have g6 : (k == 6) = false := beq_eq_false_iff_ne.2 h6
  have g7 : (k == 7) = false := beq_eq_false_iff_ne.2 h7
  have g8 : (k == 8) = false := beq_eq_false_iff_ne.2 h8
  have g9 : (k == 9) = false := beq_eq_false_iff_ne.2 h9
  have g10 : (k == 10) = false := beq_eq_false_iff_ne.2 h10
  rw [show inB k 5 10 = false by unfold inB; simp; omega]
  go_enter Tryd.func96, Tryd.ntmps96
  go_wp2
  go_ret2
  exact ⟨_, rfl, (fun h => by cases h), unhide B0⟩
theorem here_one (k : Int) : hereV k 0 ⟨#[]⟩ 1 = (k == 4) := by
  unfold hereV Ex.here
  simp only [List.length_replicate, eqE1]
  by_cases h1 : k = 1
  · subst h1; rfl
  by_cases h2 : k = 2
  · subst h2; simp
  by_cases h12 : k = 12
  · subst h12; simp
  by_cases h11 : k = 11
  · subst h11; simp
  by_cases h3 : k = 3
  · subst h3; rfl
  by_cases h4 : k = 4
  · subst h4; rfl
  rw [if_neg (by simp), if_neg h1, if_neg (by omega), if_neg h3, if_neg h4, show (k == 4) = false from beq_eq_false_iff_ne.2 h4]
  split
  · rfl
  · rfl
theorem here_two (k : Int) : hereV k 0 ⟨#[]⟩ 2 = inB k 5 10 := by
  unfold hereV Ex.here
  simp only [List.length_replicate, eqE1]
  by_cases h1 : k = 1
  · subst h1; rfl
  by_cases h2 : k = 2
  · subst h2; simp [inB]
  by_cases h12 : k = 12
  · subst h12; simp [inB]
  by_cases h11 : k = 11
  · subst h11; simp [inB]
  by_cases h3 : k = 3
  · subst h3; rfl
  by_cases h4 : k = 4
  · subst h4; rfl
  rw [if_neg (by simp), if_neg h1, if_neg (by omega), if_neg h3, if_neg h4]
  split
  · rename_i h; rw [inB_t _ _ _ h.1 h.2]; rfl
  · rename_i h; rw [inB_f _ _ _ h]
theorem here_more (k n : Int) (s : ByteArray) (ll : Nat) (h : 3 ≤ ll) : hereV k n s ll = false := by
  have e0 : (ll == 0) = false := beq_eq_false_iff_ne.2 (by omega)
  have e1 : (ll == 1) = false := beq_eq_false_iff_ne.2 (by omega)
  have e2 : (ll == 2) = false := beq_eq_false_iff_ne.2 (by omega)
  unfold hereV Ex.here
  simp only [List.length_replicate, e0, e1, e2, Bool.and_false]
  repeat' split
  all_goals rfl
theorem hereV_n (k n : Int) (s : ByteArray) (ll : Nat) (h : 1 ≤ ll) (hn : n ≠ 0) : hereV k n s ll = false := by
  have e0 : (ll == 0) = false := beq_eq_false_iff_ne.2 (by omega)
  have en : (n != 0) = true := by simp [hn]
  unfold hereV Ex.here
  simp only [List.length_replicate, e0, Bool.and_false, en, Bool.and_true]
  by_cases h1 : k = 1
  · subst h1; repeat' split
    all_goals first | rfl | omega
  by_cases h11 : k = 11
  · subst h11; repeat' split
    all_goals first | rfl | omega
  rw [if_pos (by simp [h1, h11])]
theorem hereV_s (k n : Int) (s : ByteArray) (ll : Nat) (h : 1 ≤ ll) (hs : s ≠ E0) : hereV k n s ll = false := by
  have e0 : (ll == 0) = false := beq_eq_false_iff_ne.2 (by omega)
  have es := (emp_E s hs).2
  unfold hereV Ex.here
  simp only [List.length_replicate, e0, Bool.and_false, es, Bool.not_false, Bool.and_true]
  by_cases h1 : k = 2
  · subst h1; repeat' split
    all_goals first | rfl | omega
  by_cases h11 : k = 12
  · subst h11; repeat' split
    all_goals first | rfl | omega
  rw [if_pos (by simp [h1, h11])]
theorem okf_v (d : Nat) (k n : Int) (s : ByteArray) (l : List Ex) : okF (d + 1) false ⟨k, n, s, l⟩ = (hereV k n s l.length && l.all (okF d false)) := by
  rw [okF_s, here_is]
  rfl
theorem tv_if (e : Ex) : ∃ t x, tv e = .iface t x := by
  obtain ⟨k, n, s, l⟩ := e
  rw [tv]
  unfold tvC
  repeat' split
  all_goals exact ⟨_, _, rfl⟩
def TermR (d : Nat) (e : Ex) (w : World) (r : Ending) (w' : World) : Prop := ∃ v, r = .returned (.tuple #[v, .bool (okF d false e)]) ∧ (okF d false e = true → v = tv e) ∧ Below w.heap.size w w'
theorem termR_of {d : Nat} {e : Ex} {w : World} {r : Ending} {w' : World} {v : Value} {q : Bool} (h : okF d false e = q) (hr : r = .returned (.tuple #[v, .bool q])) (hv : q = true → v = tv e) (hb : Below w.heap.size w w') : TermR d e w r w' := ⟨v, by rw [h]; exact hr, fun x => hv (h.symm.trans x), hb⟩
def TermP (d : Nat) : Prop := ∀ (e : Ex) (b : Option Addr) (cap : Nat) (w : World), RdX w 0 e b → e.sz ≤ 1048576 → TabK w → Calls Tryd.prog 69 #[.agg (e.cs b cap), .int .i64 d] w (TermR d e w)
theorem rd_at {w : World} {e : Ex} {b : Option Addr} (h : RdX w 0 e b) {i : Nat} (hi : i < e.l.length) : ∃ p po, b = some ⟨p, po, none⟩ ∧ p < w.heap.size ∧ OneX w 0 p (po + i * 4) (xAt e.l i) := by
  rw [RdX_eq] at h
  rcases h with h | ⟨p, po, rfl, _, hp, hc⟩
  · rw [h] at hi; simp at hi
  · exact ⟨p, po, rfl, hp, hc i hi⟩
set_option maxHeartbeats 2000000 in
theorem term_zero : TermP 0 := by
  intro e b cap w hr hz ht
  have B0 := hide (below_new w (.cells (e.cs b cap) 37))
  have FN := hide (fun r w' v => termR_of (d := 0) (e := e) (w := w) (r := r) (w' := w') (v := v) rfl)
  generalize TermR 0 e w = R at *
  unfold Ex.cs at B0 ⊢
  go_enter Tryd.func69, Tryd.ntmps69
  go_wp2
  (try go_ret2)
  exact unhide FN _ _ _ rfl (fun h => by cases h) (unhide B0)
set_option maxHeartbeats 2000000 in
theorem term_nil (d : Nat) (h6 : d ≤ 6) (k n : Int) (s : ByteArray) (b : Option Addr) (cap : Nat) (w : World) (hs : s.size ≤ 1048576) (ht : TabK w) : Calls Tryd.prog 69 #[.agg #[.int .i64 k, .int .i64 n, .string s, .slice b 0 cap], .int .i64 ((d + 1 : Nat) : Int)] w (TermR (d + 1) ⟨k, n, s, []⟩ w) := by
  obtain ⟨W, hW⟩ : ∃ W, w.alloc (.cells #[.int .i64 k, .int .i64 n, .string s, .slice b 0 cap] 37) = W := ⟨_, rfl⟩
  have B0 := hide (below_new w (.cells #[.int .i64 k, .int .i64 n, .string s, .slice b 0 cap] 37))
  have hg : W.heap[w.heap.size]? = some (.cells #[.int .i64 k, .int .i64 n, .string s, .slice b 0 cap] 37 (0, 0)) := by rw [← hW]; exact Array.getElem?_push_size
  rw [hW] at B0
  have x0 := Lib.cell_of_heap hg 0
  have x1 := Lib.cell_of_heap hg 1
  have x2 := Lib.cell_of_heap hg 2
  have x3 := Lib.cell_of_heap hg 3
  have xl : w.heap.size < W.heap.size := (Array.getElem?_eq_some_iff.1 hg).1
  have hd0 : (((d + 1 : Nat) : Int) == 0) = false := beq_eq_false_iff_ne.2 (by omega)
  have hd1 : ((d + 1 : Nat) : Int) - 1 = (d : Int) := by omega
  have hdb : 0 ≤ ((d + 1 : Nat) : Int) ∧ ((d + 1 : Nat) : Int) ≤ 100 := by omega
  have LF := hide (leaf_any k n s b 0 cap W (by omega) (ht.next (unhide B0)))
  have FN := hide (fun r w' v q (h : hereV k n s 0 = q) => termR_of (d := d + 1) (e := ⟨k, n, s, []⟩) (w := w) (r := r) (w' := w') (v := v) ((okf_v d k n s []).trans ((Bool.and_true _).trans h)))
  have TV := hide (show tv ⟨k, n, s, []⟩ = tvC k n s [] by rw [tv]; rfl)
  rw [unhide TV] at FN
  generalize TermR (d + 1) ⟨k, n, s, []⟩ w = R at *
  clear hg xl ht TV
  generalize hDD : ((d + 1 : Nat) : Int) = DD at *
  go_enter Tryd.func69, Tryd.ntmps69
  go_wp2_with fail
  refine (unhide LF).mono ?_
  rintro r w1 ⟨v, rfl, hv, hb1⟩
  have F2 := hide (unhide FN (.returned (.tuple #[v, .bool (hereV k n s 0)])) w1 v _ rfl rfl hv ((unhide B0).trans (hb1.mono (unhide B0).size)))
  generalize hereV k n s 0 = q at *
  clear FN hv hb1
  go_wp2
  (try go_ret2)
  exact unhide F2
set_option maxHeartbeats 2000000 in
theorem term_bad (d : Nat) (h6 : d ≤ 6) (k n : Int) (s : ByteArray) (l : List Ex) (b : Option Addr) (cap : Nat) (w : World) (hz : l.length ≤ 1048576) (h1 : 1 ≤ l.length) (h : 3 ≤ l.length ∨ n ≠ 0 ∨ s ≠ E0) : Calls Tryd.prog 69 #[.agg #[.int .i64 k, .int .i64 n, .string s, .slice b l.length cap], .int .i64 ((d + 1 : Nat) : Int)] w (TermR (d + 1) ⟨k, n, s, l⟩ w) := by
  have V : hereV k n s l.length = false := by
    rcases h with h | h | h
    · exact here_more k n s _ h
    · exact hereV_n k n s _ h1 h
    · exact hereV_s k n s _ h1 h
  have FN := hide (fun r w' v => termR_of (d := d + 1) (e := ⟨k, n, s, l⟩) (w := w) (r := r) (w' := w') (v := v) (q := false) (by rw [okf_v, V]; rfl))
  generalize TermR (d + 1) ⟨k, n, s, l⟩ w = R at *
  clear V
  generalize l.length = ll at *
  obtain ⟨W, hW⟩ : ∃ W, w.alloc (.cells #[.int .i64 k, .int .i64 n, .string s, .slice b ll cap] 37) = W := ⟨_, rfl⟩
  have B0 := hide (below_new w (.cells #[.int .i64 k, .int .i64 n, .string s, .slice b ll cap] 37))
  have hg : W.heap[w.heap.size]? = some (.cells #[.int .i64 k, .int .i64 n, .string s, .slice b ll cap] 37 (0, 0)) := by rw [← hW]; exact Array.getElem?_push_size
  rw [hW] at B0
  have x0 := Lib.cell_of_heap hg 0
  have x1 := Lib.cell_of_heap hg 1
  have x2 := Lib.cell_of_heap hg 2
  have x3 := Lib.cell_of_heap hg 3
  have xl : w.heap.size < W.heap.size := (Array.getElem?_eq_some_iff.1 hg).1
  have hd0 : (((d + 1 : Nat) : Int) == 0) = false := beq_eq_false_iff_ne.2 (by omega)
  have hd1 : ((d + 1 : Nat) : Int) - 1 = (d : Int) := by omega
  have hdb : 0 ≤ ((d + 1 : Nat) : Int) ∧ ((d + 1 : Nat) : Int) ≤ 100 := by omega
  clear hg xl
  have h0 : ((ll : Int) == 0) = false := beq_eq_false_iff_ne.2 (by omega)
  generalize hDD : ((d + 1 : Nat) : Int) = DD at *
  by_cases h3 : 3 ≤ ll
  · have g3 : (2 : Int) < (ll : Int) := by omega
    clear h
    go_enter Tryd.func69, Tryd.ntmps69
    go_wp2
    (try go_ret2)
    exact unhide FN _ _ _ rfl (fun h => by cases h) (unhide B0)
  · have g3 : decide ((2 : Int) < (ll : Int)) = false := decide_eq_false (by omega)
    have g4 : decide (2 < ll) = false := decide_eq_false (by omega)
    by_cases hn : n = 0
    · subst hn
      have hs : s ≠ E0 := by rcases h with h | h | h; omega; exact absurd rfl h; exact h
      obtain ⟨e1, e2⟩ := emp_E s hs
      clear h
      go_enter Tryd.func69, Tryd.ntmps69
      go_wp2
      (try go_ret2)
      exact unhide FN _ _ _ rfl (fun h => by cases h) (unhide B0)
    · have en : (n == 0) = false := beq_eq_false_iff_ne.2 hn
      clear h
      go_enter Tryd.func69, Tryd.ntmps69
      go_wp2
      (try go_ret2)
      exact unhide FN _ _ _ rfl (fun h => by cases h) (unhide B0)
set_option maxHeartbeats 4000000 in
theorem term_one (d : Nat) (h6 : d ≤ 6) (ih : TermP d) (k : Int) (a : Ex) (b : Option Addr) (cap : Nat) (w : World) (hr : RdX w 0 ⟨k, 0, ⟨#[]⟩, [a]⟩ b) (hz : a.sz ≤ 1048576) (ht : TabK w) : Calls Tryd.prog 69 #[.agg #[.int .i64 k, .int .i64 0, .string ⟨#[]⟩, .slice b 1 cap], .int .i64 ((d + 1 : Nat) : Int)] w (TermR (d + 1) ⟨k, 0, ⟨#[]⟩, [a]⟩ w) := by
  obtain ⟨W, hW⟩ : ∃ W, w.alloc (.cells #[.int .i64 k, .int .i64 0, .string ⟨#[]⟩, .slice b 1 cap] 37) = W := ⟨_, rfl⟩
  have B0 := hide (below_new w (.cells #[.int .i64 k, .int .i64 0, .string ⟨#[]⟩, .slice b 1 cap] 37))
  have hg : W.heap[w.heap.size]? = some (.cells #[.int .i64 k, .int .i64 0, .string ⟨#[]⟩, .slice b 1 cap] 37 (0, 0)) := by rw [← hW]; exact Array.getElem?_push_size
  rw [hW] at B0
  have x0 := Lib.cell_of_heap hg 0
  have x1 := Lib.cell_of_heap hg 1
  have x2 := Lib.cell_of_heap hg 2
  have x3 := Lib.cell_of_heap hg 3
  have xl : w.heap.size < W.heap.size := (Array.getElem?_eq_some_iff.1 hg).1
  have hd0 : (((d + 1 : Nat) : Int) == 0) = false := beq_eq_false_iff_ne.2 (by omega)
  have hd1 : ((d + 1 : Nat) : Int) - 1 = (d : Int) := by omega
  have hdb : 0 ≤ ((d + 1 : Nat) : Int) ∧ ((d + 1 : Nat) : Int) ≤ 100 := by omega
  obtain ⟨p, po, rfl, hp, o0⟩ := rd_at (hr.later (unhide B0)) (i := 0) (show 0 < [a].length by simp)
  obtain ⟨e00, e01, e02, c0, cp0, e03, e04⟩ := o0
  simp only [show xAt [a] 0 = a from rfl] at e00 e01 e02 e03 e04
  rw [Nat.zero_mul, Nat.add_zero] at e00 e01 e02 e03
  have IH := hide (ih a c0 cp0 W e04 hz (ht.next (unhide B0)))
  have FN := hide (fun r w' v q (h : (k == 4 && okF d false a) = q) => termR_of (d := d + 1) (e := ⟨k, 0, ⟨#[]⟩, [a]⟩) (w := w) (r := r) (w' := w') (v := v) (q := q) (by rw [okf_v, ← h, show [a].length = 1 from rfl, here_one]; simp))
  have TV := hide (show k = 4 → tv ⟨k, 0, ⟨#[]⟩, [a]⟩ = .iface 119 (.agg #[tv a]) by rintro rfl; exact tv_neg _ _ _)
  generalize tv ⟨k, 0, ⟨#[]⟩, [a]⟩ = tve at *
  generalize TermR (d + 1) ⟨k, 0, ⟨#[]⟩, [a]⟩ w = R at *
  unfold Ex.cs at IH
  generalize a.k = ak at *
  generalize a.n = an at *
  generalize a.s = asv at *
  generalize a.l.length = al at *
  have y0 : ∀ w1, Below W.heap.size W w1 → w1.cell? ⟨w.heap.size, 0, none⟩ = some (.int .i64 k) := fun w1 hb => (hb.cell (p := ⟨w.heap.size, _, none⟩) xl).trans x0
  have y3 : ∀ w1, Below W.heap.size W w1 → w1.cell? ⟨w.heap.size, 3, none⟩ = some (.slice (some ⟨p, po, none⟩) 1 cap) := fun w1 hb => (hb.cell (p := ⟨w.heap.size, _, none⟩) xl).trans x3
  have Y0 := hide y0
  have Y3 := hide y3
  have KQ : k = 4 ∨ k ≠ 4 := by omega
  clear hg xl ht hr hz ih e04 y0 y3 hp
  generalize hDD : ((d + 1 : Nat) : Int) = DD at *
  go_enter Tryd.func69, Tryd.ntmps69
  go_wp2_with fail
  refine (unhide IH).mono ?_
  rintro r w1 ⟨v, rfl, hv, hb1⟩
  have BB := hide ((unhide B0).trans (hb1.mono (unhide B0).size))
  have z0 := unhide Y0 w1 hb1
  have z3 := unhide Y3 w1 hb1
  have HV := hide hv
  generalize okF d false a = q at *
  clear hv hb1 Y0 Y3 IH x0 x1 x2 x3 e00 e01 e02 e03
  cases q with
  | false =>
    have F2 := hide (fun r w' v => unhide FN r w' v false (Bool.and_false _))
    clear FN
    go_wp2
    (try go_ret2)
    exact unhide F2 _ _ _ rfl (fun h => by cases h) (unhide BB)
  | true =>
    obtain ⟨t1, x1, e1⟩ := tv_if a
    have hve := unhide HV rfl
    rw [e1] at hve TV
    subst hve
    clear HV e1
    have xl1 : w.heap.size < w1.heap.size := World.block_lt_of_cell? w1 _ z0
    have q0 : ∀ y : Sub w1.heap.size w1, y.w.cell? ⟨w.heap.size, 0, none⟩ = some (.int .i64 k) := fun y => (y.h.cell (p := ⟨w.heap.size, _, none⟩) xl1).trans z0
    have ne := Sub.ne w1.heap.size w1
    have BY := hide (fun y : Sub w1.heap.size w1 => (unhide BB).trans (y.h.mono (unhide BB).size))
    clear xl1
    rcases KQ with rfl | hk
    · have F2 := hide (fun r w' (hr : r = .returned (.tuple #[.iface 119 (.agg #[.iface t1 x1]), .bool true])) hb => unhide FN r w' _ true rfl hr (fun _ => (unhide TV rfl).symm) hb)
      clear FN TV
      go_wp2_with fail
      refine wp_region_sub (⟨w1, Below.refl _ _⟩ : Sub w1.heap.size w1) (by kernel_rfl) (by kernel_rfl) ?_
      repeat (go_big_quiet_step (first | fail))
      refine wpQuiet_nil ?_
      intro y
      go_wp2
      (try go_ret2)
      exact unhide F2 _ _ rfl (unhide BY _)
    · have hk4 : (k == 4) = false := beq_eq_false_iff_ne.2 hk
      have F2 := hide (fun r w' v => unhide FN r w' v false (by rw [hk4]; rfl))
      clear FN TV
      go_wp2_with fail
      refine wp_region_sub (⟨w1, Below.refl _ _⟩ : Sub w1.heap.size w1) (by kernel_rfl) (by kernel_rfl) ?_
      repeat (go_big_quiet_step (first | fail))
      refine wpQuiet_nil ?_
      intro y
      go_wp2
      (try go_ret2)
      exact unhide F2 _ _ _ rfl (fun h => by cases h) (unhide BY _)
set_option maxHeartbeats 4000000 in
theorem term_two (d : Nat) (h6 : d ≤ 6) (ih : TermP d) (k : Int) (a a2 : Ex) (b : Option Addr) (cap : Nat) (w : World) (hr : RdX w 0 ⟨k, 0, ⟨#[]⟩, [a, a2]⟩ b) (hz : a.sz ≤ 1048576) (hz2 : a2.sz ≤ 1048576) (ht : TabK w) : Calls Tryd.prog 69 #[.agg #[.int .i64 k, .int .i64 0, .string ⟨#[]⟩, .slice b 2 cap], .int .i64 ((d + 1 : Nat) : Int)] w (TermR (d + 1) ⟨k, 0, ⟨#[]⟩, [a, a2]⟩ w) := by
  obtain ⟨W, hW⟩ : ∃ W, w.alloc (.cells #[.int .i64 k, .int .i64 0, .string ⟨#[]⟩, .slice b 2 cap] 37) = W := ⟨_, rfl⟩
  have B0 := hide (below_new w (.cells #[.int .i64 k, .int .i64 0, .string ⟨#[]⟩, .slice b 2 cap] 37))
  have hg : W.heap[w.heap.size]? = some (.cells #[.int .i64 k, .int .i64 0, .string ⟨#[]⟩, .slice b 2 cap] 37 (0, 0)) := by rw [← hW]; exact Array.getElem?_push_size
  rw [hW] at B0
  have x0 := Lib.cell_of_heap hg 0
  have x1 := Lib.cell_of_heap hg 1
  have x2 := Lib.cell_of_heap hg 2
  have x3 := Lib.cell_of_heap hg 3
  have xl : w.heap.size < W.heap.size := (Array.getElem?_eq_some_iff.1 hg).1
  have hd0 : (((d + 1 : Nat) : Int) == 0) = false := beq_eq_false_iff_ne.2 (by omega)
  have hd1 : ((d + 1 : Nat) : Int) - 1 = (d : Int) := by omega
  have hdb : 0 ≤ ((d + 1 : Nat) : Int) ∧ ((d + 1 : Nat) : Int) ≤ 100 := by omega
  obtain ⟨p, po, rfl, hp, o0⟩ := rd_at (hr.later (unhide B0)) (i := 0) (show 0 < [a, a2].length by simp)
  obtain ⟨_, _, hpe, _, o1⟩ := rd_at (hr.later (unhide B0)) (i := 1) (show 1 < [a, a2].length by simp)
  cases hpe
  obtain ⟨e00, e01, e02, c0, cp0, e03, e04⟩ := o0
  simp only [show xAt [a, a2] 0 = a from rfl] at e00 e01 e02 e03 e04
  obtain ⟨e10, e11, e12, c1, cp1, e13, e14⟩ := o1
  simp only [show xAt [a, a2] 1 = a2 from rfl] at e10 e11 e12 e13 e14
  rw [Nat.zero_mul, Nat.add_zero] at e00 e01 e02 e03
  rw [Nat.one_mul] at e10 e11 e12 e13
  have IH := hide (ih a c0 cp0 W e04 hz (ht.next (unhide B0)))
  have IH2 := hide (fun w1 (hb : Below W.heap.size W w1) => ih a2 c1 cp1 w1 (e14.later hb) hz2 ((ht.next (unhide B0)).next hb))
  have FN := hide (fun r w' v q (h : (inB k 5 10 && (okF d false a && okF d false a2)) = q) => termR_of (d := d + 1) (e := ⟨k, 0, ⟨#[]⟩, [a, a2]⟩) (w := w) (r := r) (w' := w') (v := v) (q := q) (by rw [okf_v, ← h, show [a, a2].length = 2 from rfl, here_two]; simp))
  have TV := hide (show inB k 5 10 = true → tv ⟨k, 0, ⟨#[]⟩, [a, a2]⟩ = .iface (pairT k) (.agg #[tv a, tv a2]) by intro h; exact tv_two ((inB_iff _ _ _).1 h) _ _ _ _)
  generalize tv ⟨k, 0, ⟨#[]⟩, [a, a2]⟩ = tve at *
  generalize TermR (d + 1) ⟨k, 0, ⟨#[]⟩, [a, a2]⟩ w = R at *
  unfold Ex.cs at IH IH2
  generalize a.k = ak at *
  generalize a.n = an at *
  generalize a.s = asv at *
  generalize a.l.length = al at *
  generalize a2.k = bk at *
  generalize a2.n = bn at *
  generalize a2.s = bs at *
  generalize a2.l.length = bl at *
  have Y0 := hide (fun w1 (hb : Below W.heap.size W w1) => (hb.cell (p := ⟨w.heap.size, 0, none⟩) xl).trans x0)
  have Y3 := hide (fun w1 (hb : Below W.heap.size W w1) => (hb.cell (p := ⟨w.heap.size, 3, none⟩) xl).trans x3)
  have U0 := hide (fun w1 (hb : Below W.heap.size W w1) => (hb.cell (p := ⟨p, po + 4, none⟩) hp).trans e10)
  have U1 := hide (fun w1 (hb : Below W.heap.size W w1) => (hb.cell (p := ⟨p, po + 4 + 1, none⟩) hp).trans e11)
  have U2 := hide (fun w1 (hb : Below W.heap.size W w1) => (hb.cell (p := ⟨p, po + 4 + 2, none⟩) hp).trans e12)
  have U3 := hide (fun w1 (hb : Below W.heap.size W w1) => (hb.cell (p := ⟨p, po + 4 + 3, none⟩) hp).trans e13)
  clear hg xl ht hr hz hz2 ih e04 e14 e10 e11 e12 e13 hp
  generalize hDD : ((d + 1 : Nat) : Int) = DD at *
  go_enter Tryd.func69, Tryd.ntmps69
  go_wp2_with fail
  refine (unhide IH).mono ?_
  rintro r w1 ⟨v, rfl, hv, hb1⟩
  have HB1 := hide hb1
  have BB := hide ((unhide B0).trans (hb1.mono (unhide B0).size))
  have z0 := unhide Y0 w1 hb1
  have z3 := unhide Y3 w1 hb1
  have u0 := unhide U0 w1 hb1
  have u1 := unhide U1 w1 hb1
  have u2 := unhide U2 w1 hb1
  have u3 := unhide U3 w1 hb1
  have HV := hide hv
  have J2 := hide (unhide IH2 w1 hb1)
  generalize okF d false a = q at *
  clear hv hb1 U0 U1 U2 U3 IH IH2 x0 x1 x2 x3 e00 e01 e02 e03
  cases q with
  | false =>
    have F2 := hide (fun r w' v => unhide FN r w' v false (by rw [Bool.false_and, Bool.and_false]))
    clear FN
    go_wp2
    (try go_ret2)
    exact unhide F2 _ _ _ rfl (fun h => by cases h) (unhide BB)
  | true =>
    obtain ⟨t1, x1, e1⟩ := tv_if a
    have hve := unhide HV rfl
    rw [e1] at hve TV
    subst hve
    clear HV e1
    go_wp2_with fail
    refine (unhide J2).mono ?_
    rintro r w2 ⟨v2, rfl, hv2, hb2⟩
    have HB2 := hide ((unhide HB1).trans (hb2.mono (unhide HB1).size))
    have B2 := hide ((unhide BB).trans (hb2.mono (unhide BB).size))
    have t0 := unhide Y0 w2 (unhide HB2)
    have HV2 := hide hv2
    generalize okF d false a2 = q2 at *
    clear hv2 hb2 u0 u1 u2 u3 z0 z3 Y0 Y3 J2
    cases q2 with
    | false =>
      have F2 := hide (fun r w' v => unhide FN r w' v false (Bool.and_false _))
      clear FN
      go_wp2
      (try go_ret2)
      exact unhide F2 _ _ _ rfl (fun h => by cases h) (unhide B2)
    | true =>
      obtain ⟨t2, x2, e2⟩ := tv_if a2
      have hve := unhide HV2 rfl
      rw [e2] at hve TV
      subst hve
      clear HV2 e2
      have F2 := hide (fun r w' v q (h : inB k 5 10 = q) => unhide FN r w' v q ((Bool.and_true _).trans h))
      have P2 := hide (pair_any k (.iface t1 x1) (.iface t2 x2) w2)
      clear FN
      go_wp2_with fail
      refine (unhide P2).mono ?_
      rintro r w3 ⟨x, rfl, hx, hb3⟩
      have F3 := hide (unhide F2 (.returned (.tuple #[x, .bool (inB k 5 10)])) w3 x _ rfl rfl (fun h => by rw [hx h, unhide TV h]) ((unhide B2).trans (hb3.mono (unhide B2).size)))
      generalize inB k 5 10 = qq at *
      clear F2 hx hb3 P2
      go_wp2
      (try go_ret2)
      exact unhide F3
theorem term_all : ∀ d : Nat, d ≤ 6 → TermP d := by
  intro d
  induction d with
  | zero => intro _; exact term_zero
  | succ d ih =>
    intro hd e b cap w hr hz ht
    obtain ⟨k, n, s, l⟩ := e
    have hsz := sz_is ⟨k, n, s, l⟩
    simp only at hsz
    unfold Ex.cs
    simp only
    by_cases hbad : 1 ≤ l.length ∧ (3 ≤ l.length ∨ n ≠ 0 ∨ s ≠ E0)
    · exact term_bad d (by omega) k n s l b cap w (by omega) hbad.1 hbad.2
    · match l, hr, hz, hsz, hbad with
      | [], hr, hz, hsz, hbad => exact term_nil d (by omega) k n s b cap w (by omega) ht
      | [a], hr, hz, hsz, hbad =>
        have hn : n = 0 := Classical.byContradiction fun h => hbad ⟨by simp, .inr (.inl h)⟩
        have hs : s = E0 := Classical.byContradiction fun h => hbad ⟨by simp, .inr (.inr h)⟩
        subst hn hs
        exact term_one d (by omega) (ih (by omega)) k a b cap w hr (by simp [szX] at hsz; omega) ht
      | [a, a2], hr, hz, hsz, hbad =>
        have hn : n = 0 := Classical.byContradiction fun h => hbad ⟨by simp, .inr (.inl h)⟩
        have hs : s = E0 := Classical.byContradiction fun h => hbad ⟨by simp, .inr (.inr h)⟩
        subst hn hs
        exact term_two d (by omega) (ih (by omega)) k a a2 b cap w hr (by simp [szX] at hsz; omega) (by simp [szX] at hsz; omega) ht
      | a :: a2 :: a3 :: r, hr, hz, hsz, hbad => exact absurd ⟨by simp, .inl (by simp)⟩ hbad
end Go.Proofs.YthgbpofcfmnpdaaDoor
