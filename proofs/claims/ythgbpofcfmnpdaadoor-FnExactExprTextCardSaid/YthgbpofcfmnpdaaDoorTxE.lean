/- Contracts over this seat's translation, laid together; conditions stand as hypotheses of each. -/
import Derived.Test.YthgbpofcfmnpdaaDoorTxA
import Derived.Test.YthgbpofcfmnpdaaDoorTxB
import Derived.Test.YthgbpofcfmnpdaaDoorTxC
import Derived.Test.YthgbpofcfmnpdaaDoorTxD
import Derived.LoopN
import Derived.Deep.RegionHeld
import Derived.Laws.Rows

namespace Go.Proofs.YthgbpofcfmnpdaaDoor
open Go.ChangeShapes Go.WideShapes Go.ChangeAt Go.RowKit
set_option linter.unusedVariables false
set_option maxRecDepth 8000
set_option linter.unusedSimpArgs false

set_option maxHeartbeats 2000000 in
theorem pair_any (k : Int) (u v : Value) (w : World) : Calls Tryd.prog 96 #[.int .i64 k, .agg #[u, v]] w fun r w' => ∃ x, r = .returned (.tuple #[x, .bool (inB k 5 10)]) ∧ (inB k 5 10 = true → x = .iface (pairT k) (.agg #[u, v])) ∧ Below w.heap.size w w' := by
  have B0 := hide (below_new w (.cells #[u, v] 122))
  by_cases h5 : k = 5
  · subst h5
    rw [show inB 5 5 10 = true by decide]
    go_enter Tryd.func96, Tryd.ntmps96
    go_wp2
    go_ret2
    exact ⟨_, rfl, fun _ => rfl, unhide B0⟩
  by_cases h6 : k = 6
  · subst h6
    rw [show inB 6 5 10 = true by decide]
    go_enter Tryd.func96, Tryd.ntmps96
    go_wp2
    go_ret2
    exact ⟨_, rfl, fun _ => rfl, unhide B0⟩
  by_cases h7 : k = 7
  · subst h7
    rw [show inB 7 5 10 = true by decide]
    go_enter Tryd.func96, Tryd.ntmps96
    go_wp2
    go_ret2
    exact ⟨_, rfl, fun _ => rfl, unhide B0⟩
  by_cases h8 : k = 8
  · subst h8
    rw [show inB 8 5 10 = true by decide]
    go_enter Tryd.func96, Tryd.ntmps96
    go_wp2
    go_ret2
    exact ⟨_, rfl, fun _ => rfl, unhide B0⟩
  by_cases h9 : k = 9
  · subst h9
    rw [show inB 9 5 10 = true by decide]
    go_enter Tryd.func96, Tryd.ntmps96
    go_wp2
    go_ret2
    exact ⟨_, rfl, fun _ => rfl, unhide B0⟩
  by_cases h10 : k = 10
  · subst h10
    rw [show inB 10 5 10 = true by decide]
    go_enter Tryd.func96, Tryd.ntmps96
    go_wp2
    go_ret2
    exact ⟨_, rfl, fun _ => rfl, unhide B0⟩
  have g5 : (k == 5) = false := beq_eq_false_iff_ne.2 h5
  have g6 : (k == 6) = false := beq_eq_false_iff_ne.2 h6
  have g7 : (k == 7) = false := beq_eq_false_iff_ne.2 h7
  have g8 : (k == 8) = false := beq_eq_false_iff_ne.2 h8
  have g9 : (k == 9) = false := beq_eq_false_iff_ne.2 h9
  have g10 : (k == 10) = false := beq_eq_false_iff_ne.2 h10
  rw [show inB k 5 10 = false by unfold inB; simp; omega]
  go_enter Tryd.func96, Tryd.ntmps96
  go_wp2
  go_ret2
  exact ⟨_, rfl, (fun h => by cases h), unhide B0⟩
theorem here_one (k : Int) : hereV k 0 ⟨#[]⟩ 1 = (k == 4) := by
  unfold hereV Ex.here
  simp only [List.length_replicate, eqE1]
  by_cases h1 : k = 1
  · subst h1; rfl
  by_cases h2 : k = 2
  · subst h2; simp
  by_cases h12 : k = 12
  · subst h12; simp
  by_cases h11 : k = 11
  · subst h11; simp
  by_cases h3 : k = 3
  · subst h3; rfl
  by_cases h4 : k = 4
  · subst h4; rfl
  rw [if_neg (by simp), if_neg h1, if_neg (by omega), if_neg h3, if_neg h4, show (k == 4) = false from beq_eq_false_iff_ne.2 h4]
  split
  · rfl
  · rfl
theorem here_two (k : Int) : hereV k 0 ⟨#[]⟩ 2 = inB k 5 10 := by
  unfold hereV Ex.here
  simp only [List.length_replicate, eqE1]
  by_cases h1 : k = 1
  · subst h1; rfl
  by_cases h2 : k = 2
  · subst h2; simp [inB]
  by_cases h12 : k = 12
  · subst h12; simp [inB]
  by_cases h11 : k = 11
  · subst h11; simp [inB]
  by_cases h3 : k = 3
  · subst h3; rfl
  by_cases h4 : k = 4
  · subst h4; rfl
  rw [if_neg (by simp), if_neg h1, if_neg (by omega), if_neg h3, if_neg h4]
  split
  · rename_i h; rw [inB_t _ _ _ h.1 h.2]; rfl
  · rename_i h; rw [inB_f _ _ _ h]
theorem here_more (k n : Int) (s : ByteArray) (ll : Nat) (h : 3 ≤ ll) : hereV k n s ll = false := by
  have e0 : (ll == 0) = false := beq_eq_false_iff_ne.2 (by omega)
  have e1 : (ll == 1) = false := beq_eq_false_iff_ne.2 (by omega)
  have e2 : (ll == 2) = false := beq_eq_false_iff_ne.2 (by omega)
  unfold hereV Ex.here
  simp only [List.length_replicate, e0, e1, e2, Bool.and_false]
  repeat' split
  all_goals rfl
theorem hereV_n (k n : Int) (s : ByteArray) (ll : Nat) (h : 1 ≤ ll) (hn : n ≠ 0) : hereV k n s ll = false := by
  have e0 : (ll == 0) = false := beq_eq_false_iff_ne.2 (by omega)
  have en : (n != 0) = true := by simp [hn]
  unfold hereV Ex.here
  simp only [List.length_replicate, e0, Bool.and_false, en, Bool.and_true]
  by_cases h1 : k = 1
  · subst h1; repeat' split
    all_goals first | rfl | omega
  by_cases h11 : k = 11
  · subst h11; repeat' split
    all_goals first | rfl | omega
  rw [if_pos (by simp [h1, h11])]
theorem hereV_s (k n : Int) (s : ByteArray) (ll : Nat) (h : 1 ≤ ll) (hs : s ≠ E0) : hereV k n s ll = false := by
  have e0 : (ll == 0) = false := beq_eq_false_iff_ne.2 (by omega)
  have es := (emp_E s hs).2
  unfold hereV Ex.here
  simp only [List.length_replicate, e0, Bool.and_false, es, Bool.not_false, Bool.and_true]
  by_cases h1 : k = 2
  · subst h1; repeat' split
    all_goals first | rfl | omega
  by_cases h11 : k = 12
  · subst h11; repeat' split
    all_goals first | rfl | omega
  rw [if_pos (by simp [h1, h11])]
theorem okf_v (d : Nat) (k n : Int) (s : ByteArray) (l : List Ex) : okF (d + 1) false ⟨k, n, s, l⟩ = (hereV k n s l.length && l.all (okF d false)) := by
  rw [okF_s, here_is]
  rfl
theorem tv_if (e : Ex) : ∃ t x, tv e = .iface t x := by
  obtain ⟨k, n, s, l⟩ := e
  rw [tv]
  unfold tvC
  repeat' split
  all_goals exact ⟨_, _, rfl⟩
def TermR (d : Nat) (e : Ex) (w : World) (r : Ending) (w' : World) : Prop := ∃ v, r = .returned (.tuple #[v, .bool (okF d false e)]) ∧ (okF d false e = true → v = tv e) ∧ Below w.heap.size w w'
theorem termR_of {d : Nat} {e : Ex} {w : World} {r : Ending} {w' : World} {v : Value} {q : Bool} (h : okF d false e = q) (hr : r = .returned (.tuple #[v, .bool q])) (hv : q = true → v = tv e) (hb : Below w.heap.size w w') : TermR d e w r w' := ⟨v, by rw [h]; exact hr, fun x => hv (h.symm.trans x), hb⟩
def TermP (d : Nat) : Prop := ∀ (e : Ex) (b : Option Addr) (cap : Nat) (w : World), RdX w 0 e b → e.sz ≤ 1048576 → TabK w → Calls Tryd.prog 69 #[.agg (e.cs b cap), .int .i64 d] w (TermR d e w)
theorem rd_at {w : World} {e : Ex} {b : Option Addr} (h : RdX w 0 e b) {i : Nat} (hi : i < e.l.length) : ∃ p po, b = some ⟨p, po, none⟩ ∧ p < w.heap.size ∧ OneX w 0 p (po + i * 4) (xAt e.l i) := by
  rw [RdX_eq] at h
  rcases h with h | ⟨p, po, rfl, _, hp, hc⟩
  · rw [h] at hi; simp at hi
  · exact ⟨p, po, rfl, hp, hc i hi⟩
set_option maxHeartbeats 2000000 in
theorem term_zero : TermP 0 := by
  intro e b cap w hr hz ht
  have B0 := hide (below_new w (.cells (e.cs b cap) 37))
  have FN := hide (fun r w' v => termR_of (d := 0) (e := e) (w := w) (r := r) (w' := w') (v := v) rfl)
  generalize TermR 0 e w = R at *
  unfold Ex.cs at B0 ⊢
  go_enter Tryd.func69, Tryd.ntmps69
  go_wp2
  (try go_ret2)
  exact unhide FN _ _ _ rfl (fun h => by cases h) (unhide B0)
set_option maxHeartbeats 2000000 in
theorem term_nil (d : Nat) (h6 : d ≤ 6) (k n : Int) (s : ByteArray) (b : Option Addr) (cap : Nat) (w : World) (hs : s.size ≤ 1048576) (ht : TabK w) : Calls Tryd.prog 69 #[.agg #[.int .i64 k, .int .i64 n, .string s, .slice b 0 cap], .int .i64 ((d + 1 : Nat) : Int)] w (TermR (d + 1) ⟨k, n, s, []⟩ w) := by
  obtain ⟨W, hW⟩ : ∃ W, w.alloc (.cells #[.int .i64 k, .int .i64 n, .string s, .slice b 0 cap] 37) = W := ⟨_, rfl⟩
  have B0 := hide (below_new w (.cells #[.int .i64 k, .int .i64 n, .string s, .slice b 0 cap] 37))
  have hg : W.heap[w.heap.size]? = some (.cells #[.int .i64 k, .int .i64 n, .string s, .slice b 0 cap] 37 (0, 0)) := by rw [← hW]; exact Array.getElem?_push_size
  rw [hW] at B0
  have x0 := Lib.cell_of_heap hg 0
  have x1 := Lib.cell_of_heap hg 1
  have x2 := Lib.cell_of_heap hg 2
  have x3 := Lib.cell_of_heap hg 3
  have xl : w.heap.size < W.heap.size := (Array.getElem?_eq_some_iff.1 hg).1
  have hd0 : (((d + 1 : Nat) : Int) == 0) = false := beq_eq_false_iff_ne.2 (by omega)
  have hd1 : ((d + 1 : Nat) : Int) - 1 = (d : Int) := by omega
  have hdb : 0 ≤ ((d + 1 : Nat) : Int) ∧ ((d + 1 : Nat) : Int) ≤ 100 := by omega
  have LF := hide (leaf_any k n s b 0 cap W (by omega) (ht.next (unhide B0)))
  have FN := hide (fun r w' v q (h : hereV k n s 0 = q) => termR_of (d := d + 1) (e := ⟨k, n, s, []⟩) (w := w) (r := r) (w' := w') (v := v) ((okf_v d k n s []).trans ((Bool.and_true _).trans h)))
  have TV := hide (show tv ⟨k, n, s, []⟩ = tvC k n s [] by rw [tv]; rfl)
  rw [unhide TV] at FN
  generalize TermR (d + 1) ⟨k, n, s, []⟩ w = R at *
  clear hg xl ht TV
  generalize hDD : ((d + 1 : Nat) : Int) = DD at *
  go_enter Tryd.func69, Tryd.ntmps69
  go_wp2_with fail
  refine (unhide LF).mono ?_
  rintro r w1 ⟨v, rfl, hv, hb1⟩
  have F2 := hide (unhide FN (.returned (.tuple #[v, .bool (hereV k n s 0)])) w1 v _ rfl rfl hv ((unhide B0).trans (hb1.mono (unhide B0).size)))
  generalize hereV k n s 0 = q at *
  clear FN hv hb1
  go_wp2
  (try go_ret2)
  exact unhide F2
set_option maxHeartbeats 2000000 in
theorem term_bad (d : Nat) (h6 : d ≤ 6) (k n : Int) (s : ByteArray) (l : List Ex) (b : Option Addr) (cap : Nat) (w : World) (hz : l.length ≤ 1048576) (h1 : 1 ≤ l.length) (h : 3 ≤ l.length ∨ n ≠ 0 ∨ s ≠ E0) : Calls Tryd.prog 69 #[.agg #[.int .i64 k, .int .i64 n, .string s, .slice b l.length cap], .int .i64 ((d + 1 : Nat) : Int)] w (TermR (d + 1) ⟨k, n, s, l⟩ w) := by
  have V : hereV k n s l.length = false := by
    rcases h with h | h | h
    · exact here_more k n s _ h
    · exact hereV_n k n s _ h1 h
    · exact hereV_s k n s _ h1 h
  have FN := hide (fun r w' v => termR_of (d := d + 1) (e := ⟨k, n, s, l⟩) (w := w) (r := r) (w' := w') (v := v) (q := false) (by rw [okf_v, V]; rfl))
  generalize TermR (d + 1) ⟨k, n, s, l⟩ w = R at *
  clear V
  generalize l.length = ll at *
  obtain ⟨W, hW⟩ : ∃ W, w.alloc (.cells #[.int .i64 k, .int .i64 n, .string s, .slice b ll cap] 37) = W := ⟨_, rfl⟩
  have B0 := hide (below_new w (.cells #[.int .i64 k, .int .i64 n, .string s, .slice b ll cap] 37))
  have hg : W.heap[w.heap.size]? = some (.cells #[.int .i64 k, .int .i64 n, .string s, .slice b ll cap] 37 (0, 0)) := by rw [← hW]; exact Array.getElem?_push_size
  rw [hW] at B0
  have x0 := Lib.cell_of_heap hg 0
  have x1 := Lib.cell_of_heap hg 1
  have x2 := Lib.cell_of_heap hg 2
  have x3 := Lib.cell_of_heap hg 3
  have xl : w.heap.size < W.heap.size := (Array.getElem?_eq_some_iff.1 hg).1
  have hd0 : (((d + 1 : Nat) : Int) == 0) = false := beq_eq_false_iff_ne.2 (by omega)
  have hd1 : ((d + 1 : Nat) : Int) - 1 = (d : Int) := by omega
  have hdb : 0 ≤ ((d + 1 : Nat) : Int) ∧ ((d + 1 : Nat) : Int) ≤ 100 := by omega
  clear hg xl
  have h0 : ((ll : Int) == 0) = false := beq_eq_false_iff_ne.2 (by omega)
  generalize hDD : ((d + 1 : Nat) : Int) = DD at *
  by_cases h3 : 3 ≤ ll
  · have g3 : (2 : Int) < (ll : Int) := by omega
    clear h
    go_enter Tryd.func69, Tryd.ntmps69
    go_wp2
    (try go_ret2)
    exact unhide FN _ _ _ rfl (fun h => by cases h) (unhide B0)
  · have g3 : decide ((2 : Int) < (ll : Int)) = false := decide_eq_false (by omega)
    have g4 : decide (2 < ll) = false := decide_eq_false (by omega)
    by_cases hn : n = 0
    · subst hn
      have hs : s ≠ E0 := by rcases h with h | h | h; omega; exact absurd rfl h; exact h
      obtain ⟨e1, e2⟩ := emp_E s hs
      clear h
      go_enter Tryd.func69, Tryd.ntmps69
      go_wp2
      (try go_ret2)
      exact unhide FN _ _ _ rfl (fun h => by cases h) (unhide B0)
    · have en : (n == 0) = false := beq_eq_false_iff_ne.2 hn
      clear h
      go_enter Tryd.func69, Tryd.ntmps69
      go_wp2
      (try go_ret2)
      exact unhide FN _ _ _ rfl (fun h => by cases h) (unhide B0)
set_option maxHeartbeats 4000000 in
theorem term_one (d : Nat) (h6 : d ≤ 6) (ih : TermP d) (k : Int) (a : Ex) (b : Option Addr) (cap : Nat) (w : World) (hr : RdX w 0 ⟨k, 0, ⟨#[]⟩, [a]⟩ b) (hz : a.sz ≤ 1048576) (ht : TabK w) : Calls Tryd.prog 69 #[.agg #[.int .i64 k, .int .i64 0, .string ⟨#[]⟩, .slice b 1 cap], .int .i64 ((d + 1 : Nat) : Int)] w (TermR (d + 1) ⟨k, 0, ⟨#[]⟩, [a]⟩ w) := by
  obtain ⟨W, hW⟩ : ∃ W, w.alloc (.cells #[.int .i64 k, .int .i64 0, .string ⟨#[]⟩, .slice b 1 cap] 37) = W := ⟨_, rfl⟩
  have B0 := hide (below_new w (.cells #[.int .i64 k, .int .i64 0, .string ⟨#[]⟩, .slice b 1 cap] 37))
  have hg : W.heap[w.heap.size]? = some (.cells #[.int .i64 k, .int .i64 0, .string ⟨#[]⟩, .slice b 1 cap] 37 (0, 0)) := by rw [← hW]; exact Array.getElem?_push_size
  rw [hW] at B0
  have x0 := Lib.cell_of_heap hg 0
  have x1 := Lib.cell_of_heap hg 1
  have x2 := Lib.cell_of_heap hg 2
  have x3 := Lib.cell_of_heap hg 3
  have xl : w.heap.size < W.heap.size := (Array.getElem?_eq_some_iff.1 hg).1
  have hd0 : (((d + 1 : Nat) : Int) == 0) = false := beq_eq_false_iff_ne.2 (by omega)
  have hd1 : ((d + 1 : Nat) : Int) - 1 = (d : Int) := by omega
  have hdb : 0 ≤ ((d + 1 : Nat) : Int) ∧ ((d + 1 : Nat) : Int) ≤ 100 := by omega
  obtain ⟨p, po, rfl, hp, o0⟩ := rd_at (hr.later (unhide B0)) (i := 0) (show 0 < [a].length by simp)
  obtain ⟨e00, e01, e02, c0, cp0, e03, e04⟩ := o0
  simp only [show xAt [a] 0 = a from rfl] at e00 e01 e02 e03 e04
  rw [Nat.zero_mul, Nat.add_zero] at e00 e01 e02 e03
  have IH := hide (ih a c0 cp0 W e04 hz (ht.next (unhide B0)))
  have FN := hide (fun r w' v q (h : (k == 4 && okF d false a) = q) => termR_of (d := d + 1) (e := ⟨k, 0, ⟨#[]⟩, [a]⟩) (w := w) (r := r) (w' := w') (v := v) (q := q) (by rw [okf_v, ← h, show [a].length = 1 from rfl, here_one]; simp))
  have TV := hide (show k = 4 → tv ⟨k, 0, ⟨#[]⟩, [a]⟩ = .iface 119 (.agg #[tv a]) by rintro rfl; exact tv_neg _ _ _)
  generalize tv ⟨k, 0, ⟨#[]⟩, [a]⟩ = tve at *
  generalize TermR (d + 1) ⟨k, 0, ⟨#[]⟩, [a]⟩ w = R at *
  unfold Ex.cs at IH
  generalize a.k = ak at *
  generalize a.n = an at *
  generalize a.s = asv at *
  generalize a.l.length = al at *
  have y0 : ∀ w1, Below W.heap.size W w1 → w1.cell? ⟨w.heap.size, 0, none⟩ = some (.int .i64 k) := fun w1 hb => (hb.cell (p := ⟨w.heap.size, _, none⟩) xl).trans x0
  have y3 : ∀ w1, Below W.heap.size W w1 → w1.cell? ⟨w.heap.size, 3, none⟩ = some (.slice (some ⟨p, po, none⟩) 1 cap) := fun w1 hb => (hb.cell (p := ⟨w.heap.size, _, none⟩) xl).trans x3
  have Y0 := hide y0
  have Y3 := hide y3
  have KQ : k = 4 ∨ k ≠ 4 := by omega
  clear hg xl ht hr hz ih e04 y0 y3 hp
  generalize hDD : ((d + 1 : Nat) : Int) = DD at *
  go_enter Tryd.func69, Tryd.ntmps69
  go_wp2_with fail
  refine (unhide IH).mono ?_
  rintro r w1 ⟨v, rfl, hv, hb1⟩
  have BB := hide ((unhide B0).trans (hb1.mono (unhide B0).size))
  have z0 := unhide Y0 w1 hb1
  have z3 := unhide Y3 w1 hb1
  have HV := hide hv
  generalize okF d false a = q at *
  clear hv hb1 Y0 Y3 IH x0 x1 x2 x3 e00 e01 e02 e03
  cases q with
  | false =>
    have F2 := hide (fun r w' v => unhide FN r w' v false (Bool.and_false _))
    clear FN
    go_wp2
    (try go_ret2)
    exact unhide F2 _ _ _ rfl (fun h => by cases h) (unhide BB)
  | true =>
    obtain ⟨t1, x1, e1⟩ := tv_if a
    have hve := unhide HV rfl
    rw [e1] at hve TV
    subst hve
    clear HV e1
    have xl1 : w.heap.size < w1.heap.size := World.block_lt_of_cell? w1 _ z0
    have q0 : ∀ y : Sub w1.heap.size w1, y.w.cell? ⟨w.heap.size, 0, none⟩ = some (.int .i64 k) := fun y => (y.h.cell (p := ⟨w.heap.size, _, none⟩) xl1).trans z0
    have ne := Sub.ne w1.heap.size w1
    have BY := hide (fun y : Sub w1.heap.size w1 => (unhide BB).trans (y.h.mono (unhide BB).size))
    clear xl1
    rcases KQ with rfl | hk
    · have F2 := hide (fun r w' (hr : r = .returned (.tuple #[.iface 119 (.agg #[.iface t1 x1]), .bool true])) hb => unhide FN r w' _ true rfl hr (fun _ => (unhide TV rfl).symm) hb)
      clear FN TV
      go_wp2_with fail
      refine wp_region_sub (⟨w1, Below.refl _ _⟩ : Sub w1.heap.size w1) (by kernel_rfl) (by kernel_rfl) ?_
      repeat (go_big_quiet_step (first | fail))
      refine wpQuiet_nil ?_
      intro y
      go_wp2
      (try go_ret2)
      exact unhide F2 _ _ rfl (unhide BY _)
    · have hk4 : (k == 4) = false := beq_eq_false_iff_ne.2 hk
      have F2 := hide (fun r w' v => unhide FN r w' v false (by rw [hk4]; rfl))
      clear FN TV
      go_wp2_with fail
      refine wp_region_sub (⟨w1, Below.refl _ _⟩ : Sub w1.heap.size w1) (by kernel_rfl) (by kernel_rfl) ?_
      repeat (go_big_quiet_step (first | fail))
      refine wpQuiet_nil ?_
      intro y
      go_wp2
      (try go_ret2)
      exact unhide F2 _ _ _ rfl (fun h => by cases h) (unhide BY _)
set_option maxHeartbeats 4000000 in
theorem term_two (d : Nat) (h6 : d ≤ 6) (ih : TermP d) (k : Int) (a a2 : Ex) (b : Option Addr) (cap : Nat) (w : World) (hr : RdX w 0 ⟨k, 0, ⟨#[]⟩, [a, a2]⟩ b) (hz : a.sz ≤ 1048576) (hz2 : a2.sz ≤ 1048576) (ht : TabK w) : Calls Tryd.prog 69 #[.agg #[.int .i64 k, .int .i64 0, .string ⟨#[]⟩, .slice b 2 cap], .int .i64 ((d + 1 : Nat) : Int)] w (TermR (d + 1) ⟨k, 0, ⟨#[]⟩, [a, a2]⟩ w) := by
  obtain ⟨W, hW⟩ : ∃ W, w.alloc (.cells #[.int .i64 k, .int .i64 0, .string ⟨#[]⟩, .slice b 2 cap] 37) = W := ⟨_, rfl⟩
  have B0 := hide (below_new w (.cells #[.int .i64 k, .int .i64 0, .string ⟨#[]⟩, .slice b 2 cap] 37))
  have hg : W.heap[w.heap.size]? = some (.cells #[.int .i64 k, .int .i64 0, .string ⟨#[]⟩, .slice b 2 cap] 37 (0, 0)) := by rw [← hW]; exact Array.getElem?_push_size
  rw [hW] at B0
  have x0 := Lib.cell_of_heap hg 0
  have x1 := Lib.cell_of_heap hg 1
  have x2 := Lib.cell_of_heap hg 2
  have x3 := Lib.cell_of_heap hg 3
  have xl : w.heap.size < W.heap.size := (Array.getElem?_eq_some_iff.1 hg).1
  have hd0 : (((d + 1 : Nat) : Int) == 0) = false := beq_eq_false_iff_ne.2 (by omega)
  have hd1 : ((d + 1 : Nat) : Int) - 1 = (d : Int) := by omega
  have hdb : 0 ≤ ((d + 1 : Nat) : Int) ∧ ((d + 1 : Nat) : Int) ≤ 100 := by omega
  obtain ⟨p, po, rfl, hp, o0⟩ := rd_at (hr.later (unhide B0)) (i := 0) (show 0 < [a, a2].length by simp)
  obtain ⟨_, _, hpe, _, o1⟩ := rd_at (hr.later (unhide B0)) (i := 1) (show 1 < [a, a2].length by simp)
  cases hpe
  obtain ⟨e00, e01, e02, c0, cp0, e03, e04⟩ := o0
  simp only [show xAt [a, a2] 0 = a from rfl] at e00 e01 e02 e03 e04
  obtain ⟨e10, e11, e12, c1, cp1, e13, e14⟩ := o1
  simp only [show xAt [a, a2] 1 = a2 from rfl] at e10 e11 e12 e13 e14
  rw [Nat.zero_mul, Nat.add_zero] at e00 e01 e02 e03
  rw [Nat.one_mul] at e10 e11 e12 e13
  have IH := hide (ih a c0 cp0 W e04 hz (ht.next (unhide B0)))
  have IH2 := hide (fun w1 (hb : Below W.heap.size W w1) => ih a2 c1 cp1 w1 (e14.later hb) hz2 ((ht.next (unhide B0)).next hb))
  have FN := hide (fun r w' v q (h : (inB k 5 10 && (okF d false a && okF d false a2)) = q) => termR_of (d := d + 1) (e := ⟨k, 0, ⟨#[]⟩, [a, a2]⟩) (w := w) (r := r) (w' := w') (v := v) (q := q) (by rw [okf_v, ← h, show [a, a2].length = 2 from rfl, here_two]; simp))
  have TV := hide (show inB k 5 10 = true → tv ⟨k, 0, ⟨#[]⟩, [a, a2]⟩ = .iface (pairT k) (.agg #[tv a, tv a2]) by intro h; exact tv_two ((inB_iff _ _ _).1 h) _ _ _ _)
  generalize tv ⟨k, 0, ⟨#[]⟩, [a, a2]⟩ = tve at *
  generalize TermR (d + 1) ⟨k, 0, ⟨#[]⟩, [a, a2]⟩ w = R at *
  unfold Ex.cs at IH IH2
  generalize a.k = ak at *
  generalize a.n = an at *
  generalize a.s = asv at *
  generalize a.l.length = al at *
  generalize a2.k = bk at *
  generalize a2.n = bn at *
  generalize a2.s = bs at *
  generalize a2.l.length = bl at *
  have Y0 := hide (fun w1 (hb : Below W.heap.size W w1) => (hb.cell (p := ⟨w.heap.size, 0, none⟩) xl).trans x0)
  have Y3 := hide (fun w1 (hb : Below W.heap.size W w1) => (hb.cell (p := ⟨w.heap.size, 3, none⟩) xl).trans x3)
  have U0 := hide (fun w1 (hb : Below W.heap.size W w1) => (hb.cell (p := ⟨p, po + 4, none⟩) hp).trans e10)
  have U1 := hide (fun w1 (hb : Below W.heap.size W w1) => (hb.cell (p := ⟨p, po + 4 + 1, none⟩) hp).trans e11)
  have U2 := hide (fun w1 (hb : Below W.heap.size W w1) => (hb.cell (p := ⟨p, po + 4 + 2, none⟩) hp).trans e12)
  have U3 := hide (fun w1 (hb : Below W.heap.size W w1) => (hb.cell (p := ⟨p, po + 4 + 3, none⟩) hp).trans e13)
  clear hg xl ht hr hz hz2 ih e04 e14 e10 e11 e12 e13 hp
  generalize hDD : ((d + 1 : Nat) : Int) = DD at *
  go_enter Tryd.func69, Tryd.ntmps69
  go_wp2_with fail
  refine (unhide IH).mono ?_
  rintro r w1 ⟨v, rfl, hv, hb1⟩
  have HB1 := hide hb1
  have BB := hide ((unhide B0).trans (hb1.mono (unhide B0).size))
  have z0 := unhide Y0 w1 hb1
  have z3 := unhide Y3 w1 hb1
  have u0 := unhide U0 w1 hb1
  have u1 := unhide U1 w1 hb1
  have u2 := unhide U2 w1 hb1
  have u3 := unhide U3 w1 hb1
  have HV := hide hv
  have J2 := hide (unhide IH2 w1 hb1)
  generalize okF d false a = q at *
  clear hv hb1 U0 U1 U2 U3 IH IH2 x0 x1 x2 x3 e00 e01 e02 e03
  cases q with
  | false =>
    have F2 := hide (fun r w' v => unhide FN r w' v false (by rw [Bool.false_and, Bool.and_false]))
    clear FN
    go_wp2
    (try go_ret2)
    exact unhide F2 _ _ _ rfl (fun h => by cases h) (unhide BB)
  | true =>
    obtain ⟨t1, x1, e1⟩ := tv_if a
    have hve := unhide HV rfl
    rw [e1] at hve TV
    subst hve
    clear HV e1
    go_wp2_with fail
    refine (unhide J2).mono ?_
    rintro r w2 ⟨v2, rfl, hv2, hb2⟩
    have HB2 := hide ((unhide HB1).trans (hb2.mono (unhide HB1).size))
    have B2 := hide ((unhide BB).trans (hb2.mono (unhide BB).size))
    have t0 := unhide Y0 w2 (unhide HB2)
    have HV2 := hide hv2
    generalize okF d false a2 = q2 at *
    clear hv2 hb2 u0 u1 u2 u3 z0 z3 Y0 Y3 J2
    cases q2 with
    | false =>
      have F2 := hide (fun r w' v => unhide FN r w' v false (Bool.and_false _))
      clear FN
      go_wp2
      (try go_ret2)
      exact unhide F2 _ _ _ rfl (fun h => by cases h) (unhide B2)
    | true =>
      obtain ⟨t2, x2, e2⟩ := tv_if a2
      have hve := unhide HV2 rfl
      rw [e2] at hve TV
      subst hve
      clear HV2 e2
      have F2 := hide (fun r w' v q (h : inB k 5 10 = q) => unhide FN r w' v q ((Bool.and_true _).trans h))
      have P2 := hide (pair_any k (.iface t1 x1) (.iface t2 x2) w2)
      clear FN
      go_wp2_with fail
      refine (unhide P2).mono ?_
      rintro r w3 ⟨x, rfl, hx, hb3⟩
      have F3 := hide (unhide F2 (.returned (.tuple #[x, .bool (inB k 5 10)])) w3 x _ rfl rfl (fun h => by rw [hx h, unhide TV h]) ((unhide B2).trans (hb3.mono (unhide B2).size)))
      generalize inB k 5 10 = qq at *
      clear F2 hx hb3 P2
      go_wp2
      (try go_ret2)
      exact unhide F3
theorem term_all : ∀ d : Nat, d ≤ 6 → TermP d := by
  intro d
  induction d with
  | zero => intro _; exact term_zero
  | succ d ih =>
    intro hd e b cap w hr hz ht
    obtain ⟨k, n, s, l⟩ := e
    have hsz := sz_is ⟨k, n, s, l⟩
    simp only at hsz
    unfold Ex.cs
    simp only
    by_cases hbad : 1 ≤ l.length ∧ (3 ≤ l.length ∨ n ≠ 0 ∨ s ≠ E0)
    · exact term_bad d (by omega) k n s l b cap w (by omega) hbad.1 hbad.2
    · match l, hr, hz, hsz, hbad with
      | [], hr, hz, hsz, hbad => exact term_nil d (by omega) k n s b cap w (by omega) ht
      | [a], hr, hz, hsz, hbad =>
        have hn : n = 0 := Classical.byContradiction fun h => hbad ⟨by simp, .inr (.inl h)⟩
        have hs : s = E0 := Classical.byContradiction fun h => hbad ⟨by simp, .inr (.inr h)⟩
        subst hn hs
        exact term_one d (by omega) (ih (by omega)) k a b cap w hr (by simp [szX] at hsz; omega) ht
      | [a, a2], hr, hz, hsz, hbad =>
        have hn : n = 0 := Classical.byContradiction fun h => hbad ⟨by simp, .inr (.inl h)⟩
        have hs : s = E0 := Classical.byContradiction fun h => hbad ⟨by simp, .inr (.inr h)⟩
        subst hn hs
        exact term_two d (by omega) (ih (by omega)) k a a2 b cap w hr (by simp [szX] at hsz; omega) (by simp [szX] at hsz; omega) ht
      | a :: a2 :: a3 :: r, hr, hz, hsz, hbad => exact absurd ⟨by simp, .inl (by simp)⟩ hbad
end Go.Proofs.YthgbpofcfmnpdaaDoor

namespace Go.Proofs.YthgbpofcfmnpdaaDoor
open Go.ChangeShapes Go.WideShapes Go.ChangeAt Go.RowKit
set_option linter.unusedVariables false
set_option maxRecDepth 8000
set_option linter.unusedSimpArgs false

set_option maxHeartbeats 1000000 in
theorem okI_any (e : Ex) (b : Option Addr) (cap : Nat) (w : World) (hr : RdX w 0 e b) (hz : e.sz ≤ 1048576) (ht : TabK w) : Calls Tryd.prog 23 #[.agg (e.cs b cap)] w fun r w' => r = .returned (.bool (okF 6 false e)) ∧ Below w.heap.size w w' := by
  have B0 := below_new w (.cells (e.cs b cap) 37)
  have HH := hide (term_all 6 (by omega) e b cap _ (hr.later B0) hz (ht.next B0))
  have HB := hide B0
  clear hr B0 ht
  unfold TermR at HH
  generalize okF 6 false e = q at *
  unfold Ex.cs at HH HB ⊢
  generalize e.l.length = ll at *
  go_enter Tryd.func23, Tryd.ntmps23
  go_wp2_with fail
  refine (unhide HH).mono ?_
  rintro r w1 ⟨v, rfl, _, hb1⟩
  have BB := hide ((unhide HB).trans (hb1.mono (unhide HB).size))
  clear hb1 HH HB
  go_wp2
  go_ret
  exact ⟨rfl, unhide BB⟩
/-- The forms of a right term. -/
theorem ok_cases {d : Nat} {e : Ex} (h : okF (d + 1) false e = true) : (∃ n : Int, (0 ≤ n ∧ n ≤ 65535) ∧ e = ⟨1, n, E0, []⟩) ∨ (∃ s, nameB s = true ∧ e = ⟨2, 0, s, []⟩) ∨ e = ⟨3, 0, E0, []⟩ ∨ (∃ a, okF d false a = true ∧ e = ⟨4, 0, E0, [a]⟩) ∨ (∃ k a b, (5 ≤ k ∧ k ≤ 10) ∧ okF d false a = true ∧ okF d false b = true ∧ e = ⟨k, 0, E0, [a, b]⟩) ∨ (∃ n : Int, (0 ≤ n ∧ n ≤ 9) ∧ e = ⟨11, n, E0, []⟩) ∨ (∃ s, nameB s = true ∧ e = ⟨12, 0, s, []⟩) := by
  obtain ⟨k, n, s, l⟩ := e
  rw [okf_v, Bool.and_eq_true] at h
  obtain ⟨h1, h2⟩ := h
  match l, h1, h2 with
  | [], h1, _ =>
    have hn : k ≠ 1 → k ≠ 11 → n = 0 := fun g1 g2 => Classical.byContradiction fun hn => by
      unfold hereV Ex.here at h1
      rw [if_pos (by simp [g1, g2, hn])] at h1
      cases h1
    have hs : k ≠ 2 → k ≠ 12 → s = E0 := fun g1 g2 => Classical.byContradiction fun hn => by
      have es := (emp_E s hn).2
      unfold hereV Ex.here at h1
      rw [if_pos (by simp [g1, g2, es])] at h1
      cases h1
    by_cases k1 : k = 1
    · subst k1
      obtain rfl := hs (by decide) (by decide)
      rw [show hereV 1 n E0 ([] : List Ex).length = inB n 0 65535 by simp [hereV, Ex.here, eqE]] at h1
      exact .inl ⟨n, (inB_iff _ _ _).1 h1, rfl⟩
    by_cases k2 : k = 2
    · subst k2
      obtain rfl := hn (by decide) (by decide)
      rw [show hereV 2 0 s ([] : List Ex).length = nameB s by simp [hereV, Ex.here]] at h1
      exact .inr (.inl ⟨s, h1, rfl⟩)
    by_cases k11 : k = 11
    · subst k11
      obtain rfl := hs (by decide) (by decide)
      rw [show hereV 11 n E0 ([] : List Ex).length = inB n 0 9 by simp [hereV, Ex.here, eqE]] at h1
      exact .inr (.inr (.inr (.inr (.inr (.inl ⟨n, (inB_iff _ _ _).1 h1, rfl⟩)))))
    by_cases k12 : k = 12
    · subst k12
      obtain rfl := hn (by decide) (by decide)
      rw [show hereV 12 0 s ([] : List Ex).length = nameB s by simp [hereV, Ex.here]] at h1
      exact .inr (.inr (.inr (.inr (.inr (.inr ⟨s, h1, rfl⟩)))))
    obtain rfl := hn k1 k11
    obtain rfl := hs k2 k12
    by_cases k3 : k = 3
    · subst k3; exact .inr (.inr (.inl rfl))
    exfalso
    unfold hereV Ex.here at h1
    simp only [List.length_replicate, List.length_nil] at h1
    rw [if_neg (by simp [eqE]), if_neg k1, if_neg (by omega), if_neg k3] at h1
    repeat' (split at h1)
    all_goals first | cases h1 | exact absurd h1 (by decide) | omega
  | [a], h1, h2 =>
    have hn : n = 0 := Classical.byContradiction fun hn => by rw [hereV_n k n s _ (by simp) hn] at h1; cases h1
    have hs : s = E0 := Classical.byContradiction fun hn => by rw [hereV_s k n s _ (by simp) hn] at h1; cases h1
    subst hn hs
    have h3 : hereV k 0 ⟨#[]⟩ 1 = true := h1
    rw [here_one, beq_iff_eq] at h3
    subst h3
    exact .inr (.inr (.inr (.inl ⟨a, by simpa using h2, rfl⟩)))
  | [a, b], h1, h2 =>
    have hn : n = 0 := Classical.byContradiction fun hn => by rw [hereV_n k n s _ (by simp) hn] at h1; cases h1
    have hs : s = E0 := Classical.byContradiction fun hn => by rw [hereV_s k n s _ (by simp) hn] at h1; cases h1
    subst hn hs
    have h3 : hereV k 0 ⟨#[]⟩ 2 = true := h1
    rw [here_two] at h3
    have h4 : okF d false a = true ∧ okF d false b = true := by simpa using h2
    exact .inr (.inr (.inr (.inr (.inl ⟨k, a, b, (inB_iff _ _ _).1 h3, h4.1, h4.2, rfl⟩))))
  | a :: b :: c :: r, h1, _ => rw [here_more k n s _ (by simp)] at h1; cases h1
theorem plain_one (d : Nat) (a : Ex) : okF (d + 1) true ⟨4, 0, E0, [a]⟩ = okF d true a := by simp [okF, Ex.here, eqE]
theorem plain_pair (d : Nat) {k : Int} (hk : 5 ≤ k ∧ k ≤ 10) (a b : Ex) : okF (d + 1) true ⟨k, 0, E0, [a, b]⟩ = (okF d true a && okF d true b) := by
  have : k = 5 ∨ k = 6 ∨ k = 7 ∨ k = 8 ∨ k = 9 ∨ k = 10 := by omega
  rcases this with rfl | rfl | rfl | rfl | rfl | rfl <;> simp [okF, Ex.here, eqE]
def IsP (d : Nat) : Prop := ∀ (e : Ex) (w : World), okF d false e = true → Calls Tryd.prog 76 #[tv e] w fun r w' => r = .returned (.bool (okF d true e)) ∧ Below w.heap.size w w'
end Go.Proofs.YthgbpofcfmnpdaaDoor

namespace Go.Proofs.YthgbpofcfmnpdaaDoor
open Go.ChangeShapes Go.WideShapes Go.ChangeAt Go.RowKit
set_option linter.unusedVariables false
set_option maxRecDepth 8000
set_option linter.unusedSimpArgs false

theorem ta_no {P : Program} {T u it : TypeId} {x z : Value} {fs : Array Field} (w : World) (hu : P.underlying u = some (.struct fs)) (hz : (zeroValue u).run P w = .ok z w) (h : T ≠ u) : (Instr.typeAssert (.iface T x) it u true).run P w = .ok (.tuple #[z, .bool false]) w := by
  simp [Instr.typeAssert, run_underlying hu, h, hz]
theorem taN_num (T : TypeId) (x : Value) (h : T ≠ 130) (w : World) : (Instr.typeAssert (.iface T x) 93 130 true).run Tryd.prog w = .ok (.tuple #[.agg #[.int .i64 0], .bool false]) w := ta_no w Tryd.underlying130 (by kernel_rfl) h
theorem taY_num (x : Value) (w : World) : (Instr.typeAssert (.iface 130 x) 93 130 true).run Tryd.prog w = .ok (.tuple #[x, .bool true]) w := by kernel_rfl
theorem taN_sym (T : TypeId) (x : Value) (h : T ≠ 131) (w : World) : (Instr.typeAssert (.iface T x) 93 131 true).run Tryd.prog w = .ok (.tuple #[.agg #[.string ⟨#[]⟩], .bool false]) w := ta_no w Tryd.underlying131 (by kernel_rfl) h
theorem taY_sym (x : Value) (w : World) : (Instr.typeAssert (.iface 131 x) 93 131 true).run Tryd.prog w = .ok (.tuple #[x, .bool true]) w := by kernel_rfl
theorem taN_here (T : TypeId) (x : Value) (h : T ≠ 133) (w : World) : (Instr.typeAssert (.iface T x) 93 133 true).run Tryd.prog w = .ok (.tuple #[.agg #[], .bool false]) w := ta_no w Tryd.underlying133 (by kernel_rfl) h
theorem taY_here (x : Value) (w : World) : (Instr.typeAssert (.iface 133 x) 93 133 true).run Tryd.prog w = .ok (.tuple #[x, .bool true]) w := by kernel_rfl
theorem taN_neg (T : TypeId) (x : Value) (h : T ≠ 119) (w : World) : (Instr.typeAssert (.iface T x) 93 119 true).run Tryd.prog w = .ok (.tuple #[.agg #[.nilIface], .bool false]) w := ta_no w Tryd.underlying119 (by kernel_rfl) h
theorem taY_neg (x : Value) (w : World) : (Instr.typeAssert (.iface 119 x) 93 119 true).run Tryd.prog w = .ok (.tuple #[x, .bool true]) w := by kernel_rfl
theorem taN_add (T : TypeId) (x : Value) (h : T ≠ 145) (w : World) : (Instr.typeAssert (.iface T x) 93 145 true).run Tryd.prog w = .ok (.tuple #[.agg #[.nilIface, .nilIface], .bool false]) w := ta_no w Tryd.underlying145 (by kernel_rfl) h
theorem taY_add (x : Value) (w : World) : (Instr.typeAssert (.iface 145 x) 93 145 true).run Tryd.prog w = .ok (.tuple #[x, .bool true]) w := by kernel_rfl
theorem taN_sub (T : TypeId) (x : Value) (h : T ≠ 146) (w : World) : (Instr.typeAssert (.iface T x) 93 146 true).run Tryd.prog w = .ok (.tuple #[.agg #[.nilIface, .nilIface], .bool false]) w := ta_no w Tryd.underlying146 (by kernel_rfl) h
theorem taY_sub (x : Value) (w : World) : (Instr.typeAssert (.iface 146 x) 93 146 true).run Tryd.prog w = .ok (.tuple #[x, .bool true]) w := by kernel_rfl
theorem taN_mul (T : TypeId) (x : Value) (h : T ≠ 147) (w : World) : (Instr.typeAssert (.iface T x) 93 147 true).run Tryd.prog w = .ok (.tuple #[.agg #[.nilIface, .nilIface], .bool false]) w := ta_no w Tryd.underlying147 (by kernel_rfl) h
theorem taY_mul (x : Value) (w : World) : (Instr.typeAssert (.iface 147 x) 93 147 true).run Tryd.prog w = .ok (.tuple #[x, .bool true]) w := by kernel_rfl
theorem taN_div (T : TypeId) (x : Value) (h : T ≠ 148) (w : World) : (Instr.typeAssert (.iface T x) 93 148 true).run Tryd.prog w = .ok (.tuple #[.agg #[.nilIface, .nilIface], .bool false]) w := ta_no w Tryd.underlying148 (by kernel_rfl) h
theorem taY_div (x : Value) (w : World) : (Instr.typeAssert (.iface 148 x) 93 148 true).run Tryd.prog w = .ok (.tuple #[x, .bool true]) w := by kernel_rfl
theorem taN_and (T : TypeId) (x : Value) (h : T ≠ 149) (w : World) : (Instr.typeAssert (.iface T x) 93 149 true).run Tryd.prog w = .ok (.tuple #[.agg #[.nilIface, .nilIface], .bool false]) w := ta_no w Tryd.underlying149 (by kernel_rfl) h
theorem taY_and (x : Value) (w : World) : (Instr.typeAssert (.iface 149 x) 93 149 true).run Tryd.prog w = .ok (.tuple #[x, .bool true]) w := by kernel_rfl
theorem taN_or (T : TypeId) (x : Value) (h : T ≠ 150) (w : World) : (Instr.typeAssert (.iface T x) 93 150 true).run Tryd.prog w = .ok (.tuple #[.agg #[.nilIface, .nilIface], .bool false]) w := ta_no w Tryd.underlying150 (by kernel_rfl) h
theorem taY_or (x : Value) (w : World) : (Instr.typeAssert (.iface 150 x) 93 150 true).run Tryd.prog w = .ok (.tuple #[x, .bool true]) w := by kernel_rfl
theorem taN_sect (T : TypeId) (x : Value) (h : T ≠ 125) (w : World) : (Instr.typeAssert (.iface T x) 93 125 true).run Tryd.prog w = .ok (.tuple #[.agg #[.int .i64 0], .bool false]) w := ta_no w Tryd.underlying125 (by kernel_rfl) h
theorem taY_sect (x : Value) (w : World) : (Instr.typeAssert (.iface 125 x) 93 125 true).run Tryd.prog w = .ok (.tuple #[x, .bool true]) w := by kernel_rfl
theorem taN_glob (T : TypeId) (x : Value) (h : T ≠ 127) (w : World) : (Instr.typeAssert (.iface T x) 93 127 true).run Tryd.prog w = .ok (.tuple #[.agg #[.string ⟨#[]⟩], .bool false]) w := ta_no w Tryd.underlying127 (by kernel_rfl) h
theorem taY_glob (x : Value) (w : World) : (Instr.typeAssert (.iface 127 x) 93 127 true).run Tryd.prog w = .ok (.tuple #[x, .bool true]) w := by kernel_rfl
theorem me_num (c : Value) (w : World) : (method 293 130 (.agg #[c]) "loop.example/g00329/impl.parts").run Tryd.prog w = .ok (156, .agg #[]) w := by kernel_rfl
theorem me_sym (c : Value) (w : World) : (method 293 131 (.agg #[c]) "loop.example/g00329/impl.parts").run Tryd.prog w = .ok (156, .agg #[]) w := by kernel_rfl
theorem me_sect (c : Value) (w : World) : (method 293 125 (.agg #[c]) "loop.example/g00329/impl.parts").run Tryd.prog w = .ok (156, .agg #[]) w := by kernel_rfl
theorem me_glob (c : Value) (w : World) : (method 293 127 (.agg #[c]) "loop.example/g00329/impl.parts").run Tryd.prog w = .ok (156, .agg #[]) w := by kernel_rfl
theorem me_here (w : World) : (method 293 133 (.agg #[]) "loop.example/g00329/impl.parts").run Tryd.prog w = .ok (156, .agg #[]) w := by kernel_rfl
theorem me_neg (c : Value) (w : World) : (method 293 119 (.agg #[c]) "loop.example/g00329/impl.parts").run Tryd.prog w = .ok (154, .agg #[c]) w := by kernel_rfl
theorem me_add (c d : Value) (w : World) : (method 293 145 (.agg #[c, d]) "loop.example/g00329/impl.parts").run Tryd.prog w = .ok (155, .agg #[c, d]) w := by kernel_rfl
theorem me_sub (c d : Value) (w : World) : (method 293 146 (.agg #[c, d]) "loop.example/g00329/impl.parts").run Tryd.prog w = .ok (155, .agg #[c, d]) w := by kernel_rfl
theorem me_mul (c d : Value) (w : World) : (method 293 147 (.agg #[c, d]) "loop.example/g00329/impl.parts").run Tryd.prog w = .ok (155, .agg #[c, d]) w := by kernel_rfl
theorem me_div (c d : Value) (w : World) : (method 293 148 (.agg #[c, d]) "loop.example/g00329/impl.parts").run Tryd.prog w = .ok (155, .agg #[c, d]) w := by kernel_rfl
theorem me_and (c d : Value) (w : World) : (method 293 149 (.agg #[c, d]) "loop.example/g00329/impl.parts").run Tryd.prog w = .ok (155, .agg #[c, d]) w := by kernel_rfl
theorem me_or (c d : Value) (w : World) : (method 293 150 (.agg #[c, d]) "loop.example/g00329/impl.parts").run Tryd.prog w = .ok (155, .agg #[c, d]) w := by kernel_rfl
set_option maxHeartbeats 1000000 in
theorem parts0 (w : World) : Calls Tryd.prog 156 #[.agg #[]] w fun r w' => r = .returned (.slice none 0 0) ∧ Below w.heap.size w w' := by
  go_enter Tryd.func156, Tryd.ntmps156
  go_wp2
  go_ret
  exact ⟨rfl, by first | exact Below.refl _ _ | exact below_new w _⟩
theorem two_new (w : World) (o1 o2 : Obj) : ((w.alloc o1).alloc o2).heap[w.heap.size + 1]? = some o2 ∧ Below w.heap.size w ((w.alloc o1).alloc o2) := by
  have h1 : (w.alloc o1).heap.size = w.heap.size + 1 := by simp
  refine ⟨?_, ((Below.refl _ _).alloc (Nat.le_refl _) _).alloc (by simp) _⟩
  rw [← h1]
  exact Array.getElem?_push_size
set_option maxHeartbeats 1000000 in
theorem parts1 (t : TypeId) (x : Value) (w : World) : Calls Tryd.prog 154 #[.agg #[.iface t x]] w fun r w' => ∃ g, r = .returned (.slice (some ⟨g, 0, none⟩) 1 1) ∧ w'.heap[g]? = some (.cells #[.iface t x] 93 (0, 0)) ∧ Below w.heap.size w w' := by
  have T := hide (two_new w (.cells #[.iface t x] 119) (.cells #[.iface t x] 93))
  go_enter Tryd.func154, Tryd.ntmps154
  go_wp2
  go_ret
  exact ⟨_, rfl, (unhide T).1, (unhide T).2⟩
set_option maxHeartbeats 1000000 in
theorem parts2 (t u : TypeId) (x y : Value) (w : World) : Calls Tryd.prog 155 #[.agg #[.iface t x, .iface u y]] w fun r w' => ∃ g, r = .returned (.slice (some ⟨g, 0, none⟩) 2 2) ∧ w'.heap[g]? = some (.cells #[.iface t x, .iface u y] 93 (0, 0)) ∧ Below w.heap.size w w' := by
  have T := hide (two_new w (.cells #[.iface t x, .iface u y] 122) (.cells #[.iface t x, .iface u y] 93))
  go_enter Tryd.func155, Tryd.ntmps155
  go_wp2
  go_ret
  exact ⟨_, rfl, (unhide T).1, (unhide T).2⟩
end Go.Proofs.YthgbpofcfmnpdaaDoor

namespace Go.Proofs.YthgbpofcfmnpdaaDoor
open Go.ChangeShapes Go.WideShapes Go.ChangeAt Go.RowKit
set_option linter.unusedVariables false
set_option maxRecDepth 8000
set_option linter.unusedSimpArgs false

set_option maxHeartbeats 2000000 in
theorem isp_num (n : Int) (w : World) : Calls Tryd.prog 76 #[.iface 130 (.agg #[.int .i64 n])] w fun r w' => r = .returned (.bool true) ∧ Below w.heap.size w w' := by
  have t1 := taN_sect 130 (.agg #[.int .i64 n]) (by decide)
  have t2 := taN_glob 130 (.agg #[.int .i64 n]) (by decide)
  have m := me_num (.int .i64 n)
  have P0 := hide (parts0 w)
  go_enter Tryd.func76, Tryd.ntmps76
  go_wp2_with (go_at_call 156; refine (unhide P0).mono ?_; rintro r w1 ⟨rfl, hb⟩)
  refine wp_loop_rounds 1 ?_
  rw [rounds_succ]
  go_wp2
  go_ret
  exact ⟨rfl, hb⟩
set_option maxHeartbeats 2000000 in
theorem isp_sym (s : ByteArray) (w : World) : Calls Tryd.prog 76 #[.iface 131 (.agg #[.string s])] w fun r w' => r = .returned (.bool true) ∧ Below w.heap.size w w' := by
  have t1 := taN_sect 131 (.agg #[.string s]) (by decide)
  have t2 := taN_glob 131 (.agg #[.string s]) (by decide)
  have m := me_sym (.string s)
  have P0 := hide (parts0 w)
  go_enter Tryd.func76, Tryd.ntmps76
  go_wp2_with (go_at_call 156; refine (unhide P0).mono ?_; rintro r w1 ⟨rfl, hb⟩)
  refine wp_loop_rounds 1 ?_
  rw [rounds_succ]
  go_wp2
  go_ret
  exact ⟨rfl, hb⟩
set_option maxHeartbeats 2000000 in
theorem isp_here (w : World) : Calls Tryd.prog 76 #[.iface 133 (.agg #[])] w fun r w' => r = .returned (.bool true) ∧ Below w.heap.size w w' := by
  have t1 := taN_sect 133 (.agg #[]) (by decide)
  have t2 := taN_glob 133 (.agg #[]) (by decide)
  have m := me_here 
  have P0 := hide (parts0 w)
  go_enter Tryd.func76, Tryd.ntmps76
  go_wp2_with (go_at_call 156; refine (unhide P0).mono ?_; rintro r w1 ⟨rfl, hb⟩)
  refine wp_loop_rounds 1 ?_
  rw [rounds_succ]
  go_wp2
  go_ret
  exact ⟨rfl, hb⟩
set_option maxHeartbeats 2000000 in
theorem isp_sect (n : Int) (w : World) : Calls Tryd.prog 76 #[.iface 125 (.agg #[.int .i64 n])] w fun r w' => r = .returned (.bool false) ∧ Below w.heap.size w w' := by
  have t1 := taY_sect (.agg #[.int .i64 n])
  have t2 := taN_glob 125 (.agg #[.int .i64 n]) (by decide)
  go_enter Tryd.func76, Tryd.ntmps76
  go_wp2
  go_ret
  exact ⟨rfl, Below.refl _ _⟩
set_option maxHeartbeats 2000000 in
theorem isp_glob (s : ByteArray) (w : World) : Calls Tryd.prog 76 #[.iface 127 (.agg #[.string s])] w fun r w' => r = .returned (.bool false) ∧ Below w.heap.size w w' := by
  have t1 := taY_glob (.agg #[.string s])
  have t2 := taN_sect 127 (.agg #[.string s]) (by decide)
  go_enter Tryd.func76, Tryd.ntmps76
  go_wp2
  go_ret
  exact ⟨rfl, Below.refl _ _⟩
set_option maxHeartbeats 2000000 in
theorem isp_neg (t : TypeId) (x : Value) (q1 : Bool) (h1 : ∀ w : World, Calls Tryd.prog 76 #[.iface t x] w fun r w' => r = .returned (.bool q1) ∧ Below w.heap.size w w') (w : World) : Calls Tryd.prog 76 #[.iface 119 (.agg #[.iface t x])] w fun r w' => r = .returned (.bool q1) ∧ Below w.heap.size w w' := by
  have t1 := taN_sect 119 (.agg #[.iface t x]) (by decide)
  have t2 := taN_glob 119 (.agg #[.iface t x]) (by decide)
  have m := me_neg (.iface t x)
  have P1 := hide (parts1 t x w)
  have H1 := hide h1
  clear h1
  go_enter Tryd.func76, Tryd.ntmps76
  go_wp2_with (go_at_call 154; refine (unhide P1).mono ?_; rintro r w1 ⟨g, rfl, hg, hb⟩)
  have c0 := Lib.cell_of_heap hg 0
  have B1 := hide hb
  have H2 := hide (unhide H1 w1)
  clear hg hb P1
  refine wp_loop_rounds 2 ?_
  rw [rounds_succ]
  go_wp2_with fail
  refine (unhide H2).mono ?_
  rintro r w2 ⟨rfl, hb2⟩
  have B2 := hide ((unhide B1).trans (hb2.mono (unhide B1).size))
  clear hb2 c0 H2 H1
  cases q1 with
  | false =>
    go_wp2
    go_ret
    exact ⟨rfl, unhide B2⟩
  | true =>
    go_wp2
    rw [rounds_succ]
    go_wp2
    go_ret
    exact ⟨rfl, unhide B2⟩
set_option maxHeartbeats 4000000 in
theorem isp_add (t u : TypeId) (x y : Value) (q1 q2 : Bool) (h1 : ∀ w : World, Calls Tryd.prog 76 #[.iface t x] w fun r w' => r = .returned (.bool q1) ∧ Below w.heap.size w w') (h2 : ∀ w : World, Calls Tryd.prog 76 #[.iface u y] w fun r w' => r = .returned (.bool q2) ∧ Below w.heap.size w w') (w : World) : Calls Tryd.prog 76 #[.iface 145 (.agg #[.iface t x, .iface u y])] w fun r w' => r = .returned (.bool (q1 && q2)) ∧ Below w.heap.size w w' := by
  have t1 := taN_sect 145 (.agg #[.iface t x, .iface u y]) (by decide)
  have t2 := taN_glob 145 (.agg #[.iface t x, .iface u y]) (by decide)
  have m := me_add (.iface t x) (.iface u y)
  have P1 := hide (parts2 t u x y w)
  have H1 := hide h1
  have H3 := hide h2
  clear h1 h2
  obtain ⟨T, hT⟩ : ∃ T, (q1 && q2) = T := ⟨_, rfl⟩
  have HT := hide hT
  rw [hT]
  clear hT
  go_enter Tryd.func76, Tryd.ntmps76
  go_wp2_with (go_at_call 155; refine (unhide P1).mono ?_; rintro r w1 ⟨g, rfl, hg, hb⟩)
  have c0 := Lib.cell_of_heap hg 0
  have c1 := hide (Lib.cell_of_heap hg 1)
  have gl := hide (Array.getElem?_eq_some_iff.1 hg).1
  have B1 := hide hb
  have H2 := hide (unhide H1 w1)
  clear hg hb P1
  refine wp_loop_rounds 3 ?_
  rw [rounds_succ]
  go_wp2_with fail
  refine (unhide H2).mono ?_
  rintro r w2 ⟨rfl, hb2⟩
  have B2 := hide ((unhide B1).trans (hb2.mono (unhide B1).size))
  have d1 := (hb2.cell (p := ⟨g, 1, none⟩) (unhide gl)).trans (unhide c1)
  clear hb2 c0 c1 H2 H1 gl
  cases q1 with
  | false =>
    have E := hide ((unhide HT).symm.trans (Bool.false_and _))
    go_wp2
    go_ret
    exact ⟨by rw [unhide E]; rfl, unhide B2⟩
  | true =>
    have E := hide ((unhide HT).symm.trans (Bool.true_and _))
    have H4 := hide (unhide H3 w2)
    go_wp2
    rw [rounds_succ]
    go_wp2_with fail
    refine (unhide H4).mono ?_
    rintro r w3 ⟨rfl, hb3⟩
    have B3 := hide ((unhide B2).trans (hb3.mono (unhide B2).size))
    clear hb3 d1 H4 H3
    cases q2 with
    | false =>
      go_wp2
      go_ret
      exact ⟨by rw [unhide E]; rfl, unhide B3⟩
    | true =>
      go_wp2
      rw [rounds_succ]
      go_wp2
      go_ret
      exact ⟨by rw [unhide E]; rfl, unhide B3⟩
set_option maxHeartbeats 4000000 in
theorem isp_sub (t u : TypeId) (x y : Value) (q1 q2 : Bool) (h1 : ∀ w : World, Calls Tryd.prog 76 #[.iface t x] w fun r w' => r = .returned (.bool q1) ∧ Below w.heap.size w w') (h2 : ∀ w : World, Calls Tryd.prog 76 #[.iface u y] w fun r w' => r = .returned (.bool q2) ∧ Below w.heap.size w w') (w : World) : Calls Tryd.prog 76 #[.iface 146 (.agg #[.iface t x, .iface u y])] w fun r w' => r = .returned (.bool (q1 && q2)) ∧ Below w.heap.size w w' := by
  have t1 := taN_sect 146 (.agg #[.iface t x, .iface u y]) (by decide)
  have t2 := taN_glob 146 (.agg #[.iface t x, .iface u y]) (by decide)
  have m := me_sub (.iface t x) (.iface u y)
  have P1 := hide (parts2 t u x y w)
  have H1 := hide h1
  have H3 := hide h2
  clear h1 h2
  obtain ⟨T, hT⟩ : ∃ T, (q1 && q2) = T := ⟨_, rfl⟩
  have HT := hide hT
  rw [hT]
  clear hT
  go_enter Tryd.func76, Tryd.ntmps76
  go_wp2_with (go_at_call 155; refine (unhide P1).mono ?_; rintro r w1 ⟨g, rfl, hg, hb⟩)
  have c0 := Lib.cell_of_heap hg 0
  have c1 := hide (Lib.cell_of_heap hg 1)
  have gl := hide (Array.getElem?_eq_some_iff.1 hg).1
  have B1 := hide hb
  have H2 := hide (unhide H1 w1)
  clear hg hb P1
  refine wp_loop_rounds 3 ?_
  rw [rounds_succ]
  go_wp2_with fail
  refine (unhide H2).mono ?_
  rintro r w2 ⟨rfl, hb2⟩
  have B2 := hide ((unhide B1).trans (hb2.mono (unhide B1).size))
  have d1 := (hb2.cell (p := ⟨g, 1, none⟩) (unhide gl)).trans (unhide c1)
  clear hb2 c0 c1 H2 H1 gl
  cases q1 with
  | false =>
    have E := hide ((unhide HT).symm.trans (Bool.false_and _))
    go_wp2
    go_ret
    exact ⟨by rw [unhide E]; rfl, unhide B2⟩
  | true =>
    have E := hide ((unhide HT).symm.trans (Bool.true_and _))
    have H4 := hide (unhide H3 w2)
    go_wp2
    rw [rounds_succ]
    go_wp2_with fail
    refine (unhide H4).mono ?_
    rintro r w3 ⟨rfl, hb3⟩
    have B3 := hide ((unhide B2).trans (hb3.mono (unhide B2).size))
    clear hb3 d1 H4 H3
    cases q2 with
    | false =>
      go_wp2
      go_ret
      exact ⟨by rw [unhide E]; rfl, unhide B3⟩
    | true =>
      go_wp2
      rw [rounds_succ]
      go_wp2
      go_ret
      exact ⟨by rw [unhide E]; rfl, unhide B3⟩
set_option maxHeartbeats 4000000 in
theorem isp_mul (t u : TypeId) (x y : Value) (q1 q2 : Bool) (h1 : ∀ w : World, Calls Tryd.prog 76 #[.iface t x] w fun r w' => r = .returned (.bool q1) ∧ Below w.heap.size w w') (h2 : ∀ w : World, Calls Tryd.prog 76 #[.iface u y] w fun r w' => r = .returned (.bool q2) ∧ Below w.heap.size w w') (w : World) : Calls Tryd.prog 76 #[.iface 147 (.agg #[.iface t x, .iface u y])] w fun r w' => r = .returned (.bool (q1 && q2)) ∧ Below w.heap.size w w' := by
  have t1 := taN_sect 147 (.agg #[.iface t x, .iface u y]) (by decide)
  have t2 := taN_glob 147 (.agg #[.iface t x, .iface u y]) (by decide)
  have m := me_mul (.iface t x) (.iface u y)
  have P1 := hide (parts2 t u x y w)
  have H1 := hide h1
  have H3 := hide h2
  clear h1 h2
  obtain ⟨T, hT⟩ : ∃ T, (q1 && q2) = T := ⟨_, rfl⟩
  have HT := hide hT
  rw [hT]
  clear hT
  go_enter Tryd.func76, Tryd.ntmps76
  go_wp2_with (go_at_call 155; refine (unhide P1).mono ?_; rintro r w1 ⟨g, rfl, hg, hb⟩)
  have c0 := Lib.cell_of_heap hg 0
  have c1 := hide (Lib.cell_of_heap hg 1)
  have gl := hide (Array.getElem?_eq_some_iff.1 hg).1
  have B1 := hide hb
  have H2 := hide (unhide H1 w1)
  clear hg hb P1
  refine wp_loop_rounds 3 ?_
  rw [rounds_succ]
  go_wp2_with fail
  refine (unhide H2).mono ?_
  rintro r w2 ⟨rfl, hb2⟩
  have B2 := hide ((unhide B1).trans (hb2.mono (unhide B1).size))
  have d1 := (hb2.cell (p := ⟨g, 1, none⟩) (unhide gl)).trans (unhide c1)
  clear hb2 c0 c1 H2 H1 gl
  cases q1 with
  | false =>
    have E := hide ((unhide HT).symm.trans (Bool.false_and _))
    go_wp2
    go_ret
    exact ⟨by rw [unhide E]; rfl, unhide B2⟩
  | true =>
    have E := hide ((unhide HT).symm.trans (Bool.true_and _))
    have H4 := hide (unhide H3 w2)
    go_wp2
    rw [rounds_succ]
    go_wp2_with fail
    refine (unhide H4).mono ?_
    rintro r w3 ⟨rfl, hb3⟩
    have B3 := hide ((unhide B2).trans (hb3.mono (unhide B2).size))
    clear hb3 d1 H4 H3
    cases q2 with
    | false =>
      go_wp2
      go_ret
      exact ⟨by rw [unhide E]; rfl, unhide B3⟩
    | true =>
      go_wp2
      rw [rounds_succ]
      go_wp2
      go_ret
      exact ⟨by rw [unhide E]; rfl, unhide B3⟩
set_option maxHeartbeats 4000000 in
theorem isp_div (t u : TypeId) (x y : Value) (q1 q2 : Bool) (h1 : ∀ w : World, Calls Tryd.prog 76 #[.iface t x] w fun r w' => r = .returned (.bool q1) ∧ Below w.heap.size w w') (h2 : ∀ w : World, Calls Tryd.prog 76 #[.iface u y] w fun r w' => r = .returned (.bool q2) ∧ Below w.heap.size w w') (w : World) : Calls Tryd.prog 76 #[.iface 148 (.agg #[.iface t x, .iface u y])] w fun r w' => r = .returned (.bool (q1 && q2)) ∧ Below w.heap.size w w' := by
  have t1 := taN_sect 148 (.agg #[.iface t x, .iface u y]) (by decide)
  have t2 := taN_glob 148 (.agg #[.iface t x, .iface u y]) (by decide)
  have m := me_div (.iface t x) (.iface u y)
  have P1 := hide (parts2 t u x y w)
  have H1 := hide h1
  have H3 := hide h2
  clear h1 h2
  obtain ⟨T, hT⟩ : ∃ T, (q1 && q2) = T := ⟨_, rfl⟩
  have HT := hide hT
  rw [hT]
  clear hT
  go_enter Tryd.func76, Tryd.ntmps76
  go_wp2_with (go_at_call 155; refine (unhide P1).mono ?_; rintro r w1 ⟨g, rfl, hg, hb⟩)
  have c0 := Lib.cell_of_heap hg 0
  have c1 := hide (Lib.cell_of_heap hg 1)
  have gl := hide (Array.getElem?_eq_some_iff.1 hg).1
  have B1 := hide hb
  have H2 := hide (unhide H1 w1)
  clear hg hb P1
  refine wp_loop_rounds 3 ?_
  rw [rounds_succ]
  go_wp2_with fail
  refine (unhide H2).mono ?_
  rintro r w2 ⟨rfl, hb2⟩
  have B2 := hide ((unhide B1).trans (hb2.mono (unhide B1).size))
  have d1 := (hb2.cell (p := ⟨g, 1, none⟩) (unhide gl)).trans (unhide c1)
  clear hb2 c0 c1 H2 H1 gl
  cases q1 with
  | false =>
    have E := hide ((unhide HT).symm.trans (Bool.false_and _))
    go_wp2
    go_ret
    exact ⟨by rw [unhide E]; rfl, unhide B2⟩
  | true =>
    have E := hide ((unhide HT).symm.trans (Bool.true_and _))
    have H4 := hide (unhide H3 w2)
    go_wp2
    rw [rounds_succ]
    go_wp2_with fail
    refine (unhide H4).mono ?_
    rintro r w3 ⟨rfl, hb3⟩
    have B3 := hide ((unhide B2).trans (hb3.mono (unhide B2).size))
    clear hb3 d1 H4 H3
    cases q2 with
    | false =>
      go_wp2
      go_ret
      exact ⟨by rw [unhide E]; rfl, unhide B3⟩
    | true =>
      go_wp2
      rw [rounds_succ]
      go_wp2
      go_ret
      exact ⟨by rw [unhide E]; rfl, unhide B3⟩
set_option maxHeartbeats 4000000 in
theorem isp_and (t u : TypeId) (x y : Value) (q1 q2 : Bool) (h1 : ∀ w : World, Calls Tryd.prog 76 #[.iface t x] w fun r w' => r = .returned (.bool q1) ∧ Below w.heap.size w w') (h2 : ∀ w : World, Calls Tryd.prog 76 #[.iface u y] w fun r w' => r = .returned (.bool q2) ∧ Below w.heap.size w w') (w : World) : Calls Tryd.prog 76 #[.iface 149 (.agg #[.iface t x, .iface u y])] w fun r w' => r = .returned (.bool (q1 && q2)) ∧ Below w.heap.size w w' := by
  have t1 := taN_sect 149 (.agg #[.iface t x, .iface u y]) (by decide)
  have t2 := taN_glob 149 (.agg #[.iface t x, .iface u y]) (by decide)
  have m := me_and (.iface t x) (.iface u y)
  have P1 := hide (parts2 t u x y w)
  have H1 := hide h1
  have H3 := hide h2
  clear h1 h2
  obtain ⟨T, hT⟩ : ∃ T, (q1 && q2) = T := ⟨_, rfl⟩
  have HT := hide hT
  rw [hT]
  clear hT
  go_enter Tryd.func76, Tryd.ntmps76
  go_wp2_with (go_at_call 155; refine (unhide P1).mono ?_; rintro r w1 ⟨g, rfl, hg, hb⟩)
  have c0 := Lib.cell_of_heap hg 0
  have c1 := hide (Lib.cell_of_heap hg 1)
  have gl := hide (Array.getElem?_eq_some_iff.1 hg).1
  have B1 := hide hb
  have H2 := hide (unhide H1 w1)
  clear hg hb P1
  refine wp_loop_rounds 3 ?_
  rw [rounds_succ]
  go_wp2_with fail
  refine (unhide H2).mono ?_
  rintro r w2 ⟨rfl, hb2⟩
  have B2 := hide ((unhide B1).trans (hb2.mono (unhide B1).size))
  have d1 := (hb2.cell (p := ⟨g, 1, none⟩) (unhide gl)).trans (unhide c1)
  clear hb2 c0 c1 H2 H1 gl
  cases q1 with
  | false =>
    have E := hide ((unhide HT).symm.trans (Bool.false_and _))
    go_wp2
    go_ret
    exact ⟨by rw [unhide E]; rfl, unhide B2⟩
  | true =>
    have E := hide ((unhide HT).symm.trans (Bool.true_and _))
    have H4 := hide (unhide H3 w2)
    go_wp2
    rw [rounds_succ]
    go_wp2_with fail
    refine (unhide H4).mono ?_
    rintro r w3 ⟨rfl, hb3⟩
    have B3 := hide ((unhide B2).trans (hb3.mono (unhide B2).size))
    clear hb3 d1 H4 H3
    cases q2 with
    | false =>
      go_wp2
      go_ret
      exact ⟨by rw [unhide E]; rfl, unhide B3⟩
    | true =>
      go_wp2
      rw [rounds_succ]
      go_wp2
      go_ret
      exact ⟨by rw [unhide E]; rfl, unhide B3⟩
set_option maxHeartbeats 4000000 in
theorem isp_or (t u : TypeId) (x y : Value) (q1 q2 : Bool) (h1 : ∀ w : World, Calls Tryd.prog 76 #[.iface t x] w fun r w' => r = .returned (.bool q1) ∧ Below w.heap.size w w') (h2 : ∀ w : World, Calls Tryd.prog 76 #[.iface u y] w fun r w' => r = .returned (.bool q2) ∧ Below w.heap.size w w') (w : World) : Calls Tryd.prog 76 #[.iface 150 (.agg #[.iface t x, .iface u y])] w fun r w' => r = .returned (.bool (q1 && q2)) ∧ Below w.heap.size w w' := by
  have t1 := taN_sect 150 (.agg #[.iface t x, .iface u y]) (by decide)
  have t2 := taN_glob 150 (.agg #[.iface t x, .iface u y]) (by decide)
  have m := me_or (.iface t x) (.iface u y)
  have P1 := hide (parts2 t u x y w)
  have H1 := hide h1
  have H3 := hide h2
  clear h1 h2
  obtain ⟨T, hT⟩ : ∃ T, (q1 && q2) = T := ⟨_, rfl⟩
  have HT := hide hT
  rw [hT]
  clear hT
  go_enter Tryd.func76, Tryd.ntmps76
  go_wp2_with (go_at_call 155; refine (unhide P1).mono ?_; rintro r w1 ⟨g, rfl, hg, hb⟩)
  have c0 := Lib.cell_of_heap hg 0
  have c1 := hide (Lib.cell_of_heap hg 1)
  have gl := hide (Array.getElem?_eq_some_iff.1 hg).1
  have B1 := hide hb
  have H2 := hide (unhide H1 w1)
  clear hg hb P1
  refine wp_loop_rounds 3 ?_
  rw [rounds_succ]
  go_wp2_with fail
  refine (unhide H2).mono ?_
  rintro r w2 ⟨rfl, hb2⟩
  have B2 := hide ((unhide B1).trans (hb2.mono (unhide B1).size))
  have d1 := (hb2.cell (p := ⟨g, 1, none⟩) (unhide gl)).trans (unhide c1)
  clear hb2 c0 c1 H2 H1 gl
  cases q1 with
  | false =>
    have E := hide ((unhide HT).symm.trans (Bool.false_and _))
    go_wp2
    go_ret
    exact ⟨by rw [unhide E]; rfl, unhide B2⟩
  | true =>
    have E := hide ((unhide HT).symm.trans (Bool.true_and _))
    have H4 := hide (unhide H3 w2)
    go_wp2
    rw [rounds_succ]
    go_wp2_with fail
    refine (unhide H4).mono ?_
    rintro r w3 ⟨rfl, hb3⟩
    have B3 := hide ((unhide B2).trans (hb3.mono (unhide B2).size))
    clear hb3 d1 H4 H3
    cases q2 with
    | false =>
      go_wp2
      go_ret
      exact ⟨by rw [unhide E]; rfl, unhide B3⟩
    | true =>
      go_wp2
      rw [rounds_succ]
      go_wp2
      go_ret
      exact ⟨by rw [unhide E]; rfl, unhide B3⟩
theorem isp_all : ∀ d : Nat, IsP d := by
  intro d
  induction d with
  | zero => intro e w h; cases h
  | succ d ih =>
    intro e w h
    rcases ok_cases h with ⟨n, hn, rfl⟩ | ⟨s, hs, rfl⟩ | rfl | ⟨a, ha, rfl⟩ | ⟨k, a, b, hk, ha, hb, rfl⟩ | ⟨n, hn, rfl⟩ | ⟨s, hs, rfl⟩
    · rw [tv_num, plain_num hn]; exact isp_num n w
    · rw [tv_sym, plain_sym hs]; exact isp_sym s w
    · rw [tv_here, plain_here]; exact isp_here w
    · obtain ⟨t, x, e1⟩ := tv_if a
      have h1 := fun w => ih a w ha
      rw [e1] at h1
      rw [tv_neg, e1, plain_one]
      exact isp_neg t x _ h1 w
    · obtain ⟨t, x, e1⟩ := tv_if a
      obtain ⟨u, y, e2⟩ := tv_if b
      have h1 := fun w => ih a w ha
      have h2 := fun w => ih b w hb
      rw [e1] at h1
      rw [e2] at h2
      rw [tv_two hk, e1, e2, plain_pair d hk]
      have : k = 5 ∨ k = 6 ∨ k = 7 ∨ k = 8 ∨ k = 9 ∨ k = 10 := by omega
      rcases this with rfl | rfl | rfl | rfl | rfl | rfl
      · exact isp_add t u x y _ _ h1 h2 w
      · exact isp_sub t u x y _ _ h1 h2 w
      · exact isp_mul t u x y _ _ h1 h2 w
      · exact isp_div t u x y _ _ h1 h2 w
      · exact isp_and t u x y _ _ h1 h2 w
      · exact isp_or t u x y _ _ h1 h2 w
    · rw [tv_sect, show okF (d + 1) true ⟨11, n, E0, []⟩ = false by simp [okF]]; exact isp_sect n w
    · rw [tv_glob, show okF (d + 1) true ⟨12, 0, s, []⟩ = false by simp [okF]]; exact isp_glob s w
theorem plain_ok : ∀ (d : Nat) (e : Ex), okF d true e = true → okF d false e = true := by
  intro d
  induction d with
  | zero => intro e h; cases h
  | succ d ih =>
    intro e h
    rw [okF_s, Bool.and_eq_true, Bool.and_eq_true] at h
    rw [okF_s, h.1]
    have h3 := h.2.2
    rw [List.all_eq_true] at h3
    have : e.l.all (okF d false) = true := List.all_eq_true.2 fun x hx => ih x (h3 x hx)
    rw [this]
    rfl
theorem plain_not {d : Nat} {e : Ex} (h : okF d false e = false) : okF d true e = false := by
  cases h2 : okF d true e with
  | false => rfl
  | true => rw [plain_ok d e h2] at h; cases h
set_option maxHeartbeats 1000000 in
theorem plainI_any (e : Ex) (b : Option Addr) (cap : Nat) (w : World) (hr : RdX w 0 e b) (hz : e.sz ≤ 1048576) (ht : TabK w) : Calls Tryd.prog 32 #[.agg (e.cs b cap)] w fun r w' => r = .returned (.bool (okF 6 true e)) ∧ Below w.heap.size w w' := by
  have B0 := below_new w (.cells (e.cs b cap) 37)
  have HH := hide (term_all 6 (by omega) e b cap _ (hr.later B0) hz (ht.next B0))
  have HB := hide B0
  have IP := hide (fun w1 h => isp_all 6 e w1 h)
  have NP := hide (plain_not (d := 6) (e := e))
  clear hr B0 ht
  unfold TermR at HH
  obtain ⟨t, x, e1⟩ := tv_if e
  rw [e1] at HH IP
  clear e1
  generalize okF 6 false e = q at *
  generalize okF 6 true e = q2 at *
  unfold Ex.cs at HH HB ⊢
  generalize e.l.length = ll at *
  go_enter Tryd.func32, Tryd.ntmps32
  go_wp2_with fail
  refine (unhide HH).mono ?_
  rintro r w1 ⟨v, rfl, hv, hb1⟩
  have BB := hide ((unhide HB).trans (hb1.mono (unhide HB).size))
  cases q with
  | false =>
    have E := hide (unhide NP rfl)
    clear hb1 HH HB hv IP
    go_wp2
    go_ret
    exact ⟨by rw [unhide E]; rfl, unhide BB⟩
  | true =>
    have hve := hv rfl
    subst hve
    have I2 := hide (unhide IP w1 rfl)
    clear hb1 HH HB hv IP NP
    go_wp2_with (go_at_call 76; refine (unhide I2).mono ?_; rintro r w2 ⟨rfl, hb2⟩)
    go_ret
    exact ⟨rfl, (unhide BB).trans (hb2.mono (unhide BB).size)⟩
end Go.Proofs.YthgbpofcfmnpdaaDoor

namespace Go.Proofs.YthgbpofcfmnpdaaDoor
open Go.ChangeShapes Go.WideShapes Go.ChangeAt Go.RowKit
set_option linter.unusedVariables false
set_option linter.unusedSimpArgs false

theorem below_drew {w : World} : Below w.heap.size w w.drew := ⟨rfl, rfl, rfl, Nat.le_refl _, fun _ _ => rfl⟩
theorem row_keep {w w' : World} {g : Nat} {o : Obj} (h : w.heap[g]? = some o) (hb : Below w.heap.size w w') : w'.heap[g]? = some o := (hb.block g (Array.getElem?_eq_some_iff.1 h).1).trans h
/-- A load of a whole row in a guarded place. -/
theorem yields_loadG {P : Program} {ops : Array Oper} {S : World → Prop} {o : Oper} {a : Act} (hw : Region.wanted o (yielded ops a.tmps) = true) (ty : TypeId) (x : Operand) (ho : o.op = .load ty x) (g : Nat) (hx : a.eval x = .pointer (some ⟨g, 0, none⟩)) (t : TypeId) (cs : Array Value) (d : TypeDesc)
    (hS : ∀ w, S w → w.heap[g]? = some (.cells cs t (0, 0))) (hu : P.underlying ty = some d) (hd : (match d with | .struct _ | .array _ _ => true | _ => false) = true) (hi : (P.info? ty).map (·.size) = some cs.size) : YieldsIf P ops S o (.agg cs) a := by
  refine .inl ⟨hw, fun w hw => ?_⟩
  simp only [execOp, ho, hx, Instr.loadAt, Instr.sureAddr, Sem.run_bind, Sem.run_pure, Result.andThen_ok, run_loadVar_row w g t ty cs (0, 0) d (hS w hw) hu hd hi]
end Go.Proofs.YthgbpofcfmnpdaaDoor

namespace Go.Proofs.YthgbpofcfmnpdaaDoor
open Go.ChangeShapes Go.WideShapes Go.ChangeAt Go.RowKit
set_option linter.unusedVariables false
set_option maxRecDepth 8000
set_option linter.unusedSimpArgs false

set_option maxHeartbeats 1000000 in
theorem markS_ex (x : ByteArray) (w : World) : Calls Tryd.prog 98 #[.string x] w fun e w' => e = .returned (Tk.v ⟨4, 0, x⟩) ∧ Below w.heap.size w w' := by
  have B0 := hide (below_new w (.cells T0c 31))
  have R0 := hide (heap_alloc_new w (.cells T0c 31))
  unfold T0c at B0 R0
  unfold Tk.v Tk.cs
  simp only
  go_enter Tryd.func98, Tryd.ntmps98
  go_wp2_with (first | (refine wpList_store_row rfl 31 _ _ rfl w.heap.size #[.int .i64 4, .int .i64 0, .string x] rfl rfl 31 _ (unhide R0) szK rfl (tk_one _ _ _) ?_))
  refine bodyPost_ret (results_cell_row (P := Tryd.prog) rfl _ _ w.heap.size 31 #[.int .i64 4, .int .i64 0, .string x] (0, 0) _ rfl (setRow_heap _ _ _ _ _ _ (unhide R0)) Tryd.underlying31 rfl szK) rfl ?_
  exact ⟨rfl, below_row (unhide B0)⟩
set_option maxHeartbeats 1000000 in
theorem signS_any (k : Int) (hk : 5 ≤ k ∧ k ≤ 10) (w : World) : Calls Tryd.prog 99 #[.int .i64 k] w fun e w' => e = .returned (.string (mkS (sgnC k))) ∧ w' = w := by
  have : k = 5 ∨ k = 6 ∨ k = 7 ∨ k = 8 ∨ k = 9 ∨ k = 10 := by omega
  rcases this with rfl | rfl | rfl | rfl | rfl | rfl <;> (go_enter Tryd.func99, Tryd.ntmps99; go_wp2; go_ret; exact ⟨rfl, rfl⟩)
/-- Where tokens that are owned lie. -/
theorem OwnT.src {w : World} {B : Nat} {v : Value} {ts : List Tk} (h : OwnT w B v ts) (hts : ts ≠ []) : ∃ g c, v = .slice (some ⟨g, 0, none⟩) ts.length c ∧ ∀ j u, (cellsT ts)[j]? = some u → w.cell? ((⟨g, 0, none⟩ : Addr).add j) = some u := by
  rcases h.form with ⟨rfl, rfl⟩ | ⟨g, c, rfl, _⟩
  · exact absurd rfl hts
  · refine ⟨g, c, rfl, fun j u hu => ?_⟩
    have hj : j < ts.length * 3 := by rw [← cellsT_len]; exact (List.getElem?_eq_some_iff.1 hu).1
    have := (World.ownsRow.cellAt h j hj).trans hu
    unfold Addr.add
    by_cases h0 : j = 0
    · subst h0; simpa using this
    · simpa [h0] using this
theorem ownT_join {w' : World} {B : Nat} {v : Value} {ts us : List Tk} (h : w'.ownsRow B 31 3 v (ts.length + us.length) (cellsT ts ++ cellsT us)) : OwnT w' B v (ts ++ us) := by
  unfold OwnT
  rw [List.length_append, cellsT_app]
  exact h
def ToksP (d : Nat) : Prop := ∀ (e : Ex) (b : Option Addr) (cap : Nat) (w : World), okF d true e = true → RdX w 0 e b → Calls Tryd.prog 77 #[.agg (e.cs b cap)] w fun r w' => ∃ v, r = .returned v ∧ OwnT w' w.heap.size v (toksF d e) ∧ Below w.heap.size w w'
theorem ownT_new (w : World) (t : Tk) (B : Nat) (hB : B ≤ w.heap.size) : OwnT (w.alloc (.cells t.cs 31)) B (.slice (some ⟨w.heap.size, 0, none⟩) 1 1) [t] :=
  ⟨rfl, .inr ⟨w.heap.size, 1, t.cs, rfl, hB, Array.getElem?_push_size, Nat.le_refl _, by unfold maxLen; omega, rfl, rfl⟩⟩
set_option maxHeartbeats 2000000 in
theorem toksS_num (n : Int) (s : ByteArray) (b : Option Addr) (cap : Nat) (w : World) : Calls Tryd.prog 77 #[.agg #[.int .i64 1, .int .i64 n, .string ⟨#[]⟩, .slice b 0 cap]] w fun r w' => ∃ v, r = .returned v ∧ OwnT w' w.heap.size v [⟨2, n, E0⟩] ∧ Below w.heap.size w w' := by
  have B0 := hide (below_new w (.cells #[.int .i64 1, .int .i64 n, .string ⟨#[]⟩, .slice b 0 cap] 37))
  have O1 := hide (ownT_new (w.alloc (.cells #[.int .i64 1, .int .i64 n, .string ⟨#[]⟩, .slice b 0 cap] 37)) ⟨2, n, E0⟩ w.heap.size (unhide B0).size)
  have B1 := hide ((unhide B0).alloc (unhide B0).size (.cells (Tk.cs ⟨2, n, E0⟩) 31))
  rw [show (w.alloc (.cells #[.int .i64 1, .int .i64 n, .string ⟨#[]⟩, .slice b 0 cap] 37)).heap.size = w.heap.size + 1 by simp] at O1
  unfold Tk.cs at O1 B1
  try unfold E0 at O1 B1
  try unfold E0
  simp only at O1 B1
  go_enter Tryd.func77, Tryd.ntmps77
  go_wp2
  go_ret
  exact ⟨_, rfl, unhide O1, unhide B1⟩
set_option maxHeartbeats 2000000 in
theorem toksS_sym (n : Int) (s : ByteArray) (b : Option Addr) (cap : Nat) (w : World) : Calls Tryd.prog 77 #[.agg #[.int .i64 2, .int .i64 0, .string s, .slice b 0 cap]] w fun r w' => ∃ v, r = .returned v ∧ OwnT w' w.heap.size v [⟨1, 0, s⟩] ∧ Below w.heap.size w w' := by
  have B0 := hide (below_new w (.cells #[.int .i64 2, .int .i64 0, .string s, .slice b 0 cap] 37))
  have O1 := hide (ownT_new (w.alloc (.cells #[.int .i64 2, .int .i64 0, .string s, .slice b 0 cap] 37)) ⟨1, 0, s⟩ w.heap.size (unhide B0).size)
  have B1 := hide ((unhide B0).alloc (unhide B0).size (.cells (Tk.cs ⟨1, 0, s⟩) 31))
  rw [show (w.alloc (.cells #[.int .i64 2, .int .i64 0, .string s, .slice b 0 cap] 37)).heap.size = w.heap.size + 1 by simp] at O1
  unfold Tk.cs at O1 B1
  try unfold E0 at O1 B1
  try unfold E0
  simp only at O1 B1
  go_enter Tryd.func77, Tryd.ntmps77
  go_wp2
  go_ret
  exact ⟨_, rfl, unhide O1, unhide B1⟩
set_option maxHeartbeats 2000000 in
theorem toksS_here (b : Option Addr) (cap : Nat) (w : World) : Calls Tryd.prog 77 #[.agg #[.int .i64 3, .int .i64 0, .string ⟨#[]⟩, .slice b 0 cap]] w fun r w' => ∃ v, r = .returned v ∧ OwnT w' w.heap.size v [mkT 46] ∧ Below w.heap.size w w' := by
  have B0 := hide (below_new w (.cells #[.int .i64 3, .int .i64 0, .string ⟨#[]⟩, .slice b 0 cap] 37))
  have MK := hide (markS_ex (mkS 46) (w.alloc (.cells #[.int .i64 3, .int .i64 0, .string ⟨#[]⟩, .slice b 0 cap] 37)))
  have ON := hide (fun w1 (h : w.heap.size ≤ w1.heap.size) => ownT_new w1 (mkT 46) w.heap.size h)
  unfold mkT mkS Tk.cs at ON
  unfold mkT
  unfold mkS Tk.v Tk.cs at MK
  unfold mkS
  simp only at ON MK
  go_enter Tryd.func77, Tryd.ntmps77
  go_wp2_with fail
  refine (unhide MK).mono ?_
  rintro r w1 ⟨rfl, hb1⟩
  have B1 := hide ((unhide B0).trans (hb1.mono (unhide B0).size))
  have O1 := hide (unhide ON w1 (unhide B1).size)
  clear hb1 MK ON
  go_wp2
  go_ret
  exact ⟨_, rfl, unhide O1, (unhide B1).alloc (unhide B1).size _⟩
set_option maxHeartbeats 4000000 in
theorem toksS_neg (c0 : Option Addr) (cp0 p po cap : Nat) (a : Ex) (ts : List Tk) (w : World) (hts : ts ≠ []) (h8 : ts.length ≤ 400) (hp : p < w.heap.size) (e0 : w.cell? ⟨p, po, none⟩ = some (.int .i64 a.k)) (e1 : w.cell? ⟨p, po + 1, none⟩ = some (.int .i64 a.n)) (e2 : w.cell? ⟨p, po + 2, none⟩ = some (.string a.s)) (e3 : w.cell? ⟨p, po + 3, none⟩ = some (.slice c0 a.l.length cp0)) (ih : ∀ w1, Below w.heap.size w w1 → Calls Tryd.prog 77 #[.agg (a.cs c0 cp0)] w1 fun r w' => ∃ v, r = .returned v ∧ OwnT w' w1.heap.size v ts ∧ Below w1.heap.size w1 w') : Calls Tryd.prog 77 #[.agg #[.int .i64 4, .int .i64 0, .string ⟨#[]⟩, .slice (some ⟨p, po, none⟩) 1 cap]] w fun r w' => ∃ v, r = .returned v ∧ OwnT w' w.heap.size v ([Tk.mk 4 0 ⟨#[45]⟩] ++ ts) ∧ Below w.heap.size w w' := by
  obtain ⟨W, hW⟩ : ∃ W, w.alloc (.cells #[.int .i64 4, .int .i64 0, .string ⟨#[]⟩, .slice (some ⟨p, po, none⟩) 1 cap] 37) = W := ⟨_, rfl⟩
  have B0 := hide (below_new w (.cells #[.int .i64 4, .int .i64 0, .string ⟨#[]⟩, .slice (some ⟨p, po, none⟩) 1 cap] 37))
  have hg : W.heap[w.heap.size]? = some (.cells #[.int .i64 4, .int .i64 0, .string ⟨#[]⟩, .slice (some ⟨p, po, none⟩) 1 cap] 37 (0, 0)) := by rw [← hW]; exact Array.getElem?_push_size
  rw [hW] at B0
  have x0 := Lib.cell_of_heap hg 0
  have xl : w.heap.size < W.heap.size := (Array.getElem?_eq_some_iff.1 hg).1
  have Y0 := hide (fun w1 (hb : Below W.heap.size W w1) => (hb.cell (p := ⟨w.heap.size, 0, none⟩) xl).trans (Lib.cell_of_heap hg 0))
  have Y3 := hide (fun w1 (hb : Below W.heap.size W w1) => (hb.cell (p := ⟨w.heap.size, 3, none⟩) xl).trans (Lib.cell_of_heap hg 3))
  have U0 := hide (fun w1 (hb : Below W.heap.size W w1) => (hb.cell (p := ⟨p, po, none⟩) (Nat.lt_trans hp xl)).trans (((unhide B0).cell (p := ⟨p, po, none⟩) hp).trans e0))
  have U1 := hide (fun w1 (hb : Below W.heap.size W w1) => (hb.cell (p := ⟨p, po + 1, none⟩) (Nat.lt_trans hp xl)).trans (((unhide B0).cell (p := ⟨p, po + 1, none⟩) hp).trans e1))
  have U2 := hide (fun w1 (hb : Below W.heap.size W w1) => (hb.cell (p := ⟨p, po + 2, none⟩) (Nat.lt_trans hp xl)).trans (((unhide B0).cell (p := ⟨p, po + 2, none⟩) hp).trans e2))
  have U3 := hide (fun w1 (hb : Below W.heap.size W w1) => (hb.cell (p := ⟨p, po + 3, none⟩) (Nat.lt_trans hp xl)).trans (((unhide B0).cell (p := ⟨p, po + 3, none⟩) hp).trans e3))
  have I0 := hide (fun w1 (hb : Below W.heap.size W w1) => ih w1 ((unhide B0).trans (hb.mono (unhide B0).size)))
  have MK := hide (fun w1 => markS_ex (mkS 45) w1)
  obtain ⟨i0, hi, hz0, hz1, hz2⟩ := info_parts infoT
  clear hg xl ih e0 e1 e2 e3 hp
  unfold Ex.cs at I0
  unfold mkS Tk.v Tk.cs at MK
  simp only at MK
  generalize a.k = ak at *
  generalize a.n = an at *
  generalize a.s = asv at *
  generalize a.l.length = al at *
  go_enter Tryd.func77, Tryd.ntmps77
  go_wp2_with fail
  have D0 := hide (show Below W.heap.size W W.drew from below_drew)
  refine wp_region_held_drew (S := fun w' => Below W.heap.size W w') (by kernel_rfl) (unhide D0) (fun hS => ?_)
  have HS := hide hS
  clear hS
  refine wpAnyH_take (i := 2) (v := .pointer (some ⟨w.heap.size, 3, none⟩)) rfl (by kernel_rfl) (by kernel_rfl) (by kernel_rfl) (fun _ _ _ h => h) (Or.inl ⟨by rfl, fun w hc => ?_⟩) (unhide HS) ?_
  · clear hc; go_simp
  go_simp
  refine wpAnyH_take (i := 3) (v := .slice (some ⟨p, po, none⟩) 1 cap) rfl (by kernel_rfl) (by kernel_rfl) (by kernel_rfl) (fun _ _ _ h => h) (Or.inl ⟨by rfl, fun w hc => ?_⟩) (unhide HS) ?_
  · have q := unhide Y3 _ hc; clear hc; go_simp
  go_simp
  refine wpAnyH_take (i := 4) (v := .pointer (some ⟨p, po, none⟩)) rfl (by kernel_rfl) (by kernel_rfl) (by kernel_rfl) (fun _ _ _ h => h) (Or.inl ⟨by rfl, fun w hc => ?_⟩) (unhide HS) ?_
  · clear hc; go_simp
  go_simp
  refine wpAnyH_take (i := 5) (v := .agg #[.int .i64 ak, .int .i64 an, .string asv, .slice c0 al cp0]) rfl (by kernel_rfl) (by kernel_rfl) (by kernel_rfl) (fun _ _ _ h => h) (Or.inl ⟨by rfl, fun w hc => ?_⟩) (unhide HS) ?_
  · have q0 := unhide U0 _ hc; have q1 := unhide U1 _ hc; have q2 := unhide U2 _ hc; have q3 := unhide U3 _ hc; clear hc; go_simp
  go_simp
  refine wpAnyH_ready (rs := [0]) (by kernel_rfl) (by simp) ?_
  refine AllReadyH.cons rfl (fun K2 hK => ?_) AllReadyH.nil
  go_simp
  refine (unhide MK _).mono ?_
  rintro r w1 ⟨rfl, hb1⟩
  have D1 := hide ((unhide D0).trans (hb1.mono (unhide D0).size))
  refine hK.out _ _ (unhide D1) (fun hS => ?_)
  clear HS
  have HS := hide hS
  clear hS hK K2
  clear hb1 D0
  refine wpAnyH_ready (rs := [1, 6]) (by kernel_rfl) (by simp) ?_
  refine AllReadyH.cons rfl (fun K2 hK => ?_) (AllReadyH.cons rfl (fun K2 hK => ?_) AllReadyH.nil)
  · go_simp
    have D2 := hide ((unhide D1).alloc (unhide D1).size (.cells #[.int .i64 4, .int .i64 0, .string ⟨#[45]⟩] 31))
    have N2 := hide (ownT_new w1 (Tk.mk 4 0 ⟨#[45]⟩) W.heap.size (unhide D1).size)
    unfold Tk.cs at N2
    simp only at N2
    generalize w1.heap.size = g1 at *
    generalize w1.alloc (.cells #[.int .i64 4, .int .i64 0, .string ⟨#[45]⟩] 31) = w2 at *
    refine hK.out _ _ (unhide D2) (fun hS => ?_)
    clear HS
    have HS := hide hS
    clear hS hK K2
    refine wpAnyH_ready (rs := [6]) (by kernel_rfl) (by simp) ?_
    refine AllReadyH.cons rfl (fun K2 hK => ?_) AllReadyH.nil
    go_simp
    refine (unhide I0 _ (unhide D2)).mono ?_
    rintro r w3 ⟨v3, rfl, o3, hb3⟩
    have D3 := hide ((unhide D2).trans (hb3.mono (unhide D2).size))
    have O1 := hide ((unhide N2).later hb3)
    obtain ⟨g2, c2, rfl, sr⟩ := (o3.base (unhide D2).size).src hts
    have SR := hide sr
    refine hK.out _ _ (unhide D3) (fun hS => ?_)
    clear HS
    have HS := hide hS
    clear hS hK K2
    clear hb3 o3 sr N2 D2 D1
    refine wpAnyH_ready (rs := [7]) (by kernel_rfl) (by simp) ?_
    refine AllReadyH.cons rfl (fun K2 hK => ?_) AllReadyH.nil
    rw [if_pos (by rfl)]
    refine wp_append_own _ (.tmp 25) (.tmp 30) 24 rfl W.heap.size 31 i0 (.agg #[.int .i64 0, .int .i64 0, .string ⟨#[]⟩]) 3 32 Tryd.underlying24 hi hz0 hz1 hz2 rfl (by decide) (.slice (some ⟨g1, 0, none⟩) 1 1) 1 (cellsT [Tk.mk 4 0 ⟨#[45]⟩]) rfl (unhide O1) ⟨g2, 0, none⟩ ts.length c2 (cellsT ts) rfl (cellsT_len ts) (unhide SR) (cellsT_one ts) (by unfold maxLen; omega) (by omega) (unhide D3).size ?_
    intro v5 w5 hown5 hgrow5 _
    have O5 := hide (ownT_join (ts := [Tk.mk 4 0 ⟨#[45]⟩]) (us := ts) hown5)
    have D5 := hide ((unhide D3).grown hgrow5 (unhide D3).size (fun g hg => ((unhide O1).lt hg).1))
    refine hK.out _ _ (unhide D5) (fun hS => ?_)
    clear HS
    have HS := hide hS
    clear hS hK K2
    refine wpAnyH_take (i := 8) (v := v5) rfl (by kernel_rfl) (by kernel_rfl) (by kernel_rfl) (fun _ _ _ h => h) (Or.inl ⟨by rfl, fun w hc => ?_⟩) (unhide HS) ?_
    · clear hc; go_simp
    go_simp
    refine wpAnyH_done (by kernel_rfl) ?_ _
    clear hown5 hgrow5 O1 D3 SR HS
    go_wp2
    go_ret
    exact ⟨_, rfl, (unhide O5).base (unhide B0).size, (unhide B0).trans ((unhide D5).mono (unhide B0).size)⟩
  · go_simp
    refine (unhide I0 _ (unhide D1)).mono ?_
    rintro r w2 ⟨v3, rfl, o3, hb3⟩
    have D2 := hide ((unhide D1).trans (hb3.mono (unhide D1).size))
    have O3 := hide (o3.base (unhide D1).size)
    refine hK.out _ _ (unhide D2) (fun hS => ?_)
    clear HS
    have HS := hide hS
    clear hS hK K2
    clear hb3 o3
    refine wpAnyH_ready (rs := [1]) (by kernel_rfl) (by simp) ?_
    refine AllReadyH.cons rfl (fun K2 hK => ?_) AllReadyH.nil
    go_simp
    have D3 := hide ((unhide D2).alloc (unhide D2).size (.cells #[.int .i64 4, .int .i64 0, .string ⟨#[45]⟩] 31))
    have O1 := hide (ownT_new w2 (Tk.mk 4 0 ⟨#[45]⟩) W.heap.size (unhide D2).size)
    obtain ⟨g2, c2, rfl, sr⟩ := ((unhide O3).later (below_new w2 (.cells #[.int .i64 4, .int .i64 0, .string ⟨#[45]⟩] 31))).src hts
    have SR := hide sr
    unfold Tk.cs at O1
    simp only at O1
    clear sr O3
    generalize w2.heap.size = g1 at *
    generalize w2.alloc (.cells #[.int .i64 4, .int .i64 0, .string ⟨#[45]⟩] 31) = w3 at *
    refine hK.out _ _ (unhide D3) (fun hS => ?_)
    clear HS
    have HS := hide hS
    clear hS hK K2
    clear D2 D1
    refine wpAnyH_ready (rs := [7]) (by kernel_rfl) (by simp) ?_
    refine AllReadyH.cons rfl (fun K2 hK => ?_) AllReadyH.nil
    rw [if_pos (by rfl)]
    refine wp_append_own _ (.tmp 25) (.tmp 30) 24 rfl W.heap.size 31 i0 (.agg #[.int .i64 0, .int .i64 0, .string ⟨#[]⟩]) 3 32 Tryd.underlying24 hi hz0 hz1 hz2 rfl (by decide) (.slice (some ⟨g1, 0, none⟩) 1 1) 1 (cellsT [Tk.mk 4 0 ⟨#[45]⟩]) rfl (unhide O1) ⟨g2, 0, none⟩ ts.length c2 (cellsT ts) rfl (cellsT_len ts) (unhide SR) (cellsT_one ts) (by unfold maxLen; omega) (by omega) (unhide D3).size ?_
    intro v5 w5 hown5 hgrow5 _
    have O5 := hide (ownT_join (ts := [Tk.mk 4 0 ⟨#[45]⟩]) (us := ts) hown5)
    have D5 := hide ((unhide D3).grown hgrow5 (unhide D3).size (fun g hg => ((unhide O1).lt hg).1))
    refine hK.out _ _ (unhide D5) (fun hS => ?_)
    clear HS
    have HS := hide hS
    clear hS hK K2
    refine wpAnyH_take (i := 8) (v := v5) rfl (by kernel_rfl) (by kernel_rfl) (by kernel_rfl) (fun _ _ _ h => h) (Or.inl ⟨by rfl, fun w hc => ?_⟩) (unhide HS) ?_
    · clear hc; go_simp
    go_simp
    refine wpAnyH_done (by kernel_rfl) ?_ _
    clear hown5 hgrow5 O1 D3 SR HS
    go_wp2
    go_ret
    exact ⟨_, rfl, (unhide O5).base (unhide B0).size, (unhide B0).trans ((unhide D5).mono (unhide B0).size)⟩
end Go.Proofs.YthgbpofcfmnpdaaDoor

namespace Go.Proofs.YthgbpofcfmnpdaaDoor
open Go.ChangeShapes Go.WideShapes Go.ChangeAt Go.RowKit
set_option linter.unusedVariables false
set_option maxRecDepth 8000

theorem AllOk.head {t : Tk} {r : List Tk} (h : AllOk (t :: r)) : t.ok = true ∧ AllOk r := ⟨h t List.mem_cons_self, fun x hx => h x (List.mem_cons_of_mem _ hx)⟩
theorem AllOk.right {a b : List Tk} (h : AllOk (a ++ b)) : AllOk b := fun x hx => h x (List.mem_append.2 (.inr hx))
theorem form_nil : formB [] = false := by decide
/-- What is read of right tokens is plain, and its tokens are those that were read. -/
theorem toks_read : ∀ (d : Nat) (ts : List Tk) (e : Ex) (r : List Tk), AllOk ts → readF d ts = some (e, r) → okF d true e = true ∧ ts = toksF d e ++ r := by
  intro d
  induction d with
  | zero => intro ts e r _ h; cases h
  | succ d ih =>
    intro ts e r hok h
    match ts with
    | [] => cases h
    | t :: q =>
      obtain ⟨ht, hq⟩ := hok.head
      simp only [readF] at h
      split at h
      · rename_i h2
        obtain ⟨hb, et⟩ := num_of ht h2
        cases h
        exact ⟨plain_num hb, by rw [toks_num, ← et]; rfl⟩
      · rename_i h2
        split at h
        · rename_i h1
          obtain ⟨hb, et⟩ := sym_of ht h1
          cases h
          exact ⟨plain_sym hb, by rw [toks_sym, ← et]; rfl⟩
        · rename_i h1
          split at h
          · rename_i hs
            have et := mark_of ht h2 h1 ((eqS_iff _ _).1 hs) (by decide) form_nil
            cases h
            exact ⟨plain_here d, by rw [toks_here, ← et]; rfl⟩
          · split at h
            · rename_i hs
              have et := mark_of ht h2 h1 ((eqS_iff _ _).1 hs) (by decide) form_nil
              split at h
              · cases h
              · rename_i a q1 ha
                cases h
                obtain ⟨p1, p2⟩ := ih _ _ _ hq ha
                exact ⟨plain_neg p1, by rw [toks_neg, ← et, p2]; rfl⟩
            · split at h
              · rename_i hs
                have et := mark_of ht h2 h1 ((eqS_iff _ _).1 hs) (by decide) form_nil
                split at h
                · cases h
                · cases h
                · rename_i a t1 q1 ha
                  obtain ⟨p1, p2⟩ := ih _ _ _ hq ha
                  have hq1 : AllOk (t1 :: q1) := (p2 ▸ hq).right
                  obtain ⟨ht1, hq1⟩ := hq1.head
                  split at h
                  · cases h
                  · cases h
                  · rename_i b t2 q2 hb
                    obtain ⟨p3, p4⟩ := ih _ _ _ hq1 hb
                    have hq2 : AllOk (t2 :: q2) := (p4 ▸ hq1).right
                    obtain ⟨ht2, hq2⟩ := hq2.head
                    split at h
                    · rename_i hs2
                      split at h
                      · cases h
                      · rename_i k hk
                        obtain ⟨hkb, hks⟩ := sgnK_some hk
                        cases h
                        have e1 := one_mark ht1 hks (sgn_small hkb)
                        have e2 := one_mark ht2 ((eqS_iff _ _).1 hs2) (by decide)
                        refine ⟨plain_two hkb p1 p3, ?_⟩
                        rw [toks_two d hkb, ← e1, ← e2, ← et, p2, p4]
                        simp only [List.cons_append, List.append_assoc, List.nil_append]
                    · cases h
              · cases h
/-- The tokens of a plain term are right, and not too many. -/
theorem mkT_ok {c : UInt8} (h : mkL.contains c = true) : (mkT c).ok = true := h
theorem sgn_mark {k : Int} (h : 5 ≤ k ∧ k ≤ 10) : mkL.contains (sgnC k) = true := by
  have : k = 5 ∨ k = 6 ∨ k = 7 ∨ k = 8 ∨ k = 9 ∨ k = 10 := by omega
  rcases this with rfl | rfl | rfl | rfl | rfl | rfl <;> decide
theorem allOk_cons {t : Tk} {r : List Tk} (h : t.ok = true) (hr : AllOk r) : AllOk (t :: r) := fun x hx => by
  rcases List.mem_cons.1 hx with rfl | hx
  · exact h
  · exact hr x hx
theorem allOk_app {a b : List Tk} (h : AllOk a) (hr : AllOk b) : AllOk (a ++ b) := fun x hx => by
  rcases List.mem_append.1 hx with hx | hx
  · exact h x hx
  · exact hr x hx
theorem allOk_nil : AllOk [] := fun x hx => by cases hx
def mxT : Nat → Nat
  | 0 => 0
  | d + 1 => 2 * mxT d + 3
theorem toks_ok : ∀ (d : Nat) (e : Ex), okF d true e = true → AllOk (toksF d e) ∧ (toksF d e).length ≤ mxT d := by
  intro d
  induction d with
  | zero => intro e h; cases h
  | succ d ih =>
    intro e h
    rw [mxT]
    rcases plain_cases h with ⟨n, hn, rfl⟩ | ⟨s, hs, rfl⟩ | rfl | ⟨a, ha, rfl⟩ | ⟨k, a, b, hk, ha, hb, rfl⟩
    · rw [toks_num]
      refine ⟨allOk_cons ?_ allOk_nil, by simp⟩
      have : inB n 0 65535 = true := (inB_iff _ _ _).2 hn
      simp [Tk.ok, this, E0, ByteArray.size]
    · rw [toks_sym]
      exact ⟨allOk_cons hs allOk_nil, by simp⟩
    · rw [toks_here]
      exact ⟨allOk_cons (mkT_ok (by decide)) allOk_nil, by simp⟩
    · obtain ⟨q1, q2⟩ := ih a ha
      rw [toks_neg, List.length_cons]
      exact ⟨allOk_cons (mkT_ok (by decide)) q1, by omega⟩
    · obtain ⟨q1, q2⟩ := ih a ha
      obtain ⟨q3, q4⟩ := ih b hb
      rw [toks_two d hk]
      refine ⟨allOk_cons (mkT_ok (by decide)) (allOk_app q1 (allOk_cons (mkT_ok (sgn_mark hk)) (allOk_app q3 (allOk_cons (mkT_ok (by decide)) allOk_nil)))), ?_⟩
      simp only [List.length_cons, List.length_append, List.length_nil]
      omega
/-- A term's text. -/
def textE (e : Ex) : ByteArray := if okF 6 true e = true then strOf (lineOf (toksF 6 e)) else E0
/-- A text, read. -/
def parseL (ts : List Tk) : Option Ex := match readF 6 ts with
  | some (e, []) => if okF 6 true e = true then some e else none
  | _ => none
def parseE (s : ByteArray) : Option Ex := if (lexR s 0 []).2 = true then parseL (lexR s 0 []).1 else none
theorem lex_text {e : Ex} (h : okF 6 true e = true) : lexR (textE e) 0 [] = (toksF 6 e, true) := by
  unfold textE
  rw [if_pos h]
  obtain ⟨h1, h2⟩ := toks_ok 6 e h
  exact lex_line _ h1 (Nat.le_trans h2 (by decide))
theorem parseL_toks {e : Ex} (h : okF 6 true e = true) : parseL (toksF 6 e) = some e := by
  have := read_toks 6 e [] h
  rw [List.append_nil] at this
  unfold parseL
  rw [this]
  simp only
  rw [if_pos h]
theorem parseE_text {e : Ex} (h : okF 6 true e = true) : parseE (textE e) = some e := by
  unfold parseE
  rw [lex_text h]
  exact parseL_toks h
theorem parseL_some {ts : List Tk} (hok : AllOk ts) {e : Ex} (h : parseL ts = some e) : okF 6 true e = true ∧ ts = toksF 6 e := by
  unfold parseL at h
  split at h
  · rename_i e1 hr
    obtain ⟨h1, h2⟩ := toks_read 6 ts e1 [] hok hr
    rw [if_pos h1] at h
    cases h
    exact ⟨h1, by rw [h2, List.append_nil]⟩
  · cases h
/-- What is read is plain, and its text has the same tokens. -/
theorem parseE_some {s : ByteArray} {e : Ex} (h : parseE s = some e) : okF 6 true e = true ∧ lexR s 0 [] = (toksF 6 e, true) := by
  unfold parseE at h
  split at h
  · rename_i h2
    obtain ⟨p1, p2⟩ := parseL_some (lex_ok s) h
    exact ⟨p1, Prod.ext p2 h2⟩
  · cases h
/-- A plain term whose text's tokens are those of a text is what is read of it. -/
theorem parseE_of {s : ByteArray} {e : Ex} (h : okF 6 true e = true) (hl : lexR s 0 [] = (toksF 6 e, true)) : parseE s = some e := by
  unfold parseE
  rw [hl]
  exact parseL_toks h
end Go.Proofs.YthgbpofcfmnpdaaDoor

namespace Go.Proofs.YthgbpofcfmnpdaaDoor
open Go.ChangeShapes Go.WideShapes Go.ChangeAt Go.RowKit
set_option linter.unusedVariables false
set_option maxRecDepth 8000
set_option linter.unusedSimpArgs false

/-- The tokens of a term of two. -/
def twoT (ts0 : List Tk) (s : ByteArray) (ts1 : List Tk) : List Tk := Tk.mk 4 0 ⟨#[60]⟩ :: (ts0 ++ (Tk.mk 4 0 s :: (ts1 ++ [Tk.mk 4 0 ⟨#[62]⟩])))
set_option maxHeartbeats 16000000 in
theorem toksS_two (k : Int) (hk : 5 ≤ k ∧ k ≤ 10) (c0 c1 : Option Addr) (cp0 cp1 p po cap : Nat) (a b : Ex) (ts0 ts1 : List Tk) (w : World) (hts0 : ts0 ≠ []) (hts1 : ts1 ≠ []) (h80 : ts0.length ≤ 200) (h81 : ts1.length ≤ 200) (hp : p < w.heap.size) (e00 : w.cell? ⟨p, po, none⟩ = some (.int .i64 a.k)) (e01 : w.cell? ⟨p, po + 1, none⟩ = some (.int .i64 a.n)) (e02 : w.cell? ⟨p, po + 2, none⟩ = some (.string a.s)) (e03 : w.cell? ⟨p, po + 3, none⟩ = some (.slice c0 a.l.length cp0)) (ih0 : ∀ w1, Below w.heap.size w w1 → Calls Tryd.prog 77 #[.agg (a.cs c0 cp0)] w1 fun r w' => ∃ v, r = .returned v ∧ OwnT w' w1.heap.size v ts0 ∧ Below w1.heap.size w1 w') (e10 : w.cell? ⟨p, po + 4, none⟩ = some (.int .i64 b.k)) (e11 : w.cell? ⟨p, po + 4 + 1, none⟩ = some (.int .i64 b.n)) (e12 : w.cell? ⟨p, po + 4 + 2, none⟩ = some (.string b.s)) (e13 : w.cell? ⟨p, po + 4 + 3, none⟩ = some (.slice c1 b.l.length cp1)) (ih1 : ∀ w1, Below w.heap.size w w1 → Calls Tryd.prog 77 #[.agg (b.cs c1 cp1)] w1 fun r w' => ∃ v, r = .returned v ∧ OwnT w' w1.heap.size v ts1 ∧ Below w1.heap.size w1 w') : Calls Tryd.prog 77 #[.agg #[.int .i64 k, .int .i64 0, .string ⟨#[]⟩, .slice (some ⟨p, po, none⟩) 2 cap]] w fun r w' => ∃ v, r = .returned v ∧ OwnT w' w.heap.size v (twoT ts0 (mkS (sgnC k)) ts1) ∧ Below w.heap.size w w' := by
  obtain ⟨W, hW⟩ : ∃ W, w.alloc (.cells #[.int .i64 k, .int .i64 0, .string ⟨#[]⟩, .slice (some ⟨p, po, none⟩) 2 cap] 37) = W := ⟨_, rfl⟩
  have B0 := hide (below_new w (.cells #[.int .i64 k, .int .i64 0, .string ⟨#[]⟩, .slice (some ⟨p, po, none⟩) 2 cap] 37))
  have hg : W.heap[w.heap.size]? = some (.cells #[.int .i64 k, .int .i64 0, .string ⟨#[]⟩, .slice (some ⟨p, po, none⟩) 2 cap] 37 (0, 0)) := by rw [← hW]; exact Array.getElem?_push_size
  rw [hW] at B0
  have x0 := Lib.cell_of_heap hg 0
  have xl : w.heap.size < W.heap.size := (Array.getElem?_eq_some_iff.1 hg).1
  have Y0 := hide (fun w1 (hb : Below W.heap.size W w1) => (hb.cell (p := ⟨w.heap.size, 0, none⟩) xl).trans (Lib.cell_of_heap hg 0))
  have Y3 := hide (fun w1 (hb : Below W.heap.size W w1) => (hb.cell (p := ⟨w.heap.size, 3, none⟩) xl).trans (Lib.cell_of_heap hg 3))
  have U00 := hide (fun w1 (hb : Below W.heap.size W w1) => (hb.cell (p := ⟨p, po, none⟩) (Nat.lt_trans hp xl)).trans (((unhide B0).cell (p := ⟨p, po, none⟩) hp).trans e00))
  have U01 := hide (fun w1 (hb : Below W.heap.size W w1) => (hb.cell (p := ⟨p, po + 1, none⟩) (Nat.lt_trans hp xl)).trans (((unhide B0).cell (p := ⟨p, po + 1, none⟩) hp).trans e01))
  have U02 := hide (fun w1 (hb : Below W.heap.size W w1) => (hb.cell (p := ⟨p, po + 2, none⟩) (Nat.lt_trans hp xl)).trans (((unhide B0).cell (p := ⟨p, po + 2, none⟩) hp).trans e02))
  have U03 := hide (fun w1 (hb : Below W.heap.size W w1) => (hb.cell (p := ⟨p, po + 3, none⟩) (Nat.lt_trans hp xl)).trans (((unhide B0).cell (p := ⟨p, po + 3, none⟩) hp).trans e03))
  have I0 := hide (fun w1 (hb : Below W.heap.size W w1) => ih0 w1 ((unhide B0).trans (hb.mono (unhide B0).size)))
  have U10 := hide (fun w1 (hb : Below W.heap.size W w1) => (hb.cell (p := ⟨p, po + 4, none⟩) (Nat.lt_trans hp xl)).trans (((unhide B0).cell (p := ⟨p, po + 4, none⟩) hp).trans e10))
  have U11 := hide (fun w1 (hb : Below W.heap.size W w1) => (hb.cell (p := ⟨p, po + 4 + 1, none⟩) (Nat.lt_trans hp xl)).trans (((unhide B0).cell (p := ⟨p, po + 4 + 1, none⟩) hp).trans e11))
  have U12 := hide (fun w1 (hb : Below W.heap.size W w1) => (hb.cell (p := ⟨p, po + 4 + 2, none⟩) (Nat.lt_trans hp xl)).trans (((unhide B0).cell (p := ⟨p, po + 4 + 2, none⟩) hp).trans e12))
  have U13 := hide (fun w1 (hb : Below W.heap.size W w1) => (hb.cell (p := ⟨p, po + 4 + 3, none⟩) (Nat.lt_trans hp xl)).trans (((unhide B0).cell (p := ⟨p, po + 4 + 3, none⟩) hp).trans e13))
  have I1 := hide (fun w1 (hb : Below W.heap.size W w1) => ih1 w1 ((unhide B0).trans (hb.mono (unhide B0).size)))
  have MK := hide (fun x w1 => markS_ex x w1)
  have SG := hide (fun w1 => signS_any k hk w1)
  obtain ⟨i0, hi, hz0, hz1, hz2⟩ := info_parts infoT
  have g1 : (k == 1) = false := beq_eq_false_iff_ne.2 (by omega)
  have g2 : (k == 2) = false := beq_eq_false_iff_ne.2 (by omega)
  have g3 : (k == 3) = false := beq_eq_false_iff_ne.2 (by omega)
  have g4 : (k == 4) = false := beq_eq_false_iff_ne.2 (by omega)
  clear hg xl ih0 ih1 e00 e01 e02 e03 e10 e11 e12 e13 hp hk
  unfold Ex.cs at I0 I1
  unfold Tk.v Tk.cs at MK
  simp only at MK
  generalize a.k = ak at *
  generalize a.n = an at *
  generalize a.s = asv at *
  generalize a.l.length = al at *
  generalize b.k = bk at *
  generalize b.n = bn at *
  generalize b.s = bsv at *
  generalize b.l.length = bl at *
  generalize mkS (sgnC k) = sg at *
  go_enter Tryd.func77, Tryd.ntmps77
  go_wp2_with fail
  have D0 := hide (show Below W.heap.size W W.drew from below_drew)
  refine wp_region_held_drew (S := fun w' => Below W.heap.size W w') (by kernel_rfl) (unhide D0) (fun hS => ?_)
  have HS := hide hS
  clear hS
  refine wpAnyH_take (i := 2) (v := .pointer (some ⟨w.heap.size, 3, none⟩)) rfl (by kernel_rfl) (by kernel_rfl) (by kernel_rfl) (fun _ _ _ h => h) (Or.inl ⟨by rfl, fun w hc => ?_⟩) (unhide HS) ?_
  · clear hc; go_simp
  go_simp
  refine wpAnyH_take (i := 3) (v := .slice (some ⟨p, po, none⟩) 2 cap) rfl (by kernel_rfl) (by kernel_rfl) (by kernel_rfl) (fun _ _ _ h => h) (Or.inl ⟨by rfl, fun w hc => ?_⟩) (unhide HS) ?_
  · have q := unhide Y3 _ hc; clear hc; go_simp
  go_simp
  refine wpAnyH_take (i := 4) (v := .pointer (some ⟨p, po, none⟩)) rfl (by kernel_rfl) (by kernel_rfl) (by kernel_rfl) (fun _ _ _ h => h) (Or.inl ⟨by rfl, fun w hc => ?_⟩) (unhide HS) ?_
  · clear hc; go_simp
  go_simp
  refine wpAnyH_take (i := 5) (v := .agg #[.int .i64 ak, .int .i64 an, .string asv, .slice c0 al cp0]) rfl (by kernel_rfl) (by kernel_rfl) (by kernel_rfl) (fun _ _ _ h => h) (Or.inl ⟨by rfl, fun w hc => ?_⟩) (unhide HS) ?_
  · have q0 := unhide U00 _ hc; have q1 := unhide U01 _ hc; have q2 := unhide U02 _ hc; have q3 := unhide U03 _ hc; clear hc; go_simp
  go_simp
  refine wpAnyH_ready (rs := [0]) (by kernel_rfl) (by simp) ?_
  refine AllReadyH.cons rfl (fun K2 hK => ?_) AllReadyH.nil
  go_simp
  refine (unhide MK _ _).mono ?_
  rintro r w1 ⟨rfl, hb1⟩
  have D1 := hide ((unhide D0).trans (hb1.mono (unhide D0).size))
  refine hK.out _ _ (unhide D1) (fun hS => ?_)
  clear HS
  have HS := hide hS
  clear hS hK K2
  clear hb1 D0
  refine wpAnyH_ready (rs := [1, 6]) (by kernel_rfl) (by simp) ?_
  refine AllReadyH.cons rfl (fun K2 hK => ?_) (AllReadyH.cons rfl (fun K2 hK => ?_) AllReadyH.nil)
  · go_simp
    have D2 := hide ((unhide D1).alloc (unhide D1).size (.cells #[.int .i64 4, .int .i64 0, .string ⟨#[60]⟩] 31))
    have N2 := hide (ownT_new w1 (Tk.mk 4 0 ⟨#[60]⟩) W.heap.size (unhide D1).size)
    unfold Tk.cs at N2
    simp only at N2
    generalize w1.heap.size = g1 at *
    generalize w1.alloc (.cells #[.int .i64 4, .int .i64 0, .string ⟨#[60]⟩] 31) = w2 at *
    refine hK.out _ _ (unhide D2) (fun hS => ?_)
    clear HS
    have HS := hide hS
    clear hS hK K2
    refine wpAnyH_ready (rs := [6]) (by kernel_rfl) (by simp) ?_
    refine AllReadyH.cons rfl (fun K2 hK => ?_) AllReadyH.nil
    go_simp
    refine (unhide I0 _ (unhide D2)).mono ?_
    rintro r w3 ⟨v3, rfl, o3, hb3⟩
    have D3 := hide ((unhide D2).trans (hb3.mono (unhide D2).size))
    have O1 := hide ((unhide N2).later hb3)
    obtain ⟨g2, c2, rfl, sr⟩ := (o3.base (unhide D2).size).src hts0
    have SR := hide sr
    refine hK.out _ _ (unhide D3) (fun hS => ?_)
    clear HS
    have HS := hide hS
    clear hS hK K2
    clear hb3 o3 sr N2 D2 D1
    refine wpAnyH_ready (rs := [7]) (by kernel_rfl) (by simp) ?_
    refine AllReadyH.cons rfl (fun K2 hK => ?_) AllReadyH.nil
    rw [if_pos (by rfl)]
    refine wp_append_own _ (.tmp 33) (.tmp 38) 24 rfl W.heap.size 31 i0 (.agg #[.int .i64 0, .int .i64 0, .string ⟨#[]⟩]) 3 32 Tryd.underlying24 hi hz0 hz1 hz2 rfl (by decide) (.slice (some ⟨g1, 0, none⟩) 1 1) 1 (cellsT [Tk.mk 4 0 ⟨#[60]⟩]) rfl (unhide O1) ⟨g2, 0, none⟩ ts0.length c2 (cellsT ts0) rfl (cellsT_len ts0) (unhide SR) (cellsT_one ts0) (by unfold maxLen; (try simp only [List.length_append, List.length_cons, List.length_nil]); omega) (by (try simp only [List.length_append, List.length_cons, List.length_nil]); omega) (unhide D3).size ?_
    intro v5 w5 hown5 hgrow5 _
    have O5 := hide (ownT_join (ts := [Tk.mk 4 0 ⟨#[60]⟩]) (us := ts0) hown5)
    have D5 := hide ((unhide D3).grown hgrow5 (unhide D3).size (fun g hg => ((unhide O1).lt hg).1))
    refine hK.out _ _ (unhide D5) (fun hS => ?_)
    clear HS
    have HS := hide hS
    clear hS hK K2
    refine wpAnyH_take (i := 8) (v := v5) rfl (by kernel_rfl) (by kernel_rfl) (by kernel_rfl) (fun _ _ _ h => h) (Or.inl ⟨by rfl, fun w hc => ?_⟩) (unhide HS) ?_
    · clear hc; go_simp
    go_simp
    refine wpAnyH_done (by kernel_rfl) ?_ _
    clear hown5 hgrow5 O1 D3 SR
    clear HS
    have l5 : (([Tk.mk 4 0 ⟨#[60]⟩] ++ ts0).length : Nat) = ts0.length + 1 := by simp only [List.length_append, List.length_cons, List.length_nil]; omega
    generalize hus : [Tk.mk 4 0 ⟨#[60]⟩] ++ ts0 = us at *
    have H1 := hide hus
    clear hus
    go_wp2_with fail
    have D6 := hide ((unhide D5).trans ((below_drew (w := w5)).mono (unhide D5).size))
    have O6 := hide ((unhide O5).later (below_drew (w := w5)))
    refine wp_region_held_drew (S := fun w' => Below W.heap.size W w') (by kernel_rfl) (unhide D6) (fun hS => ?_)
    have HS := hide hS
    clear hS O5 D5
    refine wpAnyH_take (i := 0) (v := v5) rfl (by kernel_rfl) (by kernel_rfl) (by kernel_rfl) (fun _ _ _ h => h) (Or.inl ⟨by rfl, fun w hc => ?_⟩) (unhide HS) ?_
    · clear hc; go_simp
    go_simp
    refine wpAnyH_take (i := 1) (v := .pointer (some ⟨w.heap.size, 0, none⟩)) rfl (by kernel_rfl) (by kernel_rfl) (by kernel_rfl) (fun _ _ _ h => h) (Or.inl ⟨by rfl, fun w hc => ?_⟩) (unhide HS) ?_
    · clear hc; go_simp
    go_simp
    refine wpAnyH_take (i := 2) (v := .int .i64 k) rfl (by kernel_rfl) (by kernel_rfl) (by kernel_rfl) (fun _ _ _ h => h) (Or.inl ⟨by rfl, fun w hc => ?_⟩) (unhide HS) ?_
    · have q := unhide Y0 _ hc; clear hc; go_simp
    go_simp
    refine wpAnyH_take (i := 7) (v := .pointer (some ⟨w.heap.size, 3, none⟩)) rfl (by kernel_rfl) (by kernel_rfl) (by kernel_rfl) (fun _ _ _ h => h) (Or.inl ⟨by rfl, fun w hc => ?_⟩) (unhide HS) ?_
    · clear hc; go_simp
    go_simp
    refine wpAnyH_take (i := 8) (v := .slice (some ⟨p, po, none⟩) 2 cap) rfl (by kernel_rfl) (by kernel_rfl) (by kernel_rfl) (fun _ _ _ h => h) (Or.inl ⟨by rfl, fun w hc => ?_⟩) (unhide HS) ?_
    · have q := unhide Y3 _ hc; clear hc; go_simp
    go_simp
    refine wpAnyH_take (i := 9) (v := .pointer (some ⟨p, po + 4, none⟩)) rfl (by kernel_rfl) (by kernel_rfl) (by kernel_rfl) (fun _ _ _ h => h) (Or.inl ⟨by rfl, fun w hc => ?_⟩) (unhide HS) ?_
    · clear hc; go_simp
    go_simp
    refine wpAnyH_take (i := 10) (v := .agg #[.int .i64 bk, .int .i64 bn, .string bsv, .slice c1 bl cp1]) rfl (by kernel_rfl) (by kernel_rfl) (by kernel_rfl) (fun _ _ _ h => h) (Or.inl ⟨by rfl, fun w hc => ?_⟩) (unhide HS) ?_
    · have q0 := unhide U10 _ hc; have q1 := unhide U11 _ hc; have q2 := unhide U12 _ hc; have q3 := unhide U13 _ hc; clear hc; go_simp
    go_simp
    refine wpAnyH_ready (rs := [3]) (by kernel_rfl) (by simp) ?_
    refine AllReadyH.cons rfl (fun K2 hK => ?_) AllReadyH.nil
    go_simp
    refine (unhide SG _).mono ?_
    rintro r w' ⟨rfl, hw'⟩
    rw [hw']
    clear hw' w'
    refine hK.out _ _ (unhide D6) (fun hS => ?_)
    clear HS
    have HS := hide hS
    clear hS hK K2
    refine wpAnyH_ready (rs := [4]) (by kernel_rfl) (by simp) ?_
    refine AllReadyH.cons rfl (fun K2 hK => ?_) AllReadyH.nil
    go_simp
    refine (unhide MK _ _).mono ?_
    rintro r w6 ⟨rfl, hb6⟩
    have D7 := hide ((unhide D6).trans (hb6.mono (unhide D6).size))
    have O7 := hide ((unhide O6).later hb6)
    refine hK.out _ _ (unhide D7) (fun hS => ?_)
    clear HS
    have HS := hide hS
    clear hS hK K2
    clear hb6 D6 O6
    refine wpAnyH_ready (rs := [5]) (by kernel_rfl) (by simp) ?_
    refine AllReadyH.cons rfl (fun K2 hK => ?_) AllReadyH.nil
    go_simp
    have D8 := hide ((unhide D7).alloc (unhide D7).size (.cells #[.int .i64 4, .int .i64 0, .string sg] 31))
    have O8 := hide ((unhide O7).later (below_new w6 (.cells #[.int .i64 4, .int .i64 0, .string sg] 31)))
    have C8 := hide (cell_new w6 #[.int .i64 4, .int .i64 0, .string sg] 31)
    generalize w6.heap.size = g8 at *
    generalize w6.alloc (.cells #[.int .i64 4, .int .i64 0, .string sg] 31) = w8 at *
    refine hK.out _ _ (unhide D8) (fun hS => ?_)
    clear HS
    have HS := hide hS
    clear hS hK K2
    clear D7 O7
    refine wpAnyH_ready (rs := [6]) (by kernel_rfl) (by simp) ?_
    refine AllReadyH.cons rfl (fun K2 hK => ?_) AllReadyH.nil
    rw [if_pos (by rfl)]
    refine wp_append_own _ (.tmp 40) (.tmp 45) 24 rfl W.heap.size 31 i0 (.agg #[.int .i64 0, .int .i64 0, .string ⟨#[]⟩]) 3 32 Tryd.underlying24 hi hz0 hz1 hz2 rfl (by decide) v5 us.length (cellsT us) rfl (unhide O8) ⟨g8, 0, none⟩ 1 1 [.int .i64 4, .int .i64 0, .string sg] rfl rfl (unhide C8) (newT_one _ _ _) (by unfold maxLen; (try simp only [List.length_append, List.length_cons, List.length_nil]); omega) (by (try simp only [List.length_append, List.length_cons, List.length_nil]); omega) (unhide D8).size ?_
    intro v9 w9 hown9 hgrow9 _
    have O9 := hide (ownT_app (t := ⟨4, 0, sg⟩) hown9)
    have D9 := hide ((unhide D8).grown hgrow9 (unhide D8).size (fun g hg => ((unhide O8).lt hg).1))
    refine hK.out _ _ (unhide D9) (fun hS => ?_)
    clear HS
    have HS := hide hS
    clear hS hK K2
    clear hown9 hgrow9 O8 C8 D8
    refine wpAnyH_ready (rs := [11]) (by kernel_rfl) (by simp) ?_
    refine AllReadyH.cons rfl (fun K2 hK => ?_) AllReadyH.nil
    go_simp
    refine (unhide I1 _ (unhide D9)).mono ?_
    rintro r wa ⟨va, rfl, oa, hba⟩
    have DA := hide ((unhide D9).trans (hba.mono (unhide D9).size))
    have OA := hide ((unhide O9).later hba)
    obtain ⟨ga, ca, rfl, sra⟩ := (oa.base (unhide D9).size).src hts1
    have SRA := hide sra
    refine hK.out _ _ (unhide DA) (fun hS => ?_)
    clear HS
    have HS := hide hS
    clear hS hK K2
    clear hba oa sra D9 O9
    have l9 : ((us ++ [Tk.mk 4 0 sg]).length : Nat) = us.length + 1 := by simp only [List.length_append, List.length_cons, List.length_nil]
    generalize hus : us ++ [Tk.mk 4 0 sg] = us1 at *
    have H2 := hide hus
    clear hus
    refine wpAnyH_ready (rs := [12]) (by kernel_rfl) (by simp) ?_
    refine AllReadyH.cons rfl (fun K2 hK => ?_) AllReadyH.nil
    rw [if_pos (by rfl)]
    refine wp_append_own _ (.tmp 46) (.tmp 51) 24 rfl W.heap.size 31 i0 (.agg #[.int .i64 0, .int .i64 0, .string ⟨#[]⟩]) 3 32 Tryd.underlying24 hi hz0 hz1 hz2 rfl (by decide) v9 us1.length (cellsT us1) rfl (unhide OA) ⟨ga, 0, none⟩ ts1.length ca (cellsT ts1) rfl (cellsT_len ts1) (unhide SRA) (cellsT_one ts1) (by unfold maxLen; (try simp only [List.length_append, List.length_cons, List.length_nil]); omega) (by (try simp only [List.length_append, List.length_cons, List.length_nil]); omega) (unhide DA).size ?_
    intro vb wb hownb hgrowb _
    have OB := hide (ownT_join hownb)
    have DB := hide ((unhide DA).grown hgrowb (unhide DA).size (fun g hg => ((unhide OA).lt hg).1))
    refine hK.out _ _ (unhide DB) (fun hS => ?_)
    clear HS
    have HS := hide hS
    clear hS hK K2
    clear hownb hgrowb OA SRA DA
    refine wpAnyH_take (i := 13) (v := vb) rfl (by kernel_rfl) (by kernel_rfl) (by kernel_rfl) (fun _ _ _ h => h) (Or.inl ⟨by rfl, fun w hc => ?_⟩) (unhide HS) ?_
    · clear hc; go_simp
    go_simp
    refine wpAnyH_done (by kernel_rfl) ?_ _
    clear HS
    have lb : ((us1 ++ ts1).length : Nat) = us1.length + ts1.length := List.length_append
    generalize hus : us1 ++ ts1 = us2 at *
    have H3 := hide hus
    clear hus
    have MB := hide (unhide MK ⟨#[62]⟩ wb)
    go_wp2_with fail
    refine (unhide MB).mono ?_
    rintro r wc ⟨rfl, hbc⟩
    have DC := hide ((unhide DB).trans (hbc.mono (unhide DB).size))
    have OC := hide ((unhide OB).later hbc)
    have CC := hide (cell_new wc #[.int .i64 4, .int .i64 0, .string ⟨#[62]⟩] 31)
    have hsz := (unhide DC).size
    clear hbc MB DB OB
    go_wp2_with (at_builtin; go_must (refine wpList_append_own _ rfl (.tmp 53) (.tmp 55) 24 rfl W.heap.size 31 i0 (.agg #[.int .i64 0, .int .i64 0, .string ⟨#[]⟩]) 3 32 Tryd.underlying24 hi hz0 hz1 hz2 rfl (by decide) vb us2.length (cellsT us2) rfl (World.ownsRow.alloc (unhide OC) _) ⟨wc.heap.size, 0, none⟩ 1 1 [.int .i64 4, .int .i64 0, .string ⟨#[62]⟩] rfl rfl (unhide CC) (newT_one _ _ _) (by unfold maxLen; omega) (by omega) (by simp; omega) ?_; intro vd wd hownd hgrowd _; have OD := hide (ownT_app (t := ⟨4, 0, ⟨#[62]⟩⟩) hownd); have DD := hide (((unhide DC).alloc (unhide DC).size (.cells #[.int .i64 4, .int .i64 0, .string ⟨#[62]⟩] 31)).grown hgrowd (by simp; omega) (fun g hg => ((unhide OC).lt hg).1)); clear hownd hgrowd OC CC))
    go_ret
    have E : us2 ++ [Tk.mk 4 0 ⟨#[62]⟩] = twoT ts0 sg ts1 := by rw [← unhide H3, ← unhide H2, ← unhide H1]; simp [twoT]
    rw [E] at OD
    exact ⟨_, rfl, (unhide OD).base (unhide B0).size, (unhide B0).trans ((unhide DD).mono (unhide B0).size)⟩
  · go_simp
    refine (unhide I0 _ (unhide D1)).mono ?_
    rintro r w2 ⟨v3, rfl, o3, hb3⟩
    have D2 := hide ((unhide D1).trans (hb3.mono (unhide D1).size))
    have O3 := hide (o3.base (unhide D1).size)
    refine hK.out _ _ (unhide D2) (fun hS => ?_)
    clear HS
    have HS := hide hS
    clear hS hK K2
    clear hb3 o3
    refine wpAnyH_ready (rs := [1]) (by kernel_rfl) (by simp) ?_
    refine AllReadyH.cons rfl (fun K2 hK => ?_) AllReadyH.nil
    go_simp
    have D3 := hide ((unhide D2).alloc (unhide D2).size (.cells #[.int .i64 4, .int .i64 0, .string ⟨#[60]⟩] 31))
    have O1 := hide (ownT_new w2 (Tk.mk 4 0 ⟨#[60]⟩) W.heap.size (unhide D2).size)
    obtain ⟨g2, c2, rfl, sr⟩ := ((unhide O3).later (below_new w2 (.cells #[.int .i64 4, .int .i64 0, .string ⟨#[60]⟩] 31))).src hts0
    have SR := hide sr
    unfold Tk.cs at O1
    simp only at O1
    clear sr O3
    generalize w2.heap.size = g1 at *
    generalize w2.alloc (.cells #[.int .i64 4, .int .i64 0, .string ⟨#[60]⟩] 31) = w3 at *
    refine hK.out _ _ (unhide D3) (fun hS => ?_)
    clear HS
    have HS := hide hS
    clear hS hK K2
    clear D2 D1
    refine wpAnyH_ready (rs := [7]) (by kernel_rfl) (by simp) ?_
    refine AllReadyH.cons rfl (fun K2 hK => ?_) AllReadyH.nil
    rw [if_pos (by rfl)]
    refine wp_append_own _ (.tmp 33) (.tmp 38) 24 rfl W.heap.size 31 i0 (.agg #[.int .i64 0, .int .i64 0, .string ⟨#[]⟩]) 3 32 Tryd.underlying24 hi hz0 hz1 hz2 rfl (by decide) (.slice (some ⟨g1, 0, none⟩) 1 1) 1 (cellsT [Tk.mk 4 0 ⟨#[60]⟩]) rfl (unhide O1) ⟨g2, 0, none⟩ ts0.length c2 (cellsT ts0) rfl (cellsT_len ts0) (unhide SR) (cellsT_one ts0) (by unfold maxLen; (try simp only [List.length_append, List.length_cons, List.length_nil]); omega) (by (try simp only [List.length_append, List.length_cons, List.length_nil]); omega) (unhide D3).size ?_
    intro v5 w5 hown5 hgrow5 _
    have O5 := hide (ownT_join (ts := [Tk.mk 4 0 ⟨#[60]⟩]) (us := ts0) hown5)
    have D5 := hide ((unhide D3).grown hgrow5 (unhide D3).size (fun g hg => ((unhide O1).lt hg).1))
    refine hK.out _ _ (unhide D5) (fun hS => ?_)
    clear HS
    have HS := hide hS
    clear hS hK K2
    refine wpAnyH_take (i := 8) (v := v5) rfl (by kernel_rfl) (by kernel_rfl) (by kernel_rfl) (fun _ _ _ h => h) (Or.inl ⟨by rfl, fun w hc => ?_⟩) (unhide HS) ?_
    · clear hc; go_simp
    go_simp
    refine wpAnyH_done (by kernel_rfl) ?_ _
    clear hown5 hgrow5 O1 D3 SR
    clear HS
    have l5 : (([Tk.mk 4 0 ⟨#[60]⟩] ++ ts0).length : Nat) = ts0.length + 1 := by simp only [List.length_append, List.length_cons, List.length_nil]; omega
    generalize hus : [Tk.mk 4 0 ⟨#[60]⟩] ++ ts0 = us at *
    have H1 := hide hus
    clear hus
    go_wp2_with fail
    have D6 := hide ((unhide D5).trans ((below_drew (w := w5)).mono (unhide D5).size))
    have O6 := hide ((unhide O5).later (below_drew (w := w5)))
    refine wp_region_held_drew (S := fun w' => Below W.heap.size W w') (by kernel_rfl) (unhide D6) (fun hS => ?_)
    have HS := hide hS
    clear hS O5 D5
    refine wpAnyH_take (i := 0) (v := v5) rfl (by kernel_rfl) (by kernel_rfl) (by kernel_rfl) (fun _ _ _ h => h) (Or.inl ⟨by rfl, fun w hc => ?_⟩) (unhide HS) ?_
    · clear hc; go_simp
    go_simp
    refine wpAnyH_take (i := 1) (v := .pointer (some ⟨w.heap.size, 0, none⟩)) rfl (by kernel_rfl) (by kernel_rfl) (by kernel_rfl) (fun _ _ _ h => h) (Or.inl ⟨by rfl, fun w hc => ?_⟩) (unhide HS) ?_
    · clear hc; go_simp
    go_simp
    refine wpAnyH_take (i := 2) (v := .int .i64 k) rfl (by kernel_rfl) (by kernel_rfl) (by kernel_rfl) (fun _ _ _ h => h) (Or.inl ⟨by rfl, fun w hc => ?_⟩) (unhide HS) ?_
    · have q := unhide Y0 _ hc; clear hc; go_simp
    go_simp
    refine wpAnyH_take (i := 7) (v := .pointer (some ⟨w.heap.size, 3, none⟩)) rfl (by kernel_rfl) (by kernel_rfl) (by kernel_rfl) (fun _ _ _ h => h) (Or.inl ⟨by rfl, fun w hc => ?_⟩) (unhide HS) ?_
    · clear hc; go_simp
    go_simp
    refine wpAnyH_take (i := 8) (v := .slice (some ⟨p, po, none⟩) 2 cap) rfl (by kernel_rfl) (by kernel_rfl) (by kernel_rfl) (fun _ _ _ h => h) (Or.inl ⟨by rfl, fun w hc => ?_⟩) (unhide HS) ?_
    · have q := unhide Y3 _ hc; clear hc; go_simp
    go_simp
    refine wpAnyH_take (i := 9) (v := .pointer (some ⟨p, po + 4, none⟩)) rfl (by kernel_rfl) (by kernel_rfl) (by kernel_rfl) (fun _ _ _ h => h) (Or.inl ⟨by rfl, fun w hc => ?_⟩) (unhide HS) ?_
    · clear hc; go_simp
    go_simp
    refine wpAnyH_take (i := 10) (v := .agg #[.int .i64 bk, .int .i64 bn, .string bsv, .slice c1 bl cp1]) rfl (by kernel_rfl) (by kernel_rfl) (by kernel_rfl) (fun _ _ _ h => h) (Or.inl ⟨by rfl, fun w hc => ?_⟩) (unhide HS) ?_
    · have q0 := unhide U10 _ hc; have q1 := unhide U11 _ hc; have q2 := unhide U12 _ hc; have q3 := unhide U13 _ hc; clear hc; go_simp
    go_simp
    refine wpAnyH_ready (rs := [3]) (by kernel_rfl) (by simp) ?_
    refine AllReadyH.cons rfl (fun K2 hK => ?_) AllReadyH.nil
    go_simp
    refine (unhide SG _).mono ?_
    rintro r w' ⟨rfl, hw'⟩
    rw [hw']
    clear hw' w'
    refine hK.out _ _ (unhide D6) (fun hS => ?_)
    clear HS
    have HS := hide hS
    clear hS hK K2
    refine wpAnyH_ready (rs := [4]) (by kernel_rfl) (by simp) ?_
    refine AllReadyH.cons rfl (fun K2 hK => ?_) AllReadyH.nil
    go_simp
    refine (unhide MK _ _).mono ?_
    rintro r w6 ⟨rfl, hb6⟩
    have D7 := hide ((unhide D6).trans (hb6.mono (unhide D6).size))
    have O7 := hide ((unhide O6).later hb6)
    refine hK.out _ _ (unhide D7) (fun hS => ?_)
    clear HS
    have HS := hide hS
    clear hS hK K2
    clear hb6 D6 O6
    refine wpAnyH_ready (rs := [5]) (by kernel_rfl) (by simp) ?_
    refine AllReadyH.cons rfl (fun K2 hK => ?_) AllReadyH.nil
    go_simp
    have D8 := hide ((unhide D7).alloc (unhide D7).size (.cells #[.int .i64 4, .int .i64 0, .string sg] 31))
    have O8 := hide ((unhide O7).later (below_new w6 (.cells #[.int .i64 4, .int .i64 0, .string sg] 31)))
    have C8 := hide (cell_new w6 #[.int .i64 4, .int .i64 0, .string sg] 31)
    generalize w6.heap.size = g8 at *
    generalize w6.alloc (.cells #[.int .i64 4, .int .i64 0, .string sg] 31) = w8 at *
    refine hK.out _ _ (unhide D8) (fun hS => ?_)
    clear HS
    have HS := hide hS
    clear hS hK K2
    clear D7 O7
    refine wpAnyH_ready (rs := [6]) (by kernel_rfl) (by simp) ?_
    refine AllReadyH.cons rfl (fun K2 hK => ?_) AllReadyH.nil
    rw [if_pos (by rfl)]
    refine wp_append_own _ (.tmp 40) (.tmp 45) 24 rfl W.heap.size 31 i0 (.agg #[.int .i64 0, .int .i64 0, .string ⟨#[]⟩]) 3 32 Tryd.underlying24 hi hz0 hz1 hz2 rfl (by decide) v5 us.length (cellsT us) rfl (unhide O8) ⟨g8, 0, none⟩ 1 1 [.int .i64 4, .int .i64 0, .string sg] rfl rfl (unhide C8) (newT_one _ _ _) (by unfold maxLen; (try simp only [List.length_append, List.length_cons, List.length_nil]); omega) (by (try simp only [List.length_append, List.length_cons, List.length_nil]); omega) (unhide D8).size ?_
    intro v9 w9 hown9 hgrow9 _
    have O9 := hide (ownT_app (t := ⟨4, 0, sg⟩) hown9)
    have D9 := hide ((unhide D8).grown hgrow9 (unhide D8).size (fun g hg => ((unhide O8).lt hg).1))
    refine hK.out _ _ (unhide D9) (fun hS => ?_)
    clear HS
    have HS := hide hS
    clear hS hK K2
    clear hown9 hgrow9 O8 C8 D8
    refine wpAnyH_ready (rs := [11]) (by kernel_rfl) (by simp) ?_
    refine AllReadyH.cons rfl (fun K2 hK => ?_) AllReadyH.nil
    go_simp
    refine (unhide I1 _ (unhide D9)).mono ?_
    rintro r wa ⟨va, rfl, oa, hba⟩
    have DA := hide ((unhide D9).trans (hba.mono (unhide D9).size))
    have OA := hide ((unhide O9).later hba)
    obtain ⟨ga, ca, rfl, sra⟩ := (oa.base (unhide D9).size).src hts1
    have SRA := hide sra
    refine hK.out _ _ (unhide DA) (fun hS => ?_)
    clear HS
    have HS := hide hS
    clear hS hK K2
    clear hba oa sra D9 O9
    have l9 : ((us ++ [Tk.mk 4 0 sg]).length : Nat) = us.length + 1 := by simp only [List.length_append, List.length_cons, List.length_nil]
    generalize hus : us ++ [Tk.mk 4 0 sg] = us1 at *
    have H2 := hide hus
    clear hus
    refine wpAnyH_ready (rs := [12]) (by kernel_rfl) (by simp) ?_
    refine AllReadyH.cons rfl (fun K2 hK => ?_) AllReadyH.nil
    rw [if_pos (by rfl)]
    refine wp_append_own _ (.tmp 46) (.tmp 51) 24 rfl W.heap.size 31 i0 (.agg #[.int .i64 0, .int .i64 0, .string ⟨#[]⟩]) 3 32 Tryd.underlying24 hi hz0 hz1 hz2 rfl (by decide) v9 us1.length (cellsT us1) rfl (unhide OA) ⟨ga, 0, none⟩ ts1.length ca (cellsT ts1) rfl (cellsT_len ts1) (unhide SRA) (cellsT_one ts1) (by unfold maxLen; (try simp only [List.length_append, List.length_cons, List.length_nil]); omega) (by (try simp only [List.length_append, List.length_cons, List.length_nil]); omega) (unhide DA).size ?_
    intro vb wb hownb hgrowb _
    have OB := hide (ownT_join hownb)
    have DB := hide ((unhide DA).grown hgrowb (unhide DA).size (fun g hg => ((unhide OA).lt hg).1))
    refine hK.out _ _ (unhide DB) (fun hS => ?_)
    clear HS
    have HS := hide hS
    clear hS hK K2
    clear hownb hgrowb OA SRA DA
    refine wpAnyH_take (i := 13) (v := vb) rfl (by kernel_rfl) (by kernel_rfl) (by kernel_rfl) (fun _ _ _ h => h) (Or.inl ⟨by rfl, fun w hc => ?_⟩) (unhide HS) ?_
    · clear hc; go_simp
    go_simp
    refine wpAnyH_done (by kernel_rfl) ?_ _
    clear HS
    have lb : ((us1 ++ ts1).length : Nat) = us1.length + ts1.length := List.length_append
    generalize hus : us1 ++ ts1 = us2 at *
    have H3 := hide hus
    clear hus
    have MB := hide (unhide MK ⟨#[62]⟩ wb)
    go_wp2_with fail
    refine (unhide MB).mono ?_
    rintro r wc ⟨rfl, hbc⟩
    have DC := hide ((unhide DB).trans (hbc.mono (unhide DB).size))
    have OC := hide ((unhide OB).later hbc)
    have CC := hide (cell_new wc #[.int .i64 4, .int .i64 0, .string ⟨#[62]⟩] 31)
    have hsz := (unhide DC).size
    clear hbc MB DB OB
    go_wp2_with (at_builtin; go_must (refine wpList_append_own _ rfl (.tmp 53) (.tmp 55) 24 rfl W.heap.size 31 i0 (.agg #[.int .i64 0, .int .i64 0, .string ⟨#[]⟩]) 3 32 Tryd.underlying24 hi hz0 hz1 hz2 rfl (by decide) vb us2.length (cellsT us2) rfl (World.ownsRow.alloc (unhide OC) _) ⟨wc.heap.size, 0, none⟩ 1 1 [.int .i64 4, .int .i64 0, .string ⟨#[62]⟩] rfl rfl (unhide CC) (newT_one _ _ _) (by unfold maxLen; omega) (by omega) (by simp; omega) ?_; intro vd wd hownd hgrowd _; have OD := hide (ownT_app (t := ⟨4, 0, ⟨#[62]⟩⟩) hownd); have DD := hide (((unhide DC).alloc (unhide DC).size (.cells #[.int .i64 4, .int .i64 0, .string ⟨#[62]⟩] 31)).grown hgrowd (by simp; omega) (fun g hg => ((unhide OC).lt hg).1)); clear hownd hgrowd OC CC))
    go_ret
    have E : us2 ++ [Tk.mk 4 0 ⟨#[62]⟩] = twoT ts0 sg ts1 := by rw [← unhide H3, ← unhide H2, ← unhide H1]; simp [twoT]
    rw [E] at OD
    exact ⟨_, rfl, (unhide OD).base (unhide B0).size, (unhide B0).trans ((unhide DD).mono (unhide B0).size)⟩
theorem mxT_le : ∀ d, d ≤ 6 → mxT d ≤ 200 := by
  intro d h
  have : d = 0 ∨ d = 1 ∨ d = 2 ∨ d = 3 ∨ d = 4 ∨ d = 5 ∨ d = 6 := by omega
  rcases this with rfl | rfl | rfl | rfl | rfl | rfl | rfl <;> decide
theorem toks_ne {d : Nat} {e : Ex} (h : okF d true e = true) : toksF d e ≠ [] := by
  cases d with
  | zero => cases h
  | succ d =>
    rcases plain_cases h with ⟨n, hn, rfl⟩ | ⟨s, hs, rfl⟩ | rfl | ⟨a, ha, rfl⟩ | ⟨k, a, b, hk, ha, hb, rfl⟩
    · rw [toks_num]; simp
    · rw [toks_sym]; simp
    · rw [toks_here]; simp
    · rw [toks_neg]; simp
    · rw [toks_two d hk]; simp
theorem toksS_all : ∀ d : Nat, d ≤ 6 → ToksP d := by
  intro d
  induction d with
  | zero => intro _ e b cap w h; cases h
  | succ d ih =>
    intro hd e b cap w h hr
    have ihd := ih (by omega)
    have hm := mxT_le d (by omega)
    rcases plain_cases h with ⟨n, hn, rfl⟩ | ⟨s, hs, rfl⟩ | rfl | ⟨x, ha, rfl⟩ | ⟨k, x, y, hk, ha, hb, rfl⟩
    · rw [toks_num]; exact toksS_num n ⟨#[]⟩ b cap w
    · rw [toks_sym]; exact toksS_sym 0 s b cap w
    · rw [toks_here]; exact toksS_here b cap w
    · rw [toks_neg]
      rw [RdX_eq] at hr
      rcases hr with h0 | ⟨p, po, rfl, _, hp, hc⟩
      · cases h0
      obtain ⟨e0, e1, e2, c0, cp0, e3, e4⟩ := hc 0 (by simp)
      simp only [Nat.zero_mul, Nat.add_zero] at e0 e1 e2 e3
      have hl := (toks_ok d x ha).2
      exact toksS_neg c0 cp0 p po cap x (toksF d x) w (toks_ne ha) (by omega) hp e0 e1 e2 e3 (fun w1 hb => ihd x c0 cp0 w1 ha (e4.later hb))
    · rw [toks_two d hk]
      rw [RdX_eq] at hr
      rcases hr with h0 | ⟨p, po, rfl, _, hp, hc⟩
      · cases h0
      obtain ⟨e0, e1, e2, c0, cp0, e3, e4⟩ := hc 0 (by simp)
      obtain ⟨f0, f1, f2, c1, cp1, f3, f4⟩ := hc 1 (by simp)
      simp only [Nat.zero_mul, Nat.add_zero] at e0 e1 e2 e3
      simp only [Nat.one_mul] at f0 f1 f2 f3
      have hl := (toks_ok d x ha).2
      have hl2 := (toks_ok d y hb).2
      have T := toksS_two k hk c0 c1 cp0 cp1 p po cap x y (toksF d x) (toksF d y) w (toks_ne ha) (toks_ne hb) (by omega) (by omega) hp e0 e1 e2 e3 (fun w1 hb => ihd x c0 cp0 w1 ha (e4.later hb)) f0 f1 f2 f3 (fun w1 hb1 => ihd y c1 cp1 w1 hb (f4.later hb1))
      exact T
end Go.Proofs.YthgbpofcfmnpdaaDoor
