/- Contracts over this seat's translation, laid together; conditions stand as hypotheses of each. -/
import Derived.Test.YtmhcbehplhfgfaaGreatDoorTxA
import Derived.Test.YtmhcbehplhfgfaaGreatDoorTxB
import Derived.Deep.RegionWith
import Derived.Lib.Strings
import Derived.Lib.Slices
import Derived.Lib.Walk
import Derived.Lib.Bytealg
import Derived.LoopN

namespace Go.Proofs.YtmhcbehplhfgfaaGreatDoor
open Go.ChangeShapes Go.WideShapes Go.ChangeAt Go.RowKit
set_option linter.unusedVariables false
set_option maxRecDepth 8000
set_option linter.unusedSimpArgs false
set_option maxHeartbeats 2000000 in
theorem pair_any (k : Int) (u v : Value) (w : World) : Calls Tryz.prog 92 #[.int .i64 k, .agg #[u, v]] w fun r w' => ∃ x, r = .returned (.tuple #[x, .bool (inB k 5 10)]) ∧ (IfV x ∧ (inB k 5 10 = true → x = .iface (pairT k) (.agg #[u, v]))) ∧ Below w.heap.size w w' := by
  have B0 := hide (below_new w (.cells #[u, v] 136))
  by_cases h5 : k = 5
  · subst h5
    rw [show inB 5 5 10 = true by decide]
    go_enter Tryz.func92, Tryz.ntmps92
    go_wp2
    go_ret2
    exact ⟨_, rfl, IfV.of (.inr ⟨_, _, rfl⟩) (fun _ => rfl), unhide B0⟩
  by_cases h6 : k = 6
  · subst h6
    rw [show inB 6 5 10 = true by decide]
    go_enter Tryz.func92, Tryz.ntmps92
    go_wp2
    go_ret2
    exact ⟨_, rfl, IfV.of (.inr ⟨_, _, rfl⟩) (fun _ => rfl), unhide B0⟩
  by_cases h7 : k = 7
  · subst h7
    rw [show inB 7 5 10 = true by decide]
    go_enter Tryz.func92, Tryz.ntmps92
    go_wp2
    go_ret2
    exact ⟨_, rfl, IfV.of (.inr ⟨_, _, rfl⟩) (fun _ => rfl), unhide B0⟩
  by_cases h8 : k = 8
  · subst h8
    rw [show inB 8 5 10 = true by decide]
    go_enter Tryz.func92, Tryz.ntmps92
    go_wp2
    go_ret2
    exact ⟨_, rfl, IfV.of (.inr ⟨_, _, rfl⟩) (fun _ => rfl), unhide B0⟩
  by_cases h9 : k = 9
  · subst h9
    rw [show inB 9 5 10 = true by decide]
    go_enter Tryz.func92, Tryz.ntmps92
    go_wp2
    go_ret2
    exact ⟨_, rfl, IfV.of (.inr ⟨_, _, rfl⟩) (fun _ => rfl), unhide B0⟩
  by_cases h10 : k = 10
  · subst h10
    rw [show inB 10 5 10 = true by decide]
    go_enter Tryz.func92, Tryz.ntmps92
    go_wp2
    go_ret2
    exact ⟨_, rfl, IfV.of (.inr ⟨_, _, rfl⟩) (fun _ => rfl), unhide B0⟩
  have g5 : (k == 5) = false := beq_eq_false_iff_ne.2 h5
  have g6 : (k == 6) = false := beq_eq_false_iff_ne.2 h6
  have g7 : (k == 7) = false := beq_eq_false_iff_ne.2 h7
  have g8 : (k == 8) = false := beq_eq_false_iff_ne.2 h8
  have g9 : (k == 9) = false := beq_eq_false_iff_ne.2 h9
  have g10 : (k == 10) = false := beq_eq_false_iff_ne.2 h10
  rw [show inB k 5 10 = false by unfold inB; simp; omega]
  go_enter Tryz.func92, Tryz.ntmps92
  go_wp2
  go_ret2
  exact ⟨_, rfl, IfV.of (.inl rfl) (fun h => by cases h), unhide B0⟩
theorem here_one (k : Int) : hereV k 0 ⟨#[]⟩ 1 = (k == 4) := by
  unfold hereV Ex.here
  simp only [List.length_replicate, eqE1]
  by_cases h1 : k = 1
  · subst h1; rfl
  by_cases h2 : k = 2
  · subst h2; simp
  by_cases h12 : k = 12
  · subst h12; simp
  by_cases h11 : k = 11
  · subst h11; simp
  by_cases h3 : k = 3
  · subst h3; rfl
  by_cases h4 : k = 4
  · subst h4; rfl
  rw [if_neg (by simp), if_neg h1, if_neg (by omega), if_neg h3, if_neg h4, show (k == 4) = false from beq_eq_false_iff_ne.2 h4]
  split
  · rfl
  · rfl
theorem here_two (k : Int) : hereV k 0 ⟨#[]⟩ 2 = inB k 5 10 := by
  unfold hereV Ex.here
  simp only [List.length_replicate, eqE1]
  by_cases h1 : k = 1
  · subst h1; rfl
  by_cases h2 : k = 2
  · subst h2; simp [inB]
  by_cases h12 : k = 12
  · subst h12; simp [inB]
  by_cases h11 : k = 11
  · subst h11; simp [inB]
  by_cases h3 : k = 3
  · subst h3; rfl
  by_cases h4 : k = 4
  · subst h4; rfl
  rw [if_neg (by simp), if_neg h1, if_neg (by omega), if_neg h3, if_neg h4]
  split
  · rename_i h; rw [inB_t _ _ _ h.1 h.2]; rfl
  · rename_i h; rw [inB_f _ _ _ h]
theorem here_more (k n : Int) (s : ByteArray) (ll : Nat) (h : 3 ≤ ll) : hereV k n s ll = false := by
  have e0 : (ll == 0) = false := beq_eq_false_iff_ne.2 (by omega)
  have e1 : (ll == 1) = false := beq_eq_false_iff_ne.2 (by omega)
  have e2 : (ll == 2) = false := beq_eq_false_iff_ne.2 (by omega)
  unfold hereV Ex.here
  simp only [List.length_replicate, e0, e1, e2, Bool.and_false]
  repeat' split
  all_goals rfl
theorem hereV_n (k n : Int) (s : ByteArray) (ll : Nat) (h : 1 ≤ ll) (hn : n ≠ 0) : hereV k n s ll = false := by
  have e0 : (ll == 0) = false := beq_eq_false_iff_ne.2 (by omega)
  have en : (n != 0) = true := by simp [hn]
  unfold hereV Ex.here
  simp only [List.length_replicate, e0, Bool.and_false, en, Bool.and_true]
  by_cases h1 : k = 1
  · subst h1; repeat' split
    all_goals first | rfl | omega
  by_cases h11 : k = 11
  · subst h11; repeat' split
    all_goals first | rfl | omega
  rw [if_pos (by simp [h1, h11])]
theorem hereV_s (k n : Int) (s : ByteArray) (ll : Nat) (h : 1 ≤ ll) (hs : s ≠ E0) : hereV k n s ll = false := by
  have e0 : (ll == 0) = false := beq_eq_false_iff_ne.2 (by omega)
  have es := (emp_E s hs).2
  unfold hereV Ex.here
  simp only [List.length_replicate, e0, Bool.and_false, es, Bool.not_false, Bool.and_true]
  by_cases h1 : k = 2
  · subst h1; repeat' split
    all_goals first | rfl | omega
  by_cases h11 : k = 12
  · subst h11; repeat' split
    all_goals first | rfl | omega
  rw [if_pos (by simp [h1, h11])]
theorem okf_v (d : Nat) (k n : Int) (s : ByteArray) (l : List Ex) : okF (d + 1) false ⟨k, n, s, l⟩ = (hereV k n s l.length && l.all (okF d false)) := by
  rw [okF_s, here_is]
  rfl
theorem tv_if (e : Ex) : ∃ t x, tv e = .iface t x := by
  obtain ⟨k, n, s, l⟩ := e
  rw [tv]
  unfold tvC
  repeat' split
  all_goals exact ⟨_, _, rfl⟩
def TermR (d : Nat) (e : Ex) (w : World) (r : Ending) (w' : World) : Prop := ∃ v, r = .returned (.tuple #[v, .bool (okF d false e)]) ∧ (IfV v ∧ (okF d false e = true → v = tv e)) ∧ Below w.heap.size w w'
theorem termR_of {d : Nat} {e : Ex} {w : World} {r : Ending} {w' : World} {v : Value} {q : Bool} (h : okF d false e = q) (hr : r = .returned (.tuple #[v, .bool q])) (hv : IfV v ∧ (q = true → v = tv e)) (hb : Below w.heap.size w w') : TermR d e w r w' := ⟨v, by rw [h]; exact hr, ⟨hv.1, fun x => hv.2 (h.symm.trans x)⟩, hb⟩
def TermP (d : Nat) : Prop := ∀ (e : Ex) (b : Option Addr) (cap : Nat) (w : World), RdX w 0 e b → e.sz ≤ 1048576 → TabK w → Calls Tryz.prog 82 #[.agg (e.cs b cap), .int .i64 d] w (TermR d e w)
theorem rd_at {w : World} {e : Ex} {b : Option Addr} (h : RdX w 0 e b) {i : Nat} (hi : i < e.l.length) : ∃ p po, b = some ⟨p, po, none⟩ ∧ p < w.heap.size ∧ OneX w 0 p (po + i * 4) (xAt e.l i) := by
  rw [RdX_eq] at h
  rcases h with h | ⟨p, po, rfl, _, hp, hc⟩
  · rw [h] at hi; simp at hi
  · exact ⟨p, po, rfl, hp, hc i hi⟩
set_option maxHeartbeats 2000000 in
theorem term_zero : TermP 0 := by
  intro e b cap w hr hz ht
  have B0 := hide (below_new w (.cells (e.cs b cap) 33))
  have FN := hide (fun r w' v => termR_of (d := 0) (e := e) (w := w) (r := r) (w' := w') (v := v) rfl)
  generalize TermR 0 e w = R at *
  unfold Ex.cs at B0 ⊢
  go_enter Tryz.func82, Tryz.ntmps82
  go_wp2
  (try go_ret2)
  exact unhide FN _ _ _ rfl (IfV.of (by first | exact .inl rfl | exact .inr ⟨_, _, rfl⟩) (fun h => by cases h)) (unhide B0)
set_option maxHeartbeats 2000000 in
theorem term_nil (d : Nat) (h6 : d ≤ 6) (k n : Int) (s : ByteArray) (b : Option Addr) (cap : Nat) (w : World) (hs : s.size ≤ 1048576) (ht : TabK w) : Calls Tryz.prog 82 #[.agg #[.int .i64 k, .int .i64 n, .string s, .slice b 0 cap], .int .i64 ((d + 1 : Nat) : Int)] w (TermR (d + 1) ⟨k, n, s, []⟩ w) := by
  obtain ⟨W, hW⟩ : ∃ W, w.alloc (.cells #[.int .i64 k, .int .i64 n, .string s, .slice b 0 cap] 33) = W := ⟨_, rfl⟩
  have B0 := hide (below_new w (.cells #[.int .i64 k, .int .i64 n, .string s, .slice b 0 cap] 33))
  have hg : W.heap[w.heap.size]? = some (.cells #[.int .i64 k, .int .i64 n, .string s, .slice b 0 cap] 33 (0, 0)) := by rw [← hW]; exact Array.getElem?_push_size
  rw [hW] at B0
  have x0 := Lib.cell_of_heap hg 0
  have x1 := Lib.cell_of_heap hg 1
  have x2 := Lib.cell_of_heap hg 2
  have x3 := Lib.cell_of_heap hg 3
  have xl : w.heap.size < W.heap.size := (Array.getElem?_eq_some_iff.1 hg).1
  have hd0 : (((d + 1 : Nat) : Int) == 0) = false := beq_eq_false_iff_ne.2 (by omega)
  have hd1 : ((d + 1 : Nat) : Int) - 1 = (d : Int) := by omega
  have hdb : 0 ≤ ((d + 1 : Nat) : Int) ∧ ((d + 1 : Nat) : Int) ≤ 100 := by omega
  have LF := hide (leaf_any k n s b 0 cap W (by omega) (ht.next (unhide B0)))
  have FN := hide (fun r w' v q (h : hereV k n s 0 = q) => termR_of (d := d + 1) (e := ⟨k, n, s, []⟩) (w := w) (r := r) (w' := w') (v := v) ((okf_v d k n s []).trans ((Bool.and_true _).trans h)))
  have TV := hide (show tv ⟨k, n, s, []⟩ = tvC k n s [] by rw [tv]; rfl)
  rw [unhide TV] at FN
  generalize TermR (d + 1) ⟨k, n, s, []⟩ w = R at *
  clear hg xl ht TV
  generalize hDD : ((d + 1 : Nat) : Int) = DD at *
  go_enter Tryz.func82, Tryz.ntmps82
  go_wp2_with fail
  refine (unhide LF).mono ?_
  rintro r w1 ⟨v, rfl, hv, hb1⟩
  have F2 := hide (unhide FN (.returned (.tuple #[v, .bool (hereV k n s 0)])) w1 v _ rfl rfl hv ((unhide B0).trans (hb1.mono (unhide B0).size)))
  generalize hereV k n s 0 = q at *
  clear FN hv hb1
  go_wp2
  (try go_ret2)
  exact unhide F2
set_option maxHeartbeats 2000000 in
theorem term_bad (d : Nat) (h6 : d ≤ 6) (k n : Int) (s : ByteArray) (l : List Ex) (b : Option Addr) (cap : Nat) (w : World) (hz : l.length ≤ 1048576) (h1 : 1 ≤ l.length) (h : 3 ≤ l.length ∨ n ≠ 0 ∨ s ≠ E0) : Calls Tryz.prog 82 #[.agg #[.int .i64 k, .int .i64 n, .string s, .slice b l.length cap], .int .i64 ((d + 1 : Nat) : Int)] w (TermR (d + 1) ⟨k, n, s, l⟩ w) := by
  have V : hereV k n s l.length = false := by
    rcases h with h | h | h
    · exact here_more k n s _ h
    · exact hereV_n k n s _ h1 h
    · exact hereV_s k n s _ h1 h
  have FN := hide (fun r w' v => termR_of (d := d + 1) (e := ⟨k, n, s, l⟩) (w := w) (r := r) (w' := w') (v := v) (q := false) (by rw [okf_v, V]; rfl))
  generalize TermR (d + 1) ⟨k, n, s, l⟩ w = R at *
  clear V
  generalize l.length = ll at *
  obtain ⟨W, hW⟩ : ∃ W, w.alloc (.cells #[.int .i64 k, .int .i64 n, .string s, .slice b ll cap] 33) = W := ⟨_, rfl⟩
  have B0 := hide (below_new w (.cells #[.int .i64 k, .int .i64 n, .string s, .slice b ll cap] 33))
  have hg : W.heap[w.heap.size]? = some (.cells #[.int .i64 k, .int .i64 n, .string s, .slice b ll cap] 33 (0, 0)) := by rw [← hW]; exact Array.getElem?_push_size
  rw [hW] at B0
  have x0 := Lib.cell_of_heap hg 0
  have x1 := Lib.cell_of_heap hg 1
  have x2 := Lib.cell_of_heap hg 2
  have x3 := Lib.cell_of_heap hg 3
  have xl : w.heap.size < W.heap.size := (Array.getElem?_eq_some_iff.1 hg).1
  have hd0 : (((d + 1 : Nat) : Int) == 0) = false := beq_eq_false_iff_ne.2 (by omega)
  have hd1 : ((d + 1 : Nat) : Int) - 1 = (d : Int) := by omega
  have hdb : 0 ≤ ((d + 1 : Nat) : Int) ∧ ((d + 1 : Nat) : Int) ≤ 100 := by omega
  clear hg xl
  have h0 : ((ll : Int) == 0) = false := beq_eq_false_iff_ne.2 (by omega)
  generalize hDD : ((d + 1 : Nat) : Int) = DD at *
  by_cases h3 : 3 ≤ ll
  · have g3 : (2 : Int) < (ll : Int) := by omega
    clear h
    go_enter Tryz.func82, Tryz.ntmps82
    go_wp2
    (try go_ret2)
    exact unhide FN _ _ _ rfl (IfV.of (by first | exact .inl rfl | exact .inr ⟨_, _, rfl⟩) (fun h => by cases h)) (unhide B0)
  · have g3 : decide ((2 : Int) < (ll : Int)) = false := decide_eq_false (by omega)
    have g4 : decide (2 < ll) = false := decide_eq_false (by omega)
    by_cases hn : n = 0
    · subst hn
      have hs : s ≠ E0 := by rcases h with h | h | h; omega; exact absurd rfl h; exact h
      obtain ⟨e1, e2⟩ := emp_E s hs
      clear h
      go_enter Tryz.func82, Tryz.ntmps82
      go_wp2
      (try go_ret2)
      exact unhide FN _ _ _ rfl (IfV.of (by first | exact .inl rfl | exact .inr ⟨_, _, rfl⟩) (fun h => by cases h)) (unhide B0)
    · have en : (n == 0) = false := beq_eq_false_iff_ne.2 hn
      clear h
      go_enter Tryz.func82, Tryz.ntmps82
      go_wp2
      (try go_ret2)
      exact unhide FN _ _ _ rfl (IfV.of (by first | exact .inl rfl | exact .inr ⟨_, _, rfl⟩) (fun h => by cases h)) (unhide B0)
set_option maxHeartbeats 4000000 in
theorem term_one (d : Nat) (h6 : d ≤ 6) (ih : TermP d) (k : Int) (a : Ex) (b : Option Addr) (cap : Nat) (w : World) (hr : RdX w 0 ⟨k, 0, ⟨#[]⟩, [a]⟩ b) (hz : a.sz ≤ 1048576) (ht : TabK w) : Calls Tryz.prog 82 #[.agg #[.int .i64 k, .int .i64 0, .string ⟨#[]⟩, .slice b 1 cap], .int .i64 ((d + 1 : Nat) : Int)] w (TermR (d + 1) ⟨k, 0, ⟨#[]⟩, [a]⟩ w) := by
  obtain ⟨W, hW⟩ : ∃ W, w.alloc (.cells #[.int .i64 k, .int .i64 0, .string ⟨#[]⟩, .slice b 1 cap] 33) = W := ⟨_, rfl⟩
  have B0 := hide (below_new w (.cells #[.int .i64 k, .int .i64 0, .string ⟨#[]⟩, .slice b 1 cap] 33))
  have hg : W.heap[w.heap.size]? = some (.cells #[.int .i64 k, .int .i64 0, .string ⟨#[]⟩, .slice b 1 cap] 33 (0, 0)) := by rw [← hW]; exact Array.getElem?_push_size
  rw [hW] at B0
  have x0 := Lib.cell_of_heap hg 0
  have x1 := Lib.cell_of_heap hg 1
  have x2 := Lib.cell_of_heap hg 2
  have x3 := Lib.cell_of_heap hg 3
  have xl : w.heap.size < W.heap.size := (Array.getElem?_eq_some_iff.1 hg).1
  have hd0 : (((d + 1 : Nat) : Int) == 0) = false := beq_eq_false_iff_ne.2 (by omega)
  have hd1 : ((d + 1 : Nat) : Int) - 1 = (d : Int) := by omega
  have hdb : 0 ≤ ((d + 1 : Nat) : Int) ∧ ((d + 1 : Nat) : Int) ≤ 100 := by omega
  obtain ⟨p, po, rfl, hp, o0⟩ := rd_at (hr.later (unhide B0)) (i := 0) (show 0 < [a].length by simp)
  obtain ⟨e00, e01, e02, c0, cp0, e03, e04⟩ := o0
  simp only [show xAt [a] 0 = a from rfl] at e00 e01 e02 e03 e04
  rw [Nat.zero_mul, Nat.add_zero] at e00 e01 e02 e03
  have IH := hide (ih a c0 cp0 W e04 hz (ht.next (unhide B0)))
  have FN := hide (fun r w' v q (h : (k == 4 && okF d false a) = q) => termR_of (d := d + 1) (e := ⟨k, 0, ⟨#[]⟩, [a]⟩) (w := w) (r := r) (w' := w') (v := v) (q := q) (by rw [okf_v, ← h, show [a].length = 1 from rfl, here_one]; simp))
  have TV := hide (show k = 4 → tv ⟨k, 0, ⟨#[]⟩, [a]⟩ = .iface 123 (.agg #[tv a]) by rintro rfl; exact tv_neg _ _ _)
  generalize tv ⟨k, 0, ⟨#[]⟩, [a]⟩ = tve at *
  generalize TermR (d + 1) ⟨k, 0, ⟨#[]⟩, [a]⟩ w = R at *
  unfold Ex.cs at IH
  generalize a.k = ak at *
  generalize a.n = an at *
  generalize a.s = asv at *
  generalize a.l.length = al at *
  have y0 : ∀ w1, Below W.heap.size W w1 → w1.cell? ⟨w.heap.size, 0, none⟩ = some (.int .i64 k) := fun w1 hb => (hb.cell (p := ⟨w.heap.size, _, none⟩) xl).trans x0
  have y3 : ∀ w1, Below W.heap.size W w1 → w1.cell? ⟨w.heap.size, 3, none⟩ = some (.slice (some ⟨p, po, none⟩) 1 cap) := fun w1 hb => (hb.cell (p := ⟨w.heap.size, _, none⟩) xl).trans x3
  have Y0 := hide y0
  have Y3 := hide y3
  have KQ : k = 4 ∨ k ≠ 4 := by omega
  clear hg xl ht hr hz ih e04 y0 y3 hp
  generalize hDD : ((d + 1 : Nat) : Int) = DD at *
  go_enter Tryz.func82, Tryz.ntmps82
  go_wp2_with fail
  refine (unhide IH).mono ?_
  rintro r w1 ⟨v, rfl, hv, hb1⟩
  have BB := hide ((unhide B0).trans (hb1.mono (unhide B0).size))
  have z0 := unhide Y0 w1 hb1
  have z3 := unhide Y3 w1 hb1
  have HV := hide hv
  generalize okF d false a = q at *
  clear hv hb1 Y0 Y3 IH x0 x1 x2 x3 e00 e01 e02 e03
  cases q with
  | false =>
    have F2 := hide (fun r w' v => unhide FN r w' v false (Bool.and_false _))
    clear FN
    go_wp2
    (try go_ret2)
    exact unhide F2 _ _ _ rfl (IfV.of (by first | exact .inl rfl | exact .inr ⟨_, _, rfl⟩) (fun h => by cases h)) (unhide BB)
  | true =>
    obtain ⟨t1, x1, e1⟩ := tv_if a
    have hve := (unhide HV).2 rfl
    rw [e1] at hve TV
    subst hve
    clear HV e1
    have xl1 : w.heap.size < w1.heap.size := World.block_lt_of_cell? w1 _ z0
    have q0 : ∀ y : Sub w1.heap.size w1, y.w.cell? ⟨w.heap.size, 0, none⟩ = some (.int .i64 k) := fun y => (y.h.cell (p := ⟨w.heap.size, _, none⟩) xl1).trans z0
    have ne := Sub.ne w1.heap.size w1
    have BY := hide (fun y : Sub w1.heap.size w1 => (unhide BB).trans (y.h.mono (unhide BB).size))
    clear xl1
    rcases KQ with rfl | hk
    · have F2 := hide (fun r w' (hr : r = .returned (.tuple #[.iface 123 (.agg #[.iface t1 x1]), .bool true])) hb => unhide FN r w' _ true rfl hr (IfV.of (.inr ⟨_, _, rfl⟩) (fun _ => (unhide TV rfl).symm)) hb)
      clear FN TV
      go_wp2_with fail
      refine wp_region_sub (⟨w1, Below.refl _ _⟩ : Sub w1.heap.size w1) (by kernel_rfl) (by kernel_rfl) ?_
      repeat (go_big_quiet_step (first | fail))
      refine wpQuiet_nil ?_
      intro y
      go_wp2
      (try go_ret2)
      exact unhide F2 _ _ rfl (unhide BY _)
    · have hk4 : (k == 4) = false := beq_eq_false_iff_ne.2 hk
      have F2 := hide (fun r w' v => unhide FN r w' v false (by rw [hk4]; rfl))
      clear FN TV
      go_wp2_with fail
      refine wp_region_sub (⟨w1, Below.refl _ _⟩ : Sub w1.heap.size w1) (by kernel_rfl) (by kernel_rfl) ?_
      repeat (go_big_quiet_step (first | fail))
      refine wpQuiet_nil ?_
      intro y
      go_wp2
      (try go_ret2)
      exact unhide F2 _ _ _ rfl (IfV.of (by first | exact .inl rfl | exact .inr ⟨_, _, rfl⟩) (fun h => by cases h)) (unhide BY _)
set_option maxHeartbeats 4000000 in
theorem term_two (d : Nat) (h6 : d ≤ 6) (ih : TermP d) (k : Int) (a a2 : Ex) (b : Option Addr) (cap : Nat) (w : World) (hr : RdX w 0 ⟨k, 0, ⟨#[]⟩, [a, a2]⟩ b) (hz : a.sz ≤ 1048576) (hz2 : a2.sz ≤ 1048576) (ht : TabK w) : Calls Tryz.prog 82 #[.agg #[.int .i64 k, .int .i64 0, .string ⟨#[]⟩, .slice b 2 cap], .int .i64 ((d + 1 : Nat) : Int)] w (TermR (d + 1) ⟨k, 0, ⟨#[]⟩, [a, a2]⟩ w) := by
  obtain ⟨W, hW⟩ : ∃ W, w.alloc (.cells #[.int .i64 k, .int .i64 0, .string ⟨#[]⟩, .slice b 2 cap] 33) = W := ⟨_, rfl⟩
  have B0 := hide (below_new w (.cells #[.int .i64 k, .int .i64 0, .string ⟨#[]⟩, .slice b 2 cap] 33))
  have hg : W.heap[w.heap.size]? = some (.cells #[.int .i64 k, .int .i64 0, .string ⟨#[]⟩, .slice b 2 cap] 33 (0, 0)) := by rw [← hW]; exact Array.getElem?_push_size
  rw [hW] at B0
  have x0 := Lib.cell_of_heap hg 0
  have x1 := Lib.cell_of_heap hg 1
  have x2 := Lib.cell_of_heap hg 2
  have x3 := Lib.cell_of_heap hg 3
  have xl : w.heap.size < W.heap.size := (Array.getElem?_eq_some_iff.1 hg).1
  have hd0 : (((d + 1 : Nat) : Int) == 0) = false := beq_eq_false_iff_ne.2 (by omega)
  have hd1 : ((d + 1 : Nat) : Int) - 1 = (d : Int) := by omega
  have hdb : 0 ≤ ((d + 1 : Nat) : Int) ∧ ((d + 1 : Nat) : Int) ≤ 100 := by omega
  obtain ⟨p, po, rfl, hp, o0⟩ := rd_at (hr.later (unhide B0)) (i := 0) (show 0 < [a, a2].length by simp)
  obtain ⟨_, _, hpe, _, o1⟩ := rd_at (hr.later (unhide B0)) (i := 1) (show 1 < [a, a2].length by simp)
  cases hpe
  obtain ⟨e00, e01, e02, c0, cp0, e03, e04⟩ := o0
  simp only [show xAt [a, a2] 0 = a from rfl] at e00 e01 e02 e03 e04
  obtain ⟨e10, e11, e12, c1, cp1, e13, e14⟩ := o1
  simp only [show xAt [a, a2] 1 = a2 from rfl] at e10 e11 e12 e13 e14
  rw [Nat.zero_mul, Nat.add_zero] at e00 e01 e02 e03
  rw [Nat.one_mul] at e10 e11 e12 e13
  have IH := hide (ih a c0 cp0 W e04 hz (ht.next (unhide B0)))
  have IH2 := hide (fun w1 (hb : Below W.heap.size W w1) => ih a2 c1 cp1 w1 (e14.later hb) hz2 ((ht.next (unhide B0)).next hb))
  have FN := hide (fun r w' v q (h : (inB k 5 10 && (okF d false a && okF d false a2)) = q) => termR_of (d := d + 1) (e := ⟨k, 0, ⟨#[]⟩, [a, a2]⟩) (w := w) (r := r) (w' := w') (v := v) (q := q) (by rw [okf_v, ← h, show [a, a2].length = 2 from rfl, here_two]; simp))
  have TV := hide (show inB k 5 10 = true → tv ⟨k, 0, ⟨#[]⟩, [a, a2]⟩ = .iface (pairT k) (.agg #[tv a, tv a2]) by intro h; exact tv_two ((inB_iff _ _ _).1 h) _ _ _ _)
  generalize tv ⟨k, 0, ⟨#[]⟩, [a, a2]⟩ = tve at *
  generalize TermR (d + 1) ⟨k, 0, ⟨#[]⟩, [a, a2]⟩ w = R at *
  unfold Ex.cs at IH IH2
  generalize a.k = ak at *
  generalize a.n = an at *
  generalize a.s = asv at *
  generalize a.l.length = al at *
  generalize a2.k = bk at *
  generalize a2.n = bn at *
  generalize a2.s = bs at *
  generalize a2.l.length = bl at *
  have Y0 := hide (fun w1 (hb : Below W.heap.size W w1) => (hb.cell (p := ⟨w.heap.size, 0, none⟩) xl).trans x0)
  have Y3 := hide (fun w1 (hb : Below W.heap.size W w1) => (hb.cell (p := ⟨w.heap.size, 3, none⟩) xl).trans x3)
  have U0 := hide (fun w1 (hb : Below W.heap.size W w1) => (hb.cell (p := ⟨p, po + 4, none⟩) hp).trans e10)
  have U1 := hide (fun w1 (hb : Below W.heap.size W w1) => (hb.cell (p := ⟨p, po + 4 + 1, none⟩) hp).trans e11)
  have U2 := hide (fun w1 (hb : Below W.heap.size W w1) => (hb.cell (p := ⟨p, po + 4 + 2, none⟩) hp).trans e12)
  have U3 := hide (fun w1 (hb : Below W.heap.size W w1) => (hb.cell (p := ⟨p, po + 4 + 3, none⟩) hp).trans e13)
  clear hg xl ht hr hz hz2 ih e04 e14 e10 e11 e12 e13 hp
  generalize hDD : ((d + 1 : Nat) : Int) = DD at *
  go_enter Tryz.func82, Tryz.ntmps82
  go_wp2_with fail
  refine (unhide IH).mono ?_
  rintro r w1 ⟨v, rfl, hv, hb1⟩
  have HB1 := hide hb1
  have BB := hide ((unhide B0).trans (hb1.mono (unhide B0).size))
  have z0 := unhide Y0 w1 hb1
  have z3 := unhide Y3 w1 hb1
  have u0 := unhide U0 w1 hb1
  have u1 := unhide U1 w1 hb1
  have u2 := unhide U2 w1 hb1
  have u3 := unhide U3 w1 hb1
  have HV := hide hv
  have J2 := hide (unhide IH2 w1 hb1)
  generalize okF d false a = q at *
  clear hv hb1 U0 U1 U2 U3 IH IH2 x0 x1 x2 x3 e00 e01 e02 e03
  cases q with
  | false =>
    have F2 := hide (fun r w' v => unhide FN r w' v false (by rw [Bool.false_and, Bool.and_false]))
    clear FN
    go_wp2
    (try go_ret2)
    exact unhide F2 _ _ _ rfl (IfV.of (by first | exact .inl rfl | exact .inr ⟨_, _, rfl⟩) (fun h => by cases h)) (unhide BB)
  | true =>
    obtain ⟨t1, x1, e1⟩ := tv_if a
    have hve := (unhide HV).2 rfl
    rw [e1] at hve TV
    subst hve
    clear HV e1
    go_wp2_with fail
    refine (unhide J2).mono ?_
    rintro r w2 ⟨v2, rfl, hv2, hb2⟩
    have HB2 := hide ((unhide HB1).trans (hb2.mono (unhide HB1).size))
    have B2 := hide ((unhide BB).trans (hb2.mono (unhide BB).size))
    have t0 := unhide Y0 w2 (unhide HB2)
    have HV2 := hide hv2
    generalize okF d false a2 = q2 at *
    clear hv2 hb2 u0 u1 u2 u3 z0 z3 Y0 Y3 J2
    cases q2 with
    | false =>
      have F2 := hide (fun r w' v => unhide FN r w' v false (Bool.and_false _))
      clear FN
      go_wp2
      (try go_ret2)
      exact unhide F2 _ _ _ rfl (IfV.of (by first | exact .inl rfl | exact .inr ⟨_, _, rfl⟩) (fun h => by cases h)) (unhide B2)
    | true =>
      obtain ⟨t2, x2, e2⟩ := tv_if a2
      have hve := (unhide HV2).2 rfl
      rw [e2] at hve TV
      subst hve
      clear HV2 e2
      have F2 := hide (fun r w' v q (h : inB k 5 10 = q) => unhide FN r w' v q ((Bool.and_true _).trans h))
      have P2 := hide (pair_any k (.iface t1 x1) (.iface t2 x2) w2)
      clear FN
      go_wp2_with fail
      refine (unhide P2).mono ?_
      rintro r w3 ⟨x, rfl, hx, hb3⟩
      have F3 := hide (unhide F2 (.returned (.tuple #[x, .bool (inB k 5 10)])) w3 x _ rfl rfl ⟨hx.1, fun h => by rw [hx.2 h, unhide TV h]⟩ ((unhide B2).trans (hb3.mono (unhide B2).size)))
      generalize inB k 5 10 = qq at *
      clear F2 hx hb3 P2
      go_wp2
      (try go_ret2)
      exact unhide F3
theorem term_all : ∀ d : Nat, d ≤ 6 → TermP d := by
  intro d
  induction d with
  | zero => intro _; exact term_zero
  | succ d ih =>
    intro hd e b cap w hr hz ht
    obtain ⟨k, n, s, l⟩ := e
    have hsz := sz_is ⟨k, n, s, l⟩
    simp only at hsz
    unfold Ex.cs
    simp only
    by_cases hbad : 1 ≤ l.length ∧ (3 ≤ l.length ∨ n ≠ 0 ∨ s ≠ E0)
    · exact term_bad d (by omega) k n s l b cap w (by omega) hbad.1 hbad.2
    · match l, hr, hz, hsz, hbad with
      | [], hr, hz, hsz, hbad => exact term_nil d (by omega) k n s b cap w (by omega) ht
      | [a], hr, hz, hsz, hbad =>
        have hn : n = 0 := Classical.byContradiction fun h => hbad ⟨by simp, .inr (.inl h)⟩
        have hs : s = E0 := Classical.byContradiction fun h => hbad ⟨by simp, .inr (.inr h)⟩
        subst hn hs
        exact term_one d (by omega) (ih (by omega)) k a b cap w hr (by simp [szX] at hsz; omega) ht
      | [a, a2], hr, hz, hsz, hbad =>
        have hn : n = 0 := Classical.byContradiction fun h => hbad ⟨by simp, .inr (.inl h)⟩
        have hs : s = E0 := Classical.byContradiction fun h => hbad ⟨by simp, .inr (.inr h)⟩
        subst hn hs
        exact term_two d (by omega) (ih (by omega)) k a a2 b cap w hr (by simp [szX] at hsz; omega) (by simp [szX] at hsz; omega) ht
      | a :: a2 :: a3 :: r, hr, hz, hsz, hbad => exact absurd ⟨by simp, .inl (by simp)⟩ hbad
end Go.Proofs.YtmhcbehplhfgfaaGreatDoor

namespace Go.Proofs.YtmhcbehplhfgfaaGreatDoor
open Go.ChangeShapes Go.WideShapes Go.ChangeAt Go.RowKit
set_option linter.unusedVariables false
set_option maxRecDepth 8000
set_option linter.unusedSimpArgs false
/-- The forms of a right term. -/
theorem ok_cases {d : Nat} {e : Ex} (h : okF (d + 1) false e = true) : (∃ n : Int, (0 ≤ n ∧ n ≤ 65535) ∧ e = ⟨1, n, E0, []⟩) ∨ (∃ s, nameB s = true ∧ e = ⟨2, 0, s, []⟩) ∨ e = ⟨3, 0, E0, []⟩ ∨ (∃ a, okF d false a = true ∧ e = ⟨4, 0, E0, [a]⟩) ∨ (∃ k a b, (5 ≤ k ∧ k ≤ 10) ∧ okF d false a = true ∧ okF d false b = true ∧ e = ⟨k, 0, E0, [a, b]⟩) ∨ (∃ n : Int, (0 ≤ n ∧ n ≤ 9) ∧ e = ⟨11, n, E0, []⟩) ∨ (∃ s, nameB s = true ∧ e = ⟨12, 0, s, []⟩) := by
  obtain ⟨k, n, s, l⟩ := e
  rw [okf_v, Bool.and_eq_true] at h
  obtain ⟨h1, h2⟩ := h
  match l, h1, h2 with
  | [], h1, _ =>
    have hn : k ≠ 1 → k ≠ 11 → n = 0 := fun g1 g2 => Classical.byContradiction fun hn => by
      unfold hereV Ex.here at h1
      rw [if_pos (by simp [g1, g2, hn])] at h1
      cases h1
    have hs : k ≠ 2 → k ≠ 12 → s = E0 := fun g1 g2 => Classical.byContradiction fun hn => by
      have es := (emp_E s hn).2
      unfold hereV Ex.here at h1
      rw [if_pos (by simp [g1, g2, es])] at h1
      cases h1
    by_cases k1 : k = 1
    · subst k1
      obtain rfl := hs (by decide) (by decide)
      rw [show hereV 1 n E0 ([] : List Ex).length = inB n 0 65535 by simp [hereV, Ex.here, eqE]] at h1
      exact .inl ⟨n, (inB_iff _ _ _).1 h1, rfl⟩
    by_cases k2 : k = 2
    · subst k2
      obtain rfl := hn (by decide) (by decide)
      rw [show hereV 2 0 s ([] : List Ex).length = nameB s by simp [hereV, Ex.here]] at h1
      exact .inr (.inl ⟨s, h1, rfl⟩)
    by_cases k11 : k = 11
    · subst k11
      obtain rfl := hs (by decide) (by decide)
      rw [show hereV 11 n E0 ([] : List Ex).length = inB n 0 9 by simp [hereV, Ex.here, eqE]] at h1
      exact .inr (.inr (.inr (.inr (.inr (.inl ⟨n, (inB_iff _ _ _).1 h1, rfl⟩)))))
    by_cases k12 : k = 12
    · subst k12
      obtain rfl := hn (by decide) (by decide)
      rw [show hereV 12 0 s ([] : List Ex).length = nameB s by simp [hereV, Ex.here]] at h1
      exact .inr (.inr (.inr (.inr (.inr (.inr ⟨s, h1, rfl⟩)))))
    obtain rfl := hn k1 k11
    obtain rfl := hs k2 k12
    by_cases k3 : k = 3
    · subst k3; exact .inr (.inr (.inl rfl))
    exfalso
    unfold hereV Ex.here at h1
    simp only [List.length_replicate, List.length_nil] at h1
    rw [if_neg (by simp [eqE]), if_neg k1, if_neg (by omega), if_neg k3] at h1
    repeat' (split at h1)
    all_goals first | cases h1 | exact absurd h1 (by decide) | omega
  | [a], h1, h2 =>
    have hn : n = 0 := Classical.byContradiction fun hn => by rw [hereV_n k n s _ (by simp) hn] at h1; cases h1
    have hs : s = E0 := Classical.byContradiction fun hn => by rw [hereV_s k n s _ (by simp) hn] at h1; cases h1
    subst hn hs
    have h3 : hereV k 0 ⟨#[]⟩ 1 = true := h1
    rw [here_one, beq_iff_eq] at h3
    subst h3
    exact .inr (.inr (.inr (.inl ⟨a, by simpa using h2, rfl⟩)))
  | [a, b], h1, h2 =>
    have hn : n = 0 := Classical.byContradiction fun hn => by rw [hereV_n k n s _ (by simp) hn] at h1; cases h1
    have hs : s = E0 := Classical.byContradiction fun hn => by rw [hereV_s k n s _ (by simp) hn] at h1; cases h1
    subst hn hs
    have h3 : hereV k 0 ⟨#[]⟩ 2 = true := h1
    rw [here_two] at h3
    have h4 : okF d false a = true ∧ okF d false b = true := by simpa using h2
    exact .inr (.inr (.inr (.inr (.inl ⟨k, a, b, (inB_iff _ _ _).1 h3, h4.1, h4.2, rfl⟩))))
  | a :: b :: c :: r, h1, _ => rw [here_more k n s _ (by simp)] at h1; cases h1
theorem plain_one (d : Nat) (a : Ex) : okF (d + 1) true ⟨4, 0, E0, [a]⟩ = okF d true a := by simp [okF, Ex.here, eqE]
theorem plain_pair (d : Nat) {k : Int} (hk : 5 ≤ k ∧ k ≤ 10) (a b : Ex) : okF (d + 1) true ⟨k, 0, E0, [a, b]⟩ = (okF d true a && okF d true b) := by
  have : k = 5 ∨ k = 6 ∨ k = 7 ∨ k = 8 ∨ k = 9 ∨ k = 10 := by omega
  rcases this with rfl | rfl | rfl | rfl | rfl | rfl <;> simp [okF, Ex.here, eqE]
def IsP (d : Nat) : Prop := ∀ (e : Ex) (w : World), okF d false e = true → Calls Tryz.prog 83 #[tv e] w fun r w' => r = .returned (.bool (okF d true e)) ∧ Below w.heap.size w w'
end Go.Proofs.YtmhcbehplhfgfaaGreatDoor

namespace Go.Proofs.YtmhcbehplhfgfaaGreatDoor
open Go.ChangeShapes Go.WideShapes Go.ChangeAt Go.RowKit
set_option linter.unusedVariables false
set_option maxRecDepth 8000
set_option linter.unusedSimpArgs false
theorem ta_no {P : Program} {T u it : TypeId} {x z : Value} {fs : Array Field} (w : World) (hu : P.underlying u = some (.struct fs)) (hz : (zeroValue u).run P w = .ok z w) (h : T ≠ u) : (Instr.typeAssert (.iface T x) it u true).run P w = .ok (.tuple #[z, .bool false]) w := by
  simp [Instr.typeAssert, run_underlying hu, h, hz]
theorem taN_num (T : TypeId) (x : Value) (h : T ≠ 117) (w : World) : (Instr.typeAssert (.iface T x) 85 117 true).run Tryz.prog w = .ok (.tuple #[.agg #[.int .i64 0], .bool false]) w := ta_no w Tryz.underlying117 (by kernel_rfl) h
theorem taY_num (x : Value) (w : World) : (Instr.typeAssert (.iface 117 x) 85 117 true).run Tryz.prog w = .ok (.tuple #[x, .bool true]) w := by kernel_rfl
theorem taN_sym (T : TypeId) (x : Value) (h : T ≠ 119) (w : World) : (Instr.typeAssert (.iface T x) 85 119 true).run Tryz.prog w = .ok (.tuple #[.agg #[.string ⟨#[]⟩], .bool false]) w := ta_no w Tryz.underlying119 (by kernel_rfl) h
theorem taY_sym (x : Value) (w : World) : (Instr.typeAssert (.iface 119 x) 85 119 true).run Tryz.prog w = .ok (.tuple #[x, .bool true]) w := by kernel_rfl
theorem taN_here (T : TypeId) (x : Value) (h : T ≠ 121) (w : World) : (Instr.typeAssert (.iface T x) 85 121 true).run Tryz.prog w = .ok (.tuple #[.agg #[], .bool false]) w := ta_no w Tryz.underlying121 (by kernel_rfl) h
theorem taY_here (x : Value) (w : World) : (Instr.typeAssert (.iface 121 x) 85 121 true).run Tryz.prog w = .ok (.tuple #[x, .bool true]) w := by kernel_rfl
theorem taN_neg (T : TypeId) (x : Value) (h : T ≠ 123) (w : World) : (Instr.typeAssert (.iface T x) 85 123 true).run Tryz.prog w = .ok (.tuple #[.agg #[.nilIface], .bool false]) w := ta_no w Tryz.underlying123 (by kernel_rfl) h
theorem taY_neg (x : Value) (w : World) : (Instr.typeAssert (.iface 123 x) 85 123 true).run Tryz.prog w = .ok (.tuple #[x, .bool true]) w := by kernel_rfl
theorem taN_add (T : TypeId) (x : Value) (h : T ≠ 138) (w : World) : (Instr.typeAssert (.iface T x) 85 138 true).run Tryz.prog w = .ok (.tuple #[.agg #[.nilIface, .nilIface], .bool false]) w := ta_no w Tryz.underlying138 (by kernel_rfl) h
theorem taY_add (x : Value) (w : World) : (Instr.typeAssert (.iface 138 x) 85 138 true).run Tryz.prog w = .ok (.tuple #[x, .bool true]) w := by kernel_rfl
theorem taN_sub (T : TypeId) (x : Value) (h : T ≠ 139) (w : World) : (Instr.typeAssert (.iface T x) 85 139 true).run Tryz.prog w = .ok (.tuple #[.agg #[.nilIface, .nilIface], .bool false]) w := ta_no w Tryz.underlying139 (by kernel_rfl) h
theorem taY_sub (x : Value) (w : World) : (Instr.typeAssert (.iface 139 x) 85 139 true).run Tryz.prog w = .ok (.tuple #[x, .bool true]) w := by kernel_rfl
theorem taN_mul (T : TypeId) (x : Value) (h : T ≠ 140) (w : World) : (Instr.typeAssert (.iface T x) 85 140 true).run Tryz.prog w = .ok (.tuple #[.agg #[.nilIface, .nilIface], .bool false]) w := ta_no w Tryz.underlying140 (by kernel_rfl) h
theorem taY_mul (x : Value) (w : World) : (Instr.typeAssert (.iface 140 x) 85 140 true).run Tryz.prog w = .ok (.tuple #[x, .bool true]) w := by kernel_rfl
theorem taN_div (T : TypeId) (x : Value) (h : T ≠ 141) (w : World) : (Instr.typeAssert (.iface T x) 85 141 true).run Tryz.prog w = .ok (.tuple #[.agg #[.nilIface, .nilIface], .bool false]) w := ta_no w Tryz.underlying141 (by kernel_rfl) h
theorem taY_div (x : Value) (w : World) : (Instr.typeAssert (.iface 141 x) 85 141 true).run Tryz.prog w = .ok (.tuple #[x, .bool true]) w := by kernel_rfl
theorem taN_and (T : TypeId) (x : Value) (h : T ≠ 142) (w : World) : (Instr.typeAssert (.iface T x) 85 142 true).run Tryz.prog w = .ok (.tuple #[.agg #[.nilIface, .nilIface], .bool false]) w := ta_no w Tryz.underlying142 (by kernel_rfl) h
theorem taY_and (x : Value) (w : World) : (Instr.typeAssert (.iface 142 x) 85 142 true).run Tryz.prog w = .ok (.tuple #[x, .bool true]) w := by kernel_rfl
theorem taN_or (T : TypeId) (x : Value) (h : T ≠ 143) (w : World) : (Instr.typeAssert (.iface T x) 85 143 true).run Tryz.prog w = .ok (.tuple #[.agg #[.nilIface, .nilIface], .bool false]) w := ta_no w Tryz.underlying143 (by kernel_rfl) h
theorem taY_or (x : Value) (w : World) : (Instr.typeAssert (.iface 143 x) 85 143 true).run Tryz.prog w = .ok (.tuple #[x, .bool true]) w := by kernel_rfl
theorem taN_sect (T : TypeId) (x : Value) (h : T ≠ 144) (w : World) : (Instr.typeAssert (.iface T x) 85 144 true).run Tryz.prog w = .ok (.tuple #[.agg #[.int .i64 0], .bool false]) w := ta_no w Tryz.underlying144 (by kernel_rfl) h
theorem taY_sect (x : Value) (w : World) : (Instr.typeAssert (.iface 144 x) 85 144 true).run Tryz.prog w = .ok (.tuple #[x, .bool true]) w := by kernel_rfl
theorem taN_glob (T : TypeId) (x : Value) (h : T ≠ 145) (w : World) : (Instr.typeAssert (.iface T x) 85 145 true).run Tryz.prog w = .ok (.tuple #[.agg #[.string ⟨#[]⟩], .bool false]) w := ta_no w Tryz.underlying145 (by kernel_rfl) h
theorem taY_glob (x : Value) (w : World) : (Instr.typeAssert (.iface 145 x) 85 145 true).run Tryz.prog w = .ok (.tuple #[x, .bool true]) w := by kernel_rfl
theorem me_num (c : Value) (w : World) : (method 281 117 (.agg #[c]) "loop.example/g00329/impl.parts").run Tryz.prog w = .ok (130, .agg #[]) w := by kernel_rfl
theorem me_sym (c : Value) (w : World) : (method 281 119 (.agg #[c]) "loop.example/g00329/impl.parts").run Tryz.prog w = .ok (130, .agg #[]) w := by kernel_rfl
theorem me_here (w : World) : (method 281 121 (.agg #[]) "loop.example/g00329/impl.parts").run Tryz.prog w = .ok (130, .agg #[]) w := by kernel_rfl
theorem me_neg (c : Value) (w : World) : (method 281 123 (.agg #[c]) "loop.example/g00329/impl.parts").run Tryz.prog w = .ok (131, .agg #[c]) w := by kernel_rfl
theorem me_add (c d : Value) (w : World) : (method 281 138 (.agg #[c, d]) "loop.example/g00329/impl.parts").run Tryz.prog w = .ok (132, .agg #[c, d]) w := by kernel_rfl
theorem me_sub (c d : Value) (w : World) : (method 281 139 (.agg #[c, d]) "loop.example/g00329/impl.parts").run Tryz.prog w = .ok (132, .agg #[c, d]) w := by kernel_rfl
theorem me_mul (c d : Value) (w : World) : (method 281 140 (.agg #[c, d]) "loop.example/g00329/impl.parts").run Tryz.prog w = .ok (132, .agg #[c, d]) w := by kernel_rfl
theorem me_div (c d : Value) (w : World) : (method 281 141 (.agg #[c, d]) "loop.example/g00329/impl.parts").run Tryz.prog w = .ok (132, .agg #[c, d]) w := by kernel_rfl
theorem me_and (c d : Value) (w : World) : (method 281 142 (.agg #[c, d]) "loop.example/g00329/impl.parts").run Tryz.prog w = .ok (132, .agg #[c, d]) w := by kernel_rfl
theorem me_or (c d : Value) (w : World) : (method 281 143 (.agg #[c, d]) "loop.example/g00329/impl.parts").run Tryz.prog w = .ok (132, .agg #[c, d]) w := by kernel_rfl
set_option maxHeartbeats 1000000 in
theorem parts0 (w : World) : Calls Tryz.prog 130 #[.agg #[]] w fun r w' => r = .returned (.slice none 0 0) ∧ Below w.heap.size w w' := by
  go_enter Tryz.func130, Tryz.ntmps130
  go_wp2
  go_ret
  exact ⟨rfl, by first | exact Below.refl _ _ | exact below_new w _⟩
theorem two_new (w : World) (o1 o2 : Obj) : ((w.alloc o1).alloc o2).heap[w.heap.size + 1]? = some o2 ∧ Below w.heap.size w ((w.alloc o1).alloc o2) := by
  have h1 : (w.alloc o1).heap.size = w.heap.size + 1 := by simp
  refine ⟨?_, ((Below.refl _ _).alloc (Nat.le_refl _) _).alloc (by simp) _⟩
  rw [← h1]
  exact Array.getElem?_push_size
set_option maxHeartbeats 1000000 in
theorem parts1 (t : TypeId) (x : Value) (w : World) : Calls Tryz.prog 131 #[.agg #[.iface t x]] w fun r w' => ∃ g, r = .returned (.slice (some ⟨g, 0, none⟩) 1 1) ∧ w'.heap[g]? = some (.cells #[.iface t x] 85 (0, 0)) ∧ Below w.heap.size w w' := by
  have T := hide (two_new w (.cells #[.iface t x] 123) (.cells #[.iface t x] 85))
  go_enter Tryz.func131, Tryz.ntmps131
  go_wp2
  go_ret
  exact ⟨_, rfl, (unhide T).1, (unhide T).2⟩
set_option maxHeartbeats 1000000 in
theorem parts2 (t u : TypeId) (x y : Value) (w : World) : Calls Tryz.prog 132 #[.agg #[.iface t x, .iface u y]] w fun r w' => ∃ g, r = .returned (.slice (some ⟨g, 0, none⟩) 2 2) ∧ w'.heap[g]? = some (.cells #[.iface t x, .iface u y] 85 (0, 0)) ∧ Below w.heap.size w w' := by
  have T := hide (two_new w (.cells #[.iface t x, .iface u y] 136) (.cells #[.iface t x, .iface u y] 85))
  go_enter Tryz.func132, Tryz.ntmps132
  go_wp2
  go_ret
  exact ⟨_, rfl, (unhide T).1, (unhide T).2⟩
end Go.Proofs.YtmhcbehplhfgfaaGreatDoor

namespace Go.Proofs.YtmhcbehplhfgfaaGreatDoor
open Go.ChangeShapes Go.WideShapes Go.ChangeAt Go.RowKit
set_option linter.unusedVariables false
set_option maxRecDepth 8000
set_option linter.unusedSimpArgs false
set_option maxHeartbeats 2000000 in
theorem isp_num (n : Int) (w : World) : Calls Tryz.prog 83 #[.iface 117 (.agg #[.int .i64 n])] w fun r w' => r = .returned (.bool true) ∧ Below w.heap.size w w' := by
  have t1 := taN_sect 117 (.agg #[.int .i64 n]) (by decide)
  have t2 := taN_glob 117 (.agg #[.int .i64 n]) (by decide)
  have m := me_num (.int .i64 n)
  have P0 := hide (parts0 w)
  go_enter Tryz.func83, Tryz.ntmps83
  go_wp2_with (go_at_call 130; refine (unhide P0).mono ?_; rintro r w1 ⟨rfl, hb⟩)
  refine wp_loop_rounds 1 ?_
  rw [rounds_succ]
  go_wp2
  go_ret
  exact ⟨rfl, hb⟩
set_option maxHeartbeats 2000000 in
theorem isp_sym (s : ByteArray) (w : World) : Calls Tryz.prog 83 #[.iface 119 (.agg #[.string s])] w fun r w' => r = .returned (.bool true) ∧ Below w.heap.size w w' := by
  have t1 := taN_sect 119 (.agg #[.string s]) (by decide)
  have t2 := taN_glob 119 (.agg #[.string s]) (by decide)
  have m := me_sym (.string s)
  have P0 := hide (parts0 w)
  go_enter Tryz.func83, Tryz.ntmps83
  go_wp2_with (go_at_call 130; refine (unhide P0).mono ?_; rintro r w1 ⟨rfl, hb⟩)
  refine wp_loop_rounds 1 ?_
  rw [rounds_succ]
  go_wp2
  go_ret
  exact ⟨rfl, hb⟩
set_option maxHeartbeats 2000000 in
theorem isp_here (w : World) : Calls Tryz.prog 83 #[.iface 121 (.agg #[])] w fun r w' => r = .returned (.bool true) ∧ Below w.heap.size w w' := by
  have t1 := taN_sect 121 (.agg #[]) (by decide)
  have t2 := taN_glob 121 (.agg #[]) (by decide)
  have m := me_here 
  have P0 := hide (parts0 w)
  go_enter Tryz.func83, Tryz.ntmps83
  go_wp2_with (go_at_call 130; refine (unhide P0).mono ?_; rintro r w1 ⟨rfl, hb⟩)
  refine wp_loop_rounds 1 ?_
  rw [rounds_succ]
  go_wp2
  go_ret
  exact ⟨rfl, hb⟩
set_option maxHeartbeats 2000000 in
theorem isp_sect (n : Int) (w : World) : Calls Tryz.prog 83 #[.iface 144 (.agg #[.int .i64 n])] w fun r w' => r = .returned (.bool false) ∧ Below w.heap.size w w' := by
  have t1 := taY_sect (.agg #[.int .i64 n])
  have t2 := taN_glob 144 (.agg #[.int .i64 n]) (by decide)
  go_enter Tryz.func83, Tryz.ntmps83
  go_wp2
  go_ret
  exact ⟨rfl, Below.refl _ _⟩
set_option maxHeartbeats 2000000 in
theorem isp_glob (s : ByteArray) (w : World) : Calls Tryz.prog 83 #[.iface 145 (.agg #[.string s])] w fun r w' => r = .returned (.bool false) ∧ Below w.heap.size w w' := by
  have t1 := taY_glob (.agg #[.string s])
  have t2 := taN_sect 145 (.agg #[.string s]) (by decide)
  go_enter Tryz.func83, Tryz.ntmps83
  go_wp2
  go_ret
  exact ⟨rfl, Below.refl _ _⟩
set_option maxHeartbeats 2000000 in
theorem isp_neg (t : TypeId) (x : Value) (q1 : Bool) (h1 : ∀ w : World, Calls Tryz.prog 83 #[.iface t x] w fun r w' => r = .returned (.bool q1) ∧ Below w.heap.size w w') (w : World) : Calls Tryz.prog 83 #[.iface 123 (.agg #[.iface t x])] w fun r w' => r = .returned (.bool q1) ∧ Below w.heap.size w w' := by
  have t1 := taN_sect 123 (.agg #[.iface t x]) (by decide)
  have t2 := taN_glob 123 (.agg #[.iface t x]) (by decide)
  have m := me_neg (.iface t x)
  have P1 := hide (parts1 t x w)
  have H1 := hide h1
  clear h1
  go_enter Tryz.func83, Tryz.ntmps83
  go_wp2_with (go_at_call 131; refine (unhide P1).mono ?_; rintro r w1 ⟨g, rfl, hg, hb⟩)
  have c0 := Lib.cell_of_heap hg 0
  have B1 := hide hb
  have H2 := hide (unhide H1 w1)
  clear hg hb P1
  refine wp_loop_rounds 2 ?_
  rw [rounds_succ]
  go_wp2_with fail
  refine (unhide H2).mono ?_
  rintro r w2 ⟨rfl, hb2⟩
  have B2 := hide ((unhide B1).trans (hb2.mono (unhide B1).size))
  clear hb2 c0 H2 H1
  cases q1 with
  | false =>
    go_wp2
    go_ret
    exact ⟨rfl, unhide B2⟩
  | true =>
    go_wp2
    rw [rounds_succ]
    go_wp2
    go_ret
    exact ⟨rfl, unhide B2⟩
set_option maxHeartbeats 4000000 in
theorem isp_add (t u : TypeId) (x y : Value) (q1 q2 : Bool) (h1 : ∀ w : World, Calls Tryz.prog 83 #[.iface t x] w fun r w' => r = .returned (.bool q1) ∧ Below w.heap.size w w') (h2 : ∀ w : World, Calls Tryz.prog 83 #[.iface u y] w fun r w' => r = .returned (.bool q2) ∧ Below w.heap.size w w') (w : World) : Calls Tryz.prog 83 #[.iface 138 (.agg #[.iface t x, .iface u y])] w fun r w' => r = .returned (.bool (q1 && q2)) ∧ Below w.heap.size w w' := by
  have t1 := taN_sect 138 (.agg #[.iface t x, .iface u y]) (by decide)
  have t2 := taN_glob 138 (.agg #[.iface t x, .iface u y]) (by decide)
  have m := me_add (.iface t x) (.iface u y)
  have P1 := hide (parts2 t u x y w)
  have H1 := hide h1
  have H3 := hide h2
  clear h1 h2
  obtain ⟨T, hT⟩ : ∃ T, (q1 && q2) = T := ⟨_, rfl⟩
  have HT := hide hT
  rw [hT]
  clear hT
  go_enter Tryz.func83, Tryz.ntmps83
  go_wp2_with (go_at_call 132; refine (unhide P1).mono ?_; rintro r w1 ⟨g, rfl, hg, hb⟩)
  have c0 := Lib.cell_of_heap hg 0
  have c1 := hide (Lib.cell_of_heap hg 1)
  have gl := hide (Array.getElem?_eq_some_iff.1 hg).1
  have B1 := hide hb
  have H2 := hide (unhide H1 w1)
  clear hg hb P1
  refine wp_loop_rounds 3 ?_
  rw [rounds_succ]
  go_wp2_with fail
  refine (unhide H2).mono ?_
  rintro r w2 ⟨rfl, hb2⟩
  have B2 := hide ((unhide B1).trans (hb2.mono (unhide B1).size))
  have d1 := (hb2.cell (p := ⟨g, 1, none⟩) (unhide gl)).trans (unhide c1)
  clear hb2 c0 c1 H2 H1 gl
  cases q1 with
  | false =>
    have E := hide ((unhide HT).symm.trans (Bool.false_and _))
    go_wp2
    go_ret
    exact ⟨by rw [unhide E]; rfl, unhide B2⟩
  | true =>
    have E := hide ((unhide HT).symm.trans (Bool.true_and _))
    have H4 := hide (unhide H3 w2)
    go_wp2
    rw [rounds_succ]
    go_wp2_with fail
    refine (unhide H4).mono ?_
    rintro r w3 ⟨rfl, hb3⟩
    have B3 := hide ((unhide B2).trans (hb3.mono (unhide B2).size))
    clear hb3 d1 H4 H3
    cases q2 with
    | false =>
      go_wp2
      go_ret
      exact ⟨by rw [unhide E]; rfl, unhide B3⟩
    | true =>
      go_wp2
      rw [rounds_succ]
      go_wp2
      go_ret
      exact ⟨by rw [unhide E]; rfl, unhide B3⟩
set_option maxHeartbeats 4000000 in
theorem isp_sub (t u : TypeId) (x y : Value) (q1 q2 : Bool) (h1 : ∀ w : World, Calls Tryz.prog 83 #[.iface t x] w fun r w' => r = .returned (.bool q1) ∧ Below w.heap.size w w') (h2 : ∀ w : World, Calls Tryz.prog 83 #[.iface u y] w fun r w' => r = .returned (.bool q2) ∧ Below w.heap.size w w') (w : World) : Calls Tryz.prog 83 #[.iface 139 (.agg #[.iface t x, .iface u y])] w fun r w' => r = .returned (.bool (q1 && q2)) ∧ Below w.heap.size w w' := by
  have t1 := taN_sect 139 (.agg #[.iface t x, .iface u y]) (by decide)
  have t2 := taN_glob 139 (.agg #[.iface t x, .iface u y]) (by decide)
  have m := me_sub (.iface t x) (.iface u y)
  have P1 := hide (parts2 t u x y w)
  have H1 := hide h1
  have H3 := hide h2
  clear h1 h2
  obtain ⟨T, hT⟩ : ∃ T, (q1 && q2) = T := ⟨_, rfl⟩
  have HT := hide hT
  rw [hT]
  clear hT
  go_enter Tryz.func83, Tryz.ntmps83
  go_wp2_with (go_at_call 132; refine (unhide P1).mono ?_; rintro r w1 ⟨g, rfl, hg, hb⟩)
  have c0 := Lib.cell_of_heap hg 0
  have c1 := hide (Lib.cell_of_heap hg 1)
  have gl := hide (Array.getElem?_eq_some_iff.1 hg).1
  have B1 := hide hb
  have H2 := hide (unhide H1 w1)
  clear hg hb P1
  refine wp_loop_rounds 3 ?_
  rw [rounds_succ]
  go_wp2_with fail
  refine (unhide H2).mono ?_
  rintro r w2 ⟨rfl, hb2⟩
  have B2 := hide ((unhide B1).trans (hb2.mono (unhide B1).size))
  have d1 := (hb2.cell (p := ⟨g, 1, none⟩) (unhide gl)).trans (unhide c1)
  clear hb2 c0 c1 H2 H1 gl
  cases q1 with
  | false =>
    have E := hide ((unhide HT).symm.trans (Bool.false_and _))
    go_wp2
    go_ret
    exact ⟨by rw [unhide E]; rfl, unhide B2⟩
  | true =>
    have E := hide ((unhide HT).symm.trans (Bool.true_and _))
    have H4 := hide (unhide H3 w2)
    go_wp2
    rw [rounds_succ]
    go_wp2_with fail
    refine (unhide H4).mono ?_
    rintro r w3 ⟨rfl, hb3⟩
    have B3 := hide ((unhide B2).trans (hb3.mono (unhide B2).size))
    clear hb3 d1 H4 H3
    cases q2 with
    | false =>
      go_wp2
      go_ret
      exact ⟨by rw [unhide E]; rfl, unhide B3⟩
    | true =>
      go_wp2
      rw [rounds_succ]
      go_wp2
      go_ret
      exact ⟨by rw [unhide E]; rfl, unhide B3⟩
set_option maxHeartbeats 4000000 in
theorem isp_mul (t u : TypeId) (x y : Value) (q1 q2 : Bool) (h1 : ∀ w : World, Calls Tryz.prog 83 #[.iface t x] w fun r w' => r = .returned (.bool q1) ∧ Below w.heap.size w w') (h2 : ∀ w : World, Calls Tryz.prog 83 #[.iface u y] w fun r w' => r = .returned (.bool q2) ∧ Below w.heap.size w w') (w : World) : Calls Tryz.prog 83 #[.iface 140 (.agg #[.iface t x, .iface u y])] w fun r w' => r = .returned (.bool (q1 && q2)) ∧ Below w.heap.size w w' := by
  have t1 := taN_sect 140 (.agg #[.iface t x, .iface u y]) (by decide)
  have t2 := taN_glob 140 (.agg #[.iface t x, .iface u y]) (by decide)
  have m := me_mul (.iface t x) (.iface u y)
  have P1 := hide (parts2 t u x y w)
  have H1 := hide h1
  have H3 := hide h2
  clear h1 h2
  obtain ⟨T, hT⟩ : ∃ T, (q1 && q2) = T := ⟨_, rfl⟩
  have HT := hide hT
  rw [hT]
  clear hT
  go_enter Tryz.func83, Tryz.ntmps83
  go_wp2_with (go_at_call 132; refine (unhide P1).mono ?_; rintro r w1 ⟨g, rfl, hg, hb⟩)
  have c0 := Lib.cell_of_heap hg 0
  have c1 := hide (Lib.cell_of_heap hg 1)
  have gl := hide (Array.getElem?_eq_some_iff.1 hg).1
  have B1 := hide hb
  have H2 := hide (unhide H1 w1)
  clear hg hb P1
  refine wp_loop_rounds 3 ?_
  rw [rounds_succ]
  go_wp2_with fail
  refine (unhide H2).mono ?_
  rintro r w2 ⟨rfl, hb2⟩
  have B2 := hide ((unhide B1).trans (hb2.mono (unhide B1).size))
  have d1 := (hb2.cell (p := ⟨g, 1, none⟩) (unhide gl)).trans (unhide c1)
  clear hb2 c0 c1 H2 H1 gl
  cases q1 with
  | false =>
    have E := hide ((unhide HT).symm.trans (Bool.false_and _))
    go_wp2
    go_ret
    exact ⟨by rw [unhide E]; rfl, unhide B2⟩
  | true =>
    have E := hide ((unhide HT).symm.trans (Bool.true_and _))
    have H4 := hide (unhide H3 w2)
    go_wp2
    rw [rounds_succ]
    go_wp2_with fail
    refine (unhide H4).mono ?_
    rintro r w3 ⟨rfl, hb3⟩
    have B3 := hide ((unhide B2).trans (hb3.mono (unhide B2).size))
    clear hb3 d1 H4 H3
    cases q2 with
    | false =>
      go_wp2
      go_ret
      exact ⟨by rw [unhide E]; rfl, unhide B3⟩
    | true =>
      go_wp2
      rw [rounds_succ]
      go_wp2
      go_ret
      exact ⟨by rw [unhide E]; rfl, unhide B3⟩
set_option maxHeartbeats 4000000 in
theorem isp_div (t u : TypeId) (x y : Value) (q1 q2 : Bool) (h1 : ∀ w : World, Calls Tryz.prog 83 #[.iface t x] w fun r w' => r = .returned (.bool q1) ∧ Below w.heap.size w w') (h2 : ∀ w : World, Calls Tryz.prog 83 #[.iface u y] w fun r w' => r = .returned (.bool q2) ∧ Below w.heap.size w w') (w : World) : Calls Tryz.prog 83 #[.iface 141 (.agg #[.iface t x, .iface u y])] w fun r w' => r = .returned (.bool (q1 && q2)) ∧ Below w.heap.size w w' := by
  have t1 := taN_sect 141 (.agg #[.iface t x, .iface u y]) (by decide)
  have t2 := taN_glob 141 (.agg #[.iface t x, .iface u y]) (by decide)
  have m := me_div (.iface t x) (.iface u y)
  have P1 := hide (parts2 t u x y w)
  have H1 := hide h1
  have H3 := hide h2
  clear h1 h2
  obtain ⟨T, hT⟩ : ∃ T, (q1 && q2) = T := ⟨_, rfl⟩
  have HT := hide hT
  rw [hT]
  clear hT
  go_enter Tryz.func83, Tryz.ntmps83
  go_wp2_with (go_at_call 132; refine (unhide P1).mono ?_; rintro r w1 ⟨g, rfl, hg, hb⟩)
  have c0 := Lib.cell_of_heap hg 0
  have c1 := hide (Lib.cell_of_heap hg 1)
  have gl := hide (Array.getElem?_eq_some_iff.1 hg).1
  have B1 := hide hb
  have H2 := hide (unhide H1 w1)
  clear hg hb P1
  refine wp_loop_rounds 3 ?_
  rw [rounds_succ]
  go_wp2_with fail
  refine (unhide H2).mono ?_
  rintro r w2 ⟨rfl, hb2⟩
  have B2 := hide ((unhide B1).trans (hb2.mono (unhide B1).size))
  have d1 := (hb2.cell (p := ⟨g, 1, none⟩) (unhide gl)).trans (unhide c1)
  clear hb2 c0 c1 H2 H1 gl
  cases q1 with
  | false =>
    have E := hide ((unhide HT).symm.trans (Bool.false_and _))
    go_wp2
    go_ret
    exact ⟨by rw [unhide E]; rfl, unhide B2⟩
  | true =>
    have E := hide ((unhide HT).symm.trans (Bool.true_and _))
    have H4 := hide (unhide H3 w2)
    go_wp2
    rw [rounds_succ]
    go_wp2_with fail
    refine (unhide H4).mono ?_
    rintro r w3 ⟨rfl, hb3⟩
    have B3 := hide ((unhide B2).trans (hb3.mono (unhide B2).size))
    clear hb3 d1 H4 H3
    cases q2 with
    | false =>
      go_wp2
      go_ret
      exact ⟨by rw [unhide E]; rfl, unhide B3⟩
    | true =>
      go_wp2
      rw [rounds_succ]
      go_wp2
      go_ret
      exact ⟨by rw [unhide E]; rfl, unhide B3⟩
set_option maxHeartbeats 4000000 in
theorem isp_and (t u : TypeId) (x y : Value) (q1 q2 : Bool) (h1 : ∀ w : World, Calls Tryz.prog 83 #[.iface t x] w fun r w' => r = .returned (.bool q1) ∧ Below w.heap.size w w') (h2 : ∀ w : World, Calls Tryz.prog 83 #[.iface u y] w fun r w' => r = .returned (.bool q2) ∧ Below w.heap.size w w') (w : World) : Calls Tryz.prog 83 #[.iface 142 (.agg #[.iface t x, .iface u y])] w fun r w' => r = .returned (.bool (q1 && q2)) ∧ Below w.heap.size w w' := by
  have t1 := taN_sect 142 (.agg #[.iface t x, .iface u y]) (by decide)
  have t2 := taN_glob 142 (.agg #[.iface t x, .iface u y]) (by decide)
  have m := me_and (.iface t x) (.iface u y)
  have P1 := hide (parts2 t u x y w)
  have H1 := hide h1
  have H3 := hide h2
  clear h1 h2
  obtain ⟨T, hT⟩ : ∃ T, (q1 && q2) = T := ⟨_, rfl⟩
  have HT := hide hT
  rw [hT]
  clear hT
  go_enter Tryz.func83, Tryz.ntmps83
  go_wp2_with (go_at_call 132; refine (unhide P1).mono ?_; rintro r w1 ⟨g, rfl, hg, hb⟩)
  have c0 := Lib.cell_of_heap hg 0
  have c1 := hide (Lib.cell_of_heap hg 1)
  have gl := hide (Array.getElem?_eq_some_iff.1 hg).1
  have B1 := hide hb
  have H2 := hide (unhide H1 w1)
  clear hg hb P1
  refine wp_loop_rounds 3 ?_
  rw [rounds_succ]
  go_wp2_with fail
  refine (unhide H2).mono ?_
  rintro r w2 ⟨rfl, hb2⟩
  have B2 := hide ((unhide B1).trans (hb2.mono (unhide B1).size))
  have d1 := (hb2.cell (p := ⟨g, 1, none⟩) (unhide gl)).trans (unhide c1)
  clear hb2 c0 c1 H2 H1 gl
  cases q1 with
  | false =>
    have E := hide ((unhide HT).symm.trans (Bool.false_and _))
    go_wp2
    go_ret
    exact ⟨by rw [unhide E]; rfl, unhide B2⟩
  | true =>
    have E := hide ((unhide HT).symm.trans (Bool.true_and _))
    have H4 := hide (unhide H3 w2)
    go_wp2
    rw [rounds_succ]
    go_wp2_with fail
    refine (unhide H4).mono ?_
    rintro r w3 ⟨rfl, hb3⟩
    have B3 := hide ((unhide B2).trans (hb3.mono (unhide B2).size))
    clear hb3 d1 H4 H3
    cases q2 with
    | false =>
      go_wp2
      go_ret
      exact ⟨by rw [unhide E]; rfl, unhide B3⟩
    | true =>
      go_wp2
      rw [rounds_succ]
      go_wp2
      go_ret
      exact ⟨by rw [unhide E]; rfl, unhide B3⟩
set_option maxHeartbeats 4000000 in
theorem isp_or (t u : TypeId) (x y : Value) (q1 q2 : Bool) (h1 : ∀ w : World, Calls Tryz.prog 83 #[.iface t x] w fun r w' => r = .returned (.bool q1) ∧ Below w.heap.size w w') (h2 : ∀ w : World, Calls Tryz.prog 83 #[.iface u y] w fun r w' => r = .returned (.bool q2) ∧ Below w.heap.size w w') (w : World) : Calls Tryz.prog 83 #[.iface 143 (.agg #[.iface t x, .iface u y])] w fun r w' => r = .returned (.bool (q1 && q2)) ∧ Below w.heap.size w w' := by
  have t1 := taN_sect 143 (.agg #[.iface t x, .iface u y]) (by decide)
  have t2 := taN_glob 143 (.agg #[.iface t x, .iface u y]) (by decide)
  have m := me_or (.iface t x) (.iface u y)
  have P1 := hide (parts2 t u x y w)
  have H1 := hide h1
  have H3 := hide h2
  clear h1 h2
  obtain ⟨T, hT⟩ : ∃ T, (q1 && q2) = T := ⟨_, rfl⟩
  have HT := hide hT
  rw [hT]
  clear hT
  go_enter Tryz.func83, Tryz.ntmps83
  go_wp2_with (go_at_call 132; refine (unhide P1).mono ?_; rintro r w1 ⟨g, rfl, hg, hb⟩)
  have c0 := Lib.cell_of_heap hg 0
  have c1 := hide (Lib.cell_of_heap hg 1)
  have gl := hide (Array.getElem?_eq_some_iff.1 hg).1
  have B1 := hide hb
  have H2 := hide (unhide H1 w1)
  clear hg hb P1
  refine wp_loop_rounds 3 ?_
  rw [rounds_succ]
  go_wp2_with fail
  refine (unhide H2).mono ?_
  rintro r w2 ⟨rfl, hb2⟩
  have B2 := hide ((unhide B1).trans (hb2.mono (unhide B1).size))
  have d1 := (hb2.cell (p := ⟨g, 1, none⟩) (unhide gl)).trans (unhide c1)
  clear hb2 c0 c1 H2 H1 gl
  cases q1 with
  | false =>
    have E := hide ((unhide HT).symm.trans (Bool.false_and _))
    go_wp2
    go_ret
    exact ⟨by rw [unhide E]; rfl, unhide B2⟩
  | true =>
    have E := hide ((unhide HT).symm.trans (Bool.true_and _))
    have H4 := hide (unhide H3 w2)
    go_wp2
    rw [rounds_succ]
    go_wp2_with fail
    refine (unhide H4).mono ?_
    rintro r w3 ⟨rfl, hb3⟩
    have B3 := hide ((unhide B2).trans (hb3.mono (unhide B2).size))
    clear hb3 d1 H4 H3
    cases q2 with
    | false =>
      go_wp2
      go_ret
      exact ⟨by rw [unhide E]; rfl, unhide B3⟩
    | true =>
      go_wp2
      rw [rounds_succ]
      go_wp2
      go_ret
      exact ⟨by rw [unhide E]; rfl, unhide B3⟩
theorem isp_all : ∀ d : Nat, IsP d := by
  intro d
  induction d with
  | zero => intro e w h; cases h
  | succ d ih =>
    intro e w h
    rcases ok_cases h with ⟨n, hn, rfl⟩ | ⟨s, hs, rfl⟩ | rfl | ⟨a, ha, rfl⟩ | ⟨k, a, b, hk, ha, hb, rfl⟩ | ⟨n, hn, rfl⟩ | ⟨s, hs, rfl⟩
    · rw [tv_num, plain_num hn]; exact isp_num n w
    · rw [tv_sym, plain_sym hs]; exact isp_sym s w
    · rw [tv_here, plain_here]; exact isp_here w
    · obtain ⟨t, x, e1⟩ := tv_if a
      have h1 := fun w => ih a w ha
      rw [e1] at h1
      rw [tv_neg, e1, plain_one]
      exact isp_neg t x _ h1 w
    · obtain ⟨t, x, e1⟩ := tv_if a
      obtain ⟨u, y, e2⟩ := tv_if b
      have h1 := fun w => ih a w ha
      have h2 := fun w => ih b w hb
      rw [e1] at h1
      rw [e2] at h2
      rw [tv_two hk, e1, e2, plain_pair d hk]
      have : k = 5 ∨ k = 6 ∨ k = 7 ∨ k = 8 ∨ k = 9 ∨ k = 10 := by omega
      rcases this with rfl | rfl | rfl | rfl | rfl | rfl
      · exact isp_add t u x y _ _ h1 h2 w
      · exact isp_sub t u x y _ _ h1 h2 w
      · exact isp_mul t u x y _ _ h1 h2 w
      · exact isp_div t u x y _ _ h1 h2 w
      · exact isp_and t u x y _ _ h1 h2 w
      · exact isp_or t u x y _ _ h1 h2 w
    · rw [tv_sect, show okF (d + 1) true ⟨11, n, E0, []⟩ = false by simp [okF]]; exact isp_sect n w
    · rw [tv_glob, show okF (d + 1) true ⟨12, 0, s, []⟩ = false by simp [okF]]; exact isp_glob s w
theorem plain_ok : ∀ (d : Nat) (e : Ex), okF d true e = true → okF d false e = true := by
  intro d
  induction d with
  | zero => intro e h; cases h
  | succ d ih =>
    intro e h
    rw [okF_s, Bool.and_eq_true, Bool.and_eq_true] at h
    rw [okF_s, h.1]
    have h3 := h.2.2
    rw [List.all_eq_true] at h3
    have : e.l.all (okF d false) = true := List.all_eq_true.2 fun x hx => ih x (h3 x hx)
    rw [this]
    rfl
theorem plain_not {d : Nat} {e : Ex} (h : okF d false e = false) : okF d true e = false := by
  cases h2 : okF d true e with
  | false => rfl
  | true => rw [plain_ok d e h2] at h; cases h
end Go.Proofs.YtmhcbehplhfgfaaGreatDoor

namespace Go.Proofs.YtmhcbehplhfgfaaGreatDoor
open Go.ChangeShapes Go.WideShapes Go.ChangeAt Go.RowKit
set_option linter.unusedVariables false
set_option maxRecDepth 8000
set_option linter.unusedSimpArgs false
set_option maxHeartbeats 2000000 in
theorem zroI (k n : Int) (s : ByteArray) (ll : Nat) (hs : s.size ≤ 1099511627776) (hl : ll ≤ 1099511627776) (b : Option Addr) (cap : Nat) (w : World) : Calls Tryz.prog 89 #[.agg #[.int .i64 k, .int .i64 n, .string s, .slice b ll cap]] w fun r w' => r = .returned (.bool (zroV k n s ll)) ∧ Below w.heap.size w w' := by
  by_cases h1 : k = 0
  · subst h1
    by_cases h2 : n = 0
    · subst h2
      by_cases h3 : s = ⟨#[]⟩
      · subst h3
        by_cases h4 : ll = 0
        · subst h4
          have B0 := hide (below_new w (.cells #[.int .i64 0, .int .i64 0, .string ⟨#[]⟩, .slice b 0 cap] 33))
          have V : zroV 0 0 ⟨#[]⟩ 0 = true := by simp [zroV, eqE, eqE1, *]
          rw [V]
          clear V
          go_enter Tryz.func89, Tryz.ntmps89
          go_wp2
          go_ret
          exact ⟨rfl, unhide B0⟩
        have h4f : (ll == 0) = false := beq_eq_false_iff_ne.2 h4
        have h4g : ((ll : Int) == 0) = false := beq_eq_false_iff_ne.2 (by omega)
        have B0 := hide (below_new w (.cells #[.int .i64 0, .int .i64 0, .string ⟨#[]⟩, .slice b ll cap] 33))
        have V : zroV 0 0 ⟨#[]⟩ ll = false := by simp [zroV, eqE, eqE1, *]
        rw [V]
        clear V
        go_enter Tryz.func89, Tryz.ntmps89
        go_wp2
        go_ret
        exact ⟨rfl, unhide B0⟩
      obtain ⟨h3a, h3b⟩ := emp_E s h3
      have B0 := hide (below_new w (.cells #[.int .i64 0, .int .i64 0, .string s, .slice b ll cap] 33))
      have V : zroV 0 0 s ll = false := by simp [zroV, eqE, eqE1, *]
      rw [V]
      clear V
      go_enter Tryz.func89, Tryz.ntmps89
      go_wp2
      go_ret
      exact ⟨rfl, unhide B0⟩
    have h2f : (n == 0) = false := beq_eq_false_iff_ne.2 h2
    have B0 := hide (below_new w (.cells #[.int .i64 0, .int .i64 n, .string s, .slice b ll cap] 33))
    have V : zroV 0 n s ll = false := by simp [zroV, eqE, eqE1, *]
    rw [V]
    clear V
    go_enter Tryz.func89, Tryz.ntmps89
    go_wp2
    go_ret
    exact ⟨rfl, unhide B0⟩
  have h1f : (k == 0) = false := beq_eq_false_iff_ne.2 h1
  have B0 := hide (below_new w (.cells #[.int .i64 k, .int .i64 n, .string s, .slice b ll cap] 33))
  have V : zroV k n s ll = false := by simp [zroV, eqE, eqE1, *]
  rw [V]
  clear V
  go_enter Tryz.func89, Tryz.ntmps89
  go_wp2
  go_ret
  exact ⟨rfl, unhide B0⟩
set_option maxHeartbeats 2000000 in
theorem nonI_any (a : Ag) (hs : a.e.s.size ≤ 1099511627776) (hl : a.e.l.length ≤ 1099511627776) (b : Option Addr) (cap : Nat) (w : World) : Calls Tryz.prog 80 #[.agg (a.cs b cap)] w fun r w' => r = .returned (.bool (nonX a)) ∧ Below w.heap.size w w' := by
  have Q := hide (fun w => zroI a.e.k a.e.n a.e.s a.e.l.length hs hl b cap w)
  unfold Ag.cs
  rw [show nonX a = nonV a.f a.r (zroX a.e) from rfl]
  rw [show zroX a.e = zroV a.e.k a.e.n a.e.s a.e.l.length from rfl]
  generalize zroV a.e.k a.e.n a.e.s a.e.l.length = q at *
  generalize a.f = f at *
  generalize a.r = r at *
  generalize a.e.k = k at *
  generalize a.e.n = n at *
  generalize a.e.s = s at *
  generalize a.e.l.length = ll at *
  by_cases h15 : f = 0
  · subst h15
    by_cases h16 : r = 0
    · subst h16
      have B0 := hide (below_new w (.cells #[.int .i64 0, .int .i64 0, .int .i64 k, .int .i64 n, .string s, .slice b ll cap] 35))
      have V : nonV 0 0 q = q := by simp [nonV, *]
      rw [V]
      clear V
      go_enter Tryz.func80, Tryz.ntmps80
      go_wp2_with (go_at_call 89; refine (unhide Q _).mono ?_; rintro e w1 ⟨rfl, hb1⟩)
      go_ret
      exact ⟨rfl, (unhide B0).trans (hb1.mono (unhide B0).size)⟩
    have h16f : (r == 0) = false := beq_eq_false_iff_ne.2 h16
    have B0 := hide (below_new w (.cells #[.int .i64 0, .int .i64 r, .int .i64 k, .int .i64 n, .string s, .slice b ll cap] 35))
    have V : nonV 0 r q = false := by simp [nonV, *]
    rw [V]
    clear V
    go_enter Tryz.func80, Tryz.ntmps80
    go_wp2_with (go_at_call 89; refine (unhide Q _).mono ?_; rintro e w1 ⟨rfl, hb1⟩)
    go_ret
    exact ⟨rfl, unhide B0⟩
  have h15f : (f == 0) = false := beq_eq_false_iff_ne.2 h15
  have B0 := hide (below_new w (.cells #[.int .i64 f, .int .i64 r, .int .i64 k, .int .i64 n, .string s, .slice b ll cap] 35))
  have V : nonV f r q = false := by simp [nonV, *]
  rw [V]
  clear V
  go_enter Tryz.func80, Tryz.ntmps80
  go_wp2_with (go_at_call 89; refine (unhide Q _).mono ?_; rintro e w1 ⟨rfl, hb1⟩)
  go_ret
  exact ⟨rfl, unhide B0⟩
/-- What plainOf answers. -/
def PlnR (e : Ex) (w : World) (r : Ending) (w' : World) : Prop := ∃ v, r = .returned (.tuple #[v, .bool (okF 6 true e)]) ∧ (IfV v ∧ (okF 6 true e = true → v = tv e)) ∧ Below w.heap.size w w'
theorem plnR_of {e : Ex} {w : World} {r : Ending} {w' : World} {v tve : Value} {q : Bool} (ht : tv e = tve) (h : okF 6 true e = q) (hr : r = .returned (.tuple #[v, .bool q])) (hv : IfV v ∧ (q = true → v = tve)) (hb : Below w.heap.size w w') : PlnR e w r w' := ⟨v, by rw [h]; exact hr, ⟨hv.1, fun x => (hv.2 (h.symm.trans x)).trans ht.symm⟩, hb⟩
set_option maxHeartbeats 1000000 in
theorem plnO_any (e : Ex) (b : Option Addr) (cap : Nat) (w : World) (hr : RdX w 0 e b) (hz : e.sz ≤ 1048576) (ht : TabK w) : Calls Tryz.prog 65 #[.agg (e.cs b cap)] w (PlnR e w) := by
  have B0 := below_new w (.cells (e.cs b cap) 33)
  have HH := hide (term_all 6 (by omega) e b cap _ (hr.later B0) hz (ht.next B0))
  have HB := hide B0
  have IP := hide (fun w1 h => isp_all 6 e w1 h)
  have NP := hide (plain_not (d := 6) (e := e))
  clear hr B0 ht
  unfold TermR at HH
  obtain ⟨t, x, e1⟩ := tv_if e
  have FN := hide (fun r w' v q (h : okF 6 true e = q) => plnR_of (w := w) (r := r) (w' := w') (v := v) e1 h)
  rw [e1] at HH IP
  clear e1
  generalize PlnR e w = R at *
  generalize okF 6 false e = q at *
  generalize okF 6 true e = q2 at *
  unfold Ex.cs at HH HB ⊢
  generalize e.l.length = ll at *
  go_enter Tryz.func65, Tryz.ntmps65
  go_wp2_with fail
  refine (unhide HH).mono ?_
  rintro r w1 ⟨v, rfl, hv, hb1⟩
  have BB := hide ((unhide HB).trans (hb1.mono (unhide HB).size))
  have HI := hide hv.1
  cases q with
  | false =>
    have F2 := hide (fun r w' v => unhide FN r w' v false (unhide NP rfl))
    clear hb1 HH HB hv IP NP FN
    go_wp2
    (try go_ret2)
    exact unhide F2 _ _ _ rfl ⟨unhide HI, fun h => by cases h⟩ (unhide BB)
  | true =>
    have hve := hv.2 rfl
    subst hve
    have I2 := hide (unhide IP w1 rfl)
    have F2 := hide (fun r w' v => unhide FN r w' v q2 rfl)
    clear hb1 HH HB hv IP NP FN
    go_wp2_with (go_at_call 83; refine (unhide I2).mono ?_; rintro r w2 ⟨rfl, hb2⟩)
    (try go_ret2)
    exact unhide F2 _ _ _ rfl ⟨unhide HI, fun _ => rfl⟩ ((unhide BB).trans (hb2.mono (unhide BB).size))
/-- Whether one byte stands in a text. -/
def cntB (s : ByteArray) (c : UInt8) : Bool := decide (0 ≤ Lib.indexByte s.data.toList c)
set_option maxHeartbeats 1000000 in
set_option maxRecDepth 100000 in
theorem ixbI (s : ByteArray) (c : Int) (w : World) : Calls Tryz.prog 108 #[.string s, .int .u8 c] w fun e w' => e = .returned (.int .i64 (Lib.indexByte s.data.toList c.toNat.toUInt8)) ∧ w' = w := by
  have RN : ∀ w : World, (Extern.BytealgIndexByte.indexByte #[.string s, .int .u8 c]).run Tryz.prog w = .ok (.int .i64 (Lib.indexByte s.data.toList c.toNat.toUInt8)) w := fun w => Lib.run_indexByteString s c w
  generalize Lib.indexByte s.data.toList c.toNat.toUInt8 = z at *
  go_enter Tryz.func108, Tryz.ntmps108
  go_wp2
  rw [run_callFunc_extern Tryz.func112 (by kernel_rfl) (by kernel_rfl) (by kernel_rfl) (e := Extern.BytealgIndexByte.indexByte) (by kernel_rfl), RN]
  simp only [Result.andThen]
  rw [Oper.upon_value]
  go_wp2
  go_ret
  exact ⟨rfl, rfl⟩
set_option maxHeartbeats 2000000 in
theorem ixsI (s : ByteArray) (c : UInt8) (w : World) : Calls Tryz.prog 105 #[.string s, .string ⟨#[c]⟩] w fun e w' => e = .returned (.int .i64 (Lib.indexByte s.data.toList c)) ∧ w' = w := by
  have IX := hide (fun w => ixbI s c.toNat w)
  have hc : ((c.toNat : Int)).toNat.toUInt8 = c := by simp
  rw [hc] at IX
  have Z := hide (show ([c] == s.toList) = true → Lib.indexByte s.data.toList c = 0 from fun h => by
    have e : s.data.toList = [c] := by rw [← Lib.toList_data]; exact (beq_iff_eq.1 h).symm
    rw [e]
    simp [Lib.indexByte])
  clear hc
  generalize Lib.indexByte s.data.toList c = z at *
  cases hq : ([c] == s.toList) with
  | true =>
    have Z0 := unhide Z hq
    subst Z0
    clear Z
    go_enter Tryz.func105, Tryz.ntmps105
    go_wp2
    go_ret
    exact ⟨rfl, rfl⟩
  | false =>
    clear Z
    go_enter Tryz.func105, Tryz.ntmps105
    go_wp2_with (go_at_call 108; refine (unhide IX _).mono ?_; rintro e w' ⟨rfl, hw'⟩; rw [hw']; clear hw' w')
    go_ret
    exact ⟨rfl, rfl⟩
set_option maxHeartbeats 1000000 in
theorem ixtI (s : ByteArray) (c : UInt8) (w : World) : Calls Tryz.prog 98 #[.string s, .string ⟨#[c]⟩] w fun e w' => e = .returned (.int .i64 (Lib.indexByte s.data.toList c)) ∧ w' = w := by
  have IX := hide (fun w => ixsI s c w)
  generalize Lib.indexByte s.data.toList c = z at *
  go_enter Tryz.func98, Tryz.ntmps98
  go_wp2_with (go_at_call 105; refine (unhide IX _).mono ?_; rintro e w' ⟨rfl, hw'⟩; rw [hw']; clear hw' w')
  go_ret
  exact ⟨rfl, rfl⟩
set_option maxHeartbeats 1000000 in
theorem cntI (s : ByteArray) (c : UInt8) (w : World) : Calls Tryz.prog 90 #[.string s, .string ⟨#[c]⟩] w fun e w' => e = .returned (.bool (cntB s c)) ∧ w' = w := by
  have IX := hide (fun w => ixtI s c w)
  unfold cntB
  generalize Lib.indexByte s.data.toList c = z at *
  go_enter Tryz.func90, Tryz.ntmps90
  go_wp2_with (go_at_call 98; refine (unhide IX _).mono ?_; rintro e w' ⟨rfl, hw'⟩; rw [hw']; clear hw' w')
  go_ret
  exact ⟨rfl, rfl⟩
/-- Texts of operands, by their forms. -/
def fmL : List ByteArray := [⟨#[82]⟩, ⟨#[40, 82, 41]⟩, ⟨#[40, 82, 41, 43]⟩, ⟨#[64, 40, 82, 41, 43]⟩, ⟨#[45, 40, 82, 41]⟩, ⟨#[64, 45, 40, 82, 41]⟩, ⟨#[69, 40, 82, 41]⟩, ⟨#[64, 69, 40, 82, 41]⟩, ⟨#[35, 69]⟩, ⟨#[64, 35, 69]⟩, ⟨#[69]⟩, ⟨#[64, 69]⟩]
def fmC : Array Value := (fmL.map Value.string).toArray
def TabF (w : World) : Prop := ∃ t fr, w.heap[3]? = some (.cells fmC t fr)
theorem TabF.lt {w : World} (h : TabF w) : 3 < w.heap.size := by obtain ⟨t, fr, h⟩ := h; exact (Array.getElem?_eq_some_iff.1 h).1
theorem TabF.later {w w' : World} {B : Nat} (h : TabF w) (hb : Below B w w') (hB : 3 < B) : TabF w' := by
  obtain ⟨t, fr, h⟩ := h
  exact ⟨t, fr, (hb.block _ hB).trans h⟩
theorem TabF.next {w w' : World} (h : TabF w) (hb : Below w.heap.size w w') : TabF w' := h.later hb h.lt
theorem TabF.at0 {w : World} (h : TabF w) : w.cell? ⟨3, 0, none⟩ = some (.string ⟨#[82]⟩) := by obtain ⟨t, fr, h⟩ := h; exact Lib.cell_of_heap h 0
theorem TabF.at1 {w : World} (h : TabF w) : w.cell? ⟨3, 1, none⟩ = some (.string ⟨#[40, 82, 41]⟩) := by obtain ⟨t, fr, h⟩ := h; exact Lib.cell_of_heap h 1
theorem TabF.at2 {w : World} (h : TabF w) : w.cell? ⟨3, 2, none⟩ = some (.string ⟨#[40, 82, 41, 43]⟩) := by obtain ⟨t, fr, h⟩ := h; exact Lib.cell_of_heap h 2
theorem TabF.at3 {w : World} (h : TabF w) : w.cell? ⟨3, 3, none⟩ = some (.string ⟨#[64, 40, 82, 41, 43]⟩) := by obtain ⟨t, fr, h⟩ := h; exact Lib.cell_of_heap h 3
theorem TabF.at4 {w : World} (h : TabF w) : w.cell? ⟨3, 4, none⟩ = some (.string ⟨#[45, 40, 82, 41]⟩) := by obtain ⟨t, fr, h⟩ := h; exact Lib.cell_of_heap h 4
theorem TabF.at5 {w : World} (h : TabF w) : w.cell? ⟨3, 5, none⟩ = some (.string ⟨#[64, 45, 40, 82, 41]⟩) := by obtain ⟨t, fr, h⟩ := h; exact Lib.cell_of_heap h 5
theorem TabF.at6 {w : World} (h : TabF w) : w.cell? ⟨3, 6, none⟩ = some (.string ⟨#[69, 40, 82, 41]⟩) := by obtain ⟨t, fr, h⟩ := h; exact Lib.cell_of_heap h 6
theorem TabF.at7 {w : World} (h : TabF w) : w.cell? ⟨3, 7, none⟩ = some (.string ⟨#[64, 69, 40, 82, 41]⟩) := by obtain ⟨t, fr, h⟩ := h; exact Lib.cell_of_heap h 7
theorem TabF.at8 {w : World} (h : TabF w) : w.cell? ⟨3, 8, none⟩ = some (.string ⟨#[35, 69]⟩) := by obtain ⟨t, fr, h⟩ := h; exact Lib.cell_of_heap h 8
theorem TabF.at9 {w : World} (h : TabF w) : w.cell? ⟨3, 9, none⟩ = some (.string ⟨#[64, 35, 69]⟩) := by obtain ⟨t, fr, h⟩ := h; exact Lib.cell_of_heap h 9
theorem TabF.at10 {w : World} (h : TabF w) : w.cell? ⟨3, 10, none⟩ = some (.string ⟨#[69]⟩) := by obtain ⟨t, fr, h⟩ := h; exact Lib.cell_of_heap h 10
theorem TabF.at11 {w : World} (h : TabF w) : w.cell? ⟨3, 11, none⟩ = some (.string ⟨#[64, 69]⟩) := by obtain ⟨t, fr, h⟩ := h; exact Lib.cell_of_heap h 11
end Go.Proofs.YtmhcbehplhfgfaaGreatDoor

namespace Go.Proofs.YtmhcbehplhfgfaaGreatDoor
open Go.ChangeShapes Go.WideShapes Go.ChangeAt Go.RowKit
set_option linter.unusedVariables false
set_option maxRecDepth 8000
set_option linter.unusedSimpArgs false
set_option maxHeartbeats 4000000 in
theorem plnS_any (l : List Ex) (b : Option Addr) (cap : Nat) (w : World) (hr : RdX w 0 ⟨0, 0, E0, l⟩ b) (hz : l.length ≤ 1048576) (hp : ∀ i, i < l.length → (xAt l i).sz ≤ 1048576) : Calls Tryz.prog 27 #[.slice b l.length cap] w fun r w' => r = .returned (.bool (l.all (okF 6 true))) ∧ Below w.heap.size w w' := by
  rw [RdX_eq] at hr
  obtain ⟨len, hl⟩ : ∃ len, l.length = len := ⟨_, rfl⟩
  rw [hl] at hz hp ⊢
  have ne := Sub.ne w.heap.size w
  have HZ := hide (Nat.le_refl w.heap.size)
  have HB := hide (fun y : Sub w.heap.size w => y.h)
  obtain ⟨T, hT⟩ : ∃ T, (l.all (okF 6 true)) = T := ⟨_, rfl⟩
  have HT := hide hT
  rw [hT]
  clear hT
  go_enter Tryz.func27, Tryz.ntmps27
  go_wp2
  go_loopw [3] (fun i wr => ∃ (j : Nat) (z : Sub w.heap.size w), j ≤ len ∧ i = .int .i64 j ∧ (l.take j).all (okF 6 true) = true ∧ wr = z.w) (fun i _ => len - (intOf i).toNat)
  case atStart => exact ⟨0, ⟨w, Below.refl _ _⟩, Nat.zero_le _, rfl, rfl, rfl⟩
  case round =>
    obtain ⟨j, z, hj, rfl, hdone, rfl⟩ := hrel
    have HD := hide hdone
    clear hdone
    by_cases hlt : j < len
    · rcases hr with h0 | ⟨p1, po, hb1, _, hp1, hpc⟩
      · have h0 : l = [] := h0
        rw [h0] at hl; simp at hl; omega
      subst hb1
      obtain ⟨e0, e1, e2, pc, pp, e3, e4⟩ := hpc j (show j < l.length by omega)
      have d0 : ∀ y : Sub w.heap.size w, y.w.cell? ⟨p1, po + j * 4, none⟩ = some (.int .i64 (xAt l j).k) := fun y => (y.h.cell (p := ⟨p1, _, none⟩) hp1).trans e0
      have d1 : ∀ y : Sub w.heap.size w, y.w.cell? ⟨p1, po + j * 4 + 1, none⟩ = some (.int .i64 (xAt l j).n) := fun y => (y.h.cell (p := ⟨p1, _, none⟩) hp1).trans e1
      have d2 : ∀ y : Sub w.heap.size w, y.w.cell? ⟨p1, po + j * 4 + 2, none⟩ = some (.string (xAt l j).s) := fun y => (y.h.cell (p := ⟨p1, _, none⟩) hp1).trans e2
      have d3 : ∀ y : Sub w.heap.size w, y.w.cell? ⟨p1, po + j * 4 + 3, none⟩ = some (.slice pc (xAt l j).l.length pp) := fun y => (y.h.cell (p := ⟨p1, _, none⟩) hp1).trans e3
      have HE := hide (fun y : Sub w.heap.size w => plainS_any (xAt l j) pc pp y.w ((show RdX w 0 (xAt l j) pc from e4).later y.h) (hp j hlt))
      have AT := hide (all_take l (okF 6 true) j (by omega))
      have AP := hide (fun h => all_part (f := (okF 6 true)) (show j < l.length by omega) h)
      clear e0 e1 e2 e3 e4 hpc hp
      unfold Ex.cs at HE
      generalize okF 6 true (xAt l j) = q at *
      generalize (xAt l j).s = ss at *
      generalize (xAt l j).k = kk at *
      generalize (xAt l j).n = nn at *
      generalize (xAt l j).l.length = ll at *
      cases q with
      | false =>
        have EF := hide ((unhide HT).symm.trans (unhide AP rfl))
        go_wp2_with (go_at_call 56; refine (Sub.call (unhide HZ) (unhide HE _)).mono ?_; rintro r _ ⟨rfl, z2, rfl⟩)
        go_ret
        exact ⟨by rw [unhide EF]; rfl, unhide HB _⟩
      | true =>
        go_wp2_with (go_at_call 56; refine (Sub.call (unhide HZ) (unhide HE _)).mono ?_; rintro r _ ⟨rfl, z2, rfl⟩)
        go_roundw
        case rel => exact ⟨j + 1, z2, by omega, by go_num, by rw [unhide AT, unhide HD]; rfl, rfl⟩
        case measure => simp [intOf]; omega
    · obtain rfl : j = len := by omega
      have EF := hide ((show l.all (okF 6 true) = (l.take j).all (okF 6 true) by rw [← hl, List.take_length]).trans (unhide HD))
      have EF := hide ((unhide HT).symm.trans (unhide EF))
      go_wp2
      go_ret
      exact ⟨by rw [unhide EF]; rfl, unhide HB _⟩
/-- A term that is a name. -/
def nmF (e : Ex) : Bool := okF 6 true e && e.k == 2
theorem nmF_is (e : Ex) : nmF e = (okF 6 true e && e.k == 2) := rfl
def nmsX (l : List Ex) : Bool := l.all nmF && inB l.length 1 6
set_option maxHeartbeats 4000000 in
theorem nmsS_any (l : List Ex) (b : Option Addr) (cap : Nat) (w : World) (hr : RdX w 0 ⟨0, 0, E0, l⟩ b) (hz : l.length ≤ 1048576) (hp : ∀ i, i < l.length → (xAt l i).sz ≤ 1048576) : Calls Tryz.prog 29 #[.slice b l.length cap] w fun r w' => r = .returned (.bool (nmsX l)) ∧ Below w.heap.size w w' := by
  rw [RdX_eq] at hr
  obtain ⟨len, hl⟩ : ∃ len, l.length = len := ⟨_, rfl⟩
  unfold nmsX
  rw [hl] at hz hp ⊢
  have ne := Sub.ne w.heap.size w
  have HZ := hide (Nat.le_refl w.heap.size)
  have HB := hide (fun y : Sub w.heap.size w => y.h)
  obtain ⟨T, hT⟩ : ∃ T, (l.all nmF && inB len 1 6) = T := ⟨_, rfl⟩
  have HT := hide hT
  rw [hT]
  clear hT
  go_enter Tryz.func29, Tryz.ntmps29
  go_wp2
  go_loopw [3] (fun i wr => ∃ (j : Nat) (z : Sub w.heap.size w), j ≤ len ∧ i = .int .i64 j ∧ (l.take j).all nmF = true ∧ wr = z.w) (fun i _ => len - (intOf i).toNat)
  case atStart => exact ⟨0, ⟨w, Below.refl _ _⟩, Nat.zero_le _, rfl, rfl, rfl⟩
  case round =>
    obtain ⟨j, z, hj, rfl, hdone, rfl⟩ := hrel
    have HD := hide hdone
    clear hdone
    by_cases hlt : j < len
    · rcases hr with h0 | ⟨p1, po, hb1, _, hp1, hpc⟩
      · have h0 : l = [] := h0
        rw [h0] at hl; simp at hl; omega
      subst hb1
      obtain ⟨e0, e1, e2, pc, pp, e3, e4⟩ := hpc j (show j < l.length by omega)
      have d0 : ∀ y : Sub w.heap.size w, y.w.cell? ⟨p1, po + j * 4, none⟩ = some (.int .i64 (xAt l j).k) := fun y => (y.h.cell (p := ⟨p1, _, none⟩) hp1).trans e0
      have d1 : ∀ y : Sub w.heap.size w, y.w.cell? ⟨p1, po + j * 4 + 1, none⟩ = some (.int .i64 (xAt l j).n) := fun y => (y.h.cell (p := ⟨p1, _, none⟩) hp1).trans e1
      have d2 : ∀ y : Sub w.heap.size w, y.w.cell? ⟨p1, po + j * 4 + 2, none⟩ = some (.string (xAt l j).s) := fun y => (y.h.cell (p := ⟨p1, _, none⟩) hp1).trans e2
      have d3 : ∀ y : Sub w.heap.size w, y.w.cell? ⟨p1, po + j * 4 + 3, none⟩ = some (.slice pc (xAt l j).l.length pp) := fun y => (y.h.cell (p := ⟨p1, _, none⟩) hp1).trans e3
      have HE := hide (fun y : Sub w.heap.size w => plainS_any (xAt l j) pc pp y.w ((show RdX w 0 (xAt l j) pc from e4).later y.h) (hp j hlt))
      have AT := hide (all_take l nmF j (by omega))
      have AP := hide (fun h => all_part (f := nmF) (show j < l.length by omega) h)
      clear e0 e1 e2 e3 e4 hpc hp
      unfold Ex.cs at HE
      rw [nmF_is] at AT AP
      generalize okF 6 true (xAt l j) = q at *
      generalize (xAt l j).s = ss at *
      generalize (xAt l j).k = kk at *
      generalize (xAt l j).n = nn at *
      generalize (xAt l j).l.length = ll at *
      cases q with
      | false =>
        have EF := hide ((unhide HT).symm.trans (show (l.all nmF && inB len 1 6) = false by rw [unhide AP rfl]; rfl))
        go_wp2_with (go_at_call 56; refine (Sub.call (unhide HZ) (unhide HE _)).mono ?_; rintro r _ ⟨rfl, z2, rfl⟩)
        go_ret
        exact ⟨by rw [unhide EF]; rfl, unhide HB _⟩
      | true =>
        by_cases hk : kk = 2
        · subst hk
          go_wp2_with (go_at_call 56; refine (Sub.call (unhide HZ) (unhide HE _)).mono ?_; rintro r _ ⟨rfl, z2, rfl⟩)
          go_roundw
          case rel => exact ⟨j + 1, z2, by omega, by go_num, by rw [unhide AT, unhide HD]; rfl, rfl⟩
          case measure => simp [intOf]; omega
        have hkf : (kk == 2) = false := beq_eq_false_iff_ne.2 hk
        have EF := hide ((unhide HT).symm.trans (show (l.all nmF && inB len 1 6) = false by rw [unhide AP (by rw [hkf]; rfl)]; rfl))
        go_wp2_with (go_at_call 56; refine (Sub.call (unhide HZ) (unhide HE _)).mono ?_; rintro r _ ⟨rfl, z2, rfl⟩)
        go_ret
        exact ⟨by rw [unhide EF]; rfl, unhide HB _⟩
    · obtain rfl : j = len := by omega
      have EF := hide ((show l.all nmF = (l.take j).all nmF by rw [← hl, List.take_length]).trans (unhide HD))
      have EF := hide ((unhide HT).symm.trans (show (l.all nmF && inB j 1 6) = inB j 1 6 by rw [unhide EF]; rfl))
      go_wp2_with (go_at_call 28; refine (in_any _ _ _ _).mono ?_; rintro e w' ⟨rfl, hw'⟩; rw [hw']; clear hw' w')
      go_ret
      exact ⟨by rw [unhide EF]; rfl, unhide HB _⟩
end Go.Proofs.YtmhcbehplhfgfaaGreatDoor
