/- Contracts over this seat's translation, laid together; conditions stand as hypotheses of each. -/
import Derived.Test.YtkolflcjkofleaaDoorTxA
import Derived.Test.YtkolflcjkofleaaDoorTxC
import Derived.Test.YtkolflcjkofleaaDoorTxD
import Derived.Test.YtkolflcjkofleaaDoorTxE
import Derived.Test.YtkolflcjkofleaaDoorTxG
import Derived.Test.YtkolflcjkofleaaDoorTxH
import Derived.MapKept
import Derived.Carry
import Derived.LoopN
import Derived.Laws.StructEq

namespace Go.Proofs.YtkolflcjkofleaaDoor
open Go.ChangeShapes Go.WideShapes Go.ChangeAt Go.RowKit
set_option linter.unusedVariables false
set_option maxRecDepth 8000
set_option linter.unusedSimpArgs false

set_option maxHeartbeats 2000000 in
theorem pair_any (k : Int) (u v : Value) (w : World) : Calls Tryd.prog 68 #[.int .i64 k, .agg #[u, v]] w fun r w' => ∃ x, r = .returned (.tuple #[x, .bool (inB k 5 10)]) ∧ (inB k 5 10 = true → x = .iface (pairT k) (.agg #[u, v])) ∧ Below w.heap.size w w' := by
  have B0 := hide (below_new w (.cells #[u, v] 107))
  by_cases h5 : k = 5
  · subst h5
    rw [show inB 5 5 10 = true by decide]
    go_enter Tryd.func68, Tryd.ntmps68
    go_wp2
    go_ret2
    exact ⟨_, rfl, fun _ => rfl, unhide B0⟩
  by_cases h6 : k = 6
  · subst h6
    rw [show inB 6 5 10 = true by decide]
    go_enter Tryd.func68, Tryd.ntmps68
    go_wp2
    go_ret2
    exact ⟨_, rfl, fun _ => rfl, unhide B0⟩
  by_cases h7 : k = 7
  · subst h7
    rw [show inB 7 5 10 = true by decide]
    go_enter Tryd.func68, Tryd.ntmps68
    go_wp2
    go_ret2
    exact ⟨_, rfl, fun _ => rfl, unhide B0⟩
  by_cases h8 : k = 8
  · subst h8
    rw [show inB 8 5 10 = true by decide]
    go_enter Tryd.func68, Tryd.ntmps68
    go_wp2
    go_ret2
    exact ⟨_, rfl, fun _ => rfl, unhide B0⟩
  by_cases h9 : k = 9
  · subst h9
    rw [show inB 9 5 10 = true by decide]
    go_enter Tryd.func68, Tryd.ntmps68
    go_wp2
    go_ret2
    exact ⟨_, rfl, fun _ => rfl, unhide B0⟩
  by_cases h10 : k = 10
  · subst h10
    rw [show inB 10 5 10 = true by decide]
    go_enter Tryd.func68, Tryd.ntmps68
    go_wp2
    go_ret2
    exact ⟨_, rfl, fun _ => rfl, unhide B0⟩
  have g5 : (k == 5) = false := beq_eq_false_iff_ne.2 h5
  have g6 : (k == 6) = false := beq_eq_false_iff_ne.2 h6
  have g7 : (k == 7) = false := beq_eq_false_iff_ne.2 h7
  have g8 : (k == 8) = false := beq_eq_false_iff_ne.2 h8
  have g9 : (k == 9) = false := beq_eq_false_iff_ne.2 h9
  have g10 : (k == 10) = false := beq_eq_false_iff_ne.2 h10
  rw [show inB k 5 10 = false by unfold inB; simp; omega]
  go_enter Tryd.func68, Tryd.ntmps68
  go_wp2
  go_ret2
  exact ⟨_, rfl, (fun h => by cases h), unhide B0⟩
theorem here_one (k : Int) : hereV k 0 ⟨#[]⟩ 1 = (k == 4) := by
  unfold hereV Ex.here
  simp only [List.length_replicate, eqE1]
  by_cases h1 : k = 1
  · subst h1; rfl
  by_cases h2 : k = 2
  · subst h2; simp
  by_cases h12 : k = 12
  · subst h12; simp
  by_cases h11 : k = 11
  · subst h11; simp
  by_cases h3 : k = 3
  · subst h3; rfl
  by_cases h4 : k = 4
  · subst h4; rfl
  rw [if_neg (by simp), if_neg h1, if_neg (by omega), if_neg h3, if_neg h4, show (k == 4) = false from beq_eq_false_iff_ne.2 h4]
  split
  · rfl
  · rfl
theorem here_two (k : Int) : hereV k 0 ⟨#[]⟩ 2 = inB k 5 10 := by
  unfold hereV Ex.here
  simp only [List.length_replicate, eqE1]
  by_cases h1 : k = 1
  · subst h1; rfl
  by_cases h2 : k = 2
  · subst h2; simp [inB]
  by_cases h12 : k = 12
  · subst h12; simp [inB]
  by_cases h11 : k = 11
  · subst h11; simp [inB]
  by_cases h3 : k = 3
  · subst h3; rfl
  by_cases h4 : k = 4
  · subst h4; rfl
  rw [if_neg (by simp), if_neg h1, if_neg (by omega), if_neg h3, if_neg h4]
  split
  · rename_i h; rw [inB_t _ _ _ h.1 h.2]; rfl
  · rename_i h; rw [inB_f _ _ _ h]
theorem here_more (k n : Int) (s : ByteArray) (ll : Nat) (h : 3 ≤ ll) : hereV k n s ll = false := by
  have e0 : (ll == 0) = false := beq_eq_false_iff_ne.2 (by omega)
  have e1 : (ll == 1) = false := beq_eq_false_iff_ne.2 (by omega)
  have e2 : (ll == 2) = false := beq_eq_false_iff_ne.2 (by omega)
  unfold hereV Ex.here
  simp only [List.length_replicate, e0, e1, e2, Bool.and_false]
  repeat' split
  all_goals rfl
theorem hereV_n (k n : Int) (s : ByteArray) (ll : Nat) (h : 1 ≤ ll) (hn : n ≠ 0) : hereV k n s ll = false := by
  have e0 : (ll == 0) = false := beq_eq_false_iff_ne.2 (by omega)
  have en : (n != 0) = true := by simp [hn]
  unfold hereV Ex.here
  simp only [List.length_replicate, e0, Bool.and_false, en, Bool.and_true]
  by_cases h1 : k = 1
  · subst h1; repeat' split
    all_goals first | rfl | omega
  by_cases h11 : k = 11
  · subst h11; repeat' split
    all_goals first | rfl | omega
  rw [if_pos (by simp [h1, h11])]
theorem hereV_s (k n : Int) (s : ByteArray) (ll : Nat) (h : 1 ≤ ll) (hs : s ≠ E0) : hereV k n s ll = false := by
  have e0 : (ll == 0) = false := beq_eq_false_iff_ne.2 (by omega)
  have es := (emp_E s hs).2
  unfold hereV Ex.here
  simp only [List.length_replicate, e0, Bool.and_false, es, Bool.not_false, Bool.and_true]
  by_cases h1 : k = 2
  · subst h1; repeat' split
    all_goals first | rfl | omega
  by_cases h11 : k = 12
  · subst h11; repeat' split
    all_goals first | rfl | omega
  rw [if_pos (by simp [h1, h11])]
theorem okf_v (d : Nat) (k n : Int) (s : ByteArray) (l : List Ex) : okF (d + 1) false ⟨k, n, s, l⟩ = (hereV k n s l.length && l.all (okF d false)) := by
  rw [okF_s, here_is]
  rfl
theorem tv_if (e : Ex) : ∃ t x, tv e = .iface t x := by
  obtain ⟨k, n, s, l⟩ := e
  rw [tv]
  unfold tvC
  repeat' split
  all_goals exact ⟨_, _, rfl⟩
def TermR (d : Nat) (e : Ex) (w : World) (r : Ending) (w' : World) : Prop := ∃ v, r = .returned (.tuple #[v, .bool (okF d false e)]) ∧ (okF d false e = true → v = tv e) ∧ Below w.heap.size w w'
theorem termR_of {d : Nat} {e : Ex} {w : World} {r : Ending} {w' : World} {v : Value} {q : Bool} (h : okF d false e = q) (hr : r = .returned (.tuple #[v, .bool q])) (hv : q = true → v = tv e) (hb : Below w.heap.size w w') : TermR d e w r w' := ⟨v, by rw [h]; exact hr, fun x => hv (h.symm.trans x), hb⟩
def TermP (d : Nat) : Prop := ∀ (e : Ex) (b : Option Addr) (cap : Nat) (w : World), RdX w 0 e b → e.sz ≤ 1048576 → TabK w → Calls Tryd.prog 45 #[.agg (e.cs b cap), .int .i64 d] w (TermR d e w)
theorem rd_at {w : World} {e : Ex} {b : Option Addr} (h : RdX w 0 e b) {i : Nat} (hi : i < e.l.length) : ∃ p po, b = some ⟨p, po, none⟩ ∧ p < w.heap.size ∧ OneX w 0 p (po + i * 4) (xAt e.l i) := by
  rw [RdX_eq] at h
  rcases h with h | ⟨p, po, rfl, _, hp, hc⟩
  · rw [h] at hi; simp at hi
  · exact ⟨p, po, rfl, hp, hc i hi⟩
set_option maxHeartbeats 2000000 in
theorem term_zero : TermP 0 := by
  intro e b cap w hr hz ht
  have B0 := hide (below_new w (.cells (e.cs b cap) 26))
  have FN := hide (fun r w' v => termR_of (d := 0) (e := e) (w := w) (r := r) (w' := w') (v := v) rfl)
  generalize TermR 0 e w = R at *
  unfold Ex.cs at B0 ⊢
  go_enter Tryd.func45, Tryd.ntmps45
  go_wp2
  (try go_ret2)
  exact unhide FN _ _ _ rfl (fun h => by cases h) (unhide B0)
set_option maxHeartbeats 2000000 in
theorem term_nil (d : Nat) (h6 : d ≤ 6) (k n : Int) (s : ByteArray) (b : Option Addr) (cap : Nat) (w : World) (hs : s.size ≤ 1048576) (ht : TabK w) : Calls Tryd.prog 45 #[.agg #[.int .i64 k, .int .i64 n, .string s, .slice b 0 cap], .int .i64 ((d + 1 : Nat) : Int)] w (TermR (d + 1) ⟨k, n, s, []⟩ w) := by
  obtain ⟨W, hW⟩ : ∃ W, w.alloc (.cells #[.int .i64 k, .int .i64 n, .string s, .slice b 0 cap] 26) = W := ⟨_, rfl⟩
  have B0 := hide (below_new w (.cells #[.int .i64 k, .int .i64 n, .string s, .slice b 0 cap] 26))
  have hg : W.heap[w.heap.size]? = some (.cells #[.int .i64 k, .int .i64 n, .string s, .slice b 0 cap] 26 (0, 0)) := by rw [← hW]; exact Array.getElem?_push_size
  rw [hW] at B0
  have x0 := Lib.cell_of_heap hg 0
  have x1 := Lib.cell_of_heap hg 1
  have x2 := Lib.cell_of_heap hg 2
  have x3 := Lib.cell_of_heap hg 3
  have xl : w.heap.size < W.heap.size := (Array.getElem?_eq_some_iff.1 hg).1
  have hd0 : (((d + 1 : Nat) : Int) == 0) = false := beq_eq_false_iff_ne.2 (by omega)
  have hd1 : ((d + 1 : Nat) : Int) - 1 = (d : Int) := by omega
  have hdb : 0 ≤ ((d + 1 : Nat) : Int) ∧ ((d + 1 : Nat) : Int) ≤ 100 := by omega
  have LF := hide (leaf_any k n s b 0 cap W (by omega) (ht.next (unhide B0)))
  have FN := hide (fun r w' v q (h : hereV k n s 0 = q) => termR_of (d := d + 1) (e := ⟨k, n, s, []⟩) (w := w) (r := r) (w' := w') (v := v) ((okf_v d k n s []).trans ((Bool.and_true _).trans h)))
  have TV := hide (show tv ⟨k, n, s, []⟩ = tvC k n s [] by rw [tv]; rfl)
  rw [unhide TV] at FN
  generalize TermR (d + 1) ⟨k, n, s, []⟩ w = R at *
  clear hg xl ht TV
  generalize hDD : ((d + 1 : Nat) : Int) = DD at *
  go_enter Tryd.func45, Tryd.ntmps45
  go_wp2_with fail
  refine (unhide LF).mono ?_
  rintro r w1 ⟨v, rfl, hv, hb1⟩
  have F2 := hide (unhide FN (.returned (.tuple #[v, .bool (hereV k n s 0)])) w1 v _ rfl rfl hv ((unhide B0).trans (hb1.mono (unhide B0).size)))
  generalize hereV k n s 0 = q at *
  clear FN hv hb1
  go_wp2
  (try go_ret2)
  exact unhide F2
set_option maxHeartbeats 2000000 in
theorem term_bad (d : Nat) (h6 : d ≤ 6) (k n : Int) (s : ByteArray) (l : List Ex) (b : Option Addr) (cap : Nat) (w : World) (hz : l.length ≤ 1048576) (h1 : 1 ≤ l.length) (h : 3 ≤ l.length ∨ n ≠ 0 ∨ s ≠ E0) : Calls Tryd.prog 45 #[.agg #[.int .i64 k, .int .i64 n, .string s, .slice b l.length cap], .int .i64 ((d + 1 : Nat) : Int)] w (TermR (d + 1) ⟨k, n, s, l⟩ w) := by
  have V : hereV k n s l.length = false := by
    rcases h with h | h | h
    · exact here_more k n s _ h
    · exact hereV_n k n s _ h1 h
    · exact hereV_s k n s _ h1 h
  have FN := hide (fun r w' v => termR_of (d := d + 1) (e := ⟨k, n, s, l⟩) (w := w) (r := r) (w' := w') (v := v) (q := false) (by rw [okf_v, V]; rfl))
  generalize TermR (d + 1) ⟨k, n, s, l⟩ w = R at *
  clear V
  generalize l.length = ll at *
  obtain ⟨W, hW⟩ : ∃ W, w.alloc (.cells #[.int .i64 k, .int .i64 n, .string s, .slice b ll cap] 26) = W := ⟨_, rfl⟩
  have B0 := hide (below_new w (.cells #[.int .i64 k, .int .i64 n, .string s, .slice b ll cap] 26))
  have hg : W.heap[w.heap.size]? = some (.cells #[.int .i64 k, .int .i64 n, .string s, .slice b ll cap] 26 (0, 0)) := by rw [← hW]; exact Array.getElem?_push_size
  rw [hW] at B0
  have x0 := Lib.cell_of_heap hg 0
  have x1 := Lib.cell_of_heap hg 1
  have x2 := Lib.cell_of_heap hg 2
  have x3 := Lib.cell_of_heap hg 3
  have xl : w.heap.size < W.heap.size := (Array.getElem?_eq_some_iff.1 hg).1
  have hd0 : (((d + 1 : Nat) : Int) == 0) = false := beq_eq_false_iff_ne.2 (by omega)
  have hd1 : ((d + 1 : Nat) : Int) - 1 = (d : Int) := by omega
  have hdb : 0 ≤ ((d + 1 : Nat) : Int) ∧ ((d + 1 : Nat) : Int) ≤ 100 := by omega
  clear hg xl
  have h0 : ((ll : Int) == 0) = false := beq_eq_false_iff_ne.2 (by omega)
  generalize hDD : ((d + 1 : Nat) : Int) = DD at *
  by_cases h3 : 3 ≤ ll
  · have g3 : (2 : Int) < (ll : Int) := by omega
    clear h
    go_enter Tryd.func45, Tryd.ntmps45
    go_wp2
    (try go_ret2)
    exact unhide FN _ _ _ rfl (fun h => by cases h) (unhide B0)
  · have g3 : decide ((2 : Int) < (ll : Int)) = false := decide_eq_false (by omega)
    have g4 : decide (2 < ll) = false := decide_eq_false (by omega)
    by_cases hn : n = 0
    · subst hn
      have hs : s ≠ E0 := by rcases h with h | h | h; omega; exact absurd rfl h; exact h
      obtain ⟨e1, e2⟩ := emp_E s hs
      clear h
      go_enter Tryd.func45, Tryd.ntmps45
      go_wp2
      (try go_ret2)
      exact unhide FN _ _ _ rfl (fun h => by cases h) (unhide B0)
    · have en : (n == 0) = false := beq_eq_false_iff_ne.2 hn
      clear h
      go_enter Tryd.func45, Tryd.ntmps45
      go_wp2
      (try go_ret2)
      exact unhide FN _ _ _ rfl (fun h => by cases h) (unhide B0)
set_option maxHeartbeats 4000000 in
theorem term_one (d : Nat) (h6 : d ≤ 6) (ih : TermP d) (k : Int) (a : Ex) (b : Option Addr) (cap : Nat) (w : World) (hr : RdX w 0 ⟨k, 0, ⟨#[]⟩, [a]⟩ b) (hz : a.sz ≤ 1048576) (ht : TabK w) : Calls Tryd.prog 45 #[.agg #[.int .i64 k, .int .i64 0, .string ⟨#[]⟩, .slice b 1 cap], .int .i64 ((d + 1 : Nat) : Int)] w (TermR (d + 1) ⟨k, 0, ⟨#[]⟩, [a]⟩ w) := by
  obtain ⟨W, hW⟩ : ∃ W, w.alloc (.cells #[.int .i64 k, .int .i64 0, .string ⟨#[]⟩, .slice b 1 cap] 26) = W := ⟨_, rfl⟩
  have B0 := hide (below_new w (.cells #[.int .i64 k, .int .i64 0, .string ⟨#[]⟩, .slice b 1 cap] 26))
  have hg : W.heap[w.heap.size]? = some (.cells #[.int .i64 k, .int .i64 0, .string ⟨#[]⟩, .slice b 1 cap] 26 (0, 0)) := by rw [← hW]; exact Array.getElem?_push_size
  rw [hW] at B0
  have x0 := Lib.cell_of_heap hg 0
  have x1 := Lib.cell_of_heap hg 1
  have x2 := Lib.cell_of_heap hg 2
  have x3 := Lib.cell_of_heap hg 3
  have xl : w.heap.size < W.heap.size := (Array.getElem?_eq_some_iff.1 hg).1
  have hd0 : (((d + 1 : Nat) : Int) == 0) = false := beq_eq_false_iff_ne.2 (by omega)
  have hd1 : ((d + 1 : Nat) : Int) - 1 = (d : Int) := by omega
  have hdb : 0 ≤ ((d + 1 : Nat) : Int) ∧ ((d + 1 : Nat) : Int) ≤ 100 := by omega
  obtain ⟨p, po, rfl, hp, o0⟩ := rd_at (hr.later (unhide B0)) (i := 0) (show 0 < [a].length by simp)
  obtain ⟨e00, e01, e02, c0, cp0, e03, e04⟩ := o0
  simp only [show xAt [a] 0 = a from rfl] at e00 e01 e02 e03 e04
  rw [Nat.zero_mul, Nat.add_zero] at e00 e01 e02 e03
  have IH := hide (ih a c0 cp0 W e04 hz (ht.next (unhide B0)))
  have FN := hide (fun r w' v q (h : (k == 4 && okF d false a) = q) => termR_of (d := d + 1) (e := ⟨k, 0, ⟨#[]⟩, [a]⟩) (w := w) (r := r) (w' := w') (v := v) (q := q) (by rw [okf_v, ← h, show [a].length = 1 from rfl, here_one]; simp))
  have TV := hide (show k = 4 → tv ⟨k, 0, ⟨#[]⟩, [a]⟩ = .iface 104 (.agg #[tv a]) by rintro rfl; exact tv_neg _ _ _)
  generalize tv ⟨k, 0, ⟨#[]⟩, [a]⟩ = tve at *
  generalize TermR (d + 1) ⟨k, 0, ⟨#[]⟩, [a]⟩ w = R at *
  unfold Ex.cs at IH
  generalize a.k = ak at *
  generalize a.n = an at *
  generalize a.s = asv at *
  generalize a.l.length = al at *
  have y0 : ∀ w1, Below W.heap.size W w1 → w1.cell? ⟨w.heap.size, 0, none⟩ = some (.int .i64 k) := fun w1 hb => (hb.cell (p := ⟨w.heap.size, _, none⟩) xl).trans x0
  have y3 : ∀ w1, Below W.heap.size W w1 → w1.cell? ⟨w.heap.size, 3, none⟩ = some (.slice (some ⟨p, po, none⟩) 1 cap) := fun w1 hb => (hb.cell (p := ⟨w.heap.size, _, none⟩) xl).trans x3
  have Y0 := hide y0
  have Y3 := hide y3
  have KQ : k = 4 ∨ k ≠ 4 := by omega
  clear hg xl ht hr hz ih e04 y0 y3 hp
  generalize hDD : ((d + 1 : Nat) : Int) = DD at *
  go_enter Tryd.func45, Tryd.ntmps45
  go_wp2_with fail
  refine (unhide IH).mono ?_
  rintro r w1 ⟨v, rfl, hv, hb1⟩
  have BB := hide ((unhide B0).trans (hb1.mono (unhide B0).size))
  have z0 := unhide Y0 w1 hb1
  have z3 := unhide Y3 w1 hb1
  have HV := hide hv
  generalize okF d false a = q at *
  clear hv hb1 Y0 Y3 IH x0 x1 x2 x3 e00 e01 e02 e03
  cases q with
  | false =>
    have F2 := hide (fun r w' v => unhide FN r w' v false (Bool.and_false _))
    clear FN
    go_wp2
    (try go_ret2)
    exact unhide F2 _ _ _ rfl (fun h => by cases h) (unhide BB)
  | true =>
    obtain ⟨t1, x1, e1⟩ := tv_if a
    have hve := unhide HV rfl
    rw [e1] at hve TV
    subst hve
    clear HV e1
    have xl1 : w.heap.size < w1.heap.size := World.block_lt_of_cell? w1 _ z0
    have q0 : ∀ y : Sub w1.heap.size w1, y.w.cell? ⟨w.heap.size, 0, none⟩ = some (.int .i64 k) := fun y => (y.h.cell (p := ⟨w.heap.size, _, none⟩) xl1).trans z0
    have ne := Sub.ne w1.heap.size w1
    have BY := hide (fun y : Sub w1.heap.size w1 => (unhide BB).trans (y.h.mono (unhide BB).size))
    clear xl1
    rcases KQ with rfl | hk
    · have F2 := hide (fun r w' (hr : r = .returned (.tuple #[.iface 104 (.agg #[.iface t1 x1]), .bool true])) hb => unhide FN r w' _ true rfl hr (fun _ => (unhide TV rfl).symm) hb)
      clear FN TV
      go_wp2_with fail
      refine wp_region_sub (⟨w1, Below.refl _ _⟩ : Sub w1.heap.size w1) (by kernel_rfl) (by kernel_rfl) ?_
      repeat (go_big_quiet_step (first | fail))
      refine wpQuiet_nil ?_
      intro y
      go_wp2
      (try go_ret2)
      exact unhide F2 _ _ rfl (unhide BY _)
    · have hk4 : (k == 4) = false := beq_eq_false_iff_ne.2 hk
      have F2 := hide (fun r w' v => unhide FN r w' v false (by rw [hk4]; rfl))
      clear FN TV
      go_wp2_with fail
      refine wp_region_sub (⟨w1, Below.refl _ _⟩ : Sub w1.heap.size w1) (by kernel_rfl) (by kernel_rfl) ?_
      repeat (go_big_quiet_step (first | fail))
      refine wpQuiet_nil ?_
      intro y
      go_wp2
      (try go_ret2)
      exact unhide F2 _ _ _ rfl (fun h => by cases h) (unhide BY _)
set_option maxHeartbeats 4000000 in
theorem term_two (d : Nat) (h6 : d ≤ 6) (ih : TermP d) (k : Int) (a a2 : Ex) (b : Option Addr) (cap : Nat) (w : World) (hr : RdX w 0 ⟨k, 0, ⟨#[]⟩, [a, a2]⟩ b) (hz : a.sz ≤ 1048576) (hz2 : a2.sz ≤ 1048576) (ht : TabK w) : Calls Tryd.prog 45 #[.agg #[.int .i64 k, .int .i64 0, .string ⟨#[]⟩, .slice b 2 cap], .int .i64 ((d + 1 : Nat) : Int)] w (TermR (d + 1) ⟨k, 0, ⟨#[]⟩, [a, a2]⟩ w) := by
  obtain ⟨W, hW⟩ : ∃ W, w.alloc (.cells #[.int .i64 k, .int .i64 0, .string ⟨#[]⟩, .slice b 2 cap] 26) = W := ⟨_, rfl⟩
  have B0 := hide (below_new w (.cells #[.int .i64 k, .int .i64 0, .string ⟨#[]⟩, .slice b 2 cap] 26))
  have hg : W.heap[w.heap.size]? = some (.cells #[.int .i64 k, .int .i64 0, .string ⟨#[]⟩, .slice b 2 cap] 26 (0, 0)) := by rw [← hW]; exact Array.getElem?_push_size
  rw [hW] at B0
  have x0 := Lib.cell_of_heap hg 0
  have x1 := Lib.cell_of_heap hg 1
  have x2 := Lib.cell_of_heap hg 2
  have x3 := Lib.cell_of_heap hg 3
  have xl : w.heap.size < W.heap.size := (Array.getElem?_eq_some_iff.1 hg).1
  have hd0 : (((d + 1 : Nat) : Int) == 0) = false := beq_eq_false_iff_ne.2 (by omega)
  have hd1 : ((d + 1 : Nat) : Int) - 1 = (d : Int) := by omega
  have hdb : 0 ≤ ((d + 1 : Nat) : Int) ∧ ((d + 1 : Nat) : Int) ≤ 100 := by omega
  obtain ⟨p, po, rfl, hp, o0⟩ := rd_at (hr.later (unhide B0)) (i := 0) (show 0 < [a, a2].length by simp)
  obtain ⟨_, _, hpe, _, o1⟩ := rd_at (hr.later (unhide B0)) (i := 1) (show 1 < [a, a2].length by simp)
  cases hpe
  obtain ⟨e00, e01, e02, c0, cp0, e03, e04⟩ := o0
  simp only [show xAt [a, a2] 0 = a from rfl] at e00 e01 e02 e03 e04
  obtain ⟨e10, e11, e12, c1, cp1, e13, e14⟩ := o1
  simp only [show xAt [a, a2] 1 = a2 from rfl] at e10 e11 e12 e13 e14
  rw [Nat.zero_mul, Nat.add_zero] at e00 e01 e02 e03
  rw [Nat.one_mul] at e10 e11 e12 e13
  have IH := hide (ih a c0 cp0 W e04 hz (ht.next (unhide B0)))
  have IH2 := hide (fun w1 (hb : Below W.heap.size W w1) => ih a2 c1 cp1 w1 (e14.later hb) hz2 ((ht.next (unhide B0)).next hb))
  have FN := hide (fun r w' v q (h : (inB k 5 10 && (okF d false a && okF d false a2)) = q) => termR_of (d := d + 1) (e := ⟨k, 0, ⟨#[]⟩, [a, a2]⟩) (w := w) (r := r) (w' := w') (v := v) (q := q) (by rw [okf_v, ← h, show [a, a2].length = 2 from rfl, here_two]; simp))
  have TV := hide (show inB k 5 10 = true → tv ⟨k, 0, ⟨#[]⟩, [a, a2]⟩ = .iface (pairT k) (.agg #[tv a, tv a2]) by intro h; exact tv_two ((inB_iff _ _ _).1 h) _ _ _ _)
  generalize tv ⟨k, 0, ⟨#[]⟩, [a, a2]⟩ = tve at *
  generalize TermR (d + 1) ⟨k, 0, ⟨#[]⟩, [a, a2]⟩ w = R at *
  unfold Ex.cs at IH IH2
  generalize a.k = ak at *
  generalize a.n = an at *
  generalize a.s = asv at *
  generalize a.l.length = al at *
  generalize a2.k = bk at *
  generalize a2.n = bn at *
  generalize a2.s = bs at *
  generalize a2.l.length = bl at *
  have Y0 := hide (fun w1 (hb : Below W.heap.size W w1) => (hb.cell (p := ⟨w.heap.size, 0, none⟩) xl).trans x0)
  have Y3 := hide (fun w1 (hb : Below W.heap.size W w1) => (hb.cell (p := ⟨w.heap.size, 3, none⟩) xl).trans x3)
  have U0 := hide (fun w1 (hb : Below W.heap.size W w1) => (hb.cell (p := ⟨p, po + 4, none⟩) hp).trans e10)
  have U1 := hide (fun w1 (hb : Below W.heap.size W w1) => (hb.cell (p := ⟨p, po + 4 + 1, none⟩) hp).trans e11)
  have U2 := hide (fun w1 (hb : Below W.heap.size W w1) => (hb.cell (p := ⟨p, po + 4 + 2, none⟩) hp).trans e12)
  have U3 := hide (fun w1 (hb : Below W.heap.size W w1) => (hb.cell (p := ⟨p, po + 4 + 3, none⟩) hp).trans e13)
  clear hg xl ht hr hz hz2 ih e04 e14 e10 e11 e12 e13 hp
  generalize hDD : ((d + 1 : Nat) : Int) = DD at *
  go_enter Tryd.func45, Tryd.ntmps45
  go_wp2_with fail
  refine (unhide IH).mono ?_
  rintro r w1 ⟨v, rfl, hv, hb1⟩
  have HB1 := hide hb1
  have BB := hide ((unhide B0).trans (hb1.mono (unhide B0).size))
  have z0 := unhide Y0 w1 hb1
  have z3 := unhide Y3 w1 hb1
  have u0 := unhide U0 w1 hb1
  have u1 := unhide U1 w1 hb1
  have u2 := unhide U2 w1 hb1
  have u3 := unhide U3 w1 hb1
  have HV := hide hv
  have J2 := hide (unhide IH2 w1 hb1)
  generalize okF d false a = q at *
  clear hv hb1 U0 U1 U2 U3 IH IH2 x0 x1 x2 x3 e00 e01 e02 e03
  cases q with
  | false =>
    have F2 := hide (fun r w' v => unhide FN r w' v false (by rw [Bool.false_and, Bool.and_false]))
    clear FN
    go_wp2
    (try go_ret2)
    exact unhide F2 _ _ _ rfl (fun h => by cases h) (unhide BB)
  | true =>
    obtain ⟨t1, x1, e1⟩ := tv_if a
    have hve := unhide HV rfl
    rw [e1] at hve TV
    subst hve
    clear HV e1
    go_wp2_with fail
    refine (unhide J2).mono ?_
    rintro r w2 ⟨v2, rfl, hv2, hb2⟩
    have HB2 := hide ((unhide HB1).trans (hb2.mono (unhide HB1).size))
    have B2 := hide ((unhide BB).trans (hb2.mono (unhide BB).size))
    have t0 := unhide Y0 w2 (unhide HB2)
    have HV2 := hide hv2
    generalize okF d false a2 = q2 at *
    clear hv2 hb2 u0 u1 u2 u3 z0 z3 Y0 Y3 J2
    cases q2 with
    | false =>
      have F2 := hide (fun r w' v => unhide FN r w' v false (Bool.and_false _))
      clear FN
      go_wp2
      (try go_ret2)
      exact unhide F2 _ _ _ rfl (fun h => by cases h) (unhide B2)
    | true =>
      obtain ⟨t2, x2, e2⟩ := tv_if a2
      have hve := unhide HV2 rfl
      rw [e2] at hve TV
      subst hve
      clear HV2 e2
      have F2 := hide (fun r w' v q (h : inB k 5 10 = q) => unhide FN r w' v q ((Bool.and_true _).trans h))
      have P2 := hide (pair_any k (.iface t1 x1) (.iface t2 x2) w2)
      clear FN
      go_wp2_with fail
      refine (unhide P2).mono ?_
      rintro r w3 ⟨x, rfl, hx, hb3⟩
      have F3 := hide (unhide F2 (.returned (.tuple #[x, .bool (inB k 5 10)])) w3 x _ rfl rfl (fun h => by rw [hx h, unhide TV h]) ((unhide B2).trans (hb3.mono (unhide B2).size)))
      generalize inB k 5 10 = qq at *
      clear F2 hx hb3 P2
      go_wp2
      (try go_ret2)
      exact unhide F3
theorem term_all : ∀ d : Nat, d ≤ 6 → TermP d := by
  intro d
  induction d with
  | zero => intro _; exact term_zero
  | succ d ih =>
    intro hd e b cap w hr hz ht
    obtain ⟨k, n, s, l⟩ := e
    have hsz := sz_is ⟨k, n, s, l⟩
    simp only at hsz
    unfold Ex.cs
    simp only
    by_cases hbad : 1 ≤ l.length ∧ (3 ≤ l.length ∨ n ≠ 0 ∨ s ≠ E0)
    · exact term_bad d (by omega) k n s l b cap w (by omega) hbad.1 hbad.2
    · match l, hr, hz, hsz, hbad with
      | [], hr, hz, hsz, hbad => exact term_nil d (by omega) k n s b cap w (by omega) ht
      | [a], hr, hz, hsz, hbad =>
        have hn : n = 0 := Classical.byContradiction fun h => hbad ⟨by simp, .inr (.inl h)⟩
        have hs : s = E0 := Classical.byContradiction fun h => hbad ⟨by simp, .inr (.inr h)⟩
        subst hn hs
        exact term_one d (by omega) (ih (by omega)) k a b cap w hr (by simp [szX] at hsz; omega) ht
      | [a, a2], hr, hz, hsz, hbad =>
        have hn : n = 0 := Classical.byContradiction fun h => hbad ⟨by simp, .inr (.inl h)⟩
        have hs : s = E0 := Classical.byContradiction fun h => hbad ⟨by simp, .inr (.inr h)⟩
        subst hn hs
        exact term_two d (by omega) (ih (by omega)) k a a2 b cap w hr (by simp [szX] at hsz; omega) (by simp [szX] at hsz; omega) ht
      | a :: a2 :: a3 :: r, hr, hz, hsz, hbad => exact absurd ⟨by simp, .inl (by simp)⟩ hbad
end Go.Proofs.YtkolflcjkofleaaDoor

namespace Go.Proofs.YtkolflcjkofleaaDoor
open Go.ChangeShapes Go.WideShapes Go.ChangeAt Go.RowKit
set_option linter.unusedVariables false
set_option maxRecDepth 8000
set_option linter.unusedSimpArgs false

set_option maxHeartbeats 1000000 in
theorem okI_any (e : Ex) (b : Option Addr) (cap : Nat) (w : World) (hr : RdX w 0 e b) (hz : e.sz ≤ 1048576) (ht : TabK w) : Calls Tryd.prog 17 #[.agg (e.cs b cap)] w fun r w' => r = .returned (.bool (okF 6 false e)) ∧ Below w.heap.size w w' := by
  have B0 := below_new w (.cells (e.cs b cap) 26)
  have HH := hide (term_all 6 (by omega) e b cap _ (hr.later B0) hz (ht.next B0))
  have HB := hide B0
  clear hr B0 ht
  unfold TermR at HH
  generalize okF 6 false e = q at *
  unfold Ex.cs at HH HB ⊢
  generalize e.l.length = ll at *
  go_enter Tryd.func17, Tryd.ntmps17
  go_wp2_with fail
  refine (unhide HH).mono ?_
  rintro r w1 ⟨v, rfl, _, hb1⟩
  have BB := hide ((unhide HB).trans (hb1.mono (unhide HB).size))
  clear hb1 HH HB
  go_wp2
  go_ret
  exact ⟨rfl, unhide BB⟩
/-- The forms of a right term. -/
theorem ok_cases {d : Nat} {e : Ex} (h : okF (d + 1) false e = true) : (∃ n : Int, (0 ≤ n ∧ n ≤ 65535) ∧ e = ⟨1, n, E0, []⟩) ∨ (∃ s, nameB s = true ∧ e = ⟨2, 0, s, []⟩) ∨ e = ⟨3, 0, E0, []⟩ ∨ (∃ a, okF d false a = true ∧ e = ⟨4, 0, E0, [a]⟩) ∨ (∃ k a b, (5 ≤ k ∧ k ≤ 10) ∧ okF d false a = true ∧ okF d false b = true ∧ e = ⟨k, 0, E0, [a, b]⟩) ∨ (∃ n : Int, (0 ≤ n ∧ n ≤ 9) ∧ e = ⟨11, n, E0, []⟩) ∨ (∃ s, nameB s = true ∧ e = ⟨12, 0, s, []⟩) := by
  obtain ⟨k, n, s, l⟩ := e
  rw [okf_v, Bool.and_eq_true] at h
  obtain ⟨h1, h2⟩ := h
  match l, h1, h2 with
  | [], h1, _ =>
    have hn : k ≠ 1 → k ≠ 11 → n = 0 := fun g1 g2 => Classical.byContradiction fun hn => by
      unfold hereV Ex.here at h1
      rw [if_pos (by simp [g1, g2, hn])] at h1
      cases h1
    have hs : k ≠ 2 → k ≠ 12 → s = E0 := fun g1 g2 => Classical.byContradiction fun hn => by
      have es := (emp_E s hn).2
      unfold hereV Ex.here at h1
      rw [if_pos (by simp [g1, g2, es])] at h1
      cases h1
    by_cases k1 : k = 1
    · subst k1
      obtain rfl := hs (by decide) (by decide)
      rw [show hereV 1 n E0 ([] : List Ex).length = inB n 0 65535 by simp [hereV, Ex.here, eqE]] at h1
      exact .inl ⟨n, (inB_iff _ _ _).1 h1, rfl⟩
    by_cases k2 : k = 2
    · subst k2
      obtain rfl := hn (by decide) (by decide)
      rw [show hereV 2 0 s ([] : List Ex).length = nameB s by simp [hereV, Ex.here]] at h1
      exact .inr (.inl ⟨s, h1, rfl⟩)
    by_cases k11 : k = 11
    · subst k11
      obtain rfl := hs (by decide) (by decide)
      rw [show hereV 11 n E0 ([] : List Ex).length = inB n 0 9 by simp [hereV, Ex.here, eqE]] at h1
      exact .inr (.inr (.inr (.inr (.inr (.inl ⟨n, (inB_iff _ _ _).1 h1, rfl⟩)))))
    by_cases k12 : k = 12
    · subst k12
      obtain rfl := hn (by decide) (by decide)
      rw [show hereV 12 0 s ([] : List Ex).length = nameB s by simp [hereV, Ex.here]] at h1
      exact .inr (.inr (.inr (.inr (.inr (.inr ⟨s, h1, rfl⟩)))))
    obtain rfl := hn k1 k11
    obtain rfl := hs k2 k12
    by_cases k3 : k = 3
    · subst k3; exact .inr (.inr (.inl rfl))
    exfalso
    unfold hereV Ex.here at h1
    simp only [List.length_replicate, List.length_nil] at h1
    rw [if_neg (by simp [eqE]), if_neg k1, if_neg (by omega), if_neg k3] at h1
    repeat' (split at h1)
    all_goals first | cases h1 | exact absurd h1 (by decide) | omega
  | [a], h1, h2 =>
    have hn : n = 0 := Classical.byContradiction fun hn => by rw [hereV_n k n s _ (by simp) hn] at h1; cases h1
    have hs : s = E0 := Classical.byContradiction fun hn => by rw [hereV_s k n s _ (by simp) hn] at h1; cases h1
    subst hn hs
    have h3 : hereV k 0 ⟨#[]⟩ 1 = true := h1
    rw [here_one, beq_iff_eq] at h3
    subst h3
    exact .inr (.inr (.inr (.inl ⟨a, by simpa using h2, rfl⟩)))
  | [a, b], h1, h2 =>
    have hn : n = 0 := Classical.byContradiction fun hn => by rw [hereV_n k n s _ (by simp) hn] at h1; cases h1
    have hs : s = E0 := Classical.byContradiction fun hn => by rw [hereV_s k n s _ (by simp) hn] at h1; cases h1
    subst hn hs
    have h3 : hereV k 0 ⟨#[]⟩ 2 = true := h1
    rw [here_two] at h3
    have h4 : okF d false a = true ∧ okF d false b = true := by simpa using h2
    exact .inr (.inr (.inr (.inr (.inl ⟨k, a, b, (inB_iff _ _ _).1 h3, h4.1, h4.2, rfl⟩))))
  | a :: b :: c :: r, h1, _ => rw [here_more k n s _ (by simp)] at h1; cases h1
theorem plain_one (d : Nat) (a : Ex) : okF (d + 1) true ⟨4, 0, E0, [a]⟩ = okF d true a := by simp [okF, Ex.here, eqE]
theorem plain_pair (d : Nat) {k : Int} (hk : 5 ≤ k ∧ k ≤ 10) (a b : Ex) : okF (d + 1) true ⟨k, 0, E0, [a, b]⟩ = (okF d true a && okF d true b) := by
  have : k = 5 ∨ k = 6 ∨ k = 7 ∨ k = 8 ∨ k = 9 ∨ k = 10 := by omega
  rcases this with rfl | rfl | rfl | rfl | rfl | rfl <;> simp [okF, Ex.here, eqE]
end Go.Proofs.YtkolflcjkofleaaDoor

namespace Go.Proofs.YtkolflcjkofleaaDoor
open Go.ChangeShapes Go.WideShapes Go.ChangeAt Go.RowKit
set_option linter.unusedVariables false
set_option maxRecDepth 8000
set_option linter.unusedSimpArgs false

theorem ta_no {P : Program} {T u it : TypeId} {x z : Value} {fs : Array Field} (w : World) (hu : P.underlying u = some (.struct fs)) (hz : (zeroValue u).run P w = .ok z w) (h : T ≠ u) : (Instr.typeAssert (.iface T x) it u true).run P w = .ok (.tuple #[z, .bool false]) w := by
  simp [Instr.typeAssert, run_underlying hu, h, hz]
theorem taN_num (T : TypeId) (x : Value) (h : T ≠ 88) (w : World) : (Instr.typeAssert (.iface T x) 66 88 true).run Tryd.prog w = .ok (.tuple #[.agg #[.int .i64 0], .bool false]) w := ta_no w Tryd.underlying88 (by kernel_rfl) h
theorem taY_num (x : Value) (w : World) : (Instr.typeAssert (.iface 88 x) 66 88 true).run Tryd.prog w = .ok (.tuple #[x, .bool true]) w := by kernel_rfl
theorem taN_sym (T : TypeId) (x : Value) (h : T ≠ 117) (w : World) : (Instr.typeAssert (.iface T x) 66 117 true).run Tryd.prog w = .ok (.tuple #[.agg #[.string ⟨#[]⟩], .bool false]) w := ta_no w Tryd.underlying117 (by kernel_rfl) h
theorem taY_sym (x : Value) (w : World) : (Instr.typeAssert (.iface 117 x) 66 117 true).run Tryd.prog w = .ok (.tuple #[x, .bool true]) w := by kernel_rfl
theorem taN_here (T : TypeId) (x : Value) (h : T ≠ 130) (w : World) : (Instr.typeAssert (.iface T x) 66 130 true).run Tryd.prog w = .ok (.tuple #[.agg #[], .bool false]) w := ta_no w Tryd.underlying130 (by kernel_rfl) h
theorem taY_here (x : Value) (w : World) : (Instr.typeAssert (.iface 130 x) 66 130 true).run Tryd.prog w = .ok (.tuple #[x, .bool true]) w := by kernel_rfl
theorem taN_neg (T : TypeId) (x : Value) (h : T ≠ 104) (w : World) : (Instr.typeAssert (.iface T x) 66 104 true).run Tryd.prog w = .ok (.tuple #[.agg #[.nilIface], .bool false]) w := ta_no w Tryd.underlying104 (by kernel_rfl) h
theorem taY_neg (x : Value) (w : World) : (Instr.typeAssert (.iface 104 x) 66 104 true).run Tryd.prog w = .ok (.tuple #[x, .bool true]) w := by kernel_rfl
theorem taN_add (T : TypeId) (x : Value) (h : T ≠ 134) (w : World) : (Instr.typeAssert (.iface T x) 66 134 true).run Tryd.prog w = .ok (.tuple #[.agg #[.nilIface, .nilIface], .bool false]) w := ta_no w Tryd.underlying134 (by kernel_rfl) h
theorem taY_add (x : Value) (w : World) : (Instr.typeAssert (.iface 134 x) 66 134 true).run Tryd.prog w = .ok (.tuple #[x, .bool true]) w := by kernel_rfl
theorem taN_sub (T : TypeId) (x : Value) (h : T ≠ 135) (w : World) : (Instr.typeAssert (.iface T x) 66 135 true).run Tryd.prog w = .ok (.tuple #[.agg #[.nilIface, .nilIface], .bool false]) w := ta_no w Tryd.underlying135 (by kernel_rfl) h
theorem taY_sub (x : Value) (w : World) : (Instr.typeAssert (.iface 135 x) 66 135 true).run Tryd.prog w = .ok (.tuple #[x, .bool true]) w := by kernel_rfl
theorem taN_mul (T : TypeId) (x : Value) (h : T ≠ 136) (w : World) : (Instr.typeAssert (.iface T x) 66 136 true).run Tryd.prog w = .ok (.tuple #[.agg #[.nilIface, .nilIface], .bool false]) w := ta_no w Tryd.underlying136 (by kernel_rfl) h
theorem taY_mul (x : Value) (w : World) : (Instr.typeAssert (.iface 136 x) 66 136 true).run Tryd.prog w = .ok (.tuple #[x, .bool true]) w := by kernel_rfl
theorem taN_div (T : TypeId) (x : Value) (h : T ≠ 137) (w : World) : (Instr.typeAssert (.iface T x) 66 137 true).run Tryd.prog w = .ok (.tuple #[.agg #[.nilIface, .nilIface], .bool false]) w := ta_no w Tryd.underlying137 (by kernel_rfl) h
theorem taY_div (x : Value) (w : World) : (Instr.typeAssert (.iface 137 x) 66 137 true).run Tryd.prog w = .ok (.tuple #[x, .bool true]) w := by kernel_rfl
theorem taN_and (T : TypeId) (x : Value) (h : T ≠ 138) (w : World) : (Instr.typeAssert (.iface T x) 66 138 true).run Tryd.prog w = .ok (.tuple #[.agg #[.nilIface, .nilIface], .bool false]) w := ta_no w Tryd.underlying138 (by kernel_rfl) h
theorem taY_and (x : Value) (w : World) : (Instr.typeAssert (.iface 138 x) 66 138 true).run Tryd.prog w = .ok (.tuple #[x, .bool true]) w := by kernel_rfl
theorem taN_or (T : TypeId) (x : Value) (h : T ≠ 139) (w : World) : (Instr.typeAssert (.iface T x) 66 139 true).run Tryd.prog w = .ok (.tuple #[.agg #[.nilIface, .nilIface], .bool false]) w := ta_no w Tryd.underlying139 (by kernel_rfl) h
theorem taY_or (x : Value) (w : World) : (Instr.typeAssert (.iface 139 x) 66 139 true).run Tryd.prog w = .ok (.tuple #[x, .bool true]) w := by kernel_rfl
theorem taN_sect (T : TypeId) (x : Value) (h : T ≠ 115) (w : World) : (Instr.typeAssert (.iface T x) 66 115 true).run Tryd.prog w = .ok (.tuple #[.agg #[.int .i64 0], .bool false]) w := ta_no w Tryd.underlying115 (by kernel_rfl) h
theorem taY_sect (x : Value) (w : World) : (Instr.typeAssert (.iface 115 x) 66 115 true).run Tryd.prog w = .ok (.tuple #[x, .bool true]) w := by kernel_rfl
theorem taN_glob (T : TypeId) (x : Value) (h : T ≠ 118) (w : World) : (Instr.typeAssert (.iface T x) 66 118 true).run Tryd.prog w = .ok (.tuple #[.agg #[.string ⟨#[]⟩], .bool false]) w := ta_no w Tryd.underlying118 (by kernel_rfl) h
theorem taY_glob (x : Value) (w : World) : (Instr.typeAssert (.iface 118 x) 66 118 true).run Tryd.prog w = .ok (.tuple #[x, .bool true]) w := by kernel_rfl
theorem me_num (c : Value) (w : World) : (method 271 88 (.agg #[c]) "loop.example/g00329/impl.parts").run Tryd.prog w = .ok (121, .agg #[]) w := by kernel_rfl
theorem me_sym (c : Value) (w : World) : (method 271 117 (.agg #[c]) "loop.example/g00329/impl.parts").run Tryd.prog w = .ok (121, .agg #[]) w := by kernel_rfl
theorem me_sect (c : Value) (w : World) : (method 271 115 (.agg #[c]) "loop.example/g00329/impl.parts").run Tryd.prog w = .ok (121, .agg #[]) w := by kernel_rfl
theorem me_glob (c : Value) (w : World) : (method 271 118 (.agg #[c]) "loop.example/g00329/impl.parts").run Tryd.prog w = .ok (121, .agg #[]) w := by kernel_rfl
theorem me_here (w : World) : (method 271 130 (.agg #[]) "loop.example/g00329/impl.parts").run Tryd.prog w = .ok (121, .agg #[]) w := by kernel_rfl
theorem me_neg (c : Value) (w : World) : (method 271 104 (.agg #[c]) "loop.example/g00329/impl.parts").run Tryd.prog w = .ok (122, .agg #[c]) w := by kernel_rfl
theorem me_add (c d : Value) (w : World) : (method 271 134 (.agg #[c, d]) "loop.example/g00329/impl.parts").run Tryd.prog w = .ok (123, .agg #[c, d]) w := by kernel_rfl
theorem me_sub (c d : Value) (w : World) : (method 271 135 (.agg #[c, d]) "loop.example/g00329/impl.parts").run Tryd.prog w = .ok (123, .agg #[c, d]) w := by kernel_rfl
theorem me_mul (c d : Value) (w : World) : (method 271 136 (.agg #[c, d]) "loop.example/g00329/impl.parts").run Tryd.prog w = .ok (123, .agg #[c, d]) w := by kernel_rfl
theorem me_div (c d : Value) (w : World) : (method 271 137 (.agg #[c, d]) "loop.example/g00329/impl.parts").run Tryd.prog w = .ok (123, .agg #[c, d]) w := by kernel_rfl
theorem me_and (c d : Value) (w : World) : (method 271 138 (.agg #[c, d]) "loop.example/g00329/impl.parts").run Tryd.prog w = .ok (123, .agg #[c, d]) w := by kernel_rfl
theorem me_or (c d : Value) (w : World) : (method 271 139 (.agg #[c, d]) "loop.example/g00329/impl.parts").run Tryd.prog w = .ok (123, .agg #[c, d]) w := by kernel_rfl
set_option maxHeartbeats 1000000 in
theorem parts0 (w : World) : Calls Tryd.prog 121 #[.agg #[]] w fun r w' => r = .returned (.slice none 0 0) ∧ Below w.heap.size w w' := by
  go_enter Tryd.func121, Tryd.ntmps121
  go_wp2
  go_ret
  exact ⟨rfl, by first | exact Below.refl _ _ | exact below_new w _⟩
theorem two_new (w : World) (o1 o2 : Obj) : ((w.alloc o1).alloc o2).heap[w.heap.size + 1]? = some o2 ∧ Below w.heap.size w ((w.alloc o1).alloc o2) := by
  have h1 : (w.alloc o1).heap.size = w.heap.size + 1 := by simp
  refine ⟨?_, ((Below.refl _ _).alloc (Nat.le_refl _) _).alloc (by simp) _⟩
  rw [← h1]
  exact Array.getElem?_push_size
set_option maxHeartbeats 1000000 in
theorem parts1 (t : TypeId) (x : Value) (w : World) : Calls Tryd.prog 122 #[.agg #[.iface t x]] w fun r w' => ∃ g, r = .returned (.slice (some ⟨g, 0, none⟩) 1 1) ∧ w'.heap[g]? = some (.cells #[.iface t x] 66 (0, 0)) ∧ Below w.heap.size w w' := by
  have T := hide (two_new w (.cells #[.iface t x] 104) (.cells #[.iface t x] 66))
  go_enter Tryd.func122, Tryd.ntmps122
  go_wp2
  go_ret
  exact ⟨_, rfl, (unhide T).1, (unhide T).2⟩
set_option maxHeartbeats 1000000 in
theorem parts2 (t u : TypeId) (x y : Value) (w : World) : Calls Tryd.prog 123 #[.agg #[.iface t x, .iface u y]] w fun r w' => ∃ g, r = .returned (.slice (some ⟨g, 0, none⟩) 2 2) ∧ w'.heap[g]? = some (.cells #[.iface t x, .iface u y] 66 (0, 0)) ∧ Below w.heap.size w w' := by
  have T := hide (two_new w (.cells #[.iface t x, .iface u y] 107) (.cells #[.iface t x, .iface u y] 66))
  go_enter Tryd.func123, Tryd.ntmps123
  go_wp2
  go_ret
  exact ⟨_, rfl, (unhide T).1, (unhide T).2⟩
end Go.Proofs.YtkolflcjkofleaaDoor

namespace Go.Proofs.YtkolflcjkofleaaDoor
open Go.ChangeShapes Go.WideShapes Go.ChangeAt Go.RowKit
set_option linter.unusedVariables false
set_option maxRecDepth 8000
set_option linter.unusedSimpArgs false

theorem infoTm : (Tryd.prog.info? 66).map (fun i => (i.zero, i.size, i.bytes)) = some (some .nilIface, 1, 16) := by kernel_rfl
theorem own_below {w w' : World} {B n m : Nat} {t : TypeId} {v : Value} {cs : List Value} (h : w.ownsRow B t m v n cs) (hb : Below w.heap.size w w') : w'.ownsRow B t m v n cs := by
  obtain ⟨h1, h2 | ⟨g, cap, cur, e, hg, hh, r⟩⟩ := h
  · exact ⟨h1, .inl h2⟩
  · exact ⟨h1, .inr ⟨g, cap, cur, e, hg, (hb.block g (Array.getElem?_eq_some_iff.1 hh).1).trans hh, r⟩⟩
/-- Whether the first k of these are all right. -/
def okL (l : List Ex) : Bool := l.all (okF 6 false)
theorem okL_take {l : List Ex} {k : Nat} (h : k < l.length) : okL (l.take (k + 1)) = (okL (l.take k) && okF 6 false (xAt l k)) := by
  unfold okL
  rw [List.take_add_one, List.getElem?_eq_getElem h, xAt_get h]
  simp only [Option.toList_some, List.all_append, List.all_cons, List.all_nil, Bool.and_true]
theorem okL_no {l : List Ex} {k : Nat} (h : k < l.length) (hk : okF 6 false (xAt l k) = false) : okL l = false := by
  unfold okL
  cases hh : l.all (okF 6 false) with
  | false => rfl
  | true =>
    rw [List.all_eq_true] at hh
    rw [hh _ (xAt_mem h)] at hk
    cases hk
theorem tvs_take {l : List Ex} {k : Nat} (h : k < l.length) : (l.take (k + 1)).map tv = (l.take k).map tv ++ [tv (xAt l k)] := by
  rw [List.take_add_one, List.getElem?_eq_getElem h, xAt_get h]
  simp only [Option.toList_some, List.map_append, List.map_cons, List.map_nil]
/-- What termsOf answers. -/
def TsR (l : List Ex) (w : World) (r : Ending) (w' : World) : Prop := ∃ v, r = .returned (.tuple #[v, .bool (okL l)]) ∧ (okL l = true → w'.ownsRow w.heap.size 66 1 v l.length (l.map tv)) ∧ Below w.heap.size w w'
set_option maxHeartbeats 8000000 in
theorem termsI_any (l : List Ex) (a : Option Addr) (n cap : Nat) (w : World) (hn : l.length = n) (hm : n ≤ 4194304) (hz : ∀ i, i < n → (xAt l i).sz ≤ 1048576) (hr : RdX w 0 ⟨0, 0, E0, l⟩ a) (ht : TabK w) : Calls Tryd.prog 58 #[.slice a n cap] w (TsR l w) := by
  obtain ⟨i0, hi, hz0, hz1, hz2⟩ := info_parts infoTm
  have FN := hide (fun (r : Ending) (w' : World) (v : Value) (q : Bool) (h0 : okL l = q) (h : r = .returned (.tuple #[v, .bool q])) (h1 : q = true → w'.ownsRow w.heap.size 66 1 v n (l.map tv)) (h2 : Below w.heap.size w w') => (show TsR l w r w' from ⟨v, by rw [h, h0], fun e => by rw [hn]; exact h1 (h0.symm.trans e), h2⟩))
  have TM := hide (fun i (hi : i < n) (c : Option Addr) (cp : Nat) wr (h : RdX wr 0 (xAt l i) c) (hb : Below w.heap.size w wr) => term_all 6 (by omega) (xAt l i) c cp wr h (hz i hi) (ht.next hb))
  unfold TermR at TM
  have RD := hide (fun i (h : i < n) => rd_at hr (i := i) (by show i < l.length; omega))
  have OT := hide (fun k (h : k < n) => okL_take (l := l) (k := k) (by omega))
  have ON := hide (fun k (h : k < n) => okL_no (l := l) (k := k) (by omega))
  have TT := hide (fun k (h : k < n) => tvs_take (l := l) (k := k) (by omega))
  have EN := hide (show okL (l.take n) = okL l ∧ (l.take n).map tv = l.map tv by rw [← hn, List.take_length]; exact ⟨rfl, rfl⟩)
  generalize TsR l w = R at *
  clear hr hz ht hn
  go_enter Tryd.func58, Tryd.ntmps58
  go_wp2
  go_loopw [4, 11] (fun v i wr => ∃ k : Nat, k ≤ n ∧ i = .int .i64 k ∧ okL (l.take k) = true ∧ wr.ownsRow w.heap.size 66 1 v k ((l.take k).map tv) ∧ Below w.heap.size w wr) (fun _ i _ => n - (intOf i).toNat)
  case atStart => exact ⟨0, Nat.zero_le _, rfl, by simp [okL], World.ownsRow_nil _ _ _ _, Below.refl _ _⟩
  case round =>
    obtain ⟨k, hk, rfl, hok, hown, hbel⟩ := hrel
    by_cases hlt : k < n
    · obtain ⟨p, po, rfl, hp, o1⟩ := unhide RD k hlt
      obtain ⟨e0, e1, e2, c, cp, e3, e4⟩ := o1
      have c0 := (hbel.cell (p := ⟨p, po + k * 4, none⟩) hp).trans e0
      have c1 := (hbel.cell (p := ⟨p, po + k * 4 + 1, none⟩) hp).trans e1
      have c2 := (hbel.cell (p := ⟨p, po + k * 4 + 2, none⟩) hp).trans e2
      have c3 := (hbel.cell (p := ⟨p, po + k * 4 + 3, none⟩) hp).trans e3
      have T1 := hide (unhide OT k hlt)
      have T2 := hide (unhide TT k hlt)
      have T3 := hide (unhide ON k hlt)
      have X0 := hide (show RdX wr 0 (xAt l k) c from e4.later hbel)
      have TK := hide (unhide TM k hlt c cp)
      have OK := hide hok
      have OW := hide hown
      have BL := hide hbel
      unfold Ex.cs at TK
      have hkn : ¬ ((n : Int) ≤ (k : Int)) := by omega
      clear e0 e1 e2 e3 e4 hok hown hbel hp
      obtain ⟨tt, xx, ett⟩ := tv_if (xAt l k)
      rw [ett] at TK T2
      clear ett
      generalize (xAt l k).k = ek at *
      generalize (xAt l k).n = en at *
      generalize (xAt l k).s = es at *
      generalize (xAt l k).l.length = el at *
      have hb1 := below_new wr (.cells #[.int .i64 ek, .int .i64 en, .string es, .slice c el cp] 26)
      have G1 := hide (show (wr.alloc (.cells #[.int .i64 ek, .int .i64 en, .string es, .slice c el cp] 26)).heap[wr.heap.size]? = some (.cells #[.int .i64 ek, .int .i64 en, .string es, .slice c el cp] 26 (0, 0)) from Array.getElem?_push_size)
      have B1 := hide ((unhide BL).trans (hb1.mono (unhide BL).size))
      have C1 := hide (unhide TK _ ((unhide X0).later hb1) (unhide B1))
      have O1 := hide (own_below (unhide OW) hb1)
      clear hb1 TK X0 OW BL
      go_wp2_with (refine wpList_load_row rfl 26 _ rfl wr.heap.size rfl 26 #[.int .i64 ek, .int .i64 en, .string es, .slice c el cp] (0, 0) _ (unhide G1) Tryd.underlying26 rfl (by kernel_rfl) ?_)
      generalize wr.alloc (.cells #[.int .i64 ek, .int .i64 en, .string es, .slice c el cp] 26) = w1 at *
      refine (unhide C1).mono ?_
      rintro r w2 ⟨tk, rfl, htk, hb2⟩
      have B2 := hide ((unhide B1).trans (hb2.mono (unhide B1).size))
      have O2 := hide (own_below (unhide O1) hb2)
      have HT := hide htk
      clear htk hb2 B1 O1 C1 G1 c0 c1 c2 c3
      generalize hq : okF 6 false (xAt l k) = q at *
      cases q with
      | false =>
        have F := unhide T3 rfl
        go_wp2
        (first | go_ret2 | go_ret | skip)
        exact unhide FN _ _ _ false F rfl (fun h => by cases h) (unhide B2)
      | true =>
        have etk := unhide HT rfl
        rw [etk]
        clear HT etk tk
        have T1c := hide (show ∀ u ∈ ([.iface tt xx] : List Value), u.oneCell' = true from fun u hu => by rw [List.mem_singleton.1 hu]; rfl)
        have hb3 := below_new w2 (.cells #[.iface tt xx] 66)
        have B3 := hide ((unhide B2).trans (hb3.mono (unhide B2).size))
        have O3 := hide (own_below (unhide O2) hb3)
        have N3 := hide (cell_newF w2 #[.iface tt xx] 66)
        have E1 := hide (show okL (l.take (k + 1)) = true by rw [unhide T1, unhide OK]; rfl)
        have WB := hide (show ∀ g, u4.ownBlock = some g → w.heap.size ≤ g from fun g hg => (World.ownsRow.lt (unhide O3) g hg).1)
        clear hb3 B2 O2 T1 T3 OK
        go_wp2_with (at_builtin; go_must (refine wpList_append_own _ rfl (.tmp 22) (.tmp 24) 91 rfl w.heap.size 66 i0 .nilIface 1 16 Tryd.underlying91 hi hz0 hz1 hz2 rfl (by decide) u4 k ((l.take k).map tv) rfl (unhide O3) ⟨w2.heap.size, 0, none⟩ 1 1 [.iface tt xx] rfl rfl (unhide N3) (unhide T1c) (by unfold maxLen; omega) (by omega) (unhide B3).size ?_; intro v4 w4 hown4 hgrow4 _; have O4 := hide hown4; have B4 := hide ((unhide B3).grown hgrow4 (unhide B3).size (unhide WB)); clear hown4 hgrow4))
        go_roundw
        case rel => exact ⟨k + 1, by omega, by go_num, unhide E1, by rw [unhide T2]; exact unhide O4, unhide B4⟩
        case measure => simp [intOf]; omega
    · obtain rfl : k = n := by omega
      have E1 := (unhide EN).1.symm.trans hok
      rw [(unhide EN).2] at hown
      have OW := hide hown
      have BL := hide hbel
      clear hok hown hbel
      go_wp2
      (first | go_ret2 | go_ret | skip)
      exact unhide FN _ _ _ true E1 rfl (fun _ => unhide OW) (unhide BL)
end Go.Proofs.YtkolflcjkofleaaDoor

namespace Go.Proofs.YtkolflcjkofleaaDoor
open Go.ChangeShapes Go.WideShapes Go.ChangeAt Go.RowKit
set_option linter.unusedVariables false
set_option maxRecDepth 8000
set_option linter.unusedSimpArgs false

/-- What stands at a name. -/
def lkS : List (ByteArray × Nat) → ByteArray → Option Nat
  | [], _ => none
  | (t, i) :: r, s => if eqS t s = true then some i else lkS r s
theorem lkS_snoc (ps : List (ByteArray × Nat)) (t : ByteArray) (i : Nat) (s : ByteArray) : lkS (ps ++ [(t, i)]) s = (lkS ps s).or (if eqS t s = true then some i else none) := by
  induction ps with
  | nil => simp [lkS]
  | cons p r ih =>
    obtain ⟨q, j⟩ := p
    simp only [List.cons_append, lkS]
    split
    · rfl
    · exact ih
/-- The first place of a name. -/
def plS (L : List ByteArray) (s : ByteArray) : Option Nat := L.findIdx? (fun t => eqS t s)
theorem plS_snoc (L : List ByteArray) (t s : ByteArray) : plS (L ++ [t]) s = (plS L s).or (if eqS t s = true then some L.length else none) := by
  unfold plS
  rw [List.findIdx?_append]
  congr 1
  simp only [List.findIdx?_cons, List.findIdx?_nil]
  split <;> simp
theorem plS_at (L : List ByteArray) (s : ByteArray) : atV L s = ((plS L s).map (fun i : Nat => (i : Int))).getD (-1) := by
  unfold plS
  cases h : L.findIdx? (fun t => eqS t s) with
  | none =>
    rw [List.findIdx?_eq_none_iff] at h
    rw [atV_no]
    · rfl
    · refine hasS_miss (fun k hk => ?_)
      have := h (L.getD k E0) (by rw [List.getD_eq_getElem?_getD, List.getElem?_eq_getElem hk]; exact List.getElem_mem hk)
      simpa using this
  | some i =>
    rw [List.findIdx?_eq_some_iff_getElem] at h
    obtain ⟨hi, h1, h2⟩ := h
    have e1 : ∀ j, j < i → eqS (L.getD j E0) s = false := fun j hj => by
      have h3 := h2 j hj
      rw [List.getD_eq_getElem?_getD, List.getElem?_eq_getElem (show j < L.length by omega)]
      simpa using h3
    have e2 : eqS (L.getD i E0) s = true := by
      rw [List.getD_eq_getElem?_getD, List.getElem?_eq_getElem hi]
      exact h1
    rw [atV_hit hi e1 e2]
    rfl
/-- The entries of a map of names. -/
def esS : List (ByteArray × Nat) → Nat → List MapEntry
  | [], _ => []
  | (t, i) :: r, born => { key := .string t, val := .int .i64 i, born := born } :: esS r (born + 1)
theorem esS_snoc (ps : List (ByteArray × Nat)) (t : ByteArray) (i : Nat) : ∀ born, esS (ps ++ [(t, i)]) born = esS ps born ++ [{ key := .string t, val := .int .i64 i, born := born + ps.length }] := by
  induction ps with
  | nil => intro born; rfl
  | cons p r ih => obtain ⟨q, j⟩ := p; intro born; simp only [List.cons_append, esS, ih, List.length_cons]; congr 4; omega
/-- Block b is a map of these names. -/
def IsMs (w : World) (b : Nat) (ps : List (ByteArray × Nat)) : Prop := w.heap[b]? = some (.map (esS ps 0).toArray ps.length)
theorem IsMs.later {w w' : World} {b : Nat} {ps : List (ByteArray × Nat)} (h : IsMs w b ps) (hb : Below w.heap.size w w') : IsMs w' b ps := row_keep h hb
theorem ba_eq (s t : ByteArray) : (s == t) = eqS t s := by
  rw [Bool.eq_iff_iff, eqS_iff]
  have h : (s == t) = (s.data == t.data) := rfl
  rw [h, beq_iff_eq]
  exact ⟨fun e => ByteArray.ext e.symm, fun e => by rw [e]⟩
theorem find_now (s : ByteArray) : ∀ (ps : List (ByteArray × Nat)) (born i : Nat), ∃ r, Instr.findNow .string (.string s) (esS ps born) i = some r ∧ ((lkS ps s = none ∧ r = none) ∨ ∃ j v, lkS ps s = some v ∧ r = some (j, .int .i64 (v : Nat))) := by
  intro ps
  induction ps with
  | nil => intro born i; exact ⟨none, rfl, .inl ⟨rfl, rfl⟩⟩
  | cons p r ih =>
    obtain ⟨t, v⟩ := p
    intro born i
    obtain ⟨q, hq, hr⟩ := ih (born + 1) (i + 1)
    have hs : Instr.sameNow .string (.string s) (.string t) = some (s == t) := rfl
    rw [ba_eq] at hs
    cases e1 : eqS t s with
    | true => exact ⟨some (i, .int .i64 (v : Nat)), by simp only [esS, Instr.findNow, hs, e1], .inr ⟨i, v, by simp [lkS, e1], rfl⟩⟩
    | false =>
      refine ⟨q, by simp only [esS, Instr.findNow, hs, e1]; exact hq, ?_⟩
      have : lkS ((t, v) :: r) s = lkS r s := by simp [lkS, e1]
      rw [this]
      exact hr
theorem run_keyS (em : Bool) (s : ByteArray) (w : World) : (Instr.checkKey em 10000 9 (.string s)).run Tryd.prog w = .ok () w := by
  cases em <;> kernel_rfl
theorem run_lookS {w : World} {b : Nat} {ps : List (ByteArray × Nat)} (h : IsMs w b ps) (s : ByteArray) : (Instr.lookup 71 (.map (some b)) (.string s) true).run Tryd.prog w = .ok (.tuple #[.int .i64 ((lkS ps s).getD 0 : Nat), .bool (lkS ps s).isSome]) w := by
  obtain ⟨r, hr, hh⟩ := find_now s ps 0 0
  have hf : (Instr.findKey 9 (.string s) (esS ps 0)).run Tryd.prog w = .ok r w := by simp [Instr.findKey, run_underlying Tryd.underlying9, hr]
  have hz : (zeroValue 3).run Tryd.prog w = .ok (.int .i64 0) w := by kernel_rfl
  rcases hh with ⟨h1, rfl⟩ | ⟨j, v, h1, rfl⟩
  · simp [Instr.lookup, run_underlying Tryd.underlying71, MapKept.run_getObj_map h, run_keyS, hf, hz, h1, Result.andThen]
  · simp [Instr.lookup, run_underlying Tryd.underlying71, MapKept.run_getObj_map h, run_keyS, hf, h1, Result.andThen]
theorem run_putS {w : World} {b : Nat} {ps : List (ByteArray × Nat)} (h : IsMs w b ps) (s : ByteArray) (i : Nat) (hn : lkS ps s = none) : ∃ w', (Instr.mapUpdate 71 (.map (some b)) (.string s) (.int .i64 (i : Nat))).run Tryd.prog w = .ok () w' ∧ IsMs w' b (ps ++ [(s, i)]) ∧ w.grownBy w' (some b) := by
  obtain ⟨r, hr, hh⟩ := find_now s ps 0 0
  have hf : (Instr.findKey 9 (.string s) (esS ps 0)).run Tryd.prog w = .ok r w := by simp [Instr.findKey, run_underlying Tryd.underlying9, hr]
  rcases hh with ⟨h1, rfl⟩ | ⟨j, v, h1, rfl⟩
  · have hrun : (Instr.mapUpdate 71 (.map (some b)) (.string s) (.int .i64 (i : Nat))).run Tryd.prog w = .ok () { w with heap := w.heap.setIfInBounds b (.map ((esS ps 0).toArray.push { key := .string s, val := .int .i64 (i : Nat), born := ps.length }) (ps.length + 1)) } := by
      simp [Instr.mapUpdate, run_underlying Tryd.underlying71, MapKept.run_getObj_map h, run_keyS, hf, MapKept.run_setObj_map _ h, Result.andThen]
    refine ⟨_, hrun, ?_, rfl, rfl, rfl, by simp, fun g _ hg => ?_⟩
    · have hl : b < w.heap.size := (Array.getElem?_eq_some_iff.1 h).1
      unfold IsMs
      simp [hl, esS_snoc]
    · have hg : g ≠ b := fun e => hg (by rw [e])
      simp [Array.getElem?_setIfInBounds, Ne.symm hg]
  · rw [hn] at h1; cases h1
theorem run_mkS (w : World) : (Instr.makeMap 71 none).run Tryd.prog w = .ok (.map (some w.heap.size)) (w.alloc (.map #[] 0)) := by kernel_rfl
theorem pl_take (L : List ByteArray) (k : Nat) (h : k < L.length) (s : ByteArray) : plS (L.take (k + 1)) s = (plS (L.take k) s).or (if eqS (tAtS L k) s = true then some k else none) := by
  rw [List.take_add_one, List.getElem?_eq_getElem h]
  show plS (L.take k ++ [L[k]]) s = _
  rw [plS_snoc, List.length_take, Nat.min_eq_left (by omega)]
  unfold tAtS
  rw [List.getD_eq_getElem?_getD, List.getElem?_eq_getElem h]
  rfl
set_option maxHeartbeats 2000000 in
theorem places_any (a : Option Addr) (n cap : Nat) (L : List ByteArray) (w : World) (hl : L.length = n) (hm : n ≤ 1099511627776) (hr : RdU w a L) : Calls Tryd.prog 49 #[.slice a n cap] w fun r w' => ∃ b ps, r = .returned (.map (some b)) ∧ IsMs w' b ps ∧ (∀ s, lkS ps s = plS L s) ∧ w.heap.size ≤ b ∧ Below w.heap.size w w' := by
  have hmk := run_mkS
  go_enter Tryd.func49, Tryd.ntmps49
  go_wp2
  go_loopw [11] (fun i wr => ∃ (k : Nat) (ps : List (ByteArray × Nat)), k ≤ n ∧ i = .int .i64 k ∧ IsMs wr w.heap.size ps ∧ (∀ s, lkS ps s = plS (L.take k) s) ∧ Below w.heap.size w wr) (fun i _ => n - (intOf i).toNat)
  case atStart => exact ⟨0, [], Nat.zero_le _, rfl, Array.getElem?_push_size, fun s => rfl, (Below.refl _ _).alloc (Nat.le_refl _) _⟩
  case round =>
    obtain ⟨k, ps, hk, rfl, hmp, hps, hbel⟩ := hrel
    by_cases hlt : k < n
    · rcases hr with rfl | ⟨b, off, rfl, hb, hc⟩
      · simp at hl; omega
      have hcx : wr.cell? ⟨b, off + k, none⟩ = some (.string (tAtS L k)) := (hbel.cell (p := ⟨b, off + k, none⟩) hb).trans (hc k (by omega))
      have PT := hide (pl_take L k (by omega))
      have HP := hide hps
      have HB := hide hbel
      have HM := hide hmp
      have LK := run_lookS hmp (tAtS L k)
      clear hps hbel hc hb hmp
      cases hf : lkS ps (tAtS L k) with
      | some v =>
        have E := hide (show ∀ s, lkS ps s = plS (L.take (k + 1)) s from fun s => by
          rw [unhide PT, ← unhide HP s]
          split
          · rename_i e
            rw [← (eqS_iff _ _).1 e, hf]
            rfl
          · simp)
        rw [hf] at LK
        simp only [Option.getD_some, Option.isSome_some] at LK
        clear PT HP hf
        generalize tAtS L k = nm at *
        go_wp2
        go_roundw
        case rel => exact ⟨k + 1, ps, by omega, by go_num, unhide HM, unhide E, unhide HB⟩
        case measure => simp [intOf]; omega
      | none =>
        obtain ⟨w2, hput, hm2, hg2⟩ := run_putS (unhide HM) (tAtS L k) k hf
        have E := hide (show ∀ s, lkS (ps ++ [(tAtS L k, k)]) s = plS (L.take (k + 1)) s from fun s => by rw [unhide PT, ← unhide HP s, lkS_snoc])
        have M2 := hide hm2
        have B2 := hide ((unhide HB).grown hg2 (unhide HB).size (fun g e => by cases e; exact Nat.le_refl _))
        rw [hf] at LK
        simp only [Option.getD_none, Option.isSome_none] at LK
        clear PT HP hf hm2 hg2
        generalize ps ++ [(tAtS L k, k)] = ps2 at *
        generalize tAtS L k = nm at *
        go_wp2
        go_roundw
        case rel => exact ⟨k + 1, ps2, by omega, by go_num, unhide M2, unhide E, unhide B2⟩
        case measure => simp [intOf]; omega
    · have hkn : k = n := by omega
      have E : ∀ s, lkS ps s = plS L s := fun s => by rw [hps, hkn, ← hl, List.take_length]
      clear hps
      go_wp2
      go_ret
      exact ⟨_, ps, rfl, hmp, E, Nat.le_refl _, hbel⟩
end Go.Proofs.YtkolflcjkofleaaDoor

namespace Go.Proofs.YtkolflcjkofleaaDoor
open Go.ChangeShapes Go.WideShapes Go.ChangeAt Go.RowKit
set_option linter.unusedVariables false
set_option maxRecDepth 8000
set_option linter.unusedSimpArgs false

set_option maxHeartbeats 2000000 in
theorem kind_num (n : Int) (s : ByteArray) (t u : TypeId) (x y : Value) (w : World) : Calls Tryd.prog 71 #[.iface 88 (.agg #[.int .i64 n])] w fun r w' => r = .returned (.int .i64 1) ∧ w' = w := by
  have tt := taY_num (.agg #[.int .i64 n])
  go_enter Tryd.func71, Tryd.ntmps71
  go_wp2
  go_ret
  exact ⟨rfl, rfl⟩
set_option maxHeartbeats 2000000 in
theorem kind_sym (n : Int) (s : ByteArray) (t u : TypeId) (x y : Value) (w : World) : Calls Tryd.prog 71 #[.iface 117 (.agg #[.string s])] w fun r w' => r = .returned (.int .i64 2) ∧ w' = w := by
  have t0 := taN_num 117 (.agg #[.string s]) (by decide)
  have tt := taY_sym (.agg #[.string s])
  go_enter Tryd.func71, Tryd.ntmps71
  go_wp2
  go_ret
  exact ⟨rfl, rfl⟩
set_option maxHeartbeats 2000000 in
theorem kind_here (n : Int) (s : ByteArray) (t u : TypeId) (x y : Value) (w : World) : Calls Tryd.prog 71 #[.iface 130 (.agg #[])] w fun r w' => r = .returned (.int .i64 3) ∧ w' = w := by
  have t0 := taN_num 130 (.agg #[]) (by decide)
  have t1 := taN_sym 130 (.agg #[]) (by decide)
  have tt := taY_here (.agg #[])
  go_enter Tryd.func71, Tryd.ntmps71
  go_wp2
  go_ret
  exact ⟨rfl, rfl⟩
set_option maxHeartbeats 2000000 in
theorem kind_neg (n : Int) (s : ByteArray) (t u : TypeId) (x y : Value) (w : World) : Calls Tryd.prog 71 #[.iface 104 (.agg #[.iface t x])] w fun r w' => r = .returned (.int .i64 4) ∧ w' = w := by
  have t0 := taN_num 104 (.agg #[.iface t x]) (by decide)
  have t1 := taN_sym 104 (.agg #[.iface t x]) (by decide)
  have t2 := taN_here 104 (.agg #[.iface t x]) (by decide)
  have tt := taY_neg (.agg #[.iface t x])
  go_enter Tryd.func71, Tryd.ntmps71
  go_wp2
  go_ret
  exact ⟨rfl, rfl⟩
set_option maxHeartbeats 2000000 in
theorem kind_add (n : Int) (s : ByteArray) (t u : TypeId) (x y : Value) (w : World) : Calls Tryd.prog 71 #[.iface 134 (.agg #[.iface t x, .iface u y])] w fun r w' => r = .returned (.int .i64 5) ∧ w' = w := by
  have t0 := taN_num 134 (.agg #[.iface t x, .iface u y]) (by decide)
  have t1 := taN_sym 134 (.agg #[.iface t x, .iface u y]) (by decide)
  have t2 := taN_here 134 (.agg #[.iface t x, .iface u y]) (by decide)
  have t3 := taN_neg 134 (.agg #[.iface t x, .iface u y]) (by decide)
  have tt := taY_add (.agg #[.iface t x, .iface u y])
  go_enter Tryd.func71, Tryd.ntmps71
  go_wp2
  go_ret
  exact ⟨rfl, rfl⟩
set_option maxHeartbeats 2000000 in
theorem kind_sub (n : Int) (s : ByteArray) (t u : TypeId) (x y : Value) (w : World) : Calls Tryd.prog 71 #[.iface 135 (.agg #[.iface t x, .iface u y])] w fun r w' => r = .returned (.int .i64 6) ∧ w' = w := by
  have t0 := taN_num 135 (.agg #[.iface t x, .iface u y]) (by decide)
  have t1 := taN_sym 135 (.agg #[.iface t x, .iface u y]) (by decide)
  have t2 := taN_here 135 (.agg #[.iface t x, .iface u y]) (by decide)
  have t3 := taN_neg 135 (.agg #[.iface t x, .iface u y]) (by decide)
  have t4 := taN_add 135 (.agg #[.iface t x, .iface u y]) (by decide)
  have tt := taY_sub (.agg #[.iface t x, .iface u y])
  go_enter Tryd.func71, Tryd.ntmps71
  go_wp2
  go_ret
  exact ⟨rfl, rfl⟩
set_option maxHeartbeats 2000000 in
theorem kind_mul (n : Int) (s : ByteArray) (t u : TypeId) (x y : Value) (w : World) : Calls Tryd.prog 71 #[.iface 136 (.agg #[.iface t x, .iface u y])] w fun r w' => r = .returned (.int .i64 7) ∧ w' = w := by
  have t0 := taN_num 136 (.agg #[.iface t x, .iface u y]) (by decide)
  have t1 := taN_sym 136 (.agg #[.iface t x, .iface u y]) (by decide)
  have t2 := taN_here 136 (.agg #[.iface t x, .iface u y]) (by decide)
  have t3 := taN_neg 136 (.agg #[.iface t x, .iface u y]) (by decide)
  have t4 := taN_add 136 (.agg #[.iface t x, .iface u y]) (by decide)
  have t5 := taN_sub 136 (.agg #[.iface t x, .iface u y]) (by decide)
  have tt := taY_mul (.agg #[.iface t x, .iface u y])
  go_enter Tryd.func71, Tryd.ntmps71
  go_wp2
  go_ret
  exact ⟨rfl, rfl⟩
set_option maxHeartbeats 2000000 in
theorem kind_div (n : Int) (s : ByteArray) (t u : TypeId) (x y : Value) (w : World) : Calls Tryd.prog 71 #[.iface 137 (.agg #[.iface t x, .iface u y])] w fun r w' => r = .returned (.int .i64 8) ∧ w' = w := by
  have t0 := taN_num 137 (.agg #[.iface t x, .iface u y]) (by decide)
  have t1 := taN_sym 137 (.agg #[.iface t x, .iface u y]) (by decide)
  have t2 := taN_here 137 (.agg #[.iface t x, .iface u y]) (by decide)
  have t3 := taN_neg 137 (.agg #[.iface t x, .iface u y]) (by decide)
  have t4 := taN_add 137 (.agg #[.iface t x, .iface u y]) (by decide)
  have t5 := taN_sub 137 (.agg #[.iface t x, .iface u y]) (by decide)
  have t6 := taN_mul 137 (.agg #[.iface t x, .iface u y]) (by decide)
  have tt := taY_div (.agg #[.iface t x, .iface u y])
  go_enter Tryd.func71, Tryd.ntmps71
  go_wp2
  go_ret
  exact ⟨rfl, rfl⟩
set_option maxHeartbeats 2000000 in
theorem kind_and (n : Int) (s : ByteArray) (t u : TypeId) (x y : Value) (w : World) : Calls Tryd.prog 71 #[.iface 138 (.agg #[.iface t x, .iface u y])] w fun r w' => r = .returned (.int .i64 9) ∧ w' = w := by
  have t0 := taN_num 138 (.agg #[.iface t x, .iface u y]) (by decide)
  have t1 := taN_sym 138 (.agg #[.iface t x, .iface u y]) (by decide)
  have t2 := taN_here 138 (.agg #[.iface t x, .iface u y]) (by decide)
  have t3 := taN_neg 138 (.agg #[.iface t x, .iface u y]) (by decide)
  have t4 := taN_add 138 (.agg #[.iface t x, .iface u y]) (by decide)
  have t5 := taN_sub 138 (.agg #[.iface t x, .iface u y]) (by decide)
  have t6 := taN_mul 138 (.agg #[.iface t x, .iface u y]) (by decide)
  have t7 := taN_div 138 (.agg #[.iface t x, .iface u y]) (by decide)
  have tt := taY_and (.agg #[.iface t x, .iface u y])
  go_enter Tryd.func71, Tryd.ntmps71
  go_wp2
  go_ret
  exact ⟨rfl, rfl⟩
set_option maxHeartbeats 2000000 in
theorem kind_or (n : Int) (s : ByteArray) (t u : TypeId) (x y : Value) (w : World) : Calls Tryd.prog 71 #[.iface 139 (.agg #[.iface t x, .iface u y])] w fun r w' => r = .returned (.int .i64 10) ∧ w' = w := by
  have t0 := taN_num 139 (.agg #[.iface t x, .iface u y]) (by decide)
  have t1 := taN_sym 139 (.agg #[.iface t x, .iface u y]) (by decide)
  have t2 := taN_here 139 (.agg #[.iface t x, .iface u y]) (by decide)
  have t3 := taN_neg 139 (.agg #[.iface t x, .iface u y]) (by decide)
  have t4 := taN_add 139 (.agg #[.iface t x, .iface u y]) (by decide)
  have t5 := taN_sub 139 (.agg #[.iface t x, .iface u y]) (by decide)
  have t6 := taN_mul 139 (.agg #[.iface t x, .iface u y]) (by decide)
  have t7 := taN_div 139 (.agg #[.iface t x, .iface u y]) (by decide)
  have t8 := taN_and 139 (.agg #[.iface t x, .iface u y]) (by decide)
  have tt := taY_or (.agg #[.iface t x, .iface u y])
  go_enter Tryd.func71, Tryd.ntmps71
  go_wp2
  go_ret
  exact ⟨rfl, rfl⟩
set_option maxHeartbeats 2000000 in
theorem kind_sect (n : Int) (s : ByteArray) (t u : TypeId) (x y : Value) (w : World) : Calls Tryd.prog 71 #[.iface 115 (.agg #[.int .i64 n])] w fun r w' => r = .returned (.int .i64 11) ∧ w' = w := by
  have t0 := taN_num 115 (.agg #[.int .i64 n]) (by decide)
  have t1 := taN_sym 115 (.agg #[.int .i64 n]) (by decide)
  have t2 := taN_here 115 (.agg #[.int .i64 n]) (by decide)
  have t3 := taN_neg 115 (.agg #[.int .i64 n]) (by decide)
  have t4 := taN_add 115 (.agg #[.int .i64 n]) (by decide)
  have t5 := taN_sub 115 (.agg #[.int .i64 n]) (by decide)
  have t6 := taN_mul 115 (.agg #[.int .i64 n]) (by decide)
  have t7 := taN_div 115 (.agg #[.int .i64 n]) (by decide)
  have t8 := taN_and 115 (.agg #[.int .i64 n]) (by decide)
  have t9 := taN_or 115 (.agg #[.int .i64 n]) (by decide)
  have tt := taY_sect (.agg #[.int .i64 n])
  go_enter Tryd.func71, Tryd.ntmps71
  go_wp2
  go_ret
  exact ⟨rfl, rfl⟩
set_option maxHeartbeats 2000000 in
theorem kind_glob (n : Int) (s : ByteArray) (t u : TypeId) (x y : Value) (w : World) : Calls Tryd.prog 71 #[.iface 118 (.agg #[.string s])] w fun r w' => r = .returned (.int .i64 12) ∧ w' = w := by
  have t0 := taN_num 118 (.agg #[.string s]) (by decide)
  have t1 := taN_sym 118 (.agg #[.string s]) (by decide)
  have t2 := taN_here 118 (.agg #[.string s]) (by decide)
  have t3 := taN_neg 118 (.agg #[.string s]) (by decide)
  have t4 := taN_add 118 (.agg #[.string s]) (by decide)
  have t5 := taN_sub 118 (.agg #[.string s]) (by decide)
  have t6 := taN_mul 118 (.agg #[.string s]) (by decide)
  have t7 := taN_div 118 (.agg #[.string s]) (by decide)
  have t8 := taN_and 118 (.agg #[.string s]) (by decide)
  have t9 := taN_or 118 (.agg #[.string s]) (by decide)
  have t10 := taN_sect 118 (.agg #[.string s]) (by decide)
  have tt := taY_glob (.agg #[.string s])
  go_enter Tryd.func71, Tryd.ntmps71
  go_wp2
  go_ret
  exact ⟨rfl, rfl⟩
theorem kindI_any {d : Nat} {e : Ex} (h : okF d false e = true) (w : World) : Calls Tryd.prog 71 #[tv e] w fun r w' => r = .returned (.int .i64 e.k) ∧ w' = w := by
  cases d with
  | zero => cases h
  | succ d =>
    rcases ok_cases h with ⟨n, hn, rfl⟩ | ⟨s, hs, rfl⟩ | rfl | ⟨a, ha, rfl⟩ | ⟨k, a, b, hk, ha, hb, rfl⟩ | ⟨n, hn, rfl⟩ | ⟨s, hs, rfl⟩
    · rw [tv_num]; exact kind_num n E0 0 0 .nilIface .nilIface w
    · rw [tv_sym]; exact kind_sym 0 s 0 0 .nilIface .nilIface w
    · rw [tv_here]; exact kind_here 0 E0 0 0 .nilIface .nilIface w
    · obtain ⟨t, x, e1⟩ := tv_if a
      rw [tv_neg, e1]; exact kind_neg 0 E0 t 0 x .nilIface w
    · obtain ⟨t, x, e1⟩ := tv_if a
      obtain ⟨u, y, e2⟩ := tv_if b
      rw [tv_two hk, e1, e2]
      have : k = 5 ∨ k = 6 ∨ k = 7 ∨ k = 8 ∨ k = 9 ∨ k = 10 := by omega
      rcases this with rfl | rfl | rfl | rfl | rfl | rfl
      · exact kind_add 0 E0 t u x y w
      · exact kind_sub 0 E0 t u x y w
      · exact kind_mul 0 E0 t u x y w
      · exact kind_div 0 E0 t u x y w
      · exact kind_and 0 E0 t u x y w
      · exact kind_or 0 E0 t u x y w
    · rw [tv_sect]; exact kind_sect n E0 0 0 .nilIface .nilIface w
    · rw [tv_glob]; exact kind_glob 0 s 0 0 .nilIface .nilIface w
end Go.Proofs.YtkolflcjkofleaaDoor

namespace Go.Proofs.YtkolflcjkofleaaDoor
open Go.ChangeShapes Go.WideShapes Go.ChangeAt Go.RowKit
set_option linter.unusedVariables false
set_option maxRecDepth 8000
set_option linter.unusedSimpArgs false

set_option maxHeartbeats 2000000 in
theorem twoI_any (k a b : Int) (hk : 5 ≤ k ∧ k ≤ 10) (ha : 0 ≤ a ∧ a ≤ 65535) (hb : 0 ≤ b ∧ b ≤ 65535) (w : World) : Calls Tryd.prog 88 #[.int .i64 k, .int .i64 a, .int .i64 b] w (TwoR k a b w) := by
  have hm0 : 0 ≤ a * b := Int.mul_nonneg ha.1 hb.1
  have hm1 : a * b ≤ 65535 * 65535 := Int.mul_le_mul ha.2 hb.2 hb.1 (by decide)
  have hm2 : a * b ≤ 4294836225 := by omega
  have hn1 : -9223372036854775808 ≤ a * b := by omega
  have hn2 : a * b ≤ 9223372036854775807 := by omega
  unfold TwoR
  have : k = 5 ∨ k = 6 ∨ k = 7 ∨ k = 8 ∨ k = 9 ∨ k = 10 := by omega
  clear hk
  rcases this with rfl | rfl | rfl | rfl | rfl | rfl
  · have E := hide (show two11 5 a b = some ((a + b) % 65536) from rfl)
    rw [unhide E]
    go_enter Tryd.func88, Tryd.ntmps88
    go_wp2_with (go_at_call 75; refine (wrapI_any _ _).mono ?_; rintro e w' ⟨rfl, hw'⟩; rw [hw']; clear hw' w')
    go_ret2
    exact ⟨rfl, rfl⟩
  · have E := hide (show two11 6 a b = some ((a - b) % 65536) from rfl)
    rw [unhide E]
    go_enter Tryd.func88, Tryd.ntmps88
    go_wp2_with (go_at_call 75; refine (wrapI_any _ _).mono ?_; rintro e w' ⟨rfl, hw'⟩; rw [hw']; clear hw' w')
    go_ret2
    exact ⟨rfl, rfl⟩
  · have E := hide (show two11 7 a b = some ((a * b) % 65536) from rfl)
    rw [unhide E]
    go_enter Tryd.func88, Tryd.ntmps88
    go_wp2_with (go_at_call 75; refine (wrapI_any _ _).mono ?_; rintro e w' ⟨rfl, hw'⟩; rw [hw']; clear hw' w')
    go_ret2
    exact ⟨rfl, rfl⟩
  · by_cases h0 : b = 0
    · subst h0
      rw [show two11 8 a 0 = none from rfl]
      go_enter Tryd.func88, Tryd.ntmps88
      go_wp2
      go_ret2
      exact ⟨rfl, rfl⟩
    · have g0 : (b == 0) = false := beq_eq_false_iff_ne.2 h0
      have E := hide (show two11 8 a b = some (a / b) by unfold two11; rw [if_neg (by decide), if_neg (by decide), if_neg (by decide), if_neg (by decide), if_neg (by decide), if_neg h0])
      rw [unhide E]
      go_enter Tryd.func88, Tryd.ntmps88
      go_wp2
      go_ret2
      exact ⟨rfl, rfl⟩
  · have E := hide (show two11 9 a b = some (bits .and .i64 a b) from rfl)
    rw [unhide E]
    go_enter Tryd.func88, Tryd.ntmps88
    go_wp2
    go_ret2
    exact ⟨rfl, rfl⟩
  · have E := hide (show two11 10 a b = some (bits .or .i64 a b) from rfl)
    rw [unhide E]
    go_enter Tryd.func88, Tryd.ntmps88
    go_wp2
    go_ret2
    exact ⟨rfl, rfl⟩
/-- The type of a right term's value is that of its kind. -/
theorem tv_kT {d : Nat} {e : Ex} (h : okF (d + 1) false e = true) : ∃ T x, tv e = .iface T x ∧ (e.k ≠ 1 → T ≠ 88) ∧ (e.k ≠ 11 → T ≠ 115) ∧ (e.k ≠ 5 → T ≠ 134) := by
  rcases ok_cases h with ⟨n, hn, rfl⟩ | ⟨s, hs, rfl⟩ | rfl | ⟨a, ha, rfl⟩ | ⟨k, a, b, hk, ha, hb, rfl⟩ | ⟨n, hn, rfl⟩ | ⟨s, hs, rfl⟩
  · exact ⟨_, _, tv_num _ _, fun h => absurd rfl h, fun _ => by decide, fun _ => by decide⟩
  · exact ⟨_, _, tv_sym _ _, fun _ => by decide, fun _ => by decide, fun _ => by decide⟩
  · exact ⟨_, _, tv_here _ _, fun _ => by decide, fun _ => by decide, fun _ => by decide⟩
  · exact ⟨_, _, tv_neg _ _ _, fun _ => by decide, fun _ => by decide, fun _ => by decide⟩
  · refine ⟨_, _, tv_two hk _ _ _ _, ?_⟩
    have : k = 5 ∨ k = 6 ∨ k = 7 ∨ k = 8 ∨ k = 9 ∨ k = 10 := by omega
    rcases this with rfl | rfl | rfl | rfl | rfl | rfl
    · exact ⟨fun _ => by decide, fun _ => by decide, fun h => absurd rfl h⟩
    all_goals exact ⟨fun _ => by decide, fun _ => by decide, fun _ => by decide⟩
  · exact ⟨_, _, tv_sect _ _, fun _ => by decide, fun h => absurd rfl h, fun _ => by decide⟩
  · exact ⟨_, _, tv_glob _ _, fun _ => by decide, fun _ => by decide, fun _ => by decide⟩
/-- What a function answers, as a value, beside memory of its own. -/
def VaR (v : Value) (w : World) (r : Ending) (w' : World) : Prop := r = .returned v ∧ Below w.heap.size w w'
set_option maxHeartbeats 2000000 in
theorem cutN_no (T : TypeId) (x : Value) (hT : T ≠ 134) (w : World) : Calls Tryd.prog 96 #[.iface T x] w (VaR (.tuple #[.iface T x, .int .i64 0]) w) := by
  have t1 := taN_add T x hT
  have FN := hide (fun r w' (h : r = .returned (.tuple #[.iface T x, .int .i64 0])) (hb : Below w.heap.size w w') => (show VaR _ w r w' from ⟨h, hb⟩))
  generalize VaR (.tuple #[.iface T x, .int .i64 0]) w = R at *
  have B0 := hide (below_new w (.cells #[.nilIface, .nilIface] 134))
  clear hT
  go_enter Tryd.func96, Tryd.ntmps96
  go_wp2
  (first | go_ret2 | go_ret | skip)
  exact unhide FN _ _ rfl (by first | exact unhide B0 | exact Below.refl _ _)
set_option maxHeartbeats 2000000 in
theorem cutN_mis (t u : TypeId) (x y : Value) (hu : u ≠ 88) (w : World) : Calls Tryd.prog 96 #[.iface 134 (.agg #[.iface t x, .iface u y])] w (VaR (.tuple #[.iface 134 (.agg #[.iface t x, .iface u y]), .int .i64 0]) w) := by
  have t1 := taY_add (.agg #[.iface t x, .iface u y])
  have t2 := taN_num u y hu
  have FN := hide (fun r w' (h : r = .returned (.tuple #[.iface 134 (.agg #[.iface t x, .iface u y]), .int .i64 0])) (hb : Below w.heap.size w w') => (show VaR _ w r w' from ⟨h, hb⟩))
  generalize VaR (.tuple #[.iface 134 (.agg #[.iface t x, .iface u y]), .int .i64 0]) w = R at *
  clear hu
  go_enter Tryd.func96, Tryd.ntmps96
  go_wp2
  (first | go_ret2 | go_ret | skip)
  exact unhide FN _ _ rfl (by first | exact Below.refl _ _ | exact (Below.refl _ _).alloc (Nat.le_refl _) _ | exact ((Below.refl _ _).alloc (Nat.le_refl _) _).alloc (by simp) _)
theorem two_resG (w : World) (o o2 : Obj) : Below w.heap.size w ((w.alloc o).alloc o2) ∧ ((w.alloc o).alloc o2).heap[w.heap.size]? = some o ∧ ((w.alloc o).alloc o2).heap[w.heap.size + 1]? = some o2 := by
  have h1 : (w.alloc o).heap.size = w.heap.size + 1 := by simp
  refine ⟨((Below.refl _ _).alloc (Nat.le_refl _) _).alloc (by simp) _, row_keep (heap_alloc_new w _) (below_new _ _), ?_⟩
  rw [← h1]
  exact Array.getElem?_push_size
theorem below_dr {w w' : World} (h : Below w.heap.size w w') : Below w.heap.size w w'.drew := h.trans (below_drew.mono h.size)
set_option maxHeartbeats 2000000 in
theorem cutN_yes (t : TypeId) (x : Value) (n : Int) (w : World) : Calls Tryd.prog 96 #[.iface 134 (.agg #[.iface t x, .iface 88 (.agg #[.int .i64 n])])] w (VaR (.tuple #[.iface t x, .int .i64 n]) w) := by
  have t1 := taY_add (.agg #[.iface t x, .iface 88 (.agg #[.int .i64 n])])
  have t2 := taY_num (.agg #[.int .i64 n])
  have FN := hide (fun r w' (h : r = .returned (.tuple #[.iface t x, .int .i64 n])) (hb : Below w.heap.size w w') => (show VaR _ w r w' from ⟨h, hb⟩))
  generalize VaR (.tuple #[.iface t x, .int .i64 n]) w = R at *
  have T := hide (two_resG w (.cells #[.iface t x, .iface 88 (.agg #[.int .i64 n])] 134) (.cells #[.int .i64 n] 88))
  go_enter Tryd.func96, Tryd.ntmps96
  go_wp2
  generalize (w.alloc (.cells #[.iface t x, .iface 88 (.agg #[.int .i64 n])] 134)).alloc (.cells #[.int .i64 n] 88) = W at *
  have c0 := Lib.cell_of_heap (unhide T).2.1 0
  have c1 := Lib.cell_of_heap (unhide T).2.2 0
  go_region
  go_wp2
  (first | go_ret2 | go_ret | skip)
  exact unhide FN _ _ rfl (below_dr (unhide T).1)
theorem cutI_any {d : Nat} {a : Ex} (h : okF (d + 1) false a = true) (w : World) : Calls Tryd.prog 96 #[tv a] w (VaR (.tuple #[tv (prtX a).1, .int .i64 (prtX a).2]) w) := by
  rcases prt_cases h with ⟨e, hc⟩ | ⟨b, m, hm, rfl, e, hb⟩
  · rw [e]
    by_cases h5 : a.k = 5
    · obtain ⟨k, n, s, l⟩ := a
      rcases ok_cases h with ⟨n', hn, e'⟩ | ⟨s', hs, e'⟩ | e' | ⟨a', ha, e'⟩ | ⟨k', a', b', hk, ha, hb, e'⟩ | ⟨n', hn, e'⟩ | ⟨s', hs, e'⟩
      · rw [e'] at h5; cases h5
      · rw [e'] at h5; cases h5
      · rw [e'] at h5; cases h5
      · rw [e'] at h5; cases h5
      · rw [e'] at h5 hc ⊢
        obtain rfl : k' = 5 := h5
        obtain ⟨c, rfl⟩ := ok_pos hb
        obtain ⟨t, x, e1⟩ := tv_if a'
        obtain ⟨u, y, e2, g1, _, _⟩ := tv_kT hb
        rw [tv_two hk, e1, e2]
        exact cutN_mis t u x y (g1 (fun q => hc ⟨rfl, q⟩)) w
      · rw [e'] at h5; cases h5
      · rw [e'] at h5; cases h5
    · obtain ⟨T, x, e1, _, _, g⟩ := tv_kT h
      rw [e1]
      exact cutN_no T x (g h5) w
  · rw [e, tv_two (by omega), tv_num]
    obtain ⟨t, x, e1⟩ := tv_if b
    rw [e1]
    exact cutN_yes t x m w
theorem prt_inG {d : Nat} {a : Ex} (h : okF (d + 1) false a = true) : 0 ≤ (prtX a).2 ∧ (prtX a).2 ≤ 65535 := by
  rcases prt_cases h with ⟨e, hc⟩ | ⟨b, m, hm, rfl, e, hb⟩
  · rw [e]; exact ⟨Int.le_refl _, by show (0 : Int) ≤ 65535; omega⟩
  · rw [e]; exact hm
set_option maxHeartbeats 2000000 in
theorem addI_any {d : Nat} {a : Ex} (h : okF (d + 1) false a = true) (n : Int) (hn : -65536 ≤ n ∧ n ≤ 65536) (w : World) : Calls Tryd.prog 89 #[tv a, .int .i64 n] w (VaR (tv (sumX a n)) w) := by
  have CU := hide (cutI_any h w)
  have hp := prt_inG h
  obtain ⟨t0, x0, e0⟩ := tv_if a
  obtain ⟨t, x, e1⟩ := tv_if (prtX a).1
  have E0 := hide (show wr (n + (prtX a).2) = 0 → tv (sumX a n) = .iface t x from fun hz => by unfold sumX addX; rw [if_pos (by rw [Int.add_comm]; exact hz), e1])
  have E1 := hide (show wr (n + (prtX a).2) ≠ 0 → tv (sumX a n) = .iface 134 (.agg #[.iface t x, .iface 88 (.agg #[.int .i64 (wr (n + (prtX a).2))])]) from fun hz => by
    unfold sumX addX numX
    rw [if_neg (by rw [Int.add_comm]; exact hz), tv_two (by omega), tv_num, e1, Int.add_comm]
    rfl)
  rw [e1, e0] at CU
  rw [e0]
  unfold wr at E0 E1
  have FN := hide (fun r w' (h : r = .returned (tv (sumX a n))) (hb : Below w.heap.size w w') => (show VaR _ w r w' from ⟨h, hb⟩))
  generalize tv (sumX a n) = V at *
  generalize VaR V w = R at *
  generalize (prtX a).2 = m at *
  unfold VaR at CU
  clear h e0 e1
  by_cases hz : (n + m) % 65536 = 0
  · have E := unhide E0 hz
    subst E
    have hz2 : ((n + m) % 65536 == 0) = true := beq_iff_eq.2 hz
    have hq := hz
    clear E0 E1 hz
    generalize hM : (n + m) % 65536 = M at *
    have HM := hide hM
    subst hq
    clear hM
    go_enter Tryd.func89, Tryd.ntmps89
    go_wp2_with (first | (go_at_call 96; refine (unhide CU).mono ?_; rintro r w1 ⟨rfl, hb1⟩; have B1 := hide hb1; clear hb1) | (go_at_call 75; refine (wrapI_any _ _).mono ?_; rintro e w' ⟨rfl, hw'⟩; rw [hw', unhide HM]; clear hw' w'))
    (first | go_ret2 | go_ret | skip)
    exact unhide FN _ _ rfl (unhide B1)
  · have E := unhide E1 hz
    subst E
    have hz2 : ((n + m) % 65536 == 0) = false := beq_eq_false_iff_ne.2 hz
    clear E0 E1 hz
    generalize hM : (n + m) % 65536 = M at *
    have HM := hide hM
    clear hM
    go_enter Tryd.func89, Tryd.ntmps89
    go_wp2_with (first | (go_at_call 96; refine (unhide CU).mono ?_; rintro r w1 ⟨rfl, hb1⟩; have B1 := hide hb1; clear hb1) | (go_at_call 75; refine (wrapI_any _ _).mono ?_; rintro e w' ⟨rfl, hw'⟩; rw [hw', unhide HM]; clear hw' w'))
    (first | go_ret2 | go_ret | skip)
    exact unhide FN _ _ rfl (unhide B1)
end Go.Proofs.YtkolflcjkofleaaDoor

namespace Go.Proofs.YtkolflcjkofleaaDoor
open Go.ChangeShapes Go.WideShapes Go.ChangeAt Go.RowKit
set_option linter.unusedVariables false
set_option maxRecDepth 8000
set_option linter.unusedSimpArgs false

theorem leaf_eq (d : Nat) (w : World) : (Op.equalIn (d + 1) 86 (.agg #[]) (.agg #[])).run Tryd.prog w = .ok true w := by
  rw [run_equalIn_struct w d 86 _ _ (by kernel_rfl) (by kernel_rfl), show (Tryd.prog.fieldsOf 86).toList = [] by kernel_rfl]
  rfl
theorem sect_eq (n m : Int) (w : World) : (Op.equalIn 10000 115 (.agg #[.int .i64 n]) (.agg #[.int .i64 m])).run Tryd.prog w = .ok (n == m) w := by
  rw [run_equalIn_struct w 9999 115 _ _ (by kernel_rfl) (by kernel_rfl)]
  have hf : (Tryd.prog.fieldsOf 115).toList.map (fun f => (f.name, f.type, f.offset)) = [("leaf", 86, 0), ("n", 3, 0)] := by kernel_rfl
  have hlen := congrArg List.length hf
  rw [List.length_map] at hlen
  generalize (Tryd.prog.fieldsOf 115).toList = fs at *
  match fs, hlen, hf with
  | [f0, f1], _, hf =>
    simp only [List.map_cons, List.map_nil, List.cons.injEq, Prod.mk.injEq] at hf
    obtain ⟨⟨n0, t0, o0⟩, ⟨n1, t1, o1⟩, _⟩ := hf
    have q0 : ∀ n : Int, (part 86 #[.int .i64 n] 0).run Tryd.prog w = .ok (.agg #[]) w := fun n => by kernel_rfl
    have q1 : ∀ n : Int, (part 3 #[.int .i64 n] 0).run Tryd.prog w = .ok (.int .i64 n) w := fun n => by kernel_rfl
    have s0 := leaf_eq 9998 w
    have s1 := run_equalIn_int w 9998 3 .i64 .i64 n m Tryd.underlying3
    simp only [Op.eqFields, n0, n1, t0, t1, o0, o1, Sem.run_bind, Sem.run_ite, q0, q1, Result.andThen_ok, s0, s1]
    cases n == m <;> simp
/-- Whether two count from one section. -/
def sApX (a b : Ex) : Bool := decide ((prtX a).1.k = 11 ∧ (prtX b).1.k = 11 ∧ (prtX a).1.n = (prtX b).1.n)
def ApR (n m : Int) (q : Bool) (w : World) (r : Ending) (w' : World) : Prop := r = .returned (.tuple #[.int .i64 (wr (n - m)), .bool q]) ∧ Below w.heap.size w w'
/-- Whether a value is a section of the program's, and which (0, where it is none). -/
def IsS (v : Value) (z : Int) (q : Bool) : Prop := ∀ w, (Instr.typeAssert v 66 115 true).run Tryd.prog w = .ok (.tuple #[.agg #[.int .i64 z], .bool q]) w
set_option maxHeartbeats 4000000 in
theorem ap_any (va vb : Value) (ta tb : TypeId) (xa xb : Value) (n m z1 z2 : Int) (q1 q2 : Bool) (i1 : IsS (.iface ta xa) z1 q1) (i2 : IsS (.iface tb xb) z2 q2) (hn : 0 ≤ n ∧ n ≤ 65535) (hm : 0 ≤ m ∧ m ≤ 65535) (w : World) (ca : ∀ w, Calls Tryd.prog 96 #[va] w (VaR (.tuple #[.iface ta xa, .int .i64 n]) w)) (cb : ∀ w, Calls Tryd.prog 96 #[vb] w (VaR (.tuple #[.iface tb xb, .int .i64 m]) w)) : Calls Tryd.prog 90 #[.agg #[va, vb]] w (ApR n m (q1 && (q2 && (z1 == z2))) w) := by
  have FN := hide (fun r w' (h : r = .returned (.tuple #[.int .i64 (wr (n - m)), .bool (q1 && (q2 && (z1 == z2)))])) (hb : Below w.heap.size w w') => (show ApR n m (q1 && (q2 && (z1 == z2))) w r w' from ⟨h, hb⟩))
  generalize ApR n m (q1 && (q2 && (z1 == z2))) w = R at *
  have CA := hide ca
  have CB := hide cb
  unfold VaR at CA CB
  unfold wr at FN
  unfold IsS at i1 i2
  have B0 := hide (below_new w (.cells #[va, vb] 107))
  have G0 := hide (show (w.alloc (.cells #[va, vb] 107)).heap[w.heap.size]? = some (.cells #[va, vb] 107 (0, 0)) from Array.getElem?_push_size)
  have eqs := sect_eq z1 z2
  clear ca cb
  cases q1 <;> cases q2
  all_goals
    simp only [Bool.false_and, Bool.true_and] at FN
    go_enter Tryd.func90, Tryd.ntmps90
    go_wp2_with fail
    generalize w.alloc (.cells #[va, vb] 107) = W at *
    refine (unhide CA _).mono ?_
    rintro r w1 ⟨rfl, hb1⟩
    have B1 := hide ((unhide B0).trans (hb1.mono (unhide B0).size))
    have c1 := Lib.cell_of_heap (row_keep (unhide G0) hb1) 1
    clear hb1 B0 G0 CA
    go_wp2_with fail
    clear c1
    refine (unhide CB _).mono ?_
    rintro r w2 ⟨rfl, hb2⟩
    have B2 := hide ((unhide B1).trans (hb2.mono (unhide B1).size))
    clear hb2 B1 CB
    go_wp2_with fail
    have T := two_resG w2 (.cells #[.int .i64 z1] 115) (.cells #[.int .i64 z2] 115)
    have B3 := hide ((unhide B2).trans (T.1.mono (unhide B2).size))
    generalize w2.heap.size = g2 at *
    generalize (w2.alloc (.cells #[.int .i64 z1] 115)).alloc (.cells #[.int .i64 z2] 115) = V at *
    have y0 : ∀ y : Sub V.heap.size V, y.w.cell? ⟨g2, 0, none⟩ = some (.int .i64 z1) := fun y => (y.h.cell (p := ⟨g2, 0, none⟩) (Array.getElem?_eq_some_iff.1 T.2.1).1).trans (Lib.cell_of_heap T.2.1 0)
    have y1 : ∀ y : Sub V.heap.size V, y.w.cell? ⟨g2 + 1, 0, none⟩ = some (.int .i64 z2) := fun y => (y.h.cell (p := ⟨g2 + 1, 0, none⟩) (Array.getElem?_eq_some_iff.1 T.2.2).1).trans (Lib.cell_of_heap T.2.2 0)
    have ne := Sub.ne V.heap.size V
    have HB := hide (fun y : Sub V.heap.size V => (unhide B3).trans (y.h.mono (unhide B3).size))
    clear T B2 B3
    refine wp_region_sub (⟨V, Below.refl _ _⟩ : Sub V.heap.size V) (by kernel_rfl) (by kernel_rfl) ?_
    (repeat (go_big_quiet_step (first | (go_at_call 75; exact Sub.same (wrapI_any _ _)))))
    refine wpQuiet_nil ?_
    intro y
    go_wp2
    (first | go_ret2 | go_ret | skip)
    exact unhide FN _ _ rfl (unhide HB _)
theorem apI_any {d : Nat} {a b : Ex} (ha : okF (d + 1) false a = true) (hb : okF (d + 1) false b = true) (w : World) : Calls Tryd.prog 90 #[.agg #[tv a, tv b]] w (ApR (prtX a).2 (prtX b).2 (sApX a b) w) := by
  have ca := fun w => cutI_any ha w
  have cb := fun w => cutI_any hb w
  obtain ⟨da, oa⟩ := prt_ok ha
  obtain ⟨db, ob⟩ := prt_ok hb
  have ia := prt_inG ha
  have ib := prt_inG hb
  unfold sApX
  generalize (prtX a).2 = n at *
  generalize (prtX b).2 = m at *
  generalize (prtX a).1 = x at *
  generalize (prtX b).1 = y at *
  have IS : ∀ {d : Nat} {x : Ex}, okF (d + 1) false x = true → (x.k = 11 ∧ IsS (tv x) x.n true) ∨ (x.k ≠ 11 ∧ IsS (tv x) 0 false) := by
    intro d x h
    by_cases h1 : x.k = 11
    · obtain ⟨p, hp, rfl⟩ := ok_k11 h h1
      left
      rw [tv_sect]
      exact ⟨rfl, fun w => taY_sect _ w⟩
    · right
      obtain ⟨T, v, e, _, g, _⟩ := tv_kT h
      rw [e]
      exact ⟨h1, fun w => taN_sect T v (g h1) w⟩
  have I1 := IS oa
  have I2 := IS ob
  obtain ⟨ta, xa, e1⟩ := tv_if x
  obtain ⟨tb, xb, e2⟩ := tv_if y
  rw [e1] at ca I1
  rw [e2] at cb I2
  rcases I1 with ⟨h1, i1⟩ | ⟨h1, i1⟩
  · rcases I2 with ⟨h2, i2⟩ | ⟨h2, i2⟩
    · rw [show decide (x.k = 11 ∧ y.k = 11 ∧ x.n = y.n) = (true && (true && (x.n == y.n))) by rw [h1, h2]; simp; rfl]
      exact ap_any _ _ ta tb xa xb n m _ _ true true i1 i2 ia ib w ca cb
    · rw [decide_eq_false (fun h => h2 h.2.1)]
      exact ap_any _ _ ta tb xa xb n m _ _ true false i1 i2 ia ib w ca cb
  · rw [decide_eq_false (fun h => h1 h.1)]
    rcases I2 with ⟨h2, i2⟩ | ⟨h2, i2⟩
    · exact ap_any _ _ ta tb xa xb n m _ _ false true i1 i2 ia ib w ca cb
    · exact ap_any _ _ ta tb xa xb n m _ _ false false i1 i2 ia ib w ca cb
set_option maxHeartbeats 2000000 in
theorem negI_num (n : Int) (hn : 0 ≤ n ∧ n ≤ 65535) (w : World) : Calls Tryd.prog 72 #[.iface 88 (.agg #[.int .i64 n])] w (VaR (.iface 88 (.agg #[.int .i64 (wr (-n))])) w) := by
  have t1 := taY_num (.agg #[.int .i64 n])
  have FN := hide (fun r w' (h : r = .returned (.iface 88 (.agg #[.int .i64 (wr (-n))]))) (hb : Below w.heap.size w w') => (show VaR _ w r w' from ⟨h, hb⟩))
  generalize VaR (.iface 88 (.agg #[.int .i64 (wr (-n))])) w = R at *
  unfold wr at FN
  go_enter Tryd.func72, Tryd.ntmps72
  go_wp2_with (go_at_call 75; refine (wrapI_any _ _).mono ?_; rintro e w0 ⟨rfl, hw0⟩; rw [hw0]; clear hw0 w0)
  (first | go_ret2 | go_ret | skip)
  exact unhide FN _ _ rfl (by first | exact Below.refl _ _ | exact below_new w _ | exact ((Below.refl _ _).alloc (Nat.le_refl _) _).alloc (by simp) _)
set_option maxHeartbeats 2000000 in
theorem negI_oth (t : TypeId) (x : Value) (ht : t ≠ 88) (w : World) : Calls Tryd.prog 72 #[.iface t x] w (VaR (.iface 104 (.agg #[.iface t x])) w) := by
  have t1 := taN_num t x ht
  have FN := hide (fun r w' (h : r = .returned (.iface 104 (.agg #[.iface t x]))) (hb : Below w.heap.size w w') => (show VaR _ w r w' from ⟨h, hb⟩))
  generalize VaR (.iface 104 (.agg #[.iface t x])) w = R at *
  clear ht
  go_enter Tryd.func72, Tryd.ntmps72
  go_wp2
  (first | go_ret2 | go_ret | skip)
  exact unhide FN _ _ rfl (by first | exact Below.refl _ _ | exact below_new w _ | exact ((Below.refl _ _).alloc (Nat.le_refl _) _).alloc (by simp) _)
theorem negI_any {d : Nat} {a : Ex} (h : okF (d + 1) false a = true) (w : World) : Calls Tryd.prog 72 #[tv a] w (VaR (tv (negX a)) w) := by
  unfold negX
  by_cases h1 : a.k = 1
  · obtain ⟨n, hn, rfl⟩ := ok_k1 h h1
    rw [if_pos h1, tv_num]
    unfold numX
    rw [tv_num]
    exact negI_num n hn w
  · obtain ⟨T, x, e, g, _, _⟩ := tv_kT h
    rw [if_neg h1, tv_neg, e]
    exact negI_oth T x (g h1) w
end Go.Proofs.YtkolflcjkofleaaDoor

namespace Go.Proofs.YtkolflcjkofleaaDoor
open Go.ChangeShapes Go.WideShapes Go.ChangeAt Go.RowKit
set_option linter.unusedVariables false
set_option maxRecDepth 8000
set_option linter.unusedSimpArgs false

theorem al1 {w w' : World} {o : Obj} (h : Below (w.alloc o).heap.size (w.alloc o) w') : Below w.heap.size w w' := (below_new w o).trans (h.mono (by simp))
theorem al2 {w w' : World} {o p : Obj} (h : Below ((w.alloc o).alloc p).heap.size ((w.alloc o).alloc p) w') : Below w.heap.size w w' := al1 (al1 h)
theorem al3 {w w' : World} {o p q : Obj} (h : Below (((w.alloc o).alloc p).alloc q).heap.size (((w.alloc o).alloc p).alloc q) w') : Below w.heap.size w w' := al1 (al2 h)
theorem al4 {w w' : World} {o p q s : Obj} (h : Below ((((w.alloc o).alloc p).alloc q).alloc s).heap.size ((((w.alloc o).alloc p).alloc q).alloc s) w') : Below w.heap.size w w' := al1 (al3 h)
/-- Whether a value is a number of the program's, and which (0, where it is none). -/
def IsN (v : Value) (z : Int) (q : Bool) : Prop := ∀ w, (Instr.typeAssert v 66 88 true).run Tryd.prog w = .ok (.tuple #[.agg #[.int .i64 z], .bool q]) w
theorem isN_of {d : Nat} {a : Ex} (h : okF (d + 1) false a = true) : (a.k = 1 ∧ (0 ≤ a.n ∧ a.n ≤ 65535) ∧ IsN (tv a) a.n true) ∨ (a.k ≠ 1 ∧ IsN (tv a) 0 false) := by
  by_cases h1 : a.k = 1
  · obtain ⟨n, hn, rfl⟩ := ok_k1 h h1
    left
    rw [tv_num]
    exact ⟨rfl, hn, fun w => taY_num _ w⟩
  · right
    obtain ⟨T, x, e, g, _, _⟩ := tv_kT h
    rw [e]
    exact ⟨h1, fun w => taN_num T x (g h1) w⟩
set_option maxHeartbeats 4000000 in
theorem fp_two (k : Int) (z1 z2 : Int) (v : Int) (hw : two11 k z1 z2 = some v) (tw : ∀ w, Calls Tryd.prog 88 #[.int .i64 k, .int .i64 z1, .int .i64 z2] w (TwoR k z1 z2 w)) (ta tb : TypeId) (xa xb : Value) (i1 : IsN (.iface ta xa) z1 true) (i2 : IsN (.iface tb xb) z2 true) (w : World) : Calls Tryd.prog 73 #[.int .i64 k, .agg #[.iface ta xa, .iface tb xb]] w (VaR (.iface 88 (.agg #[.int .i64 v])) w) := by
  have FN := hide (fun r w' (h : r = .returned (.iface 88 (.agg #[.int .i64 v]))) (hb : Below w.heap.size w w') => (show VaR _ w r w' from ⟨h, hb⟩))
  generalize VaR (.iface 88 (.agg #[.int .i64 v])) w = R at *
  unfold IsN at i1 i2
  have TW := hide tw
  unfold TwoR at TW
  rw [hw] at TW
  simp only [Option.getD_some, Option.isSome_some] at TW
  clear tw hw
  go_enter Tryd.func73, Tryd.ntmps73
  go_wp2_with (go_at_call 88; refine (unhide TW _).mono ?_; rintro r w0 ⟨hw0, rfl⟩; rw [hw0]; clear hw0 w0)
  (first | go_ret2 | go_ret | skip)
  exact unhide FN _ _ rfl (by first | exact Below.refl _ _ | exact al1 (Below.refl _ _) | exact al2 (Below.refl _ _) | exact al3 (Below.refl _ _) | exact al4 (Below.refl _ _))
set_option maxHeartbeats 4000000 in
theorem fp_none (k : Int) (z1 z2 : Int) (h5 : (k == 5) = false) (h6 : (k == 6) = false) (hw : two11 k z1 z2 = none) (tw : ∀ w, Calls Tryd.prog 88 #[.int .i64 k, .int .i64 z1, .int .i64 z2] w (TwoR k z1 z2 w)) (hk : inB k 5 10 = true) (ta tb : TypeId) (xa xb : Value) (i1 : IsN (.iface ta xa) z1 true) (i2 : IsN (.iface tb xb) z2 true) (w : World) : Calls Tryd.prog 73 #[.int .i64 k, .agg #[.iface ta xa, .iface tb xb]] w (VaR (.iface (pairT k) (.agg #[.iface ta xa, .iface tb xb])) w) := by
  have FN := hide (fun r w' (h : r = .returned (.iface (pairT k) (.agg #[.iface ta xa, .iface tb xb]))) (hb : Below w.heap.size w w') => (show VaR _ w r w' from ⟨h, hb⟩))
  generalize VaR (.iface (pairT k) (.agg #[.iface ta xa, .iface tb xb])) w = R at *
  unfold IsN at i1 i2
  have TW := hide tw
  unfold TwoR at TW
  rw [hw] at TW
  simp only [Option.getD_none, Option.isSome_none] at TW
  have PA := hide (fun w => pair_any k (.iface ta xa) (.iface tb xb) w)
  rw [hk] at PA
  simp only [forall_const] at PA
  clear tw hw hk
  generalize pairT k = pT at *
  go_enter Tryd.func73, Tryd.ntmps73
  go_wp2_with (go_at_call 88; refine (unhide TW _).mono ?_; rintro r w0 ⟨hw0, rfl⟩; rw [hw0]; clear hw0 w0)
  go_wp2_with fail
  refine (unhide PA _).mono ?_
  rintro r w1 ⟨x, rfl, rfl, hb1⟩
  have B1 := hide (show Below w.heap.size w w1 by first | exact hb1 | exact al1 hb1 | exact al2 hb1 | exact al3 hb1 | exact al4 hb1)
  clear hb1
  go_wp2
  (first | go_ret2 | go_ret | skip)
  exact unhide FN _ _ rfl (unhide B1)
set_option maxHeartbeats 4000000 in
theorem fp_oth (k : Int) (h5 : (k == 5) = false) (h6 : (k == 6) = false) (hk : inB k 5 10 = true) (q1 q2 : Bool) (hq : (q1 && q2) = false) (ta tb : TypeId) (xa xb : Value) (z1 z2 : Int) (i1 : IsN (.iface ta xa) z1 q1) (i2 : IsN (.iface tb xb) z2 q2) (w : World) : Calls Tryd.prog 73 #[.int .i64 k, .agg #[.iface ta xa, .iface tb xb]] w (VaR (.iface (pairT k) (.agg #[.iface ta xa, .iface tb xb])) w) := by
  have FN := hide (fun r w' (h : r = .returned (.iface (pairT k) (.agg #[.iface ta xa, .iface tb xb]))) (hb : Below w.heap.size w w') => (show VaR _ w r w' from ⟨h, hb⟩))
  generalize VaR (.iface (pairT k) (.agg #[.iface ta xa, .iface tb xb])) w = R at *
  unfold IsN at i1 i2
  have PA := hide (fun w => pair_any k (.iface ta xa) (.iface tb xb) w)
  rw [hk] at PA
  simp only [forall_const] at PA
  clear hk
  generalize pairT k = pT at *
  cases q1 <;> cases q2 <;> (first | cases hq | skip)
  all_goals
    go_enter Tryd.func73, Tryd.ntmps73
    go_wp2_with fail
    refine (unhide PA _).mono ?_
    rintro r w1 ⟨x, rfl, rfl, hb1⟩
    have B1 := hide (show Below w.heap.size w w1 by first | exact hb1 | exact al1 hb1 | exact al2 hb1 | exact al3 hb1 | exact al4 hb1)
    clear hb1
    go_wp2
    (first | go_ret2 | go_ret | skip)
    exact unhide FN _ _ rfl (unhide B1)
set_option maxHeartbeats 4000000 in
theorem fp_add0  (ta tb : TypeId) (xa xb : Value) (z1 z2 : Int) (i1 : IsN (.iface ta xa) z1 false) (i2 : IsN (.iface tb xb) z2 false) (w : World) : Calls Tryd.prog 73 #[.int .i64 5, .agg #[.iface ta xa, .iface tb xb]] w (VaR (.iface 134 (.agg #[.iface ta xa, .iface tb xb])) w) := by
  have FN := hide (fun r w' (h : r = .returned (.iface 134 (.agg #[.iface ta xa, .iface tb xb]))) (hb : Below w.heap.size w w') => (show VaR _ w r w' from ⟨h, hb⟩))
  generalize VaR (.iface 134 (.agg #[.iface ta xa, .iface tb xb])) w = R at *
  unfold IsN at i1 i2
  have PA := hide (fun w => pair_any 5 (.iface ta xa) (.iface tb xb) w)
  rw [show inB 5 5 10 = true by decide, show pairT 5 = 134 from rfl] at PA
  simp only [forall_const] at PA
  go_enter Tryd.func73, Tryd.ntmps73
  go_wp2_with fail
  refine (unhide PA _).mono ?_
  rintro r w1 ⟨x, rfl, rfl, hb1⟩
  have B1 := hide (show Below w.heap.size w w1 by first | exact hb1 | exact al1 hb1 | exact al2 hb1 | exact al3 hb1 | exact al4 hb1)
  clear hb1
  go_wp2
  (first | go_ret2 | go_ret | skip)
  exact unhide FN _ _ rfl (unhide B1)
set_option maxHeartbeats 4000000 in
theorem fp_add1 (V : Value) (z1 : Int) (tb : TypeId) (xb : Value) (ad : ∀ w, Calls Tryd.prog 89 #[.iface tb xb, .int .i64 z1] w (VaR V w)) (ta : TypeId) (xa : Value) (z2 : Int) (i1 : IsN (.iface ta xa) z1 true) (i2 : IsN (.iface tb xb) z2 false) (w : World) : Calls Tryd.prog 73 #[.int .i64 5, .agg #[.iface ta xa, .iface tb xb]] w (VaR (V) w) := by
  have FN := hide (fun r w' (h : r = .returned (V)) (hb : Below w.heap.size w w') => (show VaR _ w r w' from ⟨h, hb⟩))
  generalize VaR (V) w = R at *
  unfold IsN at i1 i2
  have AD := hide ad
  unfold VaR at AD
  clear ad
  go_enter Tryd.func73, Tryd.ntmps73
  go_wp2_with fail
  refine (unhide AD _).mono ?_
  rintro r w1 ⟨rfl, hb1⟩
  have B1 := hide (show Below w.heap.size w w1 by first | exact hb1 | exact al1 hb1 | exact al2 hb1 | exact al3 hb1 | exact al4 hb1)
  clear hb1
  go_wp2
  (first | go_ret2 | go_ret | skip)
  exact unhide FN _ _ rfl (unhide B1)
set_option maxHeartbeats 4000000 in
theorem fp_add2 (V : Value) (z2 : Int) (ta : TypeId) (xa : Value) (ad : ∀ w, Calls Tryd.prog 89 #[.iface ta xa, .int .i64 z2] w (VaR V w)) (tb : TypeId) (xb : Value) (z1 : Int) (i1 : IsN (.iface ta xa) z1 false) (i2 : IsN (.iface tb xb) z2 true) (w : World) : Calls Tryd.prog 73 #[.int .i64 5, .agg #[.iface ta xa, .iface tb xb]] w (VaR (V) w) := by
  have FN := hide (fun r w' (h : r = .returned (V)) (hb : Below w.heap.size w w') => (show VaR _ w r w' from ⟨h, hb⟩))
  generalize VaR (V) w = R at *
  unfold IsN at i1 i2
  have AD := hide ad
  unfold VaR at AD
  clear ad
  go_enter Tryd.func73, Tryd.ntmps73
  go_wp2_with fail
  refine (unhide AD _).mono ?_
  rintro r w1 ⟨rfl, hb1⟩
  have B1 := hide (show Below w.heap.size w w1 by first | exact hb1 | exact al1 hb1 | exact al2 hb1 | exact al3 hb1 | exact al4 hb1)
  clear hb1
  go_wp2
  (first | go_ret2 | go_ret | skip)
  exact unhide FN _ _ rfl (unhide B1)
set_option maxHeartbeats 4000000 in
theorem fp_sub2 (V : Value) (z2 : Int) (hz : 0 ≤ z2 ∧ z2 ≤ 65535) (ta : TypeId) (xa : Value) (ad : ∀ w, Calls Tryd.prog 89 #[.iface ta xa, .int .i64 (-z2)] w (VaR V w)) (tb : TypeId) (xb : Value) (z1 : Int) (i1 : IsN (.iface ta xa) z1 false) (i2 : IsN (.iface tb xb) z2 true) (w : World) : Calls Tryd.prog 73 #[.int .i64 6, .agg #[.iface ta xa, .iface tb xb]] w (VaR (V) w) := by
  have FN := hide (fun r w' (h : r = .returned (V)) (hb : Below w.heap.size w w') => (show VaR _ w r w' from ⟨h, hb⟩))
  generalize VaR (V) w = R at *
  unfold IsN at i1 i2
  have AD := hide ad
  unfold VaR at AD
  clear ad
  go_enter Tryd.func73, Tryd.ntmps73
  go_wp2_with fail
  refine (unhide AD _).mono ?_
  rintro r w1 ⟨rfl, hb1⟩
  have B1 := hide (show Below w.heap.size w w1 by first | exact hb1 | exact al1 hb1 | exact al2 hb1 | exact al3 hb1 | exact al4 hb1)
  clear hb1
  go_wp2
  (first | go_ret2 | go_ret | skip)
  exact unhide FN _ _ rfl (unhide B1)
set_option maxHeartbeats 4000000 in
theorem fp_sub0 (n m : Int) (ta tb : TypeId) (xa xb : Value) (q1 : Bool) (ap : ∀ w, Calls Tryd.prog 90 #[.agg #[.iface ta xa, .iface tb xb]] w (ApR n m false w)) (z1 z2 : Int) (i1 : IsN (.iface ta xa) z1 q1) (i2 : IsN (.iface tb xb) z2 false) (w : World) : Calls Tryd.prog 73 #[.int .i64 6, .agg #[.iface ta xa, .iface tb xb]] w (VaR (.iface 135 (.agg #[.iface ta xa, .iface tb xb])) w) := by
  have FN := hide (fun r w' (h : r = .returned (.iface 135 (.agg #[.iface ta xa, .iface tb xb]))) (hb : Below w.heap.size w w') => (show VaR _ w r w' from ⟨h, hb⟩))
  generalize VaR (.iface 135 (.agg #[.iface ta xa, .iface tb xb])) w = R at *
  unfold IsN at i1 i2
  have AP := hide ap
  unfold ApR at AP
  clear ap
  generalize wr (n - m) = nm at *
  have G0 := hide (show (w.alloc (.cells #[.iface ta xa, .iface tb xb] 107)).heap[w.heap.size]? = some (.cells #[.iface ta xa, .iface tb xb] 107 (0, 0)) from Array.getElem?_push_size)
  have PA := hide (fun w => pair_any 6 (.iface ta xa) (.iface tb xb) w)
  rw [show inB 6 5 10 = true by decide, show pairT 6 = 135 from rfl] at PA
  simp only [forall_const] at PA
  cases q1
  all_goals
    go_enter Tryd.func73, Tryd.ntmps73
    go_wp2_with fail
    refine (unhide AP _).mono ?_
    rintro r w1 ⟨rfl, hb1⟩
    have G1 : w1.heap[w.heap.size]? = some (.cells #[.iface ta xa, .iface tb xb] 107 (0, 0)) := by first | exact row_keep (unhide G0) hb1 | exact row_keep (unhide G0) (al1 hb1) | exact row_keep (unhide G0) (al2 hb1) | exact row_keep (unhide G0) (al3 hb1)
    have p0 := Lib.cell_of_heap G1 0
    have p1 := Lib.cell_of_heap G1 1
    have B1 := hide (show Below w.heap.size w w1 by first | exact hb1 | exact al1 hb1 | exact al2 hb1 | exact al3 hb1 | exact al4 hb1)
    clear hb1 G1
    go_wp2_with fail
    refine (unhide PA _).mono ?_
    rintro r w2 ⟨x, rfl, rfl, hb2⟩
    have B2 := hide (show Below w.heap.size w w2 from (unhide B1).trans (hb2.mono (unhide B1).size))
    clear hb2
    go_wp2
    (first | go_ret2 | go_ret | skip)
    exact unhide FN _ _ rfl (unhide B2)
set_option maxHeartbeats 4000000 in
theorem fp_sub1 (n m : Int) (ta tb : TypeId) (xa xb : Value) (q1 : Bool) (ap : ∀ w, Calls Tryd.prog 90 #[.agg #[.iface ta xa, .iface tb xb]] w (ApR n m true w)) (z1 z2 : Int) (i1 : IsN (.iface ta xa) z1 q1) (i2 : IsN (.iface tb xb) z2 false) (w : World) : Calls Tryd.prog 73 #[.int .i64 6, .agg #[.iface ta xa, .iface tb xb]] w (VaR (.iface 88 (.agg #[.int .i64 (wr (n - m))])) w) := by
  have FN := hide (fun r w' (h : r = .returned (.iface 88 (.agg #[.int .i64 (wr (n - m))]))) (hb : Below w.heap.size w w') => (show VaR _ w r w' from ⟨h, hb⟩))
  generalize VaR (.iface 88 (.agg #[.int .i64 (wr (n - m))])) w = R at *
  unfold IsN at i1 i2
  have AP := hide ap
  unfold ApR at AP
  clear ap
  generalize wr (n - m) = nm at *
  have G0 := hide (show (w.alloc (.cells #[.iface ta xa, .iface tb xb] 107)).heap[w.heap.size]? = some (.cells #[.iface ta xa, .iface tb xb] 107 (0, 0)) from Array.getElem?_push_size)
  cases q1
  all_goals
    go_enter Tryd.func73, Tryd.ntmps73
    go_wp2_with fail
    refine (unhide AP _).mono ?_
    rintro r w1 ⟨rfl, hb1⟩
    have G1 : w1.heap[w.heap.size]? = some (.cells #[.iface ta xa, .iface tb xb] 107 (0, 0)) := by first | exact row_keep (unhide G0) hb1 | exact row_keep (unhide G0) (al1 hb1) | exact row_keep (unhide G0) (al2 hb1) | exact row_keep (unhide G0) (al3 hb1)
    have p0 := Lib.cell_of_heap G1 0
    have p1 := Lib.cell_of_heap G1 1
    have B1 := hide (show Below w.heap.size w w1 by first | exact hb1 | exact al1 hb1 | exact al2 hb1 | exact al3 hb1 | exact al4 hb1)
    clear hb1 G1
    go_wp2
    (first | go_ret2 | go_ret | skip)
    exact unhide FN _ _ rfl (unhide B1)
theorem foldPI_any {d : Nat} {k : Int} {a b : Ex} (hk : 5 ≤ k ∧ k ≤ 10) (ha : okF (d + 1) false a = true) (hb : okF (d + 1) false b = true) (w : World) : Calls Tryd.prog 73 #[.int .i64 k, .agg #[tv a, tv b]] w (VaR (tv (foldN k a b)) w) := by
  have AA := fun (n : Int) (hn : -65536 ≤ n ∧ n ≤ 65536) w => addI_any ha n hn w
  have AB := fun (n : Int) (hn : -65536 ≤ n ∧ n ≤ 65536) w => addI_any hb n hn w
  have AP := fun w => apI_any ha hb w
  have IA := isN_of ha
  have IB := isN_of hb
  have TT := fun (k' : Int) (hk' : 5 ≤ k' ∧ k' ≤ 10) => tv_two hk' 0 E0 a b
  obtain ⟨ta, xa, ea⟩ := tv_if a
  obtain ⟨tb, xb, eb⟩ := tv_if b
  rw [ea] at IA AA AP TT ⊢
  rw [eb] at IB AB AP TT ⊢
  have hi : inB k 5 10 = true := inB_t _ _ _ hk.1 hk.2
  rcases IA with ⟨a1, an, ia⟩ | ⟨a1, ia⟩
  · rcases IB with ⟨b1, bn, ib⟩ | ⟨b1, ib⟩
    · have TW := fun w => twoI_any k a.n b.n hk an bn w
      have E : foldN k a b = (match two11 k a.n b.n with | some n => numX n | none => mixX k a b) := by unfold foldN; exact if_pos ⟨a1, b1⟩
      rw [E]
      cases hw : two11 k a.n b.n with
      | some v =>
        simp only
        unfold numX
        rw [tv_num, wr_of (two11_in hk an bn hw)]
        exact fp_two k a.n b.n v hw TW ta tb xa xb ia ib w
      | none =>
        simp only
        have k5 : k ≠ 5 := fun h => by obtain ⟨n, hn⟩ := two11_some (k := k) (a := a.n) (b := b.n) (.inl h); rw [hn] at hw; cases hw
        have k6 : k ≠ 6 := fun h => by obtain ⟨n, hn⟩ := two11_some (k := k) (a := a.n) (b := b.n) (.inr h); rw [hn] at hw; cases hw
        unfold mixX
        rw [if_neg k6, if_neg (fun h => k5 h.1), if_neg (fun h => k5 h.1), TT k hk]
        exact fp_none k a.n b.n (beq_eq_false_iff_ne.2 k5) (beq_eq_false_iff_ne.2 k6) hw TW hi ta tb xa xb ia ib w
    · have E : foldN k a b = mixX k a b := by unfold foldN; rw [if_neg (fun h => b1 h.2)]
      rw [E]
      unfold mixX
      by_cases k6 : k = 6
      · subst k6
        rw [if_pos rfl]
        unfold subX
        rw [if_neg b1]
        unfold sApX at AP
        by_cases hs : (prtX a).1.k = 11 ∧ (prtX b).1.k = 11 ∧ (prtX a).1.n = (prtX b).1.n
        · rw [if_pos hs]
          unfold numX
          rw [tv_num]
          rw [decide_eq_true hs] at AP
          exact fp_sub1 _ _ ta tb xa xb true AP _ _ ia ib w
        · rw [if_neg hs, TT 6 (by omega)]
          rw [decide_eq_false hs] at AP
          exact fp_sub0 _ _ ta tb xa xb true AP _ _ ia ib w
      · by_cases k5 : k = 5
        · subst k5
          rw [if_neg k6, if_pos ⟨rfl, a1⟩]
          exact fp_add1 _ a.n tb xb (AB a.n (by omega)) ta xa _ ia ib w
        · rw [if_neg k6, if_neg (fun h => k5 h.1), if_neg (fun h => k5 h.1), TT k hk]
          exact fp_oth k (beq_eq_false_iff_ne.2 k5) (beq_eq_false_iff_ne.2 k6) hi true false rfl ta tb xa xb _ _ ia ib w
  · have E : foldN k a b = mixX k a b := by unfold foldN; rw [if_neg (fun h => a1 h.1)]
    rw [E]
    unfold mixX
    rcases IB with ⟨b1, bn, ib⟩ | ⟨b1, ib⟩
    · by_cases k6 : k = 6
      · subst k6
        rw [if_pos rfl]
        unfold subX
        rw [if_pos b1]
        exact fp_sub2 _ b.n bn ta xa (AA (-b.n) (by omega)) tb xb _ ia ib w
      · by_cases k5 : k = 5
        · subst k5
          rw [if_neg k6, if_neg (fun h => a1 h.2), if_pos ⟨rfl, b1⟩]
          exact fp_add2 _ b.n ta xa (AA b.n (by omega)) tb xb _ ia ib w
        · rw [if_neg k6, if_neg (fun h => k5 h.1), if_neg (fun h => k5 h.1), TT k hk]
          exact fp_oth k (beq_eq_false_iff_ne.2 k5) (beq_eq_false_iff_ne.2 k6) hi false true rfl ta tb xa xb _ _ ia ib w
    · by_cases k6 : k = 6
      · subst k6
        rw [if_pos rfl]
        unfold subX
        rw [if_neg b1]
        unfold sApX at AP
        by_cases hs : (prtX a).1.k = 11 ∧ (prtX b).1.k = 11 ∧ (prtX a).1.n = (prtX b).1.n
        · rw [if_pos hs]
          unfold numX
          rw [tv_num]
          rw [decide_eq_true hs] at AP
          exact fp_sub1 _ _ ta tb xa xb false AP _ _ ia ib w
        · rw [if_neg hs, TT 6 (by omega)]
          rw [decide_eq_false hs] at AP
          exact fp_sub0 _ _ ta tb xa xb false AP _ _ ia ib w
      · by_cases k5 : k = 5
        · subst k5
          rw [if_neg k6, if_neg (fun h => a1 h.2), if_neg (fun h => b1 h.2), TT 5 hk]
          exact fp_add0 ta tb xa xb _ _ ia ib w
        · rw [if_neg k6, if_neg (fun h => k5 h.1), if_neg (fun h => k5 h.1), TT k hk]
          exact fp_oth k (beq_eq_false_iff_ne.2 k5) (beq_eq_false_iff_ne.2 k6) hi false false rfl ta tb xa xb _ _ ia ib w
end Go.Proofs.YtkolflcjkofleaaDoor
