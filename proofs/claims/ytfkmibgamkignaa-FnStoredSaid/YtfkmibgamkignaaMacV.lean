/- A new machine, by the program; over this seat's translation; conditions stand as hypotheses of each. -/
import Derived.Test.YtfkmibgamkignaaMacU
namespace Go.Proofs.Ytfkmibgamkignaa
open Go.ChangeShapes Go.WideShapes Go.ChangeAt Go.RowKit
set_option linter.unusedVariables false
set_option maxRecDepth 8000
set_option linter.unusedSimpArgs false

theorem newB_ad (im : List Int) (a st : Int) (ins : List Int) : newB im a st ins = (adB a && (decide ((im.length : Int) ≤ 256 - a / 2) && (wdB im && (inB st 0 65535 && (decide ((ins.length : Int) ≤ 50) && wdB ins))))) := by
  unfold newB adB
  rw [Bool.and_assoc]
theorem sl_form {w : World} {B : Nat} {s : Sl} {ns : List Int} (h : OwnN w B s.v ns) (h0 : 0 < ns.length) : ∃ g c, s = ⟨some ⟨g, 0, none⟩, ns.length, c⟩ := by
  obtain ⟨sa, sn, sc⟩ := s
  rcases h.form with ⟨_, e0⟩ | ⟨g, cap, e, _⟩
  · rw [e0] at h0; simp at h0
  · unfold Sl.v at e
    simp at e
    exact ⟨g, cap, by rw [e.1, e.2.1, e.2.2]⟩
theorem Ih.setR {w wr : World} {nn mem : List Int} {v9 : Value} {y : Mv} {g9 gr n c : Nat} {d : Md} (h : Ih w wr nn v9 g9 mem y d) (hm : y.r = ⟨some ⟨gr, 0, none⟩, n, c⟩) (k : Nat) (v : Int) (hk : k < d.r.length) : Ih w (wr.setCell ⟨gr, k, none⟩ (.int .i64 v)) nn v9 g9 mem y ⟨d.m, d.r.set k v, d.i, d.o⟩ := by
  have e : y.r.v = .slice (some ⟨gr, 0, none⟩) n c := by rw [hm]; rfl
  have o := h.own.r
  rw [e] at o
  have s := o.set k v hk
  have hat : y.at gr := .inr (.inl (by rw [e]; rfl))
  have := h.own.lo hat
  exact ⟨h.bel.setCell (p := ⟨gr, k, none⟩) this.1 _, h.p9, h.l9, row_keep h.r9 (fun e => h.ne gr hat e.symm), h.own.putR (by rw [e]; exact s.2) (by rw [e]; exact s.1), h.fl, h.ne⟩
theorem Ih.cellR {w wr : World} {nn mem : List Int} {v9 : Value} {y : Mv} {g9 gr n c : Nat} {d : Md} (h : Ih w wr nn v9 g9 mem y d) (hm : y.r = ⟨some ⟨gr, 0, none⟩, n, c⟩) (k : Nat) (hk : k < d.r.length) : wr.cell? ⟨gr, k, none⟩ = some (.int .i64 (nAt d.r k)) ∧ wr.frozen? ⟨gr, k, none⟩ = false := by
  have o := h.own.r
  rw [hm] at o
  exact OwnN.cellAt (b := gr) (n := n) (cap := c) o k hk
theorem Ih.re {w wr : World} {nn mem : List Int} {v9 : Value} {y : Mv} {g9 : Nat} {d : Md} (h : Ih w wr nn v9 g9 mem y d) : wr.heap[w.heap.size]? = some (.cells zMv.cs 28 (0, 0)) := (h.bel.block w.heap.size (by omega)).trans (heap_alloc_last w _)
theorem Ih.low {w wr : World} {nn mem : List Int} {v9 : Value} {y : Mv} {g9 : Nat} {d : Md} (h : Ih w wr nn v9 g9 mem y d) : Below w.heap.size w wr := (below_new w (.cells zMv.cs 28)).trans (h.bel.mono (by omega))

set_option maxHeartbeats 4000000 in
theorem newI_no (im ins : Sl) (ni nn : List Int) (a st : Int) (w : World) (hi : RdN w im.a ni) (hn : RdN w ins.a nn) (li : ni.length = im.n) (ln : nn.length = ins.n) (si : im.n ≤ 1048576) (sn : ins.n ≤ 1048576) (hb : newB ni a st nn = false) :
    Calls Try.prog 13 #[.slice im.a im.n im.c, .int .i64 a, .int .i64 st, .slice ins.a ins.n ins.c] w fun e w' => e = .returned (.agg zMv.cs) ∧ Below w.heap.size w w' := by
  have HB := hide (below_new w (.cells #[Value.slice none 0 0, Value.slice none 0 0, Value.bool false, Value.bool false, Value.bool false, Value.bool false, Value.slice none 0 0, Value.slice none 0 0, Value.int .i64 0] 28))
  have HB2 := hide (below_new w (.cells zMv.cs 28))
  have W0 := hide (wordsI_any im.a im.n im.c ni _ li (by omega) (hi.later (unhide HB)))
  have W1 := hide (wordsI_any ins.a ins.n ins.c nn _ ln (by omega) (hn.later (unhide HB)))
  have I0 := hide (fun w => isAddr_any a w)
  have I1 := hide (fun w => isWord_any st w)
  rw [newB_ad, li, ln] at hb
  clear hi hn
  have IB := hide (adB_t (a := a))
  generalize wdB ni = b2 at W0 hb
  generalize wdB nn = b4 at W1 hb
  generalize adB a = b0 at I0 hb IB
  generalize inB st 0 65535 = b3 at I1 hb
  cases b0
  · clear hb
    go_enter Try.func13, Try.ntmps13
    go_wp2_with (first | (go_at_call 49; refine (unhide I0 _).mono ?_; rintro e w' ⟨rfl, rfl⟩) | (go_at_call 51; refine (unhide I1 _).mono ?_; rintro e w' ⟨rfl, rfl⟩) | (go_at_call_of 50 (Value.slice im.a im.n im.c); refine (unhide W0).mono ?_; rintro e w' ⟨rfl, rfl⟩) | (go_at_call_of 50 (Value.slice ins.a ins.n ins.c); refine (unhide W1).mono ?_; rintro e w' ⟨rfl, rfl⟩) | (refine wpList_store_new rfl 28 _ _ rfl zMv.cs rfl rfl _ (by kernel_rfl) rfl (Mv.cs_one _) ?_))
    refine bodyPost_ret (results_cell_row (P := Try.prog) rfl _ _ w.heap.size 28 zMv.cs (0, 0) _ rfl (heap_alloc_last w _) Try.underlying28 rfl (by kernel_rfl)) rfl ?_
    exact ⟨rfl, unhide HB2⟩
  obtain ⟨a0, a1, h1⟩ := unhide IB (by trivial)
  clear IB
  have g0 : 0 ≤ a % 2 := by omega
  have g1 : a % 2 ≤ 0 := by omega
  clear h1
  by_cases h2 : (im.n : Int) ≤ 256 - a / 2
  rotate_left
  · clear hb
    go_enter Try.func13, Try.ntmps13
    go_wp2_with (first | (go_at_call 49; refine (unhide I0 _).mono ?_; rintro e w' ⟨rfl, rfl⟩) | (go_at_call 51; refine (unhide I1 _).mono ?_; rintro e w' ⟨rfl, rfl⟩) | (go_at_call_of 50 (Value.slice im.a im.n im.c); refine (unhide W0).mono ?_; rintro e w' ⟨rfl, rfl⟩) | (go_at_call_of 50 (Value.slice ins.a ins.n ins.c); refine (unhide W1).mono ?_; rintro e w' ⟨rfl, rfl⟩) | (refine wpList_store_new rfl 28 _ _ rfl zMv.cs rfl rfl _ (by kernel_rfl) rfl (Mv.cs_one _) ?_))
    refine bodyPost_ret (results_cell_row (P := Try.prog) rfl _ _ w.heap.size 28 zMv.cs (0, 0) _ rfl (heap_alloc_last w _) Try.underlying28 rfl (by kernel_rfl)) rfl ?_
    exact ⟨rfl, unhide HB2⟩
  rw [decide_eq_true h2] at hb
  cases b2
  · clear hb
    go_enter Try.func13, Try.ntmps13
    go_wp2_with (first | (go_at_call 49; refine (unhide I0 _).mono ?_; rintro e w' ⟨rfl, rfl⟩) | (go_at_call 51; refine (unhide I1 _).mono ?_; rintro e w' ⟨rfl, rfl⟩) | (go_at_call_of 50 (Value.slice im.a im.n im.c); refine (unhide W0).mono ?_; rintro e w' ⟨rfl, rfl⟩) | (go_at_call_of 50 (Value.slice ins.a ins.n ins.c); refine (unhide W1).mono ?_; rintro e w' ⟨rfl, rfl⟩) | (refine wpList_store_new rfl 28 _ _ rfl zMv.cs rfl rfl _ (by kernel_rfl) rfl (Mv.cs_one _) ?_))
    refine bodyPost_ret (results_cell_row (P := Try.prog) rfl _ _ w.heap.size 28 zMv.cs (0, 0) _ rfl (heap_alloc_last w _) Try.underlying28 rfl (by kernel_rfl)) rfl ?_
    exact ⟨rfl, unhide HB2⟩
  cases b4
  · clear hb
    go_enter Try.func13, Try.ntmps13
    go_wp2_with (first | (go_at_call 49; refine (unhide I0 _).mono ?_; rintro e w' ⟨rfl, rfl⟩) | (go_at_call 51; refine (unhide I1 _).mono ?_; rintro e w' ⟨rfl, rfl⟩) | (go_at_call_of 50 (Value.slice im.a im.n im.c); refine (unhide W0).mono ?_; rintro e w' ⟨rfl, rfl⟩) | (go_at_call_of 50 (Value.slice ins.a ins.n ins.c); refine (unhide W1).mono ?_; rintro e w' ⟨rfl, rfl⟩) | (refine wpList_store_new rfl 28 _ _ rfl zMv.cs rfl rfl _ (by kernel_rfl) rfl (Mv.cs_one _) ?_))
    refine bodyPost_ret (results_cell_row (P := Try.prog) rfl _ _ w.heap.size 28 zMv.cs (0, 0) _ rfl (heap_alloc_last w _) Try.underlying28 rfl (by kernel_rfl)) rfl ?_
    exact ⟨rfl, unhide HB2⟩
  cases b3
  · clear hb
    go_enter Try.func13, Try.ntmps13
    go_wp2_with (first | (go_at_call 49; refine (unhide I0 _).mono ?_; rintro e w' ⟨rfl, rfl⟩) | (go_at_call 51; refine (unhide I1 _).mono ?_; rintro e w' ⟨rfl, rfl⟩) | (go_at_call_of 50 (Value.slice im.a im.n im.c); refine (unhide W0).mono ?_; rintro e w' ⟨rfl, rfl⟩) | (go_at_call_of 50 (Value.slice ins.a ins.n ins.c); refine (unhide W1).mono ?_; rintro e w' ⟨rfl, rfl⟩) | (refine wpList_store_new rfl 28 _ _ rfl zMv.cs rfl rfl _ (by kernel_rfl) rfl (Mv.cs_one _) ?_))
    refine bodyPost_ret (results_cell_row (P := Try.prog) rfl _ _ w.heap.size 28 zMv.cs (0, 0) _ rfl (heap_alloc_last w _) Try.underlying28 rfl (by kernel_rfl)) rfl ?_
    exact ⟨rfl, unhide HB2⟩
  by_cases h4 : (ins.n : Int) ≤ 50
  rotate_left
  · clear hb
    go_enter Try.func13, Try.ntmps13
    go_wp2_with (first | (go_at_call 49; refine (unhide I0 _).mono ?_; rintro e w' ⟨rfl, rfl⟩) | (go_at_call 51; refine (unhide I1 _).mono ?_; rintro e w' ⟨rfl, rfl⟩) | (go_at_call_of 50 (Value.slice im.a im.n im.c); refine (unhide W0).mono ?_; rintro e w' ⟨rfl, rfl⟩) | (go_at_call_of 50 (Value.slice ins.a ins.n ins.c); refine (unhide W1).mono ?_; rintro e w' ⟨rfl, rfl⟩) | (refine wpList_store_new rfl 28 _ _ rfl zMv.cs rfl rfl _ (by kernel_rfl) rfl (Mv.cs_one _) ?_))
    refine bodyPost_ret (results_cell_row (P := Try.prog) rfl _ _ w.heap.size 28 zMv.cs (0, 0) _ rfl (heap_alloc_last w _) Try.underlying28 rfl (by kernel_rfl)) rfl ?_
    exact ⟨rfl, unhide HB2⟩
  rw [decide_eq_true h4] at hb
  simp at hb

set_option maxHeartbeats 4000000 in
theorem newI_yes (im ins : Sl) (ni nn : List Int) (a st : Int) (w : World) (hi : RdN w im.a ni) (hn : RdN w ins.a nn) (li : ni.length = im.n) (ln : nn.length = ins.n) (nz : ins.nz) (hb : newB ni a st nn = true) :
    Calls Try.prog 13 #[.slice im.a im.n im.c, .int .i64 a, .int .i64 st, .slice ins.a ins.n ins.c] w fun e w' => ∃ y : Mv, e = .returned (.agg y.cs) ∧ y.fl = zMv.fl ∧ OwnM w' (w.heap.size + 1) y ⟨over z256 (a / 2).toNat ni, newR st, nn, []⟩ ∧ Below w.heap.size w w' := by
  obtain ⟨p0, p1, p2, p3, p4, p5, p6⟩ := newB_parts hb
  have HB := hide (below_new w (.cells #[Value.slice none 0 0, Value.slice none 0 0, Value.bool false, Value.bool false, Value.bool false, Value.bool false, Value.slice none 0 0, Value.slice none 0 0, Value.int .i64 0] 28))
  obtain ⟨a0, a1⟩ := inB_b p0
  have W0 := hide (p3 ▸ wordsI_any im.a im.n im.c ni _ li (by omega) (hi.later (unhide HB)))
  have W1 := hide (p6 ▸ wordsI_any ins.a ins.n ins.c nn _ ln (by omega) (hn.later (unhide HB)))
  have I0 := hide (fun w => (adB_i a0 a1 p1) ▸ isAddr_any a w)
  have I1 := hide (fun w => p4 ▸ isWord_any st w)
  have HI := hide hi
  have HN := hide hn
  have LI := hide li
  have LN := hide ln
  have P1 := hide p1
  have P3 := hide p3
  rw [li] at p2
  rw [ln] at p5
  have g0 : 0 ≤ a % 2 := by omega
  have g1 : a % 2 ≤ 0 := by omega
  have NZ := hide nz
  have S50 := hide p5
  clear hi hn li ln p0 p1 p3 p4 p6 hb nz
  go_enter Try.func13, Try.ntmps13
  go_wp2_with (first | (go_at_call 49; refine (unhide I0 _).mono ?_; rintro e w' ⟨rfl, rfl⟩) | (go_at_call 51; refine (unhide I1 _).mono ?_; rintro e w' ⟨rfl, rfl⟩) | (go_at_call_of 50 (Value.slice im.a im.n im.c); refine (unhide W0).mono ?_; rintro e w' ⟨rfl, rfl⟩) | (go_at_call_of 50 (Value.slice ins.a ins.n ins.c); refine (unhide W1).mono ?_; rintro e w' ⟨rfl, rfl⟩))
  refine wp_region_inv (fun f a' w' => ∃ v9 v41 v42 v43 v44 v45 : Value, a' = ⟨#[_, _, _, _, _, _, _, _, _, v9, _, _, _, _, _, _, _, _, _, _, _, _, _, _, _, _, _, _, _, _, _, _, _, _, _, _, _, _, _, _, _, v41, v42, v43, v44, v45, _, _, _, _, _, _, _, _, _, _, _, _, _, _], []⟩ ∧ Jq w ins nn w' f v9 v41 v42 v43 v44 v45) (by kernel_rfl) ⟨undef, undef, undef, undef, undef, undef, rfl, jq_new ⟨rfl, rfl, rfl, Nat.le_refl _, fun _ _ => rfl⟩⟩ (by kernel_rfl) ?_ ?_
  · intro i o ho f a' w' hI hf hd K2 hK2
    obtain ⟨v9, v41, v42, v43, v44, v45, rfl, J⟩ := hI
    have hi8 : i < 7 := by have := (Array.getElem?_eq_some_iff.1 ho).1; simpa using this
    obtain rfl | rfl | rfl | rfl | rfl | rfl | rfl : i = 0 ∨ i = 1 ∨ i = 2 ∨ i = 3 ∨ i = 4 ∨ i = 5 ∨ i = 6 := by omega
    · obtain rfl := Option.some.inj ho
      rw [if_pos (by rfl)]
      refine wp_make 256 made256 (by omega) rfl ?_
      exact hK2 _ _ ⟨v9, _, v42, v43, v44, v45, rfl, J.op0 hf⟩
    · obtain rfl := Option.some.inj ho
      rw [if_pos (by rfl)]
      refine wp_make 8 made8 (by omega) rfl ?_
      exact hK2 _ _ ⟨v9, v41, _, v43, v44, v45, rfl, J.op1 hf⟩
    · obtain rfl := Option.some.inj ho
      rw [if_pos (by rfl)]
      refine wp_move _ rfl ?_
      exact hK2 _ _ ⟨v9, v41, v42, _, v44, v45, rfl, J.op2 hf⟩
    · obtain rfl := Option.some.inj ho
      rw [if_pos (by rfl)]
      obtain ⟨s0, s1, e0, e1, e2, J3⟩ := J.at3 hf (hd ⟨0, .data⟩ (by simp) rfl) (hd ⟨1, .data⟩ (by simp) rfl) (hd ⟨2, .data⟩ (by simp) rfl)
      refine wp_build28 _ _ _ rfl s0 s1 ins e0 e1 e2 ?_
      exact hK2 _ _ ⟨v9, v41, v42, v43, _, v45, rfl, J3⟩
    · obtain rfl := Option.some.inj ho
      rw [if_pos (by rfl)]
      obtain ⟨x, e44, fx, rx, zx, sx, step⟩ := J.at4 hf (hd ⟨3, .data⟩ (by simp) rfl) (unhide HN) (unhide LN)
      refine wp_call37 _ rfl (.agg x.cs) e44 (fun u w2 => ∃ y : Mv, u = .agg (bigA z256 y) ∧ y.fl = x.fl ∧ OwnM w2 (w'.heap.size + 2) y ⟨List.replicate 256 0, List.replicate 8 0, nn, []⟩ ∧ Below w'.heap.size w' w2) ?_ ?_
      · refine (machineOf_any x _ w' (sx (by have := unhide S50; omega)) (zx (unhide NZ)) rx).mono ?_
        rintro e w2 ⟨y, rfl, fy, oy, hb⟩
        refine ⟨_, rfl, y, ?_, fy, oy, hb⟩
        rw [laid_z]
      · rintro u w2 ⟨y, rfl, fy, oy, hb⟩
        exact hK2 _ _ ⟨v9, v41, v42, v43, v44, _, rfl, step y w2 fy oy hb⟩
    · obtain rfl := Option.some.inj ho
      rw [if_pos (by rfl)]
      refine wp_alloc60 rfl ?_
      exact hK2 _ _ ⟨_, v41, v42, v43, v44, v45, rfl, J.op5 hf⟩
    · obtain rfl := Option.some.inj ho
      rw [if_pos (by rfl)]
      obtain ⟨g9, y, e9, e45, r9, k⟩ := J.at6 hf (hd ⟨4, .data⟩ (by simp) rfl) (hd ⟨5, .data⟩ (by simp) rfl)
      refine wp_store_row 80 _ _ rfl g9 (bigA z256 y) e9 e45 80 (bigA z256 zMv) r9 (size60 y z256 z256_len) (by rw [bigA_size y z256_len, bigA_size zMv z256_len]) (bigA_one _ _) ?_
      exact hK2 _ _ ⟨v9, v41, v42, v43, v44, v45, rfl, k⟩
  · intro f a' w' hI hall
    obtain ⟨v9, v41, v42, v43, v44, v45, rfl, J⟩ := hI
    obtain ⟨g9, y, E⟩ := J.2.2 (hall 6 (by simp))
    have e9 := E.p9
    subst e9
    have EE := hide E
    have ld := (below_new w (.cells zMv.cs 28)).trans (E.bel.mono (by omega))
    have SW := hide (setWords_any g9 a im ni z256 y w' a0 a1 (unhide P1) (unhide LI) p2 (unhide P3) z256_len E.r9 ((unhide HI).later ld) (by
      rcases (unhide HI) with h0 | ⟨b, off, e, hb, _⟩
      · exact .inl h0
      · exact .inr fun ad e' => by rw [e] at e'; cases e'; have := E.l9; show b ≠ g9; omega))
    clear E J hall ld W0 W1 I0 I1 HB
    go_wp2_with fail
    refine (unhide SW).mono ?_
    rintro e w2 ⟨rfl, r2, g2⟩
    have E := unhide EE
    have n2 : Ih w w2 nn (.pointer (some ⟨g9, 0, none⟩)) g9 (over z256 (a / 2).toNat ni) y ⟨List.replicate 256 0, List.replicate 8 0, nn, []⟩ :=
      ⟨E.bel.grown g2 (by have := E.bel.size; have := alloc_size w (.cells zMv.cs 28); omega) (fun b e => by cases e; have := E.l9; omega), rfl, E.l9, r2, E.own.keepH fun b hb hl => g2.block b hl (by have := E.ne b hb; simp; omega), E.fl, E.ne⟩
    have N2 := hide n2
    have LE := hide (show (over z256 (a / 2).toNat ni).length = 256 by
      have h1 := unhide LI
      rw [over_len _ _ _ (by rw [z256_len]; omega), z256_len])
    clear r2 g2 SW EE n2 E
    obtain ⟨gr, rc, hgr⟩ : ∃ gr rc, y.r = ⟨some ⟨gr, 0, none⟩, 8, rc⟩ := by
      obtain ⟨g, c, e⟩ := sl_form (unhide N2).own.r (by simp)
      exact ⟨g, c, e⟩
    have hat : y.at gr := .inr (.inl (by rw [hgr]; rfl))
    have ng := (unhide N2).ne gr hat
    have ng2 : g9 ≠ gr := fun e => ng e.symm
    obtain ⟨c6, f6⟩ := (unhide N2).cellR hgr 6 (by simp)
    obtain ⟨c7, f7⟩ := (unhide N2).cellR hgr 7 (by simp)
    have c9 : w2.cell? ⟨g9, 257, none⟩ = some (.slice (some ⟨gr, 0, none⟩) 8 rc) := big_cell (unhide N2).r9 (unhide LE) 1 _ (show y.cs[1]? = some (.slice (some ⟨gr, 0, none⟩) 8 rc) by have e : y.cs[1]? = some y.r.v := rfl; rw [e, hgr]; rfl)
    have N3 := hide (((unhide N2).setR hgr 6 512 (by simp)).setR hgr 7 st (by simp))
    have AN := hide (answer_any g9 (w.heap.size + 1) _ y _ _ (unhide LE) (unhide N3).r9 (unhide N3).own (fun e => (unhide N3).ne g9 (.inl e.symm) rfl))
    clear hat hgr
    go_wp2_with fail
    refine (unhide AN).mono ?_
    rintro e w4 ⟨rfl, o4, g4⟩
    have e4 : (over z256 (a / 2).toNat ni).take (List.replicate 256 (0 : Int)).length ++ (List.replicate 256 (0 : Int)).drop 256 = over z256 (a / 2).toNat ni := by
      rw [List.length_replicate, List.take_of_length_le (by rw [unhide LE]; omega), List.drop_eq_nil_of_le (by rw [List.length_replicate]; omega), List.append_nil]
    have O4 := hide (show OwnM w4 (w.heap.size + 1) y ⟨over z256 (a / 2).toNat ni, newR st, nn, []⟩ by rw [← e4]; exact o4)
    have R4 := hide ((g4.block w.heap.size (row_lt (unhide N3).re) (own_ne (unhide N3).own.m (.inl (by omega)))).trans (unhide N3).re)
    have B4 := hide ((unhide N3).low.grown g4 (unhide N3).low.size (fun b e => by have := ((unhide N3).own.m.lt e).1; omega))
    have FL := hide (unhide N3).fl
    clear o4 g4 AN e4 N2 N3 c6 c7 f6 f7 c9
    go_wp2_with (refine wpList_store_row rfl 28 _ _ rfl w.heap.size y.cs rfl rfl 28 zMv.cs (unhide R4) (by kernel_rfl) rfl (Mv.cs_one _) ?_)
    refine bodyPost_ret (results_cell_row (P := Try.prog) rfl _ _ w.heap.size 28 y.cs (0, 0) _ rfl (setRow_heap _ _ _ _ 28 _ (unhide R4)) Try.underlying28 rfl (by kernel_rfl)) rfl ?_
    exact ⟨y, rfl, unhide FL, (unhide O4).row (by omega) _, below_setRow (unhide B4) (Nat.le_refl _) _⟩
end Go.Proofs.Ytfkmibgamkignaa
