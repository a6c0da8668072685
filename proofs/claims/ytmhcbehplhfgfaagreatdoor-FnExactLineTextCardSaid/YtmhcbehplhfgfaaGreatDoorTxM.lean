/- Contracts over this seat's translation, laid together; conditions stand as hypotheses of each. -/
import Derived.Test.YtmhcbehplhfgfaaGreatDoorTxA
import Derived.Test.YtmhcbehplhfgfaaGreatDoorTxB
import Derived.Test.YtmhcbehplhfgfaaGreatDoorTxE
import Derived.Test.YtmhcbehplhfgfaaGreatDoorTxI
import Derived.Test.YtmhcbehplhfgfaaGreatDoorTxL
import Derived.LoopN
import Derived.ScopeJumps
import Derived.WalkMore

namespace Go.Proofs.YtmhcbehplhfgfaaGreatDoor
open Go.ChangeShapes Go.WideShapes Go.ChangeAt Go.RowKit
set_option linter.unusedVariables false
set_option maxRecDepth 8000
set_option linter.unusedSimpArgs false
theorem kpT_ok (k : Nat) (hk : k < 31) : (kpT k).ok = true := by
  have h : keptB (keptL.getD k E0) = true := hasS_iff.2 (by
    rw [List.getD_eq_getElem?_getD, List.getElem?_eq_getElem (by rw [keptL_len]; exact hk)]
    exact List.getElem_mem _)
  exact h
theorem rgT_ok (n : Nat) (hn : n < 8) : (rgT n).ok = true := kpT_ok _ (by omega)
theorem rnT_ok (n : Nat) (hn : n < 8) : AllOk (rnT n) := allOk_cons (mkT_ok (by decide)) (allOk_cons (rgT_ok n hn) (allOk_cons (mkT_ok (by decide)) allOk_nil))
theorem agX_r {a : Ag} (ok : agX a = true) : 0 ≤ a.r ∧ a.r ≤ 7 := by
  unfold agX at ok
  by_cases h1 : inB a.f 0 5 = true
  · rw [if_pos h1] at ok; exact inB_of (Bool.and_eq_true_iff.1 ok).1
  rw [if_neg h1] at ok
  by_cases h2 : (a.f == 6 || a.f == 7) = true
  · rw [if_pos h2] at ok; exact inB_of (Bool.and_eq_true_iff.1 ok).1
  rw [if_neg h2] at ok
  by_cases h3 : inB a.f 8 11 = true
  · rw [if_pos h3] at ok
    have : a.r = 0 := by simpa using (Bool.and_eq_true_iff.1 ok).1
    omega
  rw [if_neg h3] at ok
  cases ok
theorem agT_all {a : Ag} (ok : agX a = true) : AllOk (agT a) := by
  obtain ⟨f1, f2⟩ := agX_f ok
  obtain ⟨r1, r2⟩ := agX_r ok
  have h8 : a.r.toNat < 8 := by omega
  have hn := rnT_ok _ h8
  have hg := rgT_ok _ h8
  have m43 : (mkT 43).ok = true := mkT_ok (by decide)
  have m64 : (mkT 64).ok = true := mkT_ok (by decide)
  have m45 : (mkT 45).ok = true := mkT_ok (by decide)
  have m35 : (mkT 35).ok = true := mkT_ok (by decide)
  by_cases h6 : 6 ≤ a.f
  · have ht := (toks_ok 6 a.e (agX_e ok h6)).1
    have : a.f = 6 ∨ a.f = 7 ∨ a.f = 8 ∨ a.f = 9 ∨ a.f = 10 ∨ a.f = 11 := by omega
    rcases this with h | h | h | h | h | h <;> (unfold agT; simp only [h]; simp (decide := true) only [if_false, if_true])
    · exact allOk_app ht hn
    · exact allOk_cons m64 (allOk_app ht hn)
    · exact allOk_cons m35 ht
    · exact allOk_cons m64 (allOk_cons m35 ht)
    · exact ht
    · exact allOk_cons m64 ht
  · have : a.f = 0 ∨ a.f = 1 ∨ a.f = 2 ∨ a.f = 3 ∨ a.f = 4 ∨ a.f = 5 := by omega
    rcases this with h | h | h | h | h | h <;> (unfold agT; simp only [h]; simp (decide := true) only [if_false, if_true])
    · exact allOk_cons hg allOk_nil
    · exact hn
    · exact allOk_app hn (allOk_cons m43 allOk_nil)
    · exact allOk_cons m64 (allOk_app hn (allOk_cons m43 allOk_nil))
    · exact allOk_cons m45 hn
    · exact allOk_cons m64 (allOk_cons m45 hn)
theorem cmT_all (l : List Ex) (ok : l.all (okF 6 true) = true) : AllOk (cmT l) := by
  have hl : ∀ e ∈ l, AllOk (toksF 6 e) := fun e he => (toks_ok 6 e (List.all_eq_true.1 ok e he)).1
  cases l with
  | nil => exact allOk_nil
  | cons e r =>
    refine allOk_app (hl e List.mem_cons_self) ?_
    intro t ht
    rw [List.mem_flatten] at ht
    obtain ⟨q, hq, ht⟩ := ht
    obtain ⟨x, hx, rfl⟩ := List.mem_map.1 hq
    exact allOk_cons (mkT_ok (by decide)) (hl x (List.mem_cons_of_mem _ hx)) t ht
theorem cmT_len (l : List Ex) (ok : l.all (okF 6 true) = true) : (cmT l).length ≤ 201 * l.length := by
  have := cmT_le l ok l.length (Nat.le_refl _)
  rwa [List.take_length] at this
theorem nmF_all (l : List Ex) (h : l.all nmF = true) : l.all (okF 6 true) = true := by
  rw [List.all_eq_true] at h ⊢
  intro e he
  exact (Bool.and_eq_true_iff.1 (h e he)).1
theorem insT_all {x : Ln} (ok : insX x = true) : AllOk (insT x) ∧ (insT x).length ≤ 600 := by
  unfold insX insV at ok
  unfold insT
  by_cases h1 : inB x.op 1 6 = true
  · rw [if_pos h1] at ok
    simp only [Bool.and_eq_true] at ok
    obtain ⟨q1, q2⟩ := inB_of h1
    rw [if_pos q2]
    have l1 := (agT_ok ok.1).2
    have l2 := (agT_ok ok.2.1).2
    exact ⟨allOk_cons (kpT_ok _ (by omega)) (allOk_app (agT_all ok.1) (allOk_cons (mkT_ok (by decide)) (agT_all ok.2.1))), by simp only [List.length_cons, List.length_append]; omega⟩
  rw [if_neg h1] at ok
  by_cases h2 : inB x.op 7 14 = true
  · rw [if_pos h2] at ok
    simp only [Bool.and_eq_true] at ok
    obtain ⟨q1, q2⟩ := inB_of h2
    rw [if_neg (by omega), if_pos q2]
    have l2 := (agT_ok ok.2.1).2
    exact ⟨allOk_cons (kpT_ok _ (by omega)) (agT_all ok.2.1), by simp only [List.length_cons]; omega⟩
  rw [if_neg h2] at ok
  by_cases h3 : x.op = 15
  · rw [if_pos (by simp [h3])] at ok
    simp only [Bool.and_eq_true] at ok
    obtain ⟨q1, q2⟩ := inB_of ok.2.2.1
    rw [if_neg (by omega), if_neg (by omega), if_pos h3]
    have l2 := (agT_ok ok.2.1).2
    exact ⟨allOk_cons (kpT_ok _ (by omega)) (allOk_cons (rgT_ok _ (by omega)) (allOk_cons (mkT_ok (by decide)) (agT_all ok.2.1))), by simp only [List.length_cons]; omega⟩
  rw [if_neg (by simp [h3])] at ok
  by_cases h4 : (!nonX x.src || !nonX x.dst) = true
  · rw [if_pos h4] at ok
    cases ok
  rw [if_neg h4] at ok
  by_cases h5 : x.op = 16
  · rw [if_pos (by simp [h5])] at ok
    simp only [Bool.and_eq_true] at ok
    obtain ⟨q1, q2⟩ := inB_of ok.1
    rw [if_neg (by omega), if_neg (by omega), if_neg h3, if_pos h5]
    exact ⟨allOk_cons (kpT_ok _ (by omega)) (allOk_cons (rgT_ok _ (by omega)) allOk_nil), by simp⟩
  rw [if_neg (by simp [h5])] at ok
  by_cases h6 : x.op = 22
  · rw [if_neg (by omega), if_neg (by omega), if_neg h3, if_neg h5, if_pos h6]
    exact ⟨allOk_cons (kpT_ok _ (by omega)) allOk_nil, by simp⟩
  rw [if_neg (by simp [h6])] at ok
  by_cases h7 : (inB x.op 17 21 || x.op == 23) = true
  · rw [if_pos h7] at ok
    simp only [Bool.and_eq_true, beq_iff_eq] at ok
    have h8 : 17 ≤ x.op ∧ x.op ≤ 23 ∧ x.op ≠ 22 := by
      rcases Bool.or_eq_true_iff.1 h7 with h | h
      · have := inB_of h; omega
      · have : x.op = 23 := by simpa using h
        omega
    have okt : okF 6 true (xAt x.l 0) = true := List.all_eq_true.1 ok.2.2 _ (xAt_mem (by omega))
    have l2 := toks_le okt
    rw [if_neg (by omega), if_neg (by omega), if_neg h3, if_neg h5, if_neg h6]
    exact ⟨allOk_cons (kpT_ok _ (by omega)) (toks_ok 6 _ okt).1, by simp only [List.length_cons]; omega⟩
  rw [if_neg h7] at ok
  cases ok
theorem lnT_all {x : Ln} (ok : lnX x = true) : AllOk (lnT x) ∧ (lnT x).length ≤ 1300 := by
  unfold lnX lnV at ok
  unfold lnT
  by_cases k3 : x.k = 3
  · rw [if_pos (by simp [k3])] at ok
    have oki := (Bool.and_eq_true_iff.1 ok).2
    rw [if_neg (by omega), if_neg (by omega), if_pos k3]
    obtain ⟨r1, r2⟩ := insT_all oki; exact ⟨r1, by omega⟩
  rw [if_neg (by simp [k3])] at ok
  by_cases h0 : (!(x.op == 0) || (!nonX x.src || !nonX x.dst)) = true
  · rw [if_pos h0] at ok
    cases ok
  rw [if_neg h0] at ok
  by_cases k0 : x.k = 0
  · rw [if_neg (by omega), if_neg (by omega), if_neg (by omega), if_neg (by omega), if_neg (by omega), if_neg (by omega), if_neg (by omega), if_neg (by omega)]
    exact ⟨allOk_nil, by simp⟩
  by_cases k8 : x.k = 8
  · rw [if_pos (by simp [k8])] at ok
    simp only [Bool.and_eq_true, beq_iff_eq] at ok
    have hl : x.l.length = 0 := ok.2.2
    have hnil : x.l = [] := List.eq_nil_of_length_eq_zero hl
    have okl : x.l.all (okF 6 true) = true := by rw [hnil]; rfl
    rw [if_neg (by omega), if_neg (by omega), if_neg k3, if_neg (by omega), if_neg (by omega), if_neg (by omega), if_pos k8]
    have lc := cmT_len _ okl; exact ⟨allOk_cons (by decide) (cmT_all _ okl), by unfold tmT; simp only [List.length_cons]; omega⟩
  rw [if_neg (by simp [k0, k8])] at ok
  by_cases k1 : x.k = 1
  · rw [if_pos (by simp [k1])] at ok
    have oki := (Bool.and_eq_true_iff.1 ok).1
    rw [if_pos k1]
    exact ⟨allOk_cons oki (allOk_cons (mkT_ok (by decide)) allOk_nil), by simp⟩
  rw [if_neg (by simp [k1])] at ok
  by_cases k2 : x.k = 2
  · rw [if_pos (by simp [k2])] at ok
    simp only [Bool.and_eq_true, beq_iff_eq] at ok
    have okt : okF 6 true (xAt x.l 0) = true := List.all_eq_true.1 ok.2.2.2 _ (xAt_mem (by omega))
    rw [if_neg k1, if_pos k2]
    have l2 := toks_le okt; exact ⟨allOk_cons ok.1 (allOk_cons (mkT_ok (by decide)) (toks_ok 6 _ okt).1), by simp only [List.length_cons]; omega⟩
  rw [if_neg (by simp [k2])] at ok
  by_cases k4 : x.k = 4
  · rw [if_pos (by simp [k4])] at ok
    simp only [Bool.and_eq_true, beq_iff_eq] at ok
    obtain ⟨q1, q2⟩ := inB_of ok.2.2.1
    have hl : x.l.length ≤ 6 := by omega
    have okl := ok.2.2.2
    rw [if_neg k1, if_neg k2, if_neg k3, if_pos k4]
    have lc := cmT_len _ okl; exact ⟨allOk_cons (by decide) (cmT_all _ okl), by unfold tmT; simp only [List.length_cons]; omega⟩
  rw [if_neg (by simp [k4])] at ok
  by_cases k5 : x.k = 5
  · rw [if_pos (by simp [k5])] at ok
    simp only [Bool.and_eq_true, beq_iff_eq] at ok
    have hl : x.l.length ≤ 6 := by omega
    have okl := ok.2.2.2
    rw [if_neg k1, if_neg k2, if_neg k3, if_neg k4, if_pos k5]
    have lc := cmT_len _ okl; exact ⟨allOk_cons (by decide) (cmT_all _ okl), by unfold tmT; simp only [List.length_cons]; omega⟩
  rw [if_neg (by simp [k5])] at ok
  by_cases k6 : x.k = 6
  · rw [if_pos (by simp [k6])] at ok
    simp only [Bool.and_eq_true] at ok
    have oki := ok.1
    rw [if_neg k1, if_neg k2, if_neg k3, if_neg k4, if_neg k5, if_neg (by omega), if_neg k8, if_pos k6]
    by_cases n1 : x.n = 1
    · rw [if_pos n1]
      exact ⟨allOk_cons (by decide) (allOk_cons oki (allOk_cons (mkT_ok (by decide)) (allOk_cons (by kernel_rfl) allOk_nil))), by simp⟩
    · rw [if_neg n1]
      exact ⟨allOk_cons (by decide) (allOk_cons oki allOk_nil), by simp⟩
  rw [if_neg (by simp [k6])] at ok
  by_cases k7 : x.k = 7
  · rw [if_pos (by simp [k7])] at ok
    simp only [Bool.and_eq_true] at ok
    have okn := Bool.and_eq_true_iff.1 (show (x.l.all nmF && inB x.l.length 1 6) = true from ok.2.2)
    have okl := nmF_all _ okn.1
    obtain ⟨q1, q2⟩ := inB_of okn.2
    have hl : x.l.length ≤ 6 := by omega
    rw [if_neg k1, if_neg k2, if_neg k3, if_neg k4, if_neg k5, if_pos k7]
    have lc := cmT_len _ okl; exact ⟨allOk_cons (by decide) (cmT_all _ okl), by unfold tmT; simp only [List.length_cons]; omega⟩
  rw [if_neg (by simp [k7])] at ok
  cases ok
theorem lntS_any (x : Ln) (p : La) (w : World) (hr : RdL w x p) (ok : lnX x = true) : Calls Tryz.prog 13 #[.agg (x.cs p)] w fun r w' => ∃ v, r = .returned v ∧ OwnT w' w.heap.size v (lnT x) ∧ Below w.heap.size w w' := by
  unfold lnX lnV at ok
  unfold lnT
  by_cases k3 : x.k = 3
  · rw [if_pos (by simp [k3])] at ok
    have oki := (Bool.and_eq_true_iff.1 ok).2
    rw [if_neg (by omega), if_neg (by omega), if_pos k3]
    exact ln_3 x p w hr k3 oki
  rw [if_neg (by simp [k3])] at ok
  by_cases h0 : (!(x.op == 0) || (!nonX x.src || !nonX x.dst)) = true
  · rw [if_pos h0] at ok
    cases ok
  rw [if_neg h0] at ok
  by_cases k0 : x.k = 0
  · rw [if_neg (by omega), if_neg (by omega), if_neg (by omega), if_neg (by omega), if_neg (by omega), if_neg (by omega), if_neg (by omega), if_neg (by omega)]
    exact ln_0 x p w hr k0 trivial
  by_cases k8 : x.k = 8
  · rw [if_pos (by simp [k8])] at ok
    simp only [Bool.and_eq_true, beq_iff_eq] at ok
    have hl : x.l.length = 0 := ok.2.2
    have hnil : x.l = [] := List.eq_nil_of_length_eq_zero hl
    have okl : x.l.all (okF 6 true) = true := by rw [hnil]; rfl
    rw [if_neg (by omega), if_neg (by omega), if_neg k3, if_neg (by omega), if_neg (by omega), if_neg (by omega), if_pos k8]
    exact ln_8 x p w hr k8 ⟨by omega, okl⟩
  rw [if_neg (by simp [k0, k8])] at ok
  by_cases k1 : x.k = 1
  · rw [if_pos (by simp [k1])] at ok
    have oki := (Bool.and_eq_true_iff.1 ok).1
    rw [if_pos k1]
    exact ln_1 x p w hr k1 trivial
  rw [if_neg (by simp [k1])] at ok
  by_cases k2 : x.k = 2
  · rw [if_pos (by simp [k2])] at ok
    simp only [Bool.and_eq_true, beq_iff_eq] at ok
    have okt : okF 6 true (xAt x.l 0) = true := List.all_eq_true.1 ok.2.2.2 _ (xAt_mem (by omega))
    rw [if_neg k1, if_pos k2]
    exact ln_2 x p w hr k2 ⟨by omega, okt⟩
  rw [if_neg (by simp [k2])] at ok
  by_cases k4 : x.k = 4
  · rw [if_pos (by simp [k4])] at ok
    simp only [Bool.and_eq_true, beq_iff_eq] at ok
    obtain ⟨q1, q2⟩ := inB_of ok.2.2.1
    have hl : x.l.length ≤ 6 := by omega
    have okl := ok.2.2.2
    rw [if_neg k1, if_neg k2, if_neg k3, if_pos k4]
    exact ln_4 x p w hr k4 ⟨by omega, okl⟩
  rw [if_neg (by simp [k4])] at ok
  by_cases k5 : x.k = 5
  · rw [if_pos (by simp [k5])] at ok
    simp only [Bool.and_eq_true, beq_iff_eq] at ok
    have hl : x.l.length ≤ 6 := by omega
    have okl := ok.2.2.2
    rw [if_neg k1, if_neg k2, if_neg k3, if_neg k4, if_pos k5]
    exact ln_5 x p w hr k5 ⟨by omega, okl⟩
  rw [if_neg (by simp [k5])] at ok
  by_cases k6 : x.k = 6
  · rw [if_pos (by simp [k6])] at ok
    simp only [Bool.and_eq_true] at ok
    have oki := ok.1
    rw [if_neg k1, if_neg k2, if_neg k3, if_neg k4, if_neg k5, if_neg (by omega), if_neg k8, if_pos k6]
    by_cases n1 : x.n = 1
    · rw [if_pos n1]
      exact ln_6n x p w hr k6 n1
    · rw [if_neg n1]
      exact ln_6 x p w hr k6 n1
  rw [if_neg (by simp [k6])] at ok
  by_cases k7 : x.k = 7
  · rw [if_pos (by simp [k7])] at ok
    simp only [Bool.and_eq_true] at ok
    have okn := Bool.and_eq_true_iff.1 (show (x.l.all nmF && inB x.l.length 1 6) = true from ok.2.2)
    have okl := nmF_all _ okn.1
    obtain ⟨q1, q2⟩ := inB_of okn.2
    have hl : x.l.length ≤ 6 := by omega
    rw [if_neg k1, if_neg k2, if_neg k3, if_neg k4, if_neg k5, if_pos k7]
    exact ln_7 x p w hr k7 ⟨by omega, okl⟩
  rw [if_neg (by simp [k7])] at ok
  cases ok
/-- A line's text. -/
def lnTx (x : Ln) : ByteArray := if lnX x = true then strOf (lineOf (lnT x)) else ⟨#[]⟩
theorem lnT_sz {x : Ln} (ok : lnX x = true) : (lnT x).length + szL (lnT x) ≤ 1048576 := by
  obtain ⟨h1, h2⟩ := lnT_all ok
  have := szL_allOk _ h1
  omega
set_option maxHeartbeats 4000000 in
theorem ltxS_any (x : Ln) (p : La) (w : World) (hr : RdL w x p) (hz : SzL x) : Calls Tryz.prog 5 #[.agg (x.cs p)] w fun r w' => r = .returned (.string (lnTx x)) ∧ Below w.heap.size w w' := by
  have hbW := below_new w (.cells (x.cs p) 37)
  obtain ⟨W, hW⟩ : ∃ W, w.alloc (.cells (x.cs p) 37) = W := ⟨_, rfl⟩
  have hrW := hr.later hbW
  have xl : w.heap.size < W.heap.size := by rw [← hW]; simp
  have hG : W.heap[w.heap.size]? = some (.cells (x.cs p) 37 (0, 0)) := by rw [← hW]; exact Array.getElem?_push_size
  have GG := hide (fun w1 (hb : Below W.heap.size W w1) => (hb.block _ xl).trans hG)
  rw [hW] at hbW hrW
  have BB := hide (fun w1 (hb : Below W.heap.size W w1) => hbW.trans (hb.mono hbW.size))
  have OK := hide (lnS_any x p W hrW hz)
  have TO := hide (fun w1 (hb : Below W.heap.size W w1) (ok : lnX x = true) => lntS_any x p w1 (hrW.later hb) ok)
  have LS := hide (fun w1 a c (ok : lnX x = true) (h2 : RdT w1 a (lnT x)) => lineS_any a (lnT x).length c (lnT x) w1 rfl (lnT_sz ok) h2)
  have TX := hide (show (lnX x = true → lnTx x = strOf (lineOf (lnT x))) ∧ (lnX x = false → lnTx x = ⟨#[]⟩) from ⟨fun h => by unfold lnTx; rw [if_pos h], fun h => by unfold lnTx; rw [if_neg (by rw [h]; decide)]⟩)
  generalize lnX x = q at *
  generalize lnT x = ts at *
  generalize lnTx x = tx at *
  clear hr hrW hG xl hbW hz
  obtain ⟨cs, hcs⟩ : ∃ cs, x.cs p = cs := ⟨_, rfl⟩
  have hcz : cs.size = 17 := by rw [← hcs]; rfl
  have HC := hide hcz
  rw [hcs] at GG OK TO hW ⊢
  clear hcs hcz
  go_enter Tryz.func5, Tryz.ntmps5
  have G0 := hide (unhide GG W (Below.refl _ _))
  go_wp2_with (refine wpList_load_row rfl 37 _ rfl w.heap.size rfl 37 cs (0, 0) _ (unhide G0) Tryz.underlying37 rfl (by rw [unhide HC]; kernel_rfl) ?_)
  refine (unhide OK).mono ?_
  rintro r w1 ⟨rfl, hb1⟩
  have B1 := hide hb1
  clear hb1 OK G0
  cases q with
  | false =>
    have e0 := (unhide TX).2 rfl
    subst e0
    go_wp2
    go_ret
    exact ⟨rfl, unhide BB _ (unhide B1)⟩
  | true =>
    have e0 := hide ((unhide TX).1 rfl)
    have G1 := hide (unhide GG w1 (unhide B1))
    have T1 := hide (unhide TO w1 (unhide B1) rfl)
    go_wp2_with (refine wpList_load_row rfl 37 _ rfl w.heap.size rfl 37 cs (0, 0) _ (unhide G1) Tryz.underlying37 rfl (by rw [unhide HC]; kernel_rfl) ?_)
    refine (unhide T1).mono ?_
    rintro r w2 ⟨v2, rfl, o2, hb2⟩
    obtain ⟨a2, c2, rfl, r2⟩ := o2.rd
    have B2 := hide ((unhide B1).trans (hb2.mono (unhide B1).size))
    have L2 := hide (unhide LS w2 a2 c2 (by trivial) r2)
    clear o2 r2 hb2 T1 G1
    generalize strOf (lineOf ts) = ln at *
    go_wp2_with fail
    refine (unhide L2).mono ?_
    rintro r w3 ⟨rfl, hb3⟩
    have B3 := hide ((unhide B2).trans (hb3.mono (unhide B2).size))
    clear hb3 L2
    go_wp2
    go_ret
    exact ⟨by rw [unhide e0]; rfl, unhide BB _ (unhide B3)⟩
end Go.Proofs.YtmhcbehplhfgfaaGreatDoor

namespace Go.Proofs.YtmhcbehplhfgfaaGreatDoor
open Go.ChangeShapes Go.WideShapes Go.ChangeAt Go.RowKit
set_option linter.unusedVariables false
set_option maxRecDepth 8000
set_option linter.unusedSimpArgs false
/-- Parts, with commas between. -/
def jnT : List (List Tk) → List Tk
  | [] => []
  | p :: r => p ++ (r.map fun x => mkT 44 :: x).flatten
theorem jn_cm (l : List Ex) : jnT (l.map (toksF 6)) = cmT l := by
  cases l with
  | nil => rfl
  | cons e r => simp [jnT, cmT, List.map_map, Function.comp_def]
theorem jn_one (ps : List (List Tk)) (h : 0 < ps.length) : jnT (ps.take 1) = ps.getD 0 [] := by
  cases ps with
  | nil => simp at h
  | cons p r => simp [jnT]
theorem jn_more (ps : List (List Tk)) (j : Nat) (h0 : 0 < j) (h : j < ps.length) : jnT (ps.take (j + 1)) = jnT (ps.take j) ++ [mkT 44] ++ ps.getD j [] := by
  cases ps with
  | nil => simp at h
  | cons p r =>
    obtain ⟨i, rfl⟩ : ∃ i, j = i + 1 := ⟨j - 1, by omega⟩
    have hi : i < r.length := by simpa using h
    simp only [List.take_succ_cons, jnT]
    rw [List.take_succ_eq_append_getElem hi]
    have hg : (p :: r).getD (i + 1) [] = r[i] := by simp [List.getD_eq_getElem?_getD, hi]
    rw [hg]
    simp only [List.map_append, List.flatten_append, List.map_cons, List.map_nil, List.flatten_cons, List.flatten_nil, List.append_nil, List.append_assoc, List.cons_append, List.nil_append]
def ovrS : ByteArray := ⟨#[111, 118, 101, 114]⟩
/-- Words with a point ahead, by kinds of lines. -/
def dotL : List ByteArray := [E0, E0, E0, E0, ⟨#[46, 119, 111, 114, 100]⟩, ⟨#[46, 98, 108, 107, 119]⟩, ⟨#[46, 115, 101, 99, 116]⟩, ⟨#[46, 103, 108, 111, 98, 108]⟩, ⟨#[46, 101, 110, 100]⟩]
/-- The head of a line. -/
def hdT (x : Ln) : List Tk := if x.k = 0 then [] else if x.k = 1 then [⟨1, 0, x.s⟩, mkT 58] else if x.k = 2 then [⟨1, 0, x.s⟩, mkT 61] else if x.k = 3 then [kpT (x.op - 1).toNat] else [⟨3, 0, dotL.getD x.k.toNat E0⟩]
/-- The operands that a line has. -/
def lnA (x : Ln) : List Ag := (if (shX x.k x.op).src = true then [x.src] else []) ++ (if (shX x.k x.op).dst = true then [x.dst] else [])
theorem lnO_is (x : Ln) : lnO x = (lnA x).map opP := by
  unfold lnO lnA opsL
  cases (shX x.k x.op).src <;> cases (shX x.k x.op).dst <;> rfl
theorem lnA_ok {x : Ln} (ok : lnX x = true) : ∀ a ∈ lnA x, agX a = true := by
  rw [← st_eq] at ok
  unfold stX at ok
  simp only [Bool.and_eq_true] at ok
  obtain ⟨_, _, _, ⟨h1, h2⟩, _⟩ := ok
  unfold agW at h1 h2
  unfold lnA
  intro a ha
  rcases List.mem_append.1 ha with h | h
  · cases hs : (shX x.k x.op).src with
    | false => rw [hs] at h; simp at h
    | true => rw [hs] at h h1; simp at h; rw [h]; simpa using h1
  · cases hs : (shX x.k x.op).dst with
    | false => rw [hs] at h; simp at h
    | true => rw [hs] at h h2; simp at h; rw [h]; simpa using h2
theorem lnA_len (x : Ln) : (lnA x).length ≤ 2 := by
  unfold lnA
  cases (shX x.k x.op).src <;> cases (shX x.k x.op).dst <;> simp
theorem lnL_ok {x : Ln} (ok : lnX x = true) : x.l.all (okF 6 true) = true ∧ x.l.length ≤ 6 := by
  rw [← st_eq] at ok
  unfold stX at ok
  simp only [Bool.and_eq_true] at ok
  obtain ⟨_, _, _, _, h⟩ := ok
  unfold tmX at h
  rw [Bool.and_eq_true] at h
  refine ⟨List.all_eq_true.2 fun e he => ?_, ?_⟩
  · have := List.all_eq_true.1 h.2 e he
    unfold tmF at this
    rw [Bool.and_eq_true] at this
    exact this.1
  · have h1 := ((inB_iff _ _ _).1 h.1).2
    have hm : (shX x.k x.op).mo ≤ 6 := by
      unfold shX shP sh0
      repeat' split
      all_goals simp
      all_goals (repeat' split)
      all_goals simp
    omega
/-- What stands behind the head of a line. -/
def bhT (x : Ln) : List (List Tk) := (if x.k = 6 then [⟨1, 0, x.s⟩] :: (if x.n = 1 then [[⟨1, 0, ovrS⟩]] else []) else []) ++ ((if regB x.op = true then [[rgT x.n.toNat]] else []) ++ ((lnA x).map agT ++ x.l.map (toksF 6)))
theorem one_lx {l : List Ex} (h : l.length = 1) : l = [xAt l 0] := by
  match l, h with
  | [a], _ => rfl
theorem ln_join {x : Ln} (ok : lnX x = true) : lnT x = hdT x ++ jnT (bhT x) := by
  rw [← st_eq] at ok
  obtain ⟨k, s, op, src, dst, n, l⟩ := x
  by_cases hk : k = 3
  · subst hk
    by_cases h : 1 ≤ op ∧ op ≤ 6
    · have f1 : inB op 1 6 = true := inB_t _ _ _ (by omega) (by omega)
      have f2 : inB op 1 15 = true := inB_t _ _ _ (by omega) (by omega)
      have f3 : inB op 7 14 = false := inB_f _ _ _ (by omega)
      have f4 : inB op 17 21 = false := inB_f _ _ _ (by omega)
      have f5 : inB op 1 23 = true := inB_t _ _ _ (by omega) (by omega)
      have e1 : (op == 15) = false := beq_eq_false_iff_ne.2 (by omega)
      have e2 : (op == 16) = false := beq_eq_false_iff_ne.2 (by omega)
      have e3 : (op == 22) = false := beq_eq_false_iff_ne.2 (by omega)
      have e4 : (op == 23) = false := beq_eq_false_iff_ne.2 (by omega)
      have R : regB op = false := by unfold regB; rw [e1, e2]; rfl
      have hX : shX 3 op = ⟨false, true, true, 0, 0, 0, false⟩ := by unfold shX; rw [if_pos rfl, R, f1, f2, f4, e4]; rfl
      have hB : shB 3 op = true := by unfold shB; rw [if_pos rfl, f5]
      rw [stX_of (x := Ln.mk 3 s op src dst n l) hX hB] at ok
      simp only [Bool.and_eq_true] at ok
      obtain ⟨_, _, _, _, ok⟩ := ok
      simp only [tm_00] at ok
      have hl : l = [] := List.eq_nil_of_length_eq_zero (by simpa using ok)
      subst hl
      unfold bhT lnA
      simp only [hX, R]
      unfold lnT hdT insT
      simp only
      rw [if_pos (show op ≤ 6 by omega)]
      simp [jnT, xAt]
    by_cases h : 7 ≤ op ∧ op ≤ 14
    · have f1 : inB op 1 6 = false := inB_f _ _ _ (by omega)
      have f2 : inB op 1 15 = true := inB_t _ _ _ (by omega) (by omega)
      have f3 : inB op 7 14 = true := inB_t _ _ _ (by omega) (by omega)
      have f4 : inB op 17 21 = false := inB_f _ _ _ (by omega)
      have f5 : inB op 1 23 = true := inB_t _ _ _ (by omega) (by omega)
      have e1 : (op == 15) = false := beq_eq_false_iff_ne.2 (by omega)
      have e2 : (op == 16) = false := beq_eq_false_iff_ne.2 (by omega)
      have e3 : (op == 22) = false := beq_eq_false_iff_ne.2 (by omega)
      have e4 : (op == 23) = false := beq_eq_false_iff_ne.2 (by omega)
      have R : regB op = false := by unfold regB; rw [e1, e2]; rfl
      have hX : shX 3 op = ⟨false, false, true, 0, 0, 0, false⟩ := by unfold shX; rw [if_pos rfl, R, f1, f2, f4, e4]; rfl
      have hB : shB 3 op = true := by unfold shB; rw [if_pos rfl, f5]
      rw [stX_of (x := Ln.mk 3 s op src dst n l) hX hB] at ok
      simp only [Bool.and_eq_true] at ok
      obtain ⟨_, _, _, _, ok⟩ := ok
      simp only [tm_00] at ok
      have hl : l = [] := List.eq_nil_of_length_eq_zero (by simpa using ok)
      subst hl
      unfold bhT lnA
      simp only [hX, R]
      unfold lnT hdT insT
      simp only
      rw [if_neg (show ¬ op ≤ 6 by omega), if_pos (show op ≤ 14 by omega)]
      simp [jnT, xAt]
    by_cases h : op = 15
    · have f1 : inB op 1 6 = false := inB_f _ _ _ (by omega)
      have f2 : inB op 1 15 = true := inB_t _ _ _ (by omega) (by omega)
      have f3 : inB op 7 14 = false := inB_f _ _ _ (by omega)
      have f4 : inB op 17 21 = false := inB_f _ _ _ (by omega)
      have f5 : inB op 1 23 = true := inB_t _ _ _ (by omega) (by omega)
      have e1 : (op == 15) = true := by rw [h]; rfl
      have e2 : (op == 16) = false := beq_eq_false_iff_ne.2 (by omega)
      have e3 : (op == 22) = false := beq_eq_false_iff_ne.2 (by omega)
      have e4 : (op == 23) = false := beq_eq_false_iff_ne.2 (by omega)
      have R : regB op = true := by unfold regB; rw [e1, e2]; rfl
      have hX : shX 3 op = ⟨false, false, true, 7, 0, 0, false⟩ := by unfold shX; rw [if_pos rfl, R, f1, f2, f4, e4]; rfl
      have hB : shB 3 op = true := by unfold shB; rw [if_pos rfl, f5]
      rw [stX_of (x := Ln.mk 3 s op src dst n l) hX hB] at ok
      simp only [Bool.and_eq_true] at ok
      obtain ⟨_, _, _, _, ok⟩ := ok
      simp only [tm_00] at ok
      have hl : l = [] := List.eq_nil_of_length_eq_zero (by simpa using ok)
      subst hl
      unfold bhT lnA
      simp only [hX, R]
      unfold lnT hdT insT
      simp only
      rw [if_neg (show ¬ op ≤ 6 by omega), if_neg (show ¬ op ≤ 14 by omega), if_pos h]
      simp [jnT, xAt]
    by_cases h : op = 16
    · have f1 : inB op 1 6 = false := inB_f _ _ _ (by omega)
      have f2 : inB op 1 15 = false := inB_f _ _ _ (by omega)
      have f3 : inB op 7 14 = false := inB_f _ _ _ (by omega)
      have f4 : inB op 17 21 = false := inB_f _ _ _ (by omega)
      have f5 : inB op 1 23 = true := inB_t _ _ _ (by omega) (by omega)
      have e1 : (op == 15) = false := beq_eq_false_iff_ne.2 (by omega)
      have e2 : (op == 16) = true := by rw [h]; rfl
      have e3 : (op == 22) = false := beq_eq_false_iff_ne.2 (by omega)
      have e4 : (op == 23) = false := beq_eq_false_iff_ne.2 (by omega)
      have R : regB op = true := by unfold regB; rw [e1, e2]; rfl
      have hX : shX 3 op = ⟨false, false, false, 7, 0, 0, false⟩ := by unfold shX; rw [if_pos rfl, R, f1, f2, f4, e4]; rfl
      have hB : shB 3 op = true := by unfold shB; rw [if_pos rfl, f5]
      rw [stX_of (x := Ln.mk 3 s op src dst n l) hX hB] at ok
      simp only [Bool.and_eq_true] at ok
      obtain ⟨_, _, _, _, ok⟩ := ok
      simp only [tm_00] at ok
      have hl : l = [] := List.eq_nil_of_length_eq_zero (by simpa using ok)
      subst hl
      unfold bhT lnA
      simp only [hX, R]
      unfold lnT hdT insT
      simp only
      rw [if_neg (show ¬ op ≤ 6 by omega), if_neg (show ¬ op ≤ 14 by omega), if_neg (show ¬ op = 15 by omega), if_pos h]
      simp [jnT, xAt]
    by_cases h : 17 ≤ op ∧ op ≤ 21
    · have f1 : inB op 1 6 = false := inB_f _ _ _ (by omega)
      have f2 : inB op 1 15 = false := inB_f _ _ _ (by omega)
      have f3 : inB op 7 14 = false := inB_f _ _ _ (by omega)
      have f4 : inB op 17 21 = true := inB_t _ _ _ (by omega) (by omega)
      have f5 : inB op 1 23 = true := inB_t _ _ _ (by omega) (by omega)
      have e1 : (op == 15) = false := beq_eq_false_iff_ne.2 (by omega)
      have e2 : (op == 16) = false := beq_eq_false_iff_ne.2 (by omega)
      have e3 : (op == 22) = false := beq_eq_false_iff_ne.2 (by omega)
      have e4 : (op == 23) = false := beq_eq_false_iff_ne.2 (by omega)
      have R : regB op = false := by unfold regB; rw [e1, e2]; rfl
      have hX : shX 3 op = ⟨false, false, false, 0, 1, 1, false⟩ := by unfold shX; rw [if_pos rfl, R, f1, f2, f4, e4]; rfl
      have hB : shB 3 op = true := by unfold shB; rw [if_pos rfl, f5]
      rw [stX_of (x := Ln.mk 3 s op src dst n l) hX hB] at ok
      simp only [Bool.and_eq_true] at ok
      obtain ⟨_, _, _, _, ok⟩ := ok
      simp only [tm_11, Bool.and_eq_true] at ok
      have hl := one_lx (show l.length = 1 by simpa using ok.1)
      generalize xAt l 0 = e0 at hl
      subst hl
      unfold bhT lnA
      simp only [hX, R]
      unfold lnT hdT insT
      simp only
      rw [if_neg (show ¬ op ≤ 6 by omega), if_neg (show ¬ op ≤ 14 by omega), if_neg (show ¬ op = 15 by omega), if_neg (show ¬ op = 16 by omega), if_neg (show ¬ op = 22 by omega)]
      simp [jnT, xAt]
    by_cases h : op = 22
    · have f1 : inB op 1 6 = false := inB_f _ _ _ (by omega)
      have f2 : inB op 1 15 = false := inB_f _ _ _ (by omega)
      have f3 : inB op 7 14 = false := inB_f _ _ _ (by omega)
      have f4 : inB op 17 21 = false := inB_f _ _ _ (by omega)
      have f5 : inB op 1 23 = true := inB_t _ _ _ (by omega) (by omega)
      have e1 : (op == 15) = false := beq_eq_false_iff_ne.2 (by omega)
      have e2 : (op == 16) = false := beq_eq_false_iff_ne.2 (by omega)
      have e3 : (op == 22) = true := by rw [h]; rfl
      have e4 : (op == 23) = false := beq_eq_false_iff_ne.2 (by omega)
      have R : regB op = false := by unfold regB; rw [e1, e2]; rfl
      have hX : shX 3 op = ⟨false, false, false, 0, 0, 0, false⟩ := by unfold shX; rw [if_pos rfl, R, f1, f2, f4, e4]; rfl
      have hB : shB 3 op = true := by unfold shB; rw [if_pos rfl, f5]
      rw [stX_of (x := Ln.mk 3 s op src dst n l) hX hB] at ok
      simp only [Bool.and_eq_true] at ok
      obtain ⟨_, _, _, _, ok⟩ := ok
      simp only [tm_00] at ok
      have hl : l = [] := List.eq_nil_of_length_eq_zero (by simpa using ok)
      subst hl
      unfold bhT lnA
      simp only [hX, R]
      unfold lnT hdT insT
      simp only
      rw [if_neg (show ¬ op ≤ 6 by omega), if_neg (show ¬ op ≤ 14 by omega), if_neg (show ¬ op = 15 by omega), if_neg (show ¬ op = 16 by omega), if_pos h]
      simp [jnT, xAt]
    by_cases h : op = 23
    · have f1 : inB op 1 6 = false := inB_f _ _ _ (by omega)
      have f2 : inB op 1 15 = false := inB_f _ _ _ (by omega)
      have f3 : inB op 7 14 = false := inB_f _ _ _ (by omega)
      have f4 : inB op 17 21 = false := inB_f _ _ _ (by omega)
      have f5 : inB op 1 23 = true := inB_t _ _ _ (by omega) (by omega)
      have e1 : (op == 15) = false := beq_eq_false_iff_ne.2 (by omega)
      have e2 : (op == 16) = false := beq_eq_false_iff_ne.2 (by omega)
      have e3 : (op == 22) = false := beq_eq_false_iff_ne.2 (by omega)
      have e4 : (op == 23) = true := by rw [h]; rfl
      have R : regB op = false := by unfold regB; rw [e1, e2]; rfl
      have hX : shX 3 op = ⟨false, false, false, 0, 1, 1, false⟩ := by unfold shX; rw [if_pos rfl, R, f1, f2, f4, e4]; rfl
      have hB : shB 3 op = true := by unfold shB; rw [if_pos rfl, f5]
      rw [stX_of (x := Ln.mk 3 s op src dst n l) hX hB] at ok
      simp only [Bool.and_eq_true] at ok
      obtain ⟨_, _, _, _, ok⟩ := ok
      simp only [tm_11, Bool.and_eq_true] at ok
      have hl := one_lx (show l.length = 1 by simpa using ok.1)
      generalize xAt l 0 = e0 at hl
      subst hl
      unfold bhT lnA
      simp only [hX, R]
      unfold lnT hdT insT
      simp only
      rw [if_neg (show ¬ op ≤ 6 by omega), if_neg (show ¬ op ≤ 14 by omega), if_neg (show ¬ op = 15 by omega), if_neg (show ¬ op = 16 by omega), if_neg (show ¬ op = 22 by omega)]
      simp [jnT, xAt]
    have hB : shB 3 op = false := by unfold shB; rw [if_pos rfl]; exact inB_f _ _ _ (by omega)
    rw [stX_of (x := Ln.mk 3 s op src dst n l) rfl hB, Bool.false_and] at ok
    cases ok
  by_cases ho : op = 0
  · subst ho
    have R : regB 0 = false := rfl
    by_cases h0 : k = 0
    · subst h0
      have hX : shX 0 0 = ⟨false, false, false, 0, 0, 0, false⟩ := rfl
      have hB : shB 0 0 = true := rfl
      rw [stX_of (x := Ln.mk 0 s 0 src dst n l) hX hB] at ok
      simp only [Bool.and_eq_true] at ok
      obtain ⟨_, _, _, _, ok⟩ := ok
      simp only [tm_00] at ok
      have hl : l = [] := List.eq_nil_of_length_eq_zero (by simpa using ok)
      subst hl
      unfold bhT lnA
      simp only [hX, R]
      unfold lnT hdT
      simp [jnT, tmT, cmT, dotL, xAt]
    by_cases h8 : k = 8
    · subst h8
      have hX : shX 8 0 = ⟨false, false, false, 0, 0, 0, false⟩ := rfl
      have hB : shB 8 0 = true := rfl
      rw [stX_of (x := Ln.mk 8 s 0 src dst n l) hX hB] at ok
      simp only [Bool.and_eq_true] at ok
      obtain ⟨_, _, _, _, ok⟩ := ok
      simp only [tm_00] at ok
      have hl : l = [] := List.eq_nil_of_length_eq_zero (by simpa using ok)
      subst hl
      unfold bhT lnA
      simp only [hX, R]
      unfold lnT hdT
      simp [jnT, tmT, cmT, dotL, xAt]
    by_cases h1 : k = 1
    · subst h1
      have hX : shX 1 0 = ⟨true, false, false, 0, 0, 0, false⟩ := rfl
      have hB : shB 1 0 = true := rfl
      rw [stX_of (x := Ln.mk 1 s 0 src dst n l) hX hB] at ok
      simp only [Bool.and_eq_true] at ok
      obtain ⟨_, _, _, _, ok⟩ := ok
      simp only [tm_00] at ok
      have hl : l = [] := List.eq_nil_of_length_eq_zero (by simpa using ok)
      subst hl
      unfold bhT lnA
      simp only [hX, R]
      unfold lnT hdT
      simp [jnT, tmT, cmT, dotL, xAt]
    by_cases h2 : k = 2
    · subst h2
      have hX : shX 2 0 = ⟨true, false, false, 0, 1, 1, false⟩ := rfl
      have hB : shB 2 0 = true := rfl
      rw [stX_of (x := Ln.mk 2 s 0 src dst n l) hX hB] at ok
      simp only [Bool.and_eq_true] at ok
      obtain ⟨_, _, _, _, ok⟩ := ok
      simp only [tm_11, Bool.and_eq_true] at ok
      have hl := one_lx (show l.length = 1 by simpa using ok.1)
      generalize xAt l 0 = e0 at hl
      subst hl
      unfold bhT lnA
      simp only [hX, R]
      unfold lnT hdT
      simp [jnT, tmT, cmT, dotL, xAt]
    by_cases h4 : k = 4
    · subst h4
      have hX : shX 4 0 = ⟨false, false, false, 0, 1, 6, false⟩ := rfl
      have hB : shB 4 0 = true := rfl
      rw [stX_of (x := Ln.mk 4 s 0 src dst n l) hX hB] at ok
      simp only [Bool.and_eq_true] at ok
      obtain ⟨_, _, _, _, ok⟩ := ok
      unfold bhT lnA
      simp only [hX, R]
      unfold lnT hdT
      have JC := jn_cm l
      simp [tmT, dotL, JC]
    by_cases h5 : k = 5
    · subst h5
      have hX : shX 5 0 = ⟨false, false, false, 0, 1, 1, false⟩ := rfl
      have hB : shB 5 0 = true := rfl
      rw [stX_of (x := Ln.mk 5 s 0 src dst n l) hX hB] at ok
      simp only [Bool.and_eq_true] at ok
      obtain ⟨_, _, _, _, ok⟩ := ok
      simp only [tm_11, Bool.and_eq_true] at ok
      have hl := one_lx (show l.length = 1 by simpa using ok.1)
      generalize xAt l 0 = e0 at hl
      subst hl
      unfold bhT lnA
      simp only [hX, R]
      unfold lnT hdT
      simp [jnT, tmT, cmT, dotL, xAt]
    by_cases h6 : k = 6
    · subst h6
      have hX : shX 6 0 = ⟨true, false, false, 1, 0, 0, false⟩ := rfl
      have hB : shB 6 0 = true := rfl
      rw [stX_of (x := Ln.mk 6 s 0 src dst n l) hX hB] at ok
      simp only [Bool.and_eq_true] at ok
      obtain ⟨_, _, _, _, ok⟩ := ok
      simp only [tm_00] at ok
      have hl : l = [] := List.eq_nil_of_length_eq_zero (by simpa using ok)
      subst hl
      unfold bhT lnA
      simp only [hX, R]
      unfold lnT hdT
      by_cases hn : n = 1
      · subst hn
        simp [jnT, dotL, ovrS]
      · simp [jnT, dotL, hn]
    by_cases h7 : k = 7
    · subst h7
      have hX : shX 7 0 = ⟨false, false, false, 0, 1, 6, true⟩ := rfl
      have hB : shB 7 0 = true := rfl
      rw [stX_of (x := Ln.mk 7 s 0 src dst n l) hX hB] at ok
      simp only [Bool.and_eq_true] at ok
      obtain ⟨_, _, _, _, ok⟩ := ok
      unfold bhT lnA
      simp only [hX, R]
      unfold lnT hdT
      have JC := jn_cm l
      simp [tmT, dotL, JC]
    have hB : shB k 0 = false := by unfold shB; rw [if_neg hk, if_pos rfl]; exact inB_f _ _ _ (by omega)
    rw [stX_of (x := Ln.mk k s 0 src dst n l) rfl hB, Bool.false_and] at ok
    cases ok
  have hB : shB k op = false := by unfold shB; rw [if_neg hk, if_neg ho]
  rw [stX_of (x := Ln.mk k s op src dst n l) rfl hB, Bool.false_and] at ok
  cases ok
end Go.Proofs.YtmhcbehplhfgfaaGreatDoor

namespace Go.Proofs.YtmhcbehplhfgfaaGreatDoor
open Go.ChangeShapes Go.WideShapes Go.ChangeAt Go.RowKit
set_option linter.unusedVariables false
set_option maxRecDepth 8000
/-- As Q; by a goto to label l: J l. -/
def jumps (J : Nat → Act → World → Prop) (Q : Exit → Act → World → Prop) : Exit → Act → World → Prop
  | .goto l, a, w => J l a w
  | e, a, w => Q e a w
section
variable {P : Program} {a : Act} {w : World} {Q : Exit → Act → World → Prop}
end
end Go.Proofs.YtmhcbehplhfgfaaGreatDoor

namespace Go.Proofs.YtmhcbehplhfgfaaGreatDoor
open Go.ChangeShapes Go.WideShapes Go.ChangeAt Go.RowKit
set_option linter.unusedVariables false
set_option maxRecDepth 8000
set_option linter.unusedSimpArgs false
section
variable {w wr w' : World} {t t' : Tk} {sa : Option Addr} {cap : Nat} {acc : List Tk}
end
set_option maxHeartbeats 1000000 in
theorem markI_any (x : ByteArray) (w : World) : Calls Tryz.prog 19 #[.string x] w fun e w' => e = .returned (Tk.v ⟨4, 0, x⟩) ∧ Below w.heap.size w w' := by
  have B0 := hide (below_new w (.cells T0c 59))
  have R0 := hide (heap_alloc_new w (.cells T0c 59))
  unfold T0c at B0 R0
  unfold Tk.v Tk.cs
  simp only
  go_enter Tryz.func19, Tryz.ntmps19
  go_wp2_with (first | (refine wpList_store_row rfl 59 _ _ rfl w.heap.size #[.int .i64 4, .int .i64 0, .string x] rfl rfl 59 _ (unhide R0) szK rfl (tk_one _ _ _) ?_))
  refine bodyPost_ret (results_cell_row (P := Tryz.prog) rfl _ _ w.heap.size 59 #[.int .i64 4, .int .i64 0, .string x] (0, 0) _ rfl (setRow_heap _ _ _ _ _ _ (unhide R0)) Tryz.underlying59 rfl szK) rfl ?_
  exact ⟨rfl, below_row (unhide B0)⟩
end Go.Proofs.YtmhcbehplhfgfaaGreatDoor

namespace Go.Proofs.YtmhcbehplhfgfaaGreatDoor
open Go.ChangeShapes Go.WideShapes Go.ChangeAt Go.RowKit
set_option linter.unusedVariables false
set_option maxRecDepth 8000
set_option linter.unusedSimpArgs false
/-- Rows of another type than the tokens' stay. -/
def KpT (w w' : World) : Prop := ∀ (g : Nat) (cs : Array Value) (t : TypeId) (fr : Nat × Nat), w.heap[g]? = some (.cells cs t fr) → t ≠ 59 → w'.heap[g]? = some (.cells cs t fr)
theorem KpT.trans {a b c : World} (h : KpT a b) (k : KpT b c) : KpT a c := fun g cs t fr h1 h2 => k g cs t fr (h g cs t fr h1 h2) h2
theorem KpT.of {w w' : World} (hb : Below w.heap.size w w') : KpT w w' := fun g cs t fr h _ => (hb.block g (Array.getElem?_eq_some_iff.1 h).1).trans h
theorem KpT.own {w w' : World} {B : Nat} {v : Value} {ts : List Tk} (ho : OwnT w B v ts) (hg : w.grownBy w' v.ownBlock) : KpT w w' := fun g cs t fr h ht => by
  refine (hg.block g (Array.getElem?_eq_some_iff.1 h).1 (fun e => ?_)).trans h
  obtain ⟨_, ⟨rfl, _⟩ | ⟨g', cap, cur, rfl, _, hh, _⟩⟩ := ho
  · simp [Value.ownBlock] at e
  · simp [Value.ownBlock] at e
    subst e
    rw [hh] at h
    cases h
    exact ht rfl
/-- The marks of those of two, as the program has them. -/
def sgnL : List ByteArray := [E0, E0, E0, E0, E0, mkS 43, mkS 45, mkS 42, mkS 47, mkS 38, mkS 124]
def sgA : Array Value := (sgnL.map Value.string).toArray
def TabG (w : World) : Prop := ∃ t fr, w.heap[4]? = some (.cells sgA t fr)
theorem TabG.lt {w : World} (h : TabG w) : 4 < w.heap.size := by obtain ⟨t, fr, h⟩ := h; exact (Array.getElem?_eq_some_iff.1 h).1
theorem TabG.later {w w' : World} {B : Nat} (h : TabG w) (hb : Below B w w') (hB : 4 < B) : TabG w' := by
  obtain ⟨t, fr, h⟩ := h
  exact ⟨t, fr, (hb.block _ hB).trans h⟩
def PutP (d : Nat) : Prop := ∀ (e : Ex) (ts : List Tk) (v : Value) (B : Nat) (w : World), okF d true e = true → OwnT w B v ts → B ≤ w.heap.size → ts.length + mxT d ≤ 500 → TabG w → 4 < B → Calls Tryz.prog 45 #[v, tv e] w fun r w' => ∃ v', r = .returned v' ∧ OwnT w' B v' (ts ++ toksF d e) ∧ Below B w w' ∧ KpT w w'
set_option maxHeartbeats 4000000 in
theorem put_num (n : Int) (ts : List Tk) (v : Value) (B : Nat) (w : World) (ho : OwnT w B v ts) (hB : B ≤ w.heap.size) (hl : ts.length ≤ 498) : Calls Tryz.prog 45 #[v, .iface 117 (.agg #[.int .i64 n])] w fun r w' => ∃ v', r = .returned v' ∧ OwnT w' B v' (ts ++ [⟨2, n, ⟨#[]⟩⟩]) ∧ Below B w w' ∧ KpT w w' := by
  obtain ⟨i0, hi, hz0, hz1, hz2⟩ := info_parts infoT
  have hbx := below_new w (.cells #[.int .i64 n] 117)
  have D1 := hide (hbx.mono hB)
  have P1 := hide (KpT.of hbx)
  have O1 := hide (ho.later hbx)
  have W1 := hide (show (w.alloc (.cells #[.int .i64 n] 117)).heap.size = w.heap.size + 1 by simp)
  clear hbx
  have tt := taY_num (.agg #[.int .i64 n])
  generalize hw1 : w.alloc (.cells #[.int .i64 n] 117) = w1 at *
  have hg1 : w1.heap[w.heap.size]? = some (.cells #[.int .i64 n] 117 (0, 0)) := by rw [← hw1]; exact Array.getElem?_push_size
  have c0 := Lib.cell_of_heap hg1 0
  clear ho hg1
  go_enter Tryz.func45, Tryz.ntmps45
  go_wp2_with (at_builtin; go_must (refine wpList_append_own _ rfl (.tmp 16) (.tmp 20) 45 rfl B 59 i0 (.agg #[.int .i64 0, .int .i64 0, .string ⟨#[]⟩]) 3 32 Tryz.underlying45 hi hz0 hz1 hz2 rfl (by decide) v (ts).length (cellsT (ts)) rfl (World.ownsRow.alloc (unhide O1) _) ⟨w1.heap.size, 0, none⟩ 1 1 [.int .i64 2, .int .i64 n, .string ⟨#[]⟩] rfl rfl (cell_new w1 #[.int .i64 2, .int .i64 n, .string ⟨#[]⟩] 59) (newT_one _ _ _) (by unfold maxLen; (try simp only [List.length_append, List.length_cons, List.length_nil]); omega) (by (try simp only [List.length_append, List.length_cons, List.length_nil]); omega) (by have := (unhide D1).size; simp; omega) ?_; intro v5 w5 hown5 hgrow5 _; have O5 := hide (ownT_app (t := ⟨2, n, ⟨#[]⟩⟩) hown5); have D5 := hide (((unhide D1).alloc (Nat.le_trans hB (unhide D1).size) (.cells #[.int .i64 2, .int .i64 n, .string ⟨#[]⟩] 59)).grown hgrow5 (by have := (unhide D1).size; simp; omega) (fun g hg => ((unhide O1).lt hg).1)); have P5 := hide ((KpT.of (below_new w1 (.cells #[.int .i64 2, .int .i64 n, .string ⟨#[]⟩] 59))).trans (KpT.own (B := B) (ts := ts) (World.ownsRow.alloc (unhide O1) _) hgrow5)); clear hown5 hgrow5))
  go_ret
  exact ⟨_, rfl, unhide O5, unhide D5, (unhide P1).trans (unhide P5)⟩
set_option maxHeartbeats 4000000 in
theorem put_sym (s : ByteArray) (ts : List Tk) (v : Value) (B : Nat) (w : World) (ho : OwnT w B v ts) (hB : B ≤ w.heap.size) (hl : ts.length ≤ 498) : Calls Tryz.prog 45 #[v, .iface 119 (.agg #[.string s])] w fun r w' => ∃ v', r = .returned v' ∧ OwnT w' B v' (ts ++ [⟨1, 0, s⟩]) ∧ Below B w w' ∧ KpT w w' := by
  obtain ⟨i0, hi, hz0, hz1, hz2⟩ := info_parts infoT
  have hbx := below_new w (.cells #[.string s] 119)
  have D1 := hide (hbx.mono hB)
  have P1 := hide (KpT.of hbx)
  have O1 := hide (ho.later hbx)
  have W1 := hide (show (w.alloc (.cells #[.string s] 119)).heap.size = w.heap.size + 1 by simp)
  clear hbx
  have t0 := taN_num 119 (.agg #[.string s]) (by decide)
  have tt := taY_sym (.agg #[.string s])
  generalize hw1 : w.alloc (.cells #[.string s] 119) = w1 at *
  have hg1 : w1.heap[w.heap.size]? = some (.cells #[.string s] 119 (0, 0)) := by rw [← hw1]; exact Array.getElem?_push_size
  have c0 := Lib.cell_of_heap hg1 0
  clear ho hg1
  go_enter Tryz.func45, Tryz.ntmps45
  go_wp2_with (at_builtin; go_must (refine wpList_append_own _ rfl (.tmp 25) (.tmp 29) 45 rfl B 59 i0 (.agg #[.int .i64 0, .int .i64 0, .string ⟨#[]⟩]) 3 32 Tryz.underlying45 hi hz0 hz1 hz2 rfl (by decide) v (ts).length (cellsT (ts)) rfl (World.ownsRow.alloc (unhide O1) _) ⟨w1.heap.size, 0, none⟩ 1 1 [.int .i64 1, .int .i64 0, .string s] rfl rfl (cell_new w1 #[.int .i64 1, .int .i64 0, .string s] 59) (newT_one _ _ _) (by unfold maxLen; (try simp only [List.length_append, List.length_cons, List.length_nil]); omega) (by (try simp only [List.length_append, List.length_cons, List.length_nil]); omega) (by have := (unhide D1).size; simp; omega) ?_; intro v5 w5 hown5 hgrow5 _; have O5 := hide (ownT_app (t := ⟨1, 0, s⟩) hown5); have D5 := hide (((unhide D1).alloc (Nat.le_trans hB (unhide D1).size) (.cells #[.int .i64 1, .int .i64 0, .string s] 59)).grown hgrow5 (by have := (unhide D1).size; simp; omega) (fun g hg => ((unhide O1).lt hg).1)); have P5 := hide ((KpT.of (below_new w1 (.cells #[.int .i64 1, .int .i64 0, .string s] 59))).trans (KpT.own (B := B) (ts := ts) (World.ownsRow.alloc (unhide O1) _) hgrow5)); clear hown5 hgrow5))
  go_ret
  exact ⟨_, rfl, unhide O5, unhide D5, (unhide P1).trans (unhide P5)⟩
set_option maxHeartbeats 4000000 in
theorem put_here (ts : List Tk) (v : Value) (B : Nat) (w : World) (ho : OwnT w B v ts) (hB : B ≤ w.heap.size) (hl : ts.length ≤ 498) : Calls Tryz.prog 45 #[v, .iface 121 (.agg #[])] w fun r w' => ∃ v', r = .returned v' ∧ OwnT w' B v' (ts ++ [⟨4, 0, ⟨#[46]⟩⟩]) ∧ Below B w w' ∧ KpT w w' := by
  obtain ⟨i0, hi, hz0, hz1, hz2⟩ := info_parts infoT
  have hbx := below_new w (.cells #[] 121)
  have D1 := hide (hbx.mono hB)
  have P1 := hide (KpT.of hbx)
  have O1 := hide (ho.later hbx)
  have W1 := hide (show (w.alloc (.cells #[] 121)).heap.size = w.heap.size + 1 by simp)
  clear hbx
  have t0 := taN_num 121 (.agg #[]) (by decide)
  have t1 := taN_sym 121 (.agg #[]) (by decide)
  have tt := taY_here (.agg #[])
  generalize hw1 : w.alloc (.cells #[] 121) = w1 at *
  clear ho W1
  go_enter Tryz.func45, Tryz.ntmps45
  go_wp2_with fail
  refine (markI_any ⟨#[46]⟩ w1).mono ?_
  rintro r w2 ⟨rfl, hb2⟩
  have O2 := hide ((unhide O1).later hb2)
  have D2 := hide ((unhide D1).trans (hb2.mono (Nat.le_trans hB (unhide D1).size)))
  have P2 := hide ((unhide P1).trans (KpT.of hb2))
  clear hb2 O1 D1 P1
  unfold Tk.v Tk.cs
  go_wp2_with (at_builtin; go_must (refine wpList_append_own _ rfl (.tmp 34) (.tmp 36) 45 rfl B 59 i0 (.agg #[.int .i64 0, .int .i64 0, .string ⟨#[]⟩]) 3 32 Tryz.underlying45 hi hz0 hz1 hz2 rfl (by decide) v (ts).length (cellsT (ts)) rfl (World.ownsRow.alloc (unhide O2) _) ⟨w2.heap.size, 0, none⟩ 1 1 [.int .i64 4, .int .i64 0, .string ⟨#[46]⟩] rfl rfl (cell_new w2 #[.int .i64 4, .int .i64 0, .string ⟨#[46]⟩] 59) (newT_one _ _ _) (by unfold maxLen; (try simp only [List.length_append, List.length_cons, List.length_nil]); omega) (by (try simp only [List.length_append, List.length_cons, List.length_nil]); omega) (by have := (unhide D2).size; simp; omega) ?_; intro v5 w5 hown5 hgrow5 _; have O5 := hide (ownT_app (t := ⟨4, 0, ⟨#[46]⟩⟩) hown5); have D5 := hide (((unhide D2).alloc (Nat.le_trans hB (unhide D2).size) (.cells #[.int .i64 4, .int .i64 0, .string ⟨#[46]⟩] 59)).grown hgrow5 (by have := (unhide D2).size; simp; omega) (fun g hg => ((unhide O2).lt hg).1)); have P5 := hide ((KpT.of (below_new w2 (.cells #[.int .i64 4, .int .i64 0, .string ⟨#[46]⟩] 59))).trans (KpT.own (B := B) (ts := ts) (World.ownsRow.alloc (unhide O2) _) hgrow5)); clear hown5 hgrow5))
  go_ret
  exact ⟨_, rfl, unhide O5, unhide D5, (unhide P2).trans (unhide P5)⟩
set_option maxHeartbeats 8000000 in
theorem put_neg (t : TypeId) (x : Value) (B L : Nat) (hL : L ≤ 498) (us : List Tk) (h1 : ∀ (ts : List Tk) (v : Value) (w : World), OwnT w B v ts → B ≤ w.heap.size → ts.length ≤ (L + 1) → TabG w → Calls Tryz.prog 45 #[v, .iface t x] w fun r w' => ∃ v', r = .returned v' ∧ OwnT w' B v' (ts ++ us) ∧ Below B w w' ∧ KpT w w') (ts : List Tk) (v : Value) (w : World) (ho : OwnT w B v ts) (hB : B ≤ w.heap.size) (hl : ts.length ≤ L) (hT : TabG w) (hs : 4 < B) : Calls Tryz.prog 45 #[v, .iface 123 (.agg #[.iface t x])] w fun r w' => ∃ v', r = .returned v' ∧ OwnT w' B v' ((ts ++ [⟨4, 0, ⟨#[45]⟩⟩]) ++ us) ∧ Below B w w' ∧ KpT w w' := by
  obtain ⟨i0, hi, hz0, hz1, hz2⟩ := info_parts infoT
  have hbx := below_new w (.cells #[.iface t x] 123)
  have D1 := hide (hbx.mono hB)
  have P1 := hide (KpT.of hbx)
  have O1 := hide (ho.later hbx)
  have W1 := hide (show (w.alloc (.cells #[.iface t x] 123)).heap.size = w.heap.size + 1 by simp)
  clear hbx
  have t0 := taN_num 123 (.agg #[.iface t x]) (by decide)
  have t1 := taN_sym 123 (.agg #[.iface t x]) (by decide)
  have t2 := taN_here 123 (.agg #[.iface t x]) (by decide)
  have tt := taY_neg (.agg #[.iface t x])
  generalize hw1 : w.alloc (.cells #[.iface t x] 123) = w1 at *
  have hg1 : w1.heap[w.heap.size]? = some (.cells #[.iface t x] 123 (0, 0)) := by rw [← hw1]; exact Array.getElem?_push_size
  have HG := hide hg1
  have HT := hide hT
  have H1 := hide h1
  clear ho W1 hg1 hT h1
  go_enter Tryz.func45, Tryz.ntmps45
  go_wp2_with fail
  have D0 := hide (show w1.drew.heap[w.heap.size]? = some (.cells #[.iface t x] 123 (0, 0)) from unhide HG)
  have O2 := hide ((unhide O1).later (below_drew (w := w1)))
  have D2 := hide ((unhide D1).trans ((below_drew (w := w1)).mono (Nat.le_trans hB (unhide D1).size)))
  have P2 := hide ((unhide P1).trans (KpT.of (below_drew (w := w1))))
  refine wp_region_held_drew (S := fun w' => w'.heap[w.heap.size]? = some (.cells #[.iface t x] 123 (0, 0))) (by kernel_rfl) (unhide D0) (fun hS => ?_)
  have HS := hide hS
  clear hS O1 D1 P1 HG D0
  refine wpAnyH_take (i := 0) (v := v) rfl (by kernel_rfl) (by kernel_rfl) (by kernel_rfl) (fun _ _ _ h => h) (Or.inl ⟨by rfl, fun w hc => ?_⟩) (unhide HS) ?_
  · clear hc; go_simp
  go_simp
  refine wpAnyH_take (i := 4) (v := .pointer (some ⟨w.heap.size, 0, none⟩)) rfl (by kernel_rfl) (by kernel_rfl) (by kernel_rfl) (fun _ _ _ h => h) (Or.inl ⟨by rfl, fun w hc => ?_⟩) (unhide HS) ?_
  · clear hc; go_simp
  go_simp
  refine wpAnyH_take (i := 5) (v := .iface t x) rfl (by kernel_rfl) (by kernel_rfl) (by kernel_rfl) (fun _ _ _ h => h) (Or.inl ⟨by rfl, fun w hc => ?_⟩) (unhide HS) ?_
  · have q := Lib.cell_of_heap hc 0; clear hc; go_simp
  go_simp
  refine wpAnyH_ready (rs := [1]) (by kernel_rfl) (by simp) ?_
  refine AllReadyH.cons rfl (fun K2 hK => ?_) AllReadyH.nil
  go_simp
  refine (markI_any ⟨#[45]⟩ _).mono ?_
  rintro r w3 ⟨rfl, hb3⟩
  unfold Tk.v Tk.cs
  have O3 := hide ((unhide O2).later hb3)
  have D3 := hide ((unhide D2).trans (hb3.mono (Nat.le_trans hB (unhide D2).size)))
  have P3 := hide ((unhide P2).trans (KpT.of hb3))
  have S3 := hide (KpT.of hb3 _ _ _ _ (unhide HS) (by decide))
  refine hK.out _ _ (unhide S3) (fun hS => ?_)
  clear HS
  have HS := hide hS
  clear hS hK K2
  clear hb3 O2 D2 P2
  refine wpAnyH_ready (rs := [2]) (by kernel_rfl) (by simp) ?_
  refine AllReadyH.cons rfl (fun K2 hK => ?_) AllReadyH.nil
  go_simp
  have hb4 := below_new w3 (.cells #[.int .i64 4, .int .i64 0, .string ⟨#[45]⟩] 59)
  have O4 := hide ((unhide O3).later hb4)
  have D4 := hide ((unhide D3).trans (hb4.mono (Nat.le_trans hB (unhide D3).size)))
  have P4 := hide ((unhide P3).trans (KpT.of hb4))
  have S4 := hide (KpT.of hb4 _ _ _ _ (unhide S3) (by decide))
  have C4 := hide (cell_new w3 #[.int .i64 4, .int .i64 0, .string ⟨#[45]⟩] 59)
  clear hb4 O3 D3 P3 S3
  generalize w3.heap.size = g4 at *
  generalize w3.alloc (.cells #[.int .i64 4, .int .i64 0, .string ⟨#[45]⟩] 59) = w4 at *
  refine hK.out _ _ (unhide S4) (fun hS => ?_)
  clear HS
  have HS := hide hS
  clear hS hK K2
  refine wpAnyH_ready (rs := [3]) (by kernel_rfl) (by simp) ?_
  refine AllReadyH.cons rfl (fun K2 hK => ?_) AllReadyH.nil
  rw [if_pos (by rfl)]
  refine wp_append_own _ (.tmp 41) (.tmp 43) 45 rfl B 59 i0 (.agg #[.int .i64 0, .int .i64 0, .string ⟨#[]⟩]) 3 32 Tryz.underlying45 hi hz0 hz1 hz2 rfl (by decide) v ts.length (cellsT ts) rfl (unhide O4) ⟨g4, 0, none⟩ 1 1 [.int .i64 4, .int .i64 0, .string ⟨#[45]⟩] rfl rfl (unhide C4) (newT_one _ _ _) (by unfold maxLen; omega) (by omega) (Nat.le_trans hB (unhide D4).size) ?_
  intro v5 w5 hown5 hgrow5 _
  have O5 := hide (ownT_app (t := ⟨4, 0, ⟨#[45]⟩⟩) hown5)
  have D5 := hide ((unhide D4).grown hgrow5 (Nat.le_trans hB (unhide D4).size) (fun g hg => ((unhide O4).lt hg).1))
  have P5 := hide ((unhide P4).trans (KpT.own (unhide O4) hgrow5))
  have S5 := hide (KpT.own (unhide O4) hgrow5 _ _ _ _ (unhide S4) (by decide))
  refine hK.out _ _ (unhide S5) (fun hS => ?_)
  clear HS
  have HS := hide hS
  clear hS hK K2
  clear hown5 hgrow5 O4 D4 P4 S4 C4
  refine wpAnyH_ready (rs := [6]) (by kernel_rfl) (by simp) ?_
  refine AllReadyH.cons rfl (fun K2 hK => ?_) AllReadyH.nil
  go_simp
  refine (unhide H1 (ts ++ [⟨4, 0, ⟨#[45]⟩⟩]) v5 w5 (unhide O5) (Nat.le_trans hB (unhide D5).size) (by simp only [List.length_append, List.length_cons, List.length_nil]; omega) ((unhide HT).later (unhide D5) hs)).mono ?_
  rintro r w6 ⟨v6, rfl, o6, hb6, hp6⟩
  refine hK.out _ _ (hp6 _ _ _ _ (unhide S5) (by decide)) (fun hS => ?_)
  clear HS
  have HS := hide hS
  clear hS hK K2
  refine wpAnyH_take (i := 7) (v := v6) rfl (by kernel_rfl) (by kernel_rfl) (by kernel_rfl) (fun _ _ _ h => h) (Or.inl ⟨by rfl, fun w hc => ?_⟩) (unhide HS) ?_
  · clear hc; go_simp
  go_simp
  refine wpAnyH_done (by kernel_rfl) ?_ _
  have O6 := hide o6
  have D6 := hide ((unhide D5).trans hb6)
  have P6 := hide ((unhide P5).trans hp6)
  clear o6 hb6 hp6 O5 D5 P5 S5 HS
  go_wp2
  go_ret
  exact ⟨_, rfl, unhide O6, unhide D6, unhide P6⟩
set_option maxHeartbeats 8000000 in
theorem put_add (t u : TypeId) (x y : Value) (B L M : Nat) (us : List Tk) (h1 : ∀ (ts : List Tk) (v : Value) (w : World), OwnT w B v ts → B ≤ w.heap.size → ts.length ≤ (L + 1) → TabG w → Calls Tryz.prog 45 #[v, .iface t x] w fun r w' => ∃ v', r = .returned v' ∧ OwnT w' B v' (ts ++ us) ∧ Below B w w' ∧ KpT w w') (hus : us.length ≤ M) (us2 : List Tk) (h2 : ∀ (ts : List Tk) (v : Value) (w : World), OwnT w B v ts → B ≤ w.heap.size → ts.length ≤ (L + M + 2) → TabG w → Calls Tryz.prog 45 #[v, .iface u y] w fun r w' => ∃ v', r = .returned v' ∧ OwnT w' B v' (ts ++ us2) ∧ Below B w w' ∧ KpT w w') (hus2 : us2.length ≤ M) (hLM : L + 2 * M + 3 ≤ 500) (ts : List Tk) (v : Value) (w : World) (ho : OwnT w B v ts) (hB : B ≤ w.heap.size) (hl : ts.length ≤ L) (hT : TabG w) (hs : 4 < B) : Calls Tryz.prog 45 #[v, .iface 138 (.agg #[.iface t x, .iface u y])] w fun r w' => ∃ v', r = .returned v' ∧ OwnT w' B v' ((((ts ++ [⟨4, 0, ⟨#[60]⟩⟩]) ++ us) ++ [⟨4, 0, ⟨#[43]⟩⟩]) ++ us2 ++ [⟨4, 0, ⟨#[62]⟩⟩]) ∧ Below B w w' ∧ KpT w w' := by
  obtain ⟨i0, hi, hz0, hz1, hz2⟩ := info_parts infoT
  have t0 := taN_num 138 (.agg #[.iface t x, .iface u y]) (by decide)
  have t1 := taN_sym 138 (.agg #[.iface t x, .iface u y]) (by decide)
  have t2 := taN_here 138 (.agg #[.iface t x, .iface u y]) (by decide)
  have t3 := taN_neg 138 (.agg #[.iface t x, .iface u y]) (by decide)
  have m := me_add (.iface t x) (.iface u y)
  have PT := hide (parts2 t u x y w)
  have KD := hide (fun w => kind_add 0 E0 t u x y w)
  have SG := hide (fun w1 (h : TabG w1) => (show w1.cell? ⟨4, 5, none⟩ = some (.string ⟨#[43]⟩) by obtain ⟨t, fr, h⟩ := h; exact Lib.cell_of_heap h 5))
  have HT := hide hT
  have H1 := hide h1
  have H2 := hide h2
  have O0 := hide ho
  obtain ⟨RS, hRS⟩ : ∃ RS, (((ts ++ [Tk.mk 4 0 ⟨#[60]⟩]) ++ us) ++ [Tk.mk 4 0 ⟨#[43]⟩]) ++ us2 ++ [Tk.mk 4 0 ⟨#[62]⟩] = RS := ⟨_, rfl⟩
  rw [hRS]
  have E1 := hide (fun ts1 (h : (ts ++ [Tk.mk 4 0 ⟨#[60]⟩]) ++ us = ts1) ts2 (h2 : (ts1 ++ [Tk.mk 4 0 ⟨#[43]⟩]) ++ us2 = ts2) => (show ts2 ++ [Tk.mk 4 0 ⟨#[62]⟩] = RS by rw [← hRS, h, h2]))
  clear hT h1 h2 ho hRS
  go_enter Tryz.func45, Tryz.ntmps45
  go_wp2_with fail
  refine (unhide PT).mono ?_
  rintro r w1 ⟨gp, rfl, hgp, hb1⟩
  have O1 := hide ((unhide O0).later hb1)
  have D1 := hide (hb1.mono hB)
  have P1 := hide (KpT.of hb1)
  have G1 := hide hgp
  have c0 := Lib.cell_of_heap hgp 0
  clear hb1 hgp O0 PT
  go_wp2
  refine wp_loop_rounds 3 ?_
  rw [rounds_succ]
  go_wp2_with fail
  refine (markI_any ⟨#[60]⟩ w1).mono ?_
  rintro r w2 ⟨rfl, hb2⟩
  have O2 := hide ((unhide O1).later hb2)
  have D2 := hide ((unhide D1).trans (hb2.mono (Nat.le_trans hB (unhide D1).size)))
  have P2 := hide ((unhide P1).trans (KpT.of hb2))
  have G2 := hide (KpT.of hb2 _ _ _ _ (unhide G1) (by decide))
  clear hb2 O1 D1 P1 G1 c0
  unfold Tk.v Tk.cs
  go_wp2_with (first | (at_builtin; go_must (refine wpList_append_own _ rfl (.tmp 62) (.tmp 65) 45 rfl B 59 i0 (.agg #[.int .i64 0, .int .i64 0, .string ⟨#[]⟩]) 3 32 Tryz.underlying45 hi hz0 hz1 hz2 rfl (by decide) v (ts).length (cellsT (ts)) rfl (World.ownsRow.alloc (unhide O2) _) ⟨w2.heap.size, 0, none⟩ 1 1 [.int .i64 4, .int .i64 0, .string ⟨#[60]⟩] rfl rfl (cell_new w2 #[.int .i64 4, .int .i64 0, .string ⟨#[60]⟩] 59) (newT_one _ _ _) (by unfold maxLen; (try simp only [List.length_append, List.length_cons, List.length_nil]); omega) (by (try simp only [List.length_append, List.length_cons, List.length_nil]); omega) (by have := (unhide D2).size; simp; omega) ?_; intro v3 w3 hown3 hgrow3 _; have O3 := hide (ownT_app (t := ⟨4, 0, ⟨#[60]⟩⟩) hown3); have D3 := hide (((unhide D2).alloc (Nat.le_trans hB (unhide D2).size) (.cells #[.int .i64 4, .int .i64 0, .string ⟨#[60]⟩] 59)).grown hgrow3 (by have := (unhide D2).size; simp; omega) (fun g hg => ((unhide O2).lt hg).1)); have P3 := hide ((KpT.of (below_new w2 (.cells #[.int .i64 4, .int .i64 0, .string ⟨#[60]⟩] 59))).trans (KpT.own (B := B) (ts := ts) (World.ownsRow.alloc (unhide O2) _) hgrow3)); clear hown3 hgrow3; have Q3 := hide ((unhide P2).trans (unhide P3)); have G3 := hide (unhide P3 _ _ _ _ (unhide G2) (by decide)); have A3 := hide (unhide H1 (ts ++ [⟨4, 0, ⟨#[60]⟩⟩]) v3 w3 (unhide O3) (Nat.le_trans hB (unhide D3).size) (by simp only [List.length_append, List.length_cons, List.length_nil]; omega) ((unhide HT).later (unhide D3) hs)))) | (go_at_call 45; refine (unhide A3).mono ?_; rintro r w4 ⟨v4, rfl, o4, hb4, hp4⟩))
  have O4 := hide o4
  have D4 := hide ((unhide D3).trans hb4)
  have P4 := hide ((unhide Q3).trans hp4)
  have G4 := hide (hp4 _ _ _ _ (unhide G3) (by decide))
  have T4 := unhide SG w4 ((unhide HT).later (unhide D4) hs)
  have c1 := Lib.cell_of_heap (unhide G4) 1
  clear o4 hb4 hp4 O3 D3 P3 Q3 G3 A3 O2 D2 P2 G2
  have l4 : ((ts ++ [Tk.mk 4 0 ⟨#[60]⟩]) ++ us).length = ts.length + 1 + us.length := by simp only [List.length_append, List.length_cons, List.length_nil]
  generalize hts1 : (ts ++ [Tk.mk 4 0 ⟨#[60]⟩]) ++ us = ts1 at *
  have E2 := hide (unhide E1 ts1 (by first | rfl | exact hts1))
  clear E1 hts1
  rw [rounds_succ]
  go_wp2_with (first | (go_at_call 66; refine (unhide KD _).mono ?_; rintro r w' ⟨rfl, hw'⟩; rw [hw']; clear hw' w') | (go_at_call 19; refine (markI_any ⟨#[43]⟩ w4).mono ?_; rintro r w5 ⟨rfl, hb5⟩; have O5 := hide ((unhide O4).later hb5); have D5 := hide ((unhide D4).trans (hb5.mono (Nat.le_trans hB (unhide D4).size))); have P5 := hide ((unhide P4).trans (KpT.of hb5)); have G5 := hide (KpT.of hb5 _ _ _ _ (unhide G4) (by decide)); clear hb5; unfold Tk.v Tk.cs) | (at_builtin; go_must (refine wpList_append_own _ rfl (.tmp 62) (.tmp 65) 45 rfl B 59 i0 (.agg #[.int .i64 0, .int .i64 0, .string ⟨#[]⟩]) 3 32 Tryz.underlying45 hi hz0 hz1 hz2 rfl (by decide) v4 (ts1).length (cellsT (ts1)) rfl (World.ownsRow.alloc (unhide O5) _) ⟨w5.heap.size, 0, none⟩ 1 1 [.int .i64 4, .int .i64 0, .string ⟨#[43]⟩] rfl rfl (cell_new w5 #[.int .i64 4, .int .i64 0, .string ⟨#[43]⟩] 59) (newT_one _ _ _) (by unfold maxLen; (try simp only [List.length_append, List.length_cons, List.length_nil]); omega) (by (try simp only [List.length_append, List.length_cons, List.length_nil]); omega) (by have := (unhide D5).size; simp; omega) ?_; intro v6 w6 hown6 hgrow6 _; have O6 := hide (ownT_app (t := ⟨4, 0, ⟨#[43]⟩⟩) hown6); have D6 := hide (((unhide D5).alloc (Nat.le_trans hB (unhide D5).size) (.cells #[.int .i64 4, .int .i64 0, .string ⟨#[43]⟩] 59)).grown hgrow6 (by have := (unhide D5).size; simp; omega) (fun g hg => ((unhide O5).lt hg).1)); have P6 := hide ((KpT.of (below_new w5 (.cells #[.int .i64 4, .int .i64 0, .string ⟨#[43]⟩] 59))).trans (KpT.own (B := B) (ts := ts1) (World.ownsRow.alloc (unhide O5) _) hgrow6)); clear hown6 hgrow6; have Q6 := hide ((unhide P5).trans (unhide P6)); have G6 := hide (unhide P6 _ _ _ _ (unhide G5) (by decide)); have A6 := hide (unhide H2 (ts1 ++ [⟨4, 0, ⟨#[43]⟩⟩]) v6 w6 (unhide O6) (Nat.le_trans hB (unhide D6).size) (by simp only [List.length_append, List.length_cons, List.length_nil]; omega) ((unhide HT).later (unhide D6) hs)))) | (go_at_call 45; refine (unhide A6).mono ?_; rintro r w7 ⟨v7, rfl, o7, hb7, hp7⟩))
  have O7 := hide o7
  have D7 := hide ((unhide D6).trans hb7)
  have P7 := hide ((unhide Q6).trans hp7)
  clear o7 hb7 hp7 O6 D6 P6 Q6 G6 A6 T4 c1 G4 O5 D5 P5 G5 O4 D4 P4
  have l7 : ((ts1 ++ [Tk.mk 4 0 ⟨#[43]⟩]) ++ us2).length = ts1.length + 1 + us2.length := by simp only [List.length_append, List.length_cons, List.length_nil]
  generalize hts2 : (ts1 ++ [Tk.mk 4 0 ⟨#[43]⟩]) ++ us2 = ts2 at *
  have E3 := hide (unhide E2 ts2 (by first | rfl | exact hts2))
  clear E2 hts2
  rw [rounds_succ]
  go_wp2_with fail
  refine (markI_any ⟨#[62]⟩ w7).mono ?_
  rintro r w8 ⟨rfl, hb8⟩
  have O8 := hide ((unhide O7).later hb8)
  have D8 := hide ((unhide D7).trans (hb8.mono (Nat.le_trans hB (unhide D7).size)))
  have P8 := hide ((unhide P7).trans (KpT.of hb8))
  clear hb8 O7 D7 P7
  unfold Tk.v Tk.cs
  go_wp2_with (at_builtin; go_must (refine wpList_append_own _ rfl (.tmp 70) (.tmp 72) 45 rfl B 59 i0 (.agg #[.int .i64 0, .int .i64 0, .string ⟨#[]⟩]) 3 32 Tryz.underlying45 hi hz0 hz1 hz2 rfl (by decide) v7 (ts2).length (cellsT (ts2)) rfl (World.ownsRow.alloc (unhide O8) _) ⟨w8.heap.size, 0, none⟩ 1 1 [.int .i64 4, .int .i64 0, .string ⟨#[62]⟩] rfl rfl (cell_new w8 #[.int .i64 4, .int .i64 0, .string ⟨#[62]⟩] 59) (newT_one _ _ _) (by unfold maxLen; (try simp only [List.length_append, List.length_cons, List.length_nil]); omega) (by (try simp only [List.length_append, List.length_cons, List.length_nil]); omega) (by have := (unhide D8).size; simp; omega) ?_; intro v9 w9 hown9 hgrow9 _; have O9 := hide (ownT_app (t := ⟨4, 0, ⟨#[62]⟩⟩) hown9); have D9 := hide (((unhide D8).alloc (Nat.le_trans hB (unhide D8).size) (.cells #[.int .i64 4, .int .i64 0, .string ⟨#[62]⟩] 59)).grown hgrow9 (by have := (unhide D8).size; simp; omega) (fun g hg => ((unhide O8).lt hg).1)); have P9 := hide ((KpT.of (below_new w8 (.cells #[.int .i64 4, .int .i64 0, .string ⟨#[62]⟩] 59))).trans (KpT.own (B := B) (ts := ts2) (World.ownsRow.alloc (unhide O8) _) hgrow9)); clear hown9 hgrow9))
  go_ret
  rw [unhide E3] at O9
  exact ⟨_, rfl, unhide O9, unhide D9, (unhide P8).trans (unhide P9)⟩
set_option maxHeartbeats 8000000 in
theorem put_sub (t u : TypeId) (x y : Value) (B L M : Nat) (us : List Tk) (h1 : ∀ (ts : List Tk) (v : Value) (w : World), OwnT w B v ts → B ≤ w.heap.size → ts.length ≤ (L + 1) → TabG w → Calls Tryz.prog 45 #[v, .iface t x] w fun r w' => ∃ v', r = .returned v' ∧ OwnT w' B v' (ts ++ us) ∧ Below B w w' ∧ KpT w w') (hus : us.length ≤ M) (us2 : List Tk) (h2 : ∀ (ts : List Tk) (v : Value) (w : World), OwnT w B v ts → B ≤ w.heap.size → ts.length ≤ (L + M + 2) → TabG w → Calls Tryz.prog 45 #[v, .iface u y] w fun r w' => ∃ v', r = .returned v' ∧ OwnT w' B v' (ts ++ us2) ∧ Below B w w' ∧ KpT w w') (hus2 : us2.length ≤ M) (hLM : L + 2 * M + 3 ≤ 500) (ts : List Tk) (v : Value) (w : World) (ho : OwnT w B v ts) (hB : B ≤ w.heap.size) (hl : ts.length ≤ L) (hT : TabG w) (hs : 4 < B) : Calls Tryz.prog 45 #[v, .iface 139 (.agg #[.iface t x, .iface u y])] w fun r w' => ∃ v', r = .returned v' ∧ OwnT w' B v' ((((ts ++ [⟨4, 0, ⟨#[60]⟩⟩]) ++ us) ++ [⟨4, 0, ⟨#[45]⟩⟩]) ++ us2 ++ [⟨4, 0, ⟨#[62]⟩⟩]) ∧ Below B w w' ∧ KpT w w' := by
  obtain ⟨i0, hi, hz0, hz1, hz2⟩ := info_parts infoT
  have t0 := taN_num 139 (.agg #[.iface t x, .iface u y]) (by decide)
  have t1 := taN_sym 139 (.agg #[.iface t x, .iface u y]) (by decide)
  have t2 := taN_here 139 (.agg #[.iface t x, .iface u y]) (by decide)
  have t3 := taN_neg 139 (.agg #[.iface t x, .iface u y]) (by decide)
  have m := me_sub (.iface t x) (.iface u y)
  have PT := hide (parts2 t u x y w)
  have KD := hide (fun w => kind_sub 0 E0 t u x y w)
  have SG := hide (fun w1 (h : TabG w1) => (show w1.cell? ⟨4, 6, none⟩ = some (.string ⟨#[45]⟩) by obtain ⟨t, fr, h⟩ := h; exact Lib.cell_of_heap h 6))
  have HT := hide hT
  have H1 := hide h1
  have H2 := hide h2
  have O0 := hide ho
  obtain ⟨RS, hRS⟩ : ∃ RS, (((ts ++ [Tk.mk 4 0 ⟨#[60]⟩]) ++ us) ++ [Tk.mk 4 0 ⟨#[45]⟩]) ++ us2 ++ [Tk.mk 4 0 ⟨#[62]⟩] = RS := ⟨_, rfl⟩
  rw [hRS]
  have E1 := hide (fun ts1 (h : (ts ++ [Tk.mk 4 0 ⟨#[60]⟩]) ++ us = ts1) ts2 (h2 : (ts1 ++ [Tk.mk 4 0 ⟨#[45]⟩]) ++ us2 = ts2) => (show ts2 ++ [Tk.mk 4 0 ⟨#[62]⟩] = RS by rw [← hRS, h, h2]))
  clear hT h1 h2 ho hRS
  go_enter Tryz.func45, Tryz.ntmps45
  go_wp2_with fail
  refine (unhide PT).mono ?_
  rintro r w1 ⟨gp, rfl, hgp, hb1⟩
  have O1 := hide ((unhide O0).later hb1)
  have D1 := hide (hb1.mono hB)
  have P1 := hide (KpT.of hb1)
  have G1 := hide hgp
  have c0 := Lib.cell_of_heap hgp 0
  clear hb1 hgp O0 PT
  go_wp2
  refine wp_loop_rounds 3 ?_
  rw [rounds_succ]
  go_wp2_with fail
  refine (markI_any ⟨#[60]⟩ w1).mono ?_
  rintro r w2 ⟨rfl, hb2⟩
  have O2 := hide ((unhide O1).later hb2)
  have D2 := hide ((unhide D1).trans (hb2.mono (Nat.le_trans hB (unhide D1).size)))
  have P2 := hide ((unhide P1).trans (KpT.of hb2))
  have G2 := hide (KpT.of hb2 _ _ _ _ (unhide G1) (by decide))
  clear hb2 O1 D1 P1 G1 c0
  unfold Tk.v Tk.cs
  go_wp2_with (first | (at_builtin; go_must (refine wpList_append_own _ rfl (.tmp 62) (.tmp 65) 45 rfl B 59 i0 (.agg #[.int .i64 0, .int .i64 0, .string ⟨#[]⟩]) 3 32 Tryz.underlying45 hi hz0 hz1 hz2 rfl (by decide) v (ts).length (cellsT (ts)) rfl (World.ownsRow.alloc (unhide O2) _) ⟨w2.heap.size, 0, none⟩ 1 1 [.int .i64 4, .int .i64 0, .string ⟨#[60]⟩] rfl rfl (cell_new w2 #[.int .i64 4, .int .i64 0, .string ⟨#[60]⟩] 59) (newT_one _ _ _) (by unfold maxLen; (try simp only [List.length_append, List.length_cons, List.length_nil]); omega) (by (try simp only [List.length_append, List.length_cons, List.length_nil]); omega) (by have := (unhide D2).size; simp; omega) ?_; intro v3 w3 hown3 hgrow3 _; have O3 := hide (ownT_app (t := ⟨4, 0, ⟨#[60]⟩⟩) hown3); have D3 := hide (((unhide D2).alloc (Nat.le_trans hB (unhide D2).size) (.cells #[.int .i64 4, .int .i64 0, .string ⟨#[60]⟩] 59)).grown hgrow3 (by have := (unhide D2).size; simp; omega) (fun g hg => ((unhide O2).lt hg).1)); have P3 := hide ((KpT.of (below_new w2 (.cells #[.int .i64 4, .int .i64 0, .string ⟨#[60]⟩] 59))).trans (KpT.own (B := B) (ts := ts) (World.ownsRow.alloc (unhide O2) _) hgrow3)); clear hown3 hgrow3; have Q3 := hide ((unhide P2).trans (unhide P3)); have G3 := hide (unhide P3 _ _ _ _ (unhide G2) (by decide)); have A3 := hide (unhide H1 (ts ++ [⟨4, 0, ⟨#[60]⟩⟩]) v3 w3 (unhide O3) (Nat.le_trans hB (unhide D3).size) (by simp only [List.length_append, List.length_cons, List.length_nil]; omega) ((unhide HT).later (unhide D3) hs)))) | (go_at_call 45; refine (unhide A3).mono ?_; rintro r w4 ⟨v4, rfl, o4, hb4, hp4⟩))
  have O4 := hide o4
  have D4 := hide ((unhide D3).trans hb4)
  have P4 := hide ((unhide Q3).trans hp4)
  have G4 := hide (hp4 _ _ _ _ (unhide G3) (by decide))
  have T4 := unhide SG w4 ((unhide HT).later (unhide D4) hs)
  have c1 := Lib.cell_of_heap (unhide G4) 1
  clear o4 hb4 hp4 O3 D3 P3 Q3 G3 A3 O2 D2 P2 G2
  have l4 : ((ts ++ [Tk.mk 4 0 ⟨#[60]⟩]) ++ us).length = ts.length + 1 + us.length := by simp only [List.length_append, List.length_cons, List.length_nil]
  generalize hts1 : (ts ++ [Tk.mk 4 0 ⟨#[60]⟩]) ++ us = ts1 at *
  have E2 := hide (unhide E1 ts1 (by first | rfl | exact hts1))
  clear E1 hts1
  rw [rounds_succ]
  go_wp2_with (first | (go_at_call 66; refine (unhide KD _).mono ?_; rintro r w' ⟨rfl, hw'⟩; rw [hw']; clear hw' w') | (go_at_call 19; refine (markI_any ⟨#[45]⟩ w4).mono ?_; rintro r w5 ⟨rfl, hb5⟩; have O5 := hide ((unhide O4).later hb5); have D5 := hide ((unhide D4).trans (hb5.mono (Nat.le_trans hB (unhide D4).size))); have P5 := hide ((unhide P4).trans (KpT.of hb5)); have G5 := hide (KpT.of hb5 _ _ _ _ (unhide G4) (by decide)); clear hb5; unfold Tk.v Tk.cs) | (at_builtin; go_must (refine wpList_append_own _ rfl (.tmp 62) (.tmp 65) 45 rfl B 59 i0 (.agg #[.int .i64 0, .int .i64 0, .string ⟨#[]⟩]) 3 32 Tryz.underlying45 hi hz0 hz1 hz2 rfl (by decide) v4 (ts1).length (cellsT (ts1)) rfl (World.ownsRow.alloc (unhide O5) _) ⟨w5.heap.size, 0, none⟩ 1 1 [.int .i64 4, .int .i64 0, .string ⟨#[45]⟩] rfl rfl (cell_new w5 #[.int .i64 4, .int .i64 0, .string ⟨#[45]⟩] 59) (newT_one _ _ _) (by unfold maxLen; (try simp only [List.length_append, List.length_cons, List.length_nil]); omega) (by (try simp only [List.length_append, List.length_cons, List.length_nil]); omega) (by have := (unhide D5).size; simp; omega) ?_; intro v6 w6 hown6 hgrow6 _; have O6 := hide (ownT_app (t := ⟨4, 0, ⟨#[45]⟩⟩) hown6); have D6 := hide (((unhide D5).alloc (Nat.le_trans hB (unhide D5).size) (.cells #[.int .i64 4, .int .i64 0, .string ⟨#[45]⟩] 59)).grown hgrow6 (by have := (unhide D5).size; simp; omega) (fun g hg => ((unhide O5).lt hg).1)); have P6 := hide ((KpT.of (below_new w5 (.cells #[.int .i64 4, .int .i64 0, .string ⟨#[45]⟩] 59))).trans (KpT.own (B := B) (ts := ts1) (World.ownsRow.alloc (unhide O5) _) hgrow6)); clear hown6 hgrow6; have Q6 := hide ((unhide P5).trans (unhide P6)); have G6 := hide (unhide P6 _ _ _ _ (unhide G5) (by decide)); have A6 := hide (unhide H2 (ts1 ++ [⟨4, 0, ⟨#[45]⟩⟩]) v6 w6 (unhide O6) (Nat.le_trans hB (unhide D6).size) (by simp only [List.length_append, List.length_cons, List.length_nil]; omega) ((unhide HT).later (unhide D6) hs)))) | (go_at_call 45; refine (unhide A6).mono ?_; rintro r w7 ⟨v7, rfl, o7, hb7, hp7⟩))
  have O7 := hide o7
  have D7 := hide ((unhide D6).trans hb7)
  have P7 := hide ((unhide Q6).trans hp7)
  clear o7 hb7 hp7 O6 D6 P6 Q6 G6 A6 T4 c1 G4 O5 D5 P5 G5 O4 D4 P4
  have l7 : ((ts1 ++ [Tk.mk 4 0 ⟨#[45]⟩]) ++ us2).length = ts1.length + 1 + us2.length := by simp only [List.length_append, List.length_cons, List.length_nil]
  generalize hts2 : (ts1 ++ [Tk.mk 4 0 ⟨#[45]⟩]) ++ us2 = ts2 at *
  have E3 := hide (unhide E2 ts2 (by first | rfl | exact hts2))
  clear E2 hts2
  rw [rounds_succ]
  go_wp2_with fail
  refine (markI_any ⟨#[62]⟩ w7).mono ?_
  rintro r w8 ⟨rfl, hb8⟩
  have O8 := hide ((unhide O7).later hb8)
  have D8 := hide ((unhide D7).trans (hb8.mono (Nat.le_trans hB (unhide D7).size)))
  have P8 := hide ((unhide P7).trans (KpT.of hb8))
  clear hb8 O7 D7 P7
  unfold Tk.v Tk.cs
  go_wp2_with (at_builtin; go_must (refine wpList_append_own _ rfl (.tmp 70) (.tmp 72) 45 rfl B 59 i0 (.agg #[.int .i64 0, .int .i64 0, .string ⟨#[]⟩]) 3 32 Tryz.underlying45 hi hz0 hz1 hz2 rfl (by decide) v7 (ts2).length (cellsT (ts2)) rfl (World.ownsRow.alloc (unhide O8) _) ⟨w8.heap.size, 0, none⟩ 1 1 [.int .i64 4, .int .i64 0, .string ⟨#[62]⟩] rfl rfl (cell_new w8 #[.int .i64 4, .int .i64 0, .string ⟨#[62]⟩] 59) (newT_one _ _ _) (by unfold maxLen; (try simp only [List.length_append, List.length_cons, List.length_nil]); omega) (by (try simp only [List.length_append, List.length_cons, List.length_nil]); omega) (by have := (unhide D8).size; simp; omega) ?_; intro v9 w9 hown9 hgrow9 _; have O9 := hide (ownT_app (t := ⟨4, 0, ⟨#[62]⟩⟩) hown9); have D9 := hide (((unhide D8).alloc (Nat.le_trans hB (unhide D8).size) (.cells #[.int .i64 4, .int .i64 0, .string ⟨#[62]⟩] 59)).grown hgrow9 (by have := (unhide D8).size; simp; omega) (fun g hg => ((unhide O8).lt hg).1)); have P9 := hide ((KpT.of (below_new w8 (.cells #[.int .i64 4, .int .i64 0, .string ⟨#[62]⟩] 59))).trans (KpT.own (B := B) (ts := ts2) (World.ownsRow.alloc (unhide O8) _) hgrow9)); clear hown9 hgrow9))
  go_ret
  rw [unhide E3] at O9
  exact ⟨_, rfl, unhide O9, unhide D9, (unhide P8).trans (unhide P9)⟩
set_option maxHeartbeats 8000000 in
theorem put_mul (t u : TypeId) (x y : Value) (B L M : Nat) (us : List Tk) (h1 : ∀ (ts : List Tk) (v : Value) (w : World), OwnT w B v ts → B ≤ w.heap.size → ts.length ≤ (L + 1) → TabG w → Calls Tryz.prog 45 #[v, .iface t x] w fun r w' => ∃ v', r = .returned v' ∧ OwnT w' B v' (ts ++ us) ∧ Below B w w' ∧ KpT w w') (hus : us.length ≤ M) (us2 : List Tk) (h2 : ∀ (ts : List Tk) (v : Value) (w : World), OwnT w B v ts → B ≤ w.heap.size → ts.length ≤ (L + M + 2) → TabG w → Calls Tryz.prog 45 #[v, .iface u y] w fun r w' => ∃ v', r = .returned v' ∧ OwnT w' B v' (ts ++ us2) ∧ Below B w w' ∧ KpT w w') (hus2 : us2.length ≤ M) (hLM : L + 2 * M + 3 ≤ 500) (ts : List Tk) (v : Value) (w : World) (ho : OwnT w B v ts) (hB : B ≤ w.heap.size) (hl : ts.length ≤ L) (hT : TabG w) (hs : 4 < B) : Calls Tryz.prog 45 #[v, .iface 140 (.agg #[.iface t x, .iface u y])] w fun r w' => ∃ v', r = .returned v' ∧ OwnT w' B v' ((((ts ++ [⟨4, 0, ⟨#[60]⟩⟩]) ++ us) ++ [⟨4, 0, ⟨#[42]⟩⟩]) ++ us2 ++ [⟨4, 0, ⟨#[62]⟩⟩]) ∧ Below B w w' ∧ KpT w w' := by
  obtain ⟨i0, hi, hz0, hz1, hz2⟩ := info_parts infoT
  have t0 := taN_num 140 (.agg #[.iface t x, .iface u y]) (by decide)
  have t1 := taN_sym 140 (.agg #[.iface t x, .iface u y]) (by decide)
  have t2 := taN_here 140 (.agg #[.iface t x, .iface u y]) (by decide)
  have t3 := taN_neg 140 (.agg #[.iface t x, .iface u y]) (by decide)
  have m := me_mul (.iface t x) (.iface u y)
  have PT := hide (parts2 t u x y w)
  have KD := hide (fun w => kind_mul 0 E0 t u x y w)
  have SG := hide (fun w1 (h : TabG w1) => (show w1.cell? ⟨4, 7, none⟩ = some (.string ⟨#[42]⟩) by obtain ⟨t, fr, h⟩ := h; exact Lib.cell_of_heap h 7))
  have HT := hide hT
  have H1 := hide h1
  have H2 := hide h2
  have O0 := hide ho
  obtain ⟨RS, hRS⟩ : ∃ RS, (((ts ++ [Tk.mk 4 0 ⟨#[60]⟩]) ++ us) ++ [Tk.mk 4 0 ⟨#[42]⟩]) ++ us2 ++ [Tk.mk 4 0 ⟨#[62]⟩] = RS := ⟨_, rfl⟩
  rw [hRS]
  have E1 := hide (fun ts1 (h : (ts ++ [Tk.mk 4 0 ⟨#[60]⟩]) ++ us = ts1) ts2 (h2 : (ts1 ++ [Tk.mk 4 0 ⟨#[42]⟩]) ++ us2 = ts2) => (show ts2 ++ [Tk.mk 4 0 ⟨#[62]⟩] = RS by rw [← hRS, h, h2]))
  clear hT h1 h2 ho hRS
  go_enter Tryz.func45, Tryz.ntmps45
  go_wp2_with fail
  refine (unhide PT).mono ?_
  rintro r w1 ⟨gp, rfl, hgp, hb1⟩
  have O1 := hide ((unhide O0).later hb1)
  have D1 := hide (hb1.mono hB)
  have P1 := hide (KpT.of hb1)
  have G1 := hide hgp
  have c0 := Lib.cell_of_heap hgp 0
  clear hb1 hgp O0 PT
  go_wp2
  refine wp_loop_rounds 3 ?_
  rw [rounds_succ]
  go_wp2_with fail
  refine (markI_any ⟨#[60]⟩ w1).mono ?_
  rintro r w2 ⟨rfl, hb2⟩
  have O2 := hide ((unhide O1).later hb2)
  have D2 := hide ((unhide D1).trans (hb2.mono (Nat.le_trans hB (unhide D1).size)))
  have P2 := hide ((unhide P1).trans (KpT.of hb2))
  have G2 := hide (KpT.of hb2 _ _ _ _ (unhide G1) (by decide))
  clear hb2 O1 D1 P1 G1 c0
  unfold Tk.v Tk.cs
  go_wp2_with (first | (at_builtin; go_must (refine wpList_append_own _ rfl (.tmp 62) (.tmp 65) 45 rfl B 59 i0 (.agg #[.int .i64 0, .int .i64 0, .string ⟨#[]⟩]) 3 32 Tryz.underlying45 hi hz0 hz1 hz2 rfl (by decide) v (ts).length (cellsT (ts)) rfl (World.ownsRow.alloc (unhide O2) _) ⟨w2.heap.size, 0, none⟩ 1 1 [.int .i64 4, .int .i64 0, .string ⟨#[60]⟩] rfl rfl (cell_new w2 #[.int .i64 4, .int .i64 0, .string ⟨#[60]⟩] 59) (newT_one _ _ _) (by unfold maxLen; (try simp only [List.length_append, List.length_cons, List.length_nil]); omega) (by (try simp only [List.length_append, List.length_cons, List.length_nil]); omega) (by have := (unhide D2).size; simp; omega) ?_; intro v3 w3 hown3 hgrow3 _; have O3 := hide (ownT_app (t := ⟨4, 0, ⟨#[60]⟩⟩) hown3); have D3 := hide (((unhide D2).alloc (Nat.le_trans hB (unhide D2).size) (.cells #[.int .i64 4, .int .i64 0, .string ⟨#[60]⟩] 59)).grown hgrow3 (by have := (unhide D2).size; simp; omega) (fun g hg => ((unhide O2).lt hg).1)); have P3 := hide ((KpT.of (below_new w2 (.cells #[.int .i64 4, .int .i64 0, .string ⟨#[60]⟩] 59))).trans (KpT.own (B := B) (ts := ts) (World.ownsRow.alloc (unhide O2) _) hgrow3)); clear hown3 hgrow3; have Q3 := hide ((unhide P2).trans (unhide P3)); have G3 := hide (unhide P3 _ _ _ _ (unhide G2) (by decide)); have A3 := hide (unhide H1 (ts ++ [⟨4, 0, ⟨#[60]⟩⟩]) v3 w3 (unhide O3) (Nat.le_trans hB (unhide D3).size) (by simp only [List.length_append, List.length_cons, List.length_nil]; omega) ((unhide HT).later (unhide D3) hs)))) | (go_at_call 45; refine (unhide A3).mono ?_; rintro r w4 ⟨v4, rfl, o4, hb4, hp4⟩))
  have O4 := hide o4
  have D4 := hide ((unhide D3).trans hb4)
  have P4 := hide ((unhide Q3).trans hp4)
  have G4 := hide (hp4 _ _ _ _ (unhide G3) (by decide))
  have T4 := unhide SG w4 ((unhide HT).later (unhide D4) hs)
  have c1 := Lib.cell_of_heap (unhide G4) 1
  clear o4 hb4 hp4 O3 D3 P3 Q3 G3 A3 O2 D2 P2 G2
  have l4 : ((ts ++ [Tk.mk 4 0 ⟨#[60]⟩]) ++ us).length = ts.length + 1 + us.length := by simp only [List.length_append, List.length_cons, List.length_nil]
  generalize hts1 : (ts ++ [Tk.mk 4 0 ⟨#[60]⟩]) ++ us = ts1 at *
  have E2 := hide (unhide E1 ts1 (by first | rfl | exact hts1))
  clear E1 hts1
  rw [rounds_succ]
  go_wp2_with (first | (go_at_call 66; refine (unhide KD _).mono ?_; rintro r w' ⟨rfl, hw'⟩; rw [hw']; clear hw' w') | (go_at_call 19; refine (markI_any ⟨#[42]⟩ w4).mono ?_; rintro r w5 ⟨rfl, hb5⟩; have O5 := hide ((unhide O4).later hb5); have D5 := hide ((unhide D4).trans (hb5.mono (Nat.le_trans hB (unhide D4).size))); have P5 := hide ((unhide P4).trans (KpT.of hb5)); have G5 := hide (KpT.of hb5 _ _ _ _ (unhide G4) (by decide)); clear hb5; unfold Tk.v Tk.cs) | (at_builtin; go_must (refine wpList_append_own _ rfl (.tmp 62) (.tmp 65) 45 rfl B 59 i0 (.agg #[.int .i64 0, .int .i64 0, .string ⟨#[]⟩]) 3 32 Tryz.underlying45 hi hz0 hz1 hz2 rfl (by decide) v4 (ts1).length (cellsT (ts1)) rfl (World.ownsRow.alloc (unhide O5) _) ⟨w5.heap.size, 0, none⟩ 1 1 [.int .i64 4, .int .i64 0, .string ⟨#[42]⟩] rfl rfl (cell_new w5 #[.int .i64 4, .int .i64 0, .string ⟨#[42]⟩] 59) (newT_one _ _ _) (by unfold maxLen; (try simp only [List.length_append, List.length_cons, List.length_nil]); omega) (by (try simp only [List.length_append, List.length_cons, List.length_nil]); omega) (by have := (unhide D5).size; simp; omega) ?_; intro v6 w6 hown6 hgrow6 _; have O6 := hide (ownT_app (t := ⟨4, 0, ⟨#[42]⟩⟩) hown6); have D6 := hide (((unhide D5).alloc (Nat.le_trans hB (unhide D5).size) (.cells #[.int .i64 4, .int .i64 0, .string ⟨#[42]⟩] 59)).grown hgrow6 (by have := (unhide D5).size; simp; omega) (fun g hg => ((unhide O5).lt hg).1)); have P6 := hide ((KpT.of (below_new w5 (.cells #[.int .i64 4, .int .i64 0, .string ⟨#[42]⟩] 59))).trans (KpT.own (B := B) (ts := ts1) (World.ownsRow.alloc (unhide O5) _) hgrow6)); clear hown6 hgrow6; have Q6 := hide ((unhide P5).trans (unhide P6)); have G6 := hide (unhide P6 _ _ _ _ (unhide G5) (by decide)); have A6 := hide (unhide H2 (ts1 ++ [⟨4, 0, ⟨#[42]⟩⟩]) v6 w6 (unhide O6) (Nat.le_trans hB (unhide D6).size) (by simp only [List.length_append, List.length_cons, List.length_nil]; omega) ((unhide HT).later (unhide D6) hs)))) | (go_at_call 45; refine (unhide A6).mono ?_; rintro r w7 ⟨v7, rfl, o7, hb7, hp7⟩))
  have O7 := hide o7
  have D7 := hide ((unhide D6).trans hb7)
  have P7 := hide ((unhide Q6).trans hp7)
  clear o7 hb7 hp7 O6 D6 P6 Q6 G6 A6 T4 c1 G4 O5 D5 P5 G5 O4 D4 P4
  have l7 : ((ts1 ++ [Tk.mk 4 0 ⟨#[42]⟩]) ++ us2).length = ts1.length + 1 + us2.length := by simp only [List.length_append, List.length_cons, List.length_nil]
  generalize hts2 : (ts1 ++ [Tk.mk 4 0 ⟨#[42]⟩]) ++ us2 = ts2 at *
  have E3 := hide (unhide E2 ts2 (by first | rfl | exact hts2))
  clear E2 hts2
  rw [rounds_succ]
  go_wp2_with fail
  refine (markI_any ⟨#[62]⟩ w7).mono ?_
  rintro r w8 ⟨rfl, hb8⟩
  have O8 := hide ((unhide O7).later hb8)
  have D8 := hide ((unhide D7).trans (hb8.mono (Nat.le_trans hB (unhide D7).size)))
  have P8 := hide ((unhide P7).trans (KpT.of hb8))
  clear hb8 O7 D7 P7
  unfold Tk.v Tk.cs
  go_wp2_with (at_builtin; go_must (refine wpList_append_own _ rfl (.tmp 70) (.tmp 72) 45 rfl B 59 i0 (.agg #[.int .i64 0, .int .i64 0, .string ⟨#[]⟩]) 3 32 Tryz.underlying45 hi hz0 hz1 hz2 rfl (by decide) v7 (ts2).length (cellsT (ts2)) rfl (World.ownsRow.alloc (unhide O8) _) ⟨w8.heap.size, 0, none⟩ 1 1 [.int .i64 4, .int .i64 0, .string ⟨#[62]⟩] rfl rfl (cell_new w8 #[.int .i64 4, .int .i64 0, .string ⟨#[62]⟩] 59) (newT_one _ _ _) (by unfold maxLen; (try simp only [List.length_append, List.length_cons, List.length_nil]); omega) (by (try simp only [List.length_append, List.length_cons, List.length_nil]); omega) (by have := (unhide D8).size; simp; omega) ?_; intro v9 w9 hown9 hgrow9 _; have O9 := hide (ownT_app (t := ⟨4, 0, ⟨#[62]⟩⟩) hown9); have D9 := hide (((unhide D8).alloc (Nat.le_trans hB (unhide D8).size) (.cells #[.int .i64 4, .int .i64 0, .string ⟨#[62]⟩] 59)).grown hgrow9 (by have := (unhide D8).size; simp; omega) (fun g hg => ((unhide O8).lt hg).1)); have P9 := hide ((KpT.of (below_new w8 (.cells #[.int .i64 4, .int .i64 0, .string ⟨#[62]⟩] 59))).trans (KpT.own (B := B) (ts := ts2) (World.ownsRow.alloc (unhide O8) _) hgrow9)); clear hown9 hgrow9))
  go_ret
  rw [unhide E3] at O9
  exact ⟨_, rfl, unhide O9, unhide D9, (unhide P8).trans (unhide P9)⟩
set_option maxHeartbeats 8000000 in
theorem put_div (t u : TypeId) (x y : Value) (B L M : Nat) (us : List Tk) (h1 : ∀ (ts : List Tk) (v : Value) (w : World), OwnT w B v ts → B ≤ w.heap.size → ts.length ≤ (L + 1) → TabG w → Calls Tryz.prog 45 #[v, .iface t x] w fun r w' => ∃ v', r = .returned v' ∧ OwnT w' B v' (ts ++ us) ∧ Below B w w' ∧ KpT w w') (hus : us.length ≤ M) (us2 : List Tk) (h2 : ∀ (ts : List Tk) (v : Value) (w : World), OwnT w B v ts → B ≤ w.heap.size → ts.length ≤ (L + M + 2) → TabG w → Calls Tryz.prog 45 #[v, .iface u y] w fun r w' => ∃ v', r = .returned v' ∧ OwnT w' B v' (ts ++ us2) ∧ Below B w w' ∧ KpT w w') (hus2 : us2.length ≤ M) (hLM : L + 2 * M + 3 ≤ 500) (ts : List Tk) (v : Value) (w : World) (ho : OwnT w B v ts) (hB : B ≤ w.heap.size) (hl : ts.length ≤ L) (hT : TabG w) (hs : 4 < B) : Calls Tryz.prog 45 #[v, .iface 141 (.agg #[.iface t x, .iface u y])] w fun r w' => ∃ v', r = .returned v' ∧ OwnT w' B v' ((((ts ++ [⟨4, 0, ⟨#[60]⟩⟩]) ++ us) ++ [⟨4, 0, ⟨#[47]⟩⟩]) ++ us2 ++ [⟨4, 0, ⟨#[62]⟩⟩]) ∧ Below B w w' ∧ KpT w w' := by
  obtain ⟨i0, hi, hz0, hz1, hz2⟩ := info_parts infoT
  have t0 := taN_num 141 (.agg #[.iface t x, .iface u y]) (by decide)
  have t1 := taN_sym 141 (.agg #[.iface t x, .iface u y]) (by decide)
  have t2 := taN_here 141 (.agg #[.iface t x, .iface u y]) (by decide)
  have t3 := taN_neg 141 (.agg #[.iface t x, .iface u y]) (by decide)
  have m := me_div (.iface t x) (.iface u y)
  have PT := hide (parts2 t u x y w)
  have KD := hide (fun w => kind_div 0 E0 t u x y w)
  have SG := hide (fun w1 (h : TabG w1) => (show w1.cell? ⟨4, 8, none⟩ = some (.string ⟨#[47]⟩) by obtain ⟨t, fr, h⟩ := h; exact Lib.cell_of_heap h 8))
  have HT := hide hT
  have H1 := hide h1
  have H2 := hide h2
  have O0 := hide ho
  obtain ⟨RS, hRS⟩ : ∃ RS, (((ts ++ [Tk.mk 4 0 ⟨#[60]⟩]) ++ us) ++ [Tk.mk 4 0 ⟨#[47]⟩]) ++ us2 ++ [Tk.mk 4 0 ⟨#[62]⟩] = RS := ⟨_, rfl⟩
  rw [hRS]
  have E1 := hide (fun ts1 (h : (ts ++ [Tk.mk 4 0 ⟨#[60]⟩]) ++ us = ts1) ts2 (h2 : (ts1 ++ [Tk.mk 4 0 ⟨#[47]⟩]) ++ us2 = ts2) => (show ts2 ++ [Tk.mk 4 0 ⟨#[62]⟩] = RS by rw [← hRS, h, h2]))
  clear hT h1 h2 ho hRS
  go_enter Tryz.func45, Tryz.ntmps45
  go_wp2_with fail
  refine (unhide PT).mono ?_
  rintro r w1 ⟨gp, rfl, hgp, hb1⟩
  have O1 := hide ((unhide O0).later hb1)
  have D1 := hide (hb1.mono hB)
  have P1 := hide (KpT.of hb1)
  have G1 := hide hgp
  have c0 := Lib.cell_of_heap hgp 0
  clear hb1 hgp O0 PT
  go_wp2
  refine wp_loop_rounds 3 ?_
  rw [rounds_succ]
  go_wp2_with fail
  refine (markI_any ⟨#[60]⟩ w1).mono ?_
  rintro r w2 ⟨rfl, hb2⟩
  have O2 := hide ((unhide O1).later hb2)
  have D2 := hide ((unhide D1).trans (hb2.mono (Nat.le_trans hB (unhide D1).size)))
  have P2 := hide ((unhide P1).trans (KpT.of hb2))
  have G2 := hide (KpT.of hb2 _ _ _ _ (unhide G1) (by decide))
  clear hb2 O1 D1 P1 G1 c0
  unfold Tk.v Tk.cs
  go_wp2_with (first | (at_builtin; go_must (refine wpList_append_own _ rfl (.tmp 62) (.tmp 65) 45 rfl B 59 i0 (.agg #[.int .i64 0, .int .i64 0, .string ⟨#[]⟩]) 3 32 Tryz.underlying45 hi hz0 hz1 hz2 rfl (by decide) v (ts).length (cellsT (ts)) rfl (World.ownsRow.alloc (unhide O2) _) ⟨w2.heap.size, 0, none⟩ 1 1 [.int .i64 4, .int .i64 0, .string ⟨#[60]⟩] rfl rfl (cell_new w2 #[.int .i64 4, .int .i64 0, .string ⟨#[60]⟩] 59) (newT_one _ _ _) (by unfold maxLen; (try simp only [List.length_append, List.length_cons, List.length_nil]); omega) (by (try simp only [List.length_append, List.length_cons, List.length_nil]); omega) (by have := (unhide D2).size; simp; omega) ?_; intro v3 w3 hown3 hgrow3 _; have O3 := hide (ownT_app (t := ⟨4, 0, ⟨#[60]⟩⟩) hown3); have D3 := hide (((unhide D2).alloc (Nat.le_trans hB (unhide D2).size) (.cells #[.int .i64 4, .int .i64 0, .string ⟨#[60]⟩] 59)).grown hgrow3 (by have := (unhide D2).size; simp; omega) (fun g hg => ((unhide O2).lt hg).1)); have P3 := hide ((KpT.of (below_new w2 (.cells #[.int .i64 4, .int .i64 0, .string ⟨#[60]⟩] 59))).trans (KpT.own (B := B) (ts := ts) (World.ownsRow.alloc (unhide O2) _) hgrow3)); clear hown3 hgrow3; have Q3 := hide ((unhide P2).trans (unhide P3)); have G3 := hide (unhide P3 _ _ _ _ (unhide G2) (by decide)); have A3 := hide (unhide H1 (ts ++ [⟨4, 0, ⟨#[60]⟩⟩]) v3 w3 (unhide O3) (Nat.le_trans hB (unhide D3).size) (by simp only [List.length_append, List.length_cons, List.length_nil]; omega) ((unhide HT).later (unhide D3) hs)))) | (go_at_call 45; refine (unhide A3).mono ?_; rintro r w4 ⟨v4, rfl, o4, hb4, hp4⟩))
  have O4 := hide o4
  have D4 := hide ((unhide D3).trans hb4)
  have P4 := hide ((unhide Q3).trans hp4)
  have G4 := hide (hp4 _ _ _ _ (unhide G3) (by decide))
  have T4 := unhide SG w4 ((unhide HT).later (unhide D4) hs)
  have c1 := Lib.cell_of_heap (unhide G4) 1
  clear o4 hb4 hp4 O3 D3 P3 Q3 G3 A3 O2 D2 P2 G2
  have l4 : ((ts ++ [Tk.mk 4 0 ⟨#[60]⟩]) ++ us).length = ts.length + 1 + us.length := by simp only [List.length_append, List.length_cons, List.length_nil]
  generalize hts1 : (ts ++ [Tk.mk 4 0 ⟨#[60]⟩]) ++ us = ts1 at *
  have E2 := hide (unhide E1 ts1 (by first | rfl | exact hts1))
  clear E1 hts1
  rw [rounds_succ]
  go_wp2_with (first | (go_at_call 66; refine (unhide KD _).mono ?_; rintro r w' ⟨rfl, hw'⟩; rw [hw']; clear hw' w') | (go_at_call 19; refine (markI_any ⟨#[47]⟩ w4).mono ?_; rintro r w5 ⟨rfl, hb5⟩; have O5 := hide ((unhide O4).later hb5); have D5 := hide ((unhide D4).trans (hb5.mono (Nat.le_trans hB (unhide D4).size))); have P5 := hide ((unhide P4).trans (KpT.of hb5)); have G5 := hide (KpT.of hb5 _ _ _ _ (unhide G4) (by decide)); clear hb5; unfold Tk.v Tk.cs) | (at_builtin; go_must (refine wpList_append_own _ rfl (.tmp 62) (.tmp 65) 45 rfl B 59 i0 (.agg #[.int .i64 0, .int .i64 0, .string ⟨#[]⟩]) 3 32 Tryz.underlying45 hi hz0 hz1 hz2 rfl (by decide) v4 (ts1).length (cellsT (ts1)) rfl (World.ownsRow.alloc (unhide O5) _) ⟨w5.heap.size, 0, none⟩ 1 1 [.int .i64 4, .int .i64 0, .string ⟨#[47]⟩] rfl rfl (cell_new w5 #[.int .i64 4, .int .i64 0, .string ⟨#[47]⟩] 59) (newT_one _ _ _) (by unfold maxLen; (try simp only [List.length_append, List.length_cons, List.length_nil]); omega) (by (try simp only [List.length_append, List.length_cons, List.length_nil]); omega) (by have := (unhide D5).size; simp; omega) ?_; intro v6 w6 hown6 hgrow6 _; have O6 := hide (ownT_app (t := ⟨4, 0, ⟨#[47]⟩⟩) hown6); have D6 := hide (((unhide D5).alloc (Nat.le_trans hB (unhide D5).size) (.cells #[.int .i64 4, .int .i64 0, .string ⟨#[47]⟩] 59)).grown hgrow6 (by have := (unhide D5).size; simp; omega) (fun g hg => ((unhide O5).lt hg).1)); have P6 := hide ((KpT.of (below_new w5 (.cells #[.int .i64 4, .int .i64 0, .string ⟨#[47]⟩] 59))).trans (KpT.own (B := B) (ts := ts1) (World.ownsRow.alloc (unhide O5) _) hgrow6)); clear hown6 hgrow6; have Q6 := hide ((unhide P5).trans (unhide P6)); have G6 := hide (unhide P6 _ _ _ _ (unhide G5) (by decide)); have A6 := hide (unhide H2 (ts1 ++ [⟨4, 0, ⟨#[47]⟩⟩]) v6 w6 (unhide O6) (Nat.le_trans hB (unhide D6).size) (by simp only [List.length_append, List.length_cons, List.length_nil]; omega) ((unhide HT).later (unhide D6) hs)))) | (go_at_call 45; refine (unhide A6).mono ?_; rintro r w7 ⟨v7, rfl, o7, hb7, hp7⟩))
  have O7 := hide o7
  have D7 := hide ((unhide D6).trans hb7)
  have P7 := hide ((unhide Q6).trans hp7)
  clear o7 hb7 hp7 O6 D6 P6 Q6 G6 A6 T4 c1 G4 O5 D5 P5 G5 O4 D4 P4
  have l7 : ((ts1 ++ [Tk.mk 4 0 ⟨#[47]⟩]) ++ us2).length = ts1.length + 1 + us2.length := by simp only [List.length_append, List.length_cons, List.length_nil]
  generalize hts2 : (ts1 ++ [Tk.mk 4 0 ⟨#[47]⟩]) ++ us2 = ts2 at *
  have E3 := hide (unhide E2 ts2 (by first | rfl | exact hts2))
  clear E2 hts2
  rw [rounds_succ]
  go_wp2_with fail
  refine (markI_any ⟨#[62]⟩ w7).mono ?_
  rintro r w8 ⟨rfl, hb8⟩
  have O8 := hide ((unhide O7).later hb8)
  have D8 := hide ((unhide D7).trans (hb8.mono (Nat.le_trans hB (unhide D7).size)))
  have P8 := hide ((unhide P7).trans (KpT.of hb8))
  clear hb8 O7 D7 P7
  unfold Tk.v Tk.cs
  go_wp2_with (at_builtin; go_must (refine wpList_append_own _ rfl (.tmp 70) (.tmp 72) 45 rfl B 59 i0 (.agg #[.int .i64 0, .int .i64 0, .string ⟨#[]⟩]) 3 32 Tryz.underlying45 hi hz0 hz1 hz2 rfl (by decide) v7 (ts2).length (cellsT (ts2)) rfl (World.ownsRow.alloc (unhide O8) _) ⟨w8.heap.size, 0, none⟩ 1 1 [.int .i64 4, .int .i64 0, .string ⟨#[62]⟩] rfl rfl (cell_new w8 #[.int .i64 4, .int .i64 0, .string ⟨#[62]⟩] 59) (newT_one _ _ _) (by unfold maxLen; (try simp only [List.length_append, List.length_cons, List.length_nil]); omega) (by (try simp only [List.length_append, List.length_cons, List.length_nil]); omega) (by have := (unhide D8).size; simp; omega) ?_; intro v9 w9 hown9 hgrow9 _; have O9 := hide (ownT_app (t := ⟨4, 0, ⟨#[62]⟩⟩) hown9); have D9 := hide (((unhide D8).alloc (Nat.le_trans hB (unhide D8).size) (.cells #[.int .i64 4, .int .i64 0, .string ⟨#[62]⟩] 59)).grown hgrow9 (by have := (unhide D8).size; simp; omega) (fun g hg => ((unhide O8).lt hg).1)); have P9 := hide ((KpT.of (below_new w8 (.cells #[.int .i64 4, .int .i64 0, .string ⟨#[62]⟩] 59))).trans (KpT.own (B := B) (ts := ts2) (World.ownsRow.alloc (unhide O8) _) hgrow9)); clear hown9 hgrow9))
  go_ret
  rw [unhide E3] at O9
  exact ⟨_, rfl, unhide O9, unhide D9, (unhide P8).trans (unhide P9)⟩
set_option maxHeartbeats 8000000 in
theorem put_and (t u : TypeId) (x y : Value) (B L M : Nat) (us : List Tk) (h1 : ∀ (ts : List Tk) (v : Value) (w : World), OwnT w B v ts → B ≤ w.heap.size → ts.length ≤ (L + 1) → TabG w → Calls Tryz.prog 45 #[v, .iface t x] w fun r w' => ∃ v', r = .returned v' ∧ OwnT w' B v' (ts ++ us) ∧ Below B w w' ∧ KpT w w') (hus : us.length ≤ M) (us2 : List Tk) (h2 : ∀ (ts : List Tk) (v : Value) (w : World), OwnT w B v ts → B ≤ w.heap.size → ts.length ≤ (L + M + 2) → TabG w → Calls Tryz.prog 45 #[v, .iface u y] w fun r w' => ∃ v', r = .returned v' ∧ OwnT w' B v' (ts ++ us2) ∧ Below B w w' ∧ KpT w w') (hus2 : us2.length ≤ M) (hLM : L + 2 * M + 3 ≤ 500) (ts : List Tk) (v : Value) (w : World) (ho : OwnT w B v ts) (hB : B ≤ w.heap.size) (hl : ts.length ≤ L) (hT : TabG w) (hs : 4 < B) : Calls Tryz.prog 45 #[v, .iface 142 (.agg #[.iface t x, .iface u y])] w fun r w' => ∃ v', r = .returned v' ∧ OwnT w' B v' ((((ts ++ [⟨4, 0, ⟨#[60]⟩⟩]) ++ us) ++ [⟨4, 0, ⟨#[38]⟩⟩]) ++ us2 ++ [⟨4, 0, ⟨#[62]⟩⟩]) ∧ Below B w w' ∧ KpT w w' := by
  obtain ⟨i0, hi, hz0, hz1, hz2⟩ := info_parts infoT
  have t0 := taN_num 142 (.agg #[.iface t x, .iface u y]) (by decide)
  have t1 := taN_sym 142 (.agg #[.iface t x, .iface u y]) (by decide)
  have t2 := taN_here 142 (.agg #[.iface t x, .iface u y]) (by decide)
  have t3 := taN_neg 142 (.agg #[.iface t x, .iface u y]) (by decide)
  have m := me_and (.iface t x) (.iface u y)
  have PT := hide (parts2 t u x y w)
  have KD := hide (fun w => kind_and 0 E0 t u x y w)
  have SG := hide (fun w1 (h : TabG w1) => (show w1.cell? ⟨4, 9, none⟩ = some (.string ⟨#[38]⟩) by obtain ⟨t, fr, h⟩ := h; exact Lib.cell_of_heap h 9))
  have HT := hide hT
  have H1 := hide h1
  have H2 := hide h2
  have O0 := hide ho
  obtain ⟨RS, hRS⟩ : ∃ RS, (((ts ++ [Tk.mk 4 0 ⟨#[60]⟩]) ++ us) ++ [Tk.mk 4 0 ⟨#[38]⟩]) ++ us2 ++ [Tk.mk 4 0 ⟨#[62]⟩] = RS := ⟨_, rfl⟩
  rw [hRS]
  have E1 := hide (fun ts1 (h : (ts ++ [Tk.mk 4 0 ⟨#[60]⟩]) ++ us = ts1) ts2 (h2 : (ts1 ++ [Tk.mk 4 0 ⟨#[38]⟩]) ++ us2 = ts2) => (show ts2 ++ [Tk.mk 4 0 ⟨#[62]⟩] = RS by rw [← hRS, h, h2]))
  clear hT h1 h2 ho hRS
  go_enter Tryz.func45, Tryz.ntmps45
  go_wp2_with fail
  refine (unhide PT).mono ?_
  rintro r w1 ⟨gp, rfl, hgp, hb1⟩
  have O1 := hide ((unhide O0).later hb1)
  have D1 := hide (hb1.mono hB)
  have P1 := hide (KpT.of hb1)
  have G1 := hide hgp
  have c0 := Lib.cell_of_heap hgp 0
  clear hb1 hgp O0 PT
  go_wp2
  refine wp_loop_rounds 3 ?_
  rw [rounds_succ]
  go_wp2_with fail
  refine (markI_any ⟨#[60]⟩ w1).mono ?_
  rintro r w2 ⟨rfl, hb2⟩
  have O2 := hide ((unhide O1).later hb2)
  have D2 := hide ((unhide D1).trans (hb2.mono (Nat.le_trans hB (unhide D1).size)))
  have P2 := hide ((unhide P1).trans (KpT.of hb2))
  have G2 := hide (KpT.of hb2 _ _ _ _ (unhide G1) (by decide))
  clear hb2 O1 D1 P1 G1 c0
  unfold Tk.v Tk.cs
  go_wp2_with (first | (at_builtin; go_must (refine wpList_append_own _ rfl (.tmp 62) (.tmp 65) 45 rfl B 59 i0 (.agg #[.int .i64 0, .int .i64 0, .string ⟨#[]⟩]) 3 32 Tryz.underlying45 hi hz0 hz1 hz2 rfl (by decide) v (ts).length (cellsT (ts)) rfl (World.ownsRow.alloc (unhide O2) _) ⟨w2.heap.size, 0, none⟩ 1 1 [.int .i64 4, .int .i64 0, .string ⟨#[60]⟩] rfl rfl (cell_new w2 #[.int .i64 4, .int .i64 0, .string ⟨#[60]⟩] 59) (newT_one _ _ _) (by unfold maxLen; (try simp only [List.length_append, List.length_cons, List.length_nil]); omega) (by (try simp only [List.length_append, List.length_cons, List.length_nil]); omega) (by have := (unhide D2).size; simp; omega) ?_; intro v3 w3 hown3 hgrow3 _; have O3 := hide (ownT_app (t := ⟨4, 0, ⟨#[60]⟩⟩) hown3); have D3 := hide (((unhide D2).alloc (Nat.le_trans hB (unhide D2).size) (.cells #[.int .i64 4, .int .i64 0, .string ⟨#[60]⟩] 59)).grown hgrow3 (by have := (unhide D2).size; simp; omega) (fun g hg => ((unhide O2).lt hg).1)); have P3 := hide ((KpT.of (below_new w2 (.cells #[.int .i64 4, .int .i64 0, .string ⟨#[60]⟩] 59))).trans (KpT.own (B := B) (ts := ts) (World.ownsRow.alloc (unhide O2) _) hgrow3)); clear hown3 hgrow3; have Q3 := hide ((unhide P2).trans (unhide P3)); have G3 := hide (unhide P3 _ _ _ _ (unhide G2) (by decide)); have A3 := hide (unhide H1 (ts ++ [⟨4, 0, ⟨#[60]⟩⟩]) v3 w3 (unhide O3) (Nat.le_trans hB (unhide D3).size) (by simp only [List.length_append, List.length_cons, List.length_nil]; omega) ((unhide HT).later (unhide D3) hs)))) | (go_at_call 45; refine (unhide A3).mono ?_; rintro r w4 ⟨v4, rfl, o4, hb4, hp4⟩))
  have O4 := hide o4
  have D4 := hide ((unhide D3).trans hb4)
  have P4 := hide ((unhide Q3).trans hp4)
  have G4 := hide (hp4 _ _ _ _ (unhide G3) (by decide))
  have T4 := unhide SG w4 ((unhide HT).later (unhide D4) hs)
  have c1 := Lib.cell_of_heap (unhide G4) 1
  clear o4 hb4 hp4 O3 D3 P3 Q3 G3 A3 O2 D2 P2 G2
  have l4 : ((ts ++ [Tk.mk 4 0 ⟨#[60]⟩]) ++ us).length = ts.length + 1 + us.length := by simp only [List.length_append, List.length_cons, List.length_nil]
  generalize hts1 : (ts ++ [Tk.mk 4 0 ⟨#[60]⟩]) ++ us = ts1 at *
  have E2 := hide (unhide E1 ts1 (by first | rfl | exact hts1))
  clear E1 hts1
  rw [rounds_succ]
  go_wp2_with (first | (go_at_call 66; refine (unhide KD _).mono ?_; rintro r w' ⟨rfl, hw'⟩; rw [hw']; clear hw' w') | (go_at_call 19; refine (markI_any ⟨#[38]⟩ w4).mono ?_; rintro r w5 ⟨rfl, hb5⟩; have O5 := hide ((unhide O4).later hb5); have D5 := hide ((unhide D4).trans (hb5.mono (Nat.le_trans hB (unhide D4).size))); have P5 := hide ((unhide P4).trans (KpT.of hb5)); have G5 := hide (KpT.of hb5 _ _ _ _ (unhide G4) (by decide)); clear hb5; unfold Tk.v Tk.cs) | (at_builtin; go_must (refine wpList_append_own _ rfl (.tmp 62) (.tmp 65) 45 rfl B 59 i0 (.agg #[.int .i64 0, .int .i64 0, .string ⟨#[]⟩]) 3 32 Tryz.underlying45 hi hz0 hz1 hz2 rfl (by decide) v4 (ts1).length (cellsT (ts1)) rfl (World.ownsRow.alloc (unhide O5) _) ⟨w5.heap.size, 0, none⟩ 1 1 [.int .i64 4, .int .i64 0, .string ⟨#[38]⟩] rfl rfl (cell_new w5 #[.int .i64 4, .int .i64 0, .string ⟨#[38]⟩] 59) (newT_one _ _ _) (by unfold maxLen; (try simp only [List.length_append, List.length_cons, List.length_nil]); omega) (by (try simp only [List.length_append, List.length_cons, List.length_nil]); omega) (by have := (unhide D5).size; simp; omega) ?_; intro v6 w6 hown6 hgrow6 _; have O6 := hide (ownT_app (t := ⟨4, 0, ⟨#[38]⟩⟩) hown6); have D6 := hide (((unhide D5).alloc (Nat.le_trans hB (unhide D5).size) (.cells #[.int .i64 4, .int .i64 0, .string ⟨#[38]⟩] 59)).grown hgrow6 (by have := (unhide D5).size; simp; omega) (fun g hg => ((unhide O5).lt hg).1)); have P6 := hide ((KpT.of (below_new w5 (.cells #[.int .i64 4, .int .i64 0, .string ⟨#[38]⟩] 59))).trans (KpT.own (B := B) (ts := ts1) (World.ownsRow.alloc (unhide O5) _) hgrow6)); clear hown6 hgrow6; have Q6 := hide ((unhide P5).trans (unhide P6)); have G6 := hide (unhide P6 _ _ _ _ (unhide G5) (by decide)); have A6 := hide (unhide H2 (ts1 ++ [⟨4, 0, ⟨#[38]⟩⟩]) v6 w6 (unhide O6) (Nat.le_trans hB (unhide D6).size) (by simp only [List.length_append, List.length_cons, List.length_nil]; omega) ((unhide HT).later (unhide D6) hs)))) | (go_at_call 45; refine (unhide A6).mono ?_; rintro r w7 ⟨v7, rfl, o7, hb7, hp7⟩))
  have O7 := hide o7
  have D7 := hide ((unhide D6).trans hb7)
  have P7 := hide ((unhide Q6).trans hp7)
  clear o7 hb7 hp7 O6 D6 P6 Q6 G6 A6 T4 c1 G4 O5 D5 P5 G5 O4 D4 P4
  have l7 : ((ts1 ++ [Tk.mk 4 0 ⟨#[38]⟩]) ++ us2).length = ts1.length + 1 + us2.length := by simp only [List.length_append, List.length_cons, List.length_nil]
  generalize hts2 : (ts1 ++ [Tk.mk 4 0 ⟨#[38]⟩]) ++ us2 = ts2 at *
  have E3 := hide (unhide E2 ts2 (by first | rfl | exact hts2))
  clear E2 hts2
  rw [rounds_succ]
  go_wp2_with fail
  refine (markI_any ⟨#[62]⟩ w7).mono ?_
  rintro r w8 ⟨rfl, hb8⟩
  have O8 := hide ((unhide O7).later hb8)
  have D8 := hide ((unhide D7).trans (hb8.mono (Nat.le_trans hB (unhide D7).size)))
  have P8 := hide ((unhide P7).trans (KpT.of hb8))
  clear hb8 O7 D7 P7
  unfold Tk.v Tk.cs
  go_wp2_with (at_builtin; go_must (refine wpList_append_own _ rfl (.tmp 70) (.tmp 72) 45 rfl B 59 i0 (.agg #[.int .i64 0, .int .i64 0, .string ⟨#[]⟩]) 3 32 Tryz.underlying45 hi hz0 hz1 hz2 rfl (by decide) v7 (ts2).length (cellsT (ts2)) rfl (World.ownsRow.alloc (unhide O8) _) ⟨w8.heap.size, 0, none⟩ 1 1 [.int .i64 4, .int .i64 0, .string ⟨#[62]⟩] rfl rfl (cell_new w8 #[.int .i64 4, .int .i64 0, .string ⟨#[62]⟩] 59) (newT_one _ _ _) (by unfold maxLen; (try simp only [List.length_append, List.length_cons, List.length_nil]); omega) (by (try simp only [List.length_append, List.length_cons, List.length_nil]); omega) (by have := (unhide D8).size; simp; omega) ?_; intro v9 w9 hown9 hgrow9 _; have O9 := hide (ownT_app (t := ⟨4, 0, ⟨#[62]⟩⟩) hown9); have D9 := hide (((unhide D8).alloc (Nat.le_trans hB (unhide D8).size) (.cells #[.int .i64 4, .int .i64 0, .string ⟨#[62]⟩] 59)).grown hgrow9 (by have := (unhide D8).size; simp; omega) (fun g hg => ((unhide O8).lt hg).1)); have P9 := hide ((KpT.of (below_new w8 (.cells #[.int .i64 4, .int .i64 0, .string ⟨#[62]⟩] 59))).trans (KpT.own (B := B) (ts := ts2) (World.ownsRow.alloc (unhide O8) _) hgrow9)); clear hown9 hgrow9))
  go_ret
  rw [unhide E3] at O9
  exact ⟨_, rfl, unhide O9, unhide D9, (unhide P8).trans (unhide P9)⟩
set_option maxHeartbeats 8000000 in
theorem put_or (t u : TypeId) (x y : Value) (B L M : Nat) (us : List Tk) (h1 : ∀ (ts : List Tk) (v : Value) (w : World), OwnT w B v ts → B ≤ w.heap.size → ts.length ≤ (L + 1) → TabG w → Calls Tryz.prog 45 #[v, .iface t x] w fun r w' => ∃ v', r = .returned v' ∧ OwnT w' B v' (ts ++ us) ∧ Below B w w' ∧ KpT w w') (hus : us.length ≤ M) (us2 : List Tk) (h2 : ∀ (ts : List Tk) (v : Value) (w : World), OwnT w B v ts → B ≤ w.heap.size → ts.length ≤ (L + M + 2) → TabG w → Calls Tryz.prog 45 #[v, .iface u y] w fun r w' => ∃ v', r = .returned v' ∧ OwnT w' B v' (ts ++ us2) ∧ Below B w w' ∧ KpT w w') (hus2 : us2.length ≤ M) (hLM : L + 2 * M + 3 ≤ 500) (ts : List Tk) (v : Value) (w : World) (ho : OwnT w B v ts) (hB : B ≤ w.heap.size) (hl : ts.length ≤ L) (hT : TabG w) (hs : 4 < B) : Calls Tryz.prog 45 #[v, .iface 143 (.agg #[.iface t x, .iface u y])] w fun r w' => ∃ v', r = .returned v' ∧ OwnT w' B v' ((((ts ++ [⟨4, 0, ⟨#[60]⟩⟩]) ++ us) ++ [⟨4, 0, ⟨#[124]⟩⟩]) ++ us2 ++ [⟨4, 0, ⟨#[62]⟩⟩]) ∧ Below B w w' ∧ KpT w w' := by
  obtain ⟨i0, hi, hz0, hz1, hz2⟩ := info_parts infoT
  have t0 := taN_num 143 (.agg #[.iface t x, .iface u y]) (by decide)
  have t1 := taN_sym 143 (.agg #[.iface t x, .iface u y]) (by decide)
  have t2 := taN_here 143 (.agg #[.iface t x, .iface u y]) (by decide)
  have t3 := taN_neg 143 (.agg #[.iface t x, .iface u y]) (by decide)
  have m := me_or (.iface t x) (.iface u y)
  have PT := hide (parts2 t u x y w)
  have KD := hide (fun w => kind_or 0 E0 t u x y w)
  have SG := hide (fun w1 (h : TabG w1) => (show w1.cell? ⟨4, 10, none⟩ = some (.string ⟨#[124]⟩) by obtain ⟨t, fr, h⟩ := h; exact Lib.cell_of_heap h 10))
  have HT := hide hT
  have H1 := hide h1
  have H2 := hide h2
  have O0 := hide ho
  obtain ⟨RS, hRS⟩ : ∃ RS, (((ts ++ [Tk.mk 4 0 ⟨#[60]⟩]) ++ us) ++ [Tk.mk 4 0 ⟨#[124]⟩]) ++ us2 ++ [Tk.mk 4 0 ⟨#[62]⟩] = RS := ⟨_, rfl⟩
  rw [hRS]
  have E1 := hide (fun ts1 (h : (ts ++ [Tk.mk 4 0 ⟨#[60]⟩]) ++ us = ts1) ts2 (h2 : (ts1 ++ [Tk.mk 4 0 ⟨#[124]⟩]) ++ us2 = ts2) => (show ts2 ++ [Tk.mk 4 0 ⟨#[62]⟩] = RS by rw [← hRS, h, h2]))
  clear hT h1 h2 ho hRS
  go_enter Tryz.func45, Tryz.ntmps45
  go_wp2_with fail
  refine (unhide PT).mono ?_
  rintro r w1 ⟨gp, rfl, hgp, hb1⟩
  have O1 := hide ((unhide O0).later hb1)
  have D1 := hide (hb1.mono hB)
  have P1 := hide (KpT.of hb1)
  have G1 := hide hgp
  have c0 := Lib.cell_of_heap hgp 0
  clear hb1 hgp O0 PT
  go_wp2
  refine wp_loop_rounds 3 ?_
  rw [rounds_succ]
  go_wp2_with fail
  refine (markI_any ⟨#[60]⟩ w1).mono ?_
  rintro r w2 ⟨rfl, hb2⟩
  have O2 := hide ((unhide O1).later hb2)
  have D2 := hide ((unhide D1).trans (hb2.mono (Nat.le_trans hB (unhide D1).size)))
  have P2 := hide ((unhide P1).trans (KpT.of hb2))
  have G2 := hide (KpT.of hb2 _ _ _ _ (unhide G1) (by decide))
  clear hb2 O1 D1 P1 G1 c0
  unfold Tk.v Tk.cs
  go_wp2_with (first | (at_builtin; go_must (refine wpList_append_own _ rfl (.tmp 62) (.tmp 65) 45 rfl B 59 i0 (.agg #[.int .i64 0, .int .i64 0, .string ⟨#[]⟩]) 3 32 Tryz.underlying45 hi hz0 hz1 hz2 rfl (by decide) v (ts).length (cellsT (ts)) rfl (World.ownsRow.alloc (unhide O2) _) ⟨w2.heap.size, 0, none⟩ 1 1 [.int .i64 4, .int .i64 0, .string ⟨#[60]⟩] rfl rfl (cell_new w2 #[.int .i64 4, .int .i64 0, .string ⟨#[60]⟩] 59) (newT_one _ _ _) (by unfold maxLen; (try simp only [List.length_append, List.length_cons, List.length_nil]); omega) (by (try simp only [List.length_append, List.length_cons, List.length_nil]); omega) (by have := (unhide D2).size; simp; omega) ?_; intro v3 w3 hown3 hgrow3 _; have O3 := hide (ownT_app (t := ⟨4, 0, ⟨#[60]⟩⟩) hown3); have D3 := hide (((unhide D2).alloc (Nat.le_trans hB (unhide D2).size) (.cells #[.int .i64 4, .int .i64 0, .string ⟨#[60]⟩] 59)).grown hgrow3 (by have := (unhide D2).size; simp; omega) (fun g hg => ((unhide O2).lt hg).1)); have P3 := hide ((KpT.of (below_new w2 (.cells #[.int .i64 4, .int .i64 0, .string ⟨#[60]⟩] 59))).trans (KpT.own (B := B) (ts := ts) (World.ownsRow.alloc (unhide O2) _) hgrow3)); clear hown3 hgrow3; have Q3 := hide ((unhide P2).trans (unhide P3)); have G3 := hide (unhide P3 _ _ _ _ (unhide G2) (by decide)); have A3 := hide (unhide H1 (ts ++ [⟨4, 0, ⟨#[60]⟩⟩]) v3 w3 (unhide O3) (Nat.le_trans hB (unhide D3).size) (by simp only [List.length_append, List.length_cons, List.length_nil]; omega) ((unhide HT).later (unhide D3) hs)))) | (go_at_call 45; refine (unhide A3).mono ?_; rintro r w4 ⟨v4, rfl, o4, hb4, hp4⟩))
  have O4 := hide o4
  have D4 := hide ((unhide D3).trans hb4)
  have P4 := hide ((unhide Q3).trans hp4)
  have G4 := hide (hp4 _ _ _ _ (unhide G3) (by decide))
  have T4 := unhide SG w4 ((unhide HT).later (unhide D4) hs)
  have c1 := Lib.cell_of_heap (unhide G4) 1
  clear o4 hb4 hp4 O3 D3 P3 Q3 G3 A3 O2 D2 P2 G2
  have l4 : ((ts ++ [Tk.mk 4 0 ⟨#[60]⟩]) ++ us).length = ts.length + 1 + us.length := by simp only [List.length_append, List.length_cons, List.length_nil]
  generalize hts1 : (ts ++ [Tk.mk 4 0 ⟨#[60]⟩]) ++ us = ts1 at *
  have E2 := hide (unhide E1 ts1 (by first | rfl | exact hts1))
  clear E1 hts1
  rw [rounds_succ]
  go_wp2_with (first | (go_at_call 66; refine (unhide KD _).mono ?_; rintro r w' ⟨rfl, hw'⟩; rw [hw']; clear hw' w') | (go_at_call 19; refine (markI_any ⟨#[124]⟩ w4).mono ?_; rintro r w5 ⟨rfl, hb5⟩; have O5 := hide ((unhide O4).later hb5); have D5 := hide ((unhide D4).trans (hb5.mono (Nat.le_trans hB (unhide D4).size))); have P5 := hide ((unhide P4).trans (KpT.of hb5)); have G5 := hide (KpT.of hb5 _ _ _ _ (unhide G4) (by decide)); clear hb5; unfold Tk.v Tk.cs) | (at_builtin; go_must (refine wpList_append_own _ rfl (.tmp 62) (.tmp 65) 45 rfl B 59 i0 (.agg #[.int .i64 0, .int .i64 0, .string ⟨#[]⟩]) 3 32 Tryz.underlying45 hi hz0 hz1 hz2 rfl (by decide) v4 (ts1).length (cellsT (ts1)) rfl (World.ownsRow.alloc (unhide O5) _) ⟨w5.heap.size, 0, none⟩ 1 1 [.int .i64 4, .int .i64 0, .string ⟨#[124]⟩] rfl rfl (cell_new w5 #[.int .i64 4, .int .i64 0, .string ⟨#[124]⟩] 59) (newT_one _ _ _) (by unfold maxLen; (try simp only [List.length_append, List.length_cons, List.length_nil]); omega) (by (try simp only [List.length_append, List.length_cons, List.length_nil]); omega) (by have := (unhide D5).size; simp; omega) ?_; intro v6 w6 hown6 hgrow6 _; have O6 := hide (ownT_app (t := ⟨4, 0, ⟨#[124]⟩⟩) hown6); have D6 := hide (((unhide D5).alloc (Nat.le_trans hB (unhide D5).size) (.cells #[.int .i64 4, .int .i64 0, .string ⟨#[124]⟩] 59)).grown hgrow6 (by have := (unhide D5).size; simp; omega) (fun g hg => ((unhide O5).lt hg).1)); have P6 := hide ((KpT.of (below_new w5 (.cells #[.int .i64 4, .int .i64 0, .string ⟨#[124]⟩] 59))).trans (KpT.own (B := B) (ts := ts1) (World.ownsRow.alloc (unhide O5) _) hgrow6)); clear hown6 hgrow6; have Q6 := hide ((unhide P5).trans (unhide P6)); have G6 := hide (unhide P6 _ _ _ _ (unhide G5) (by decide)); have A6 := hide (unhide H2 (ts1 ++ [⟨4, 0, ⟨#[124]⟩⟩]) v6 w6 (unhide O6) (Nat.le_trans hB (unhide D6).size) (by simp only [List.length_append, List.length_cons, List.length_nil]; omega) ((unhide HT).later (unhide D6) hs)))) | (go_at_call 45; refine (unhide A6).mono ?_; rintro r w7 ⟨v7, rfl, o7, hb7, hp7⟩))
  have O7 := hide o7
  have D7 := hide ((unhide D6).trans hb7)
  have P7 := hide ((unhide Q6).trans hp7)
  clear o7 hb7 hp7 O6 D6 P6 Q6 G6 A6 T4 c1 G4 O5 D5 P5 G5 O4 D4 P4
  have l7 : ((ts1 ++ [Tk.mk 4 0 ⟨#[124]⟩]) ++ us2).length = ts1.length + 1 + us2.length := by simp only [List.length_append, List.length_cons, List.length_nil]
  generalize hts2 : (ts1 ++ [Tk.mk 4 0 ⟨#[124]⟩]) ++ us2 = ts2 at *
  have E3 := hide (unhide E2 ts2 (by first | rfl | exact hts2))
  clear E2 hts2
  rw [rounds_succ]
  go_wp2_with fail
  refine (markI_any ⟨#[62]⟩ w7).mono ?_
  rintro r w8 ⟨rfl, hb8⟩
  have O8 := hide ((unhide O7).later hb8)
  have D8 := hide ((unhide D7).trans (hb8.mono (Nat.le_trans hB (unhide D7).size)))
  have P8 := hide ((unhide P7).trans (KpT.of hb8))
  clear hb8 O7 D7 P7
  unfold Tk.v Tk.cs
  go_wp2_with (at_builtin; go_must (refine wpList_append_own _ rfl (.tmp 70) (.tmp 72) 45 rfl B 59 i0 (.agg #[.int .i64 0, .int .i64 0, .string ⟨#[]⟩]) 3 32 Tryz.underlying45 hi hz0 hz1 hz2 rfl (by decide) v7 (ts2).length (cellsT (ts2)) rfl (World.ownsRow.alloc (unhide O8) _) ⟨w8.heap.size, 0, none⟩ 1 1 [.int .i64 4, .int .i64 0, .string ⟨#[62]⟩] rfl rfl (cell_new w8 #[.int .i64 4, .int .i64 0, .string ⟨#[62]⟩] 59) (newT_one _ _ _) (by unfold maxLen; (try simp only [List.length_append, List.length_cons, List.length_nil]); omega) (by (try simp only [List.length_append, List.length_cons, List.length_nil]); omega) (by have := (unhide D8).size; simp; omega) ?_; intro v9 w9 hown9 hgrow9 _; have O9 := hide (ownT_app (t := ⟨4, 0, ⟨#[62]⟩⟩) hown9); have D9 := hide (((unhide D8).alloc (Nat.le_trans hB (unhide D8).size) (.cells #[.int .i64 4, .int .i64 0, .string ⟨#[62]⟩] 59)).grown hgrow9 (by have := (unhide D8).size; simp; omega) (fun g hg => ((unhide O8).lt hg).1)); have P9 := hide ((KpT.of (below_new w8 (.cells #[.int .i64 4, .int .i64 0, .string ⟨#[62]⟩] 59))).trans (KpT.own (B := B) (ts := ts2) (World.ownsRow.alloc (unhide O8) _) hgrow9)); clear hown9 hgrow9))
  go_ret
  rw [unhide E3] at O9
  exact ⟨_, rfl, unhide O9, unhide D9, (unhide P8).trans (unhide P9)⟩
theorem put_all : ∀ d : Nat, d ≤ 6 → PutP d := by
  intro d
  induction d with
  | zero => intro _ e ts v B w h; cases h
  | succ d ih =>
    intro hd e ts v B w h ho hB hl hT hs
    have ihd := ih (by omega)
    rw [mxT] at hl
    rcases plain_cases h with ⟨n, hn, rfl⟩ | ⟨s, hs, rfl⟩ | rfl | ⟨a, ha, rfl⟩ | ⟨k, a, b, hk, ha, hb, rfl⟩
    · rw [tv_num, toks_num]; exact put_num n ts v B w ho hB (by omega)
    · rw [tv_sym, toks_sym]; exact put_sym s ts v B w ho hB (by omega)
    · rw [tv_here, toks_here]; exact put_here ts v B w ho hB (by omega)
    · obtain ⟨t, x, e1⟩ := tv_if a
      have h1 := fun ts v w ho hB hl hT => ihd a ts v B w ha ho hB hl hT hs
      rw [e1] at h1
      rw [tv_neg, e1, toks_neg]
      have hm := (toks_ok d a ha).2
      have R := put_neg t x B ts.length (by omega) (toksF d a) (fun ts' v w ho hB hl hT => h1 ts' v w ho hB (by omega) hT) ts v w ho hB (Nat.le_refl _) hT hs
      rw [List.append_assoc] at R
      exact R
    · obtain ⟨t, x, e1⟩ := tv_if a
      obtain ⟨u, y, e2⟩ := tv_if b
      have h1 := fun ts v w ho hB hl hT => ihd a ts v B w ha ho hB hl hT hs
      have h2 := fun ts v w ho hB hl hT => ihd b ts v B w hb ho hB hl hT hs
      rw [e1] at h1
      rw [e2] at h2
      rw [tv_two hk, e1, e2, toks_two d hk]
      have hm1 := (toks_ok d a ha).2
      have hm2 := (toks_ok d b hb).2
      have hx := mxT_le d (by omega)
      have F1 := fun (ts' : List Tk) v w ho hB (hl : ts'.length ≤ ts.length + 1) hT => h1 ts' v w ho hB (by omega) hT
      have F2 := fun (ts' : List Tk) v w ho hB (hl : ts'.length ≤ ts.length + mxT d + 2) hT => h2 ts' v w ho hB (by omega) hT
      have : k = 5 ∨ k = 6 ∨ k = 7 ∨ k = 8 ∨ k = 9 ∨ k = 10 := by omega
      rcases this with rfl | rfl | rfl | rfl | rfl | rfl
      · have R := put_add t u x y B ts.length (mxT d) (toksF d a) F1 hm1 (toksF d b) F2 hm2 (by omega) ts v w ho hB (Nat.le_refl _) hT hs
        simp only [List.append_assoc, List.cons_append, List.nil_append] at R
        exact R
      · have R := put_sub t u x y B ts.length (mxT d) (toksF d a) F1 hm1 (toksF d b) F2 hm2 (by omega) ts v w ho hB (Nat.le_refl _) hT hs
        simp only [List.append_assoc, List.cons_append, List.nil_append] at R
        exact R
      · have R := put_mul t u x y B ts.length (mxT d) (toksF d a) F1 hm1 (toksF d b) F2 hm2 (by omega) ts v w ho hB (Nat.le_refl _) hT hs
        simp only [List.append_assoc, List.cons_append, List.nil_append] at R
        exact R
      · have R := put_div t u x y B ts.length (mxT d) (toksF d a) F1 hm1 (toksF d b) F2 hm2 (by omega) ts v w ho hB (Nat.le_refl _) hT hs
        simp only [List.append_assoc, List.cons_append, List.nil_append] at R
        exact R
      · have R := put_and t u x y B ts.length (mxT d) (toksF d a) F1 hm1 (toksF d b) F2 hm2 (by omega) ts v w ho hB (Nat.le_refl _) hT hs
        simp only [List.append_assoc, List.cons_append, List.nil_append] at R
        exact R
      · have R := put_or t u x y B ts.length (mxT d) (toksF d a) F1 hm1 (toksF d b) F2 hm2 (by omega) ts v w ho hB (Nat.le_refl _) hT hs
        simp only [List.append_assoc, List.cons_append, List.nil_append] at R
        exact R
end Go.Proofs.YtmhcbehplhfgfaaGreatDoor
