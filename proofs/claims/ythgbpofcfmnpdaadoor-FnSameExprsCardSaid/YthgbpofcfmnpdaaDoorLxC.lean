/- One token, by the model; over this seat's translation; conditions stand as hypotheses of each. -/
import Derived.Test.YthgbpofcfmnpdaaDoorLxB
namespace Go.Proofs.YthgbpofcfmnpdaaDoor
open Go.ChangeShapes Go.WideShapes Go.ChangeAt Go.RowKit
set_option linter.unusedVariables false
set_option maxRecDepth 8000

theorem below_row {w w' : World} {cs : Array Value} (h : Below w.heap.size w w') : Below w.heap.size w (w'.setRow w.heap.size cs) :=
  h.trans ⟨rfl, rfl, rfl, by simp [World.setRow], fun k hk => setRow_other _ _ _ _ (by omega)⟩
theorem extract_size (s : ByteArray) (a b : Nat) : (s.extract a b).size ≤ s.size := by
  rw [ByteArray.size_extract]
  omega
theorem numT_some {bad : Tk} {x : ByteArray} {m : Nat} (hm : m < 65536) (hx : x = strOf (octD m)) : numT bad x = ⟨2, m, ⟨#[]⟩⟩ := by unfold numT; rw [numV_yes hm hx]
theorem numT_none {bad : Tk} {x : ByteArray} (h : ∀ m, m < 65536 → x ≠ strOf (octD m)) : numT bad x = bad := by unfold numT; rw [numV_no h]
theorem one_sm {s : ByteArray} {k : Nat} (bad : Tk) (h1 : smB (bAt s.data.toList k) = true) : oneE s k = runN ldB s.data.toList k ∧ oneT bad s k = wordT (s.extract k (oneE s k)) := by
  constructor
  · unfold oneE; rw [if_pos h1]
  · unfold oneT; rw [if_pos h1]
theorem one_dg {s : ByteArray} {k : Nat} (bad : Tk) (h1 : smB (bAt s.data.toList k) = false) (h2 : dgB (bAt s.data.toList k) = true) : oneE s k = runN dgB s.data.toList k ∧ oneT bad s k = numT bad (s.extract k (oneE s k)) := by
  have n1 : ¬ smB (bAt s.data.toList k) = true := by rw [h1]; decide
  constructor
  · unfold oneE; rw [if_neg n1, if_pos h2]
  · unfold oneT; rw [if_neg n1, if_pos h2]
theorem one_dot {s : ByteArray} {k : Nat} (bad : Tk) (h1 : smB (bAt s.data.toList k) = false) (h2 : dgB (bAt s.data.toList k) = false) (h3 : bAt s.data.toList k = 46) (h4 : k + 1 < s.size) (h5 : smB (bAt s.data.toList (k + 1)) = true) : oneE s k = runN ldB s.data.toList (k + 1) ∧ oneT bad s k = ⟨3, 0, s.extract k (oneE s k)⟩ := by
  have n1 : ¬ smB (bAt s.data.toList k) = true := by rw [h1]; decide
  have n2 : ¬ dgB (bAt s.data.toList k) = true := by rw [h2]; decide
  have n3 : (bAt s.data.toList k == 46 && (decide (k + 1 < s.size) && smB (bAt s.data.toList (k + 1)))) = true := by rw [h3, h5, decide_eq_true h4]; rfl
  constructor
  · unfold oneE; rw [if_neg n1, if_neg n2, if_pos n3]
  · unfold oneT; rw [if_neg n1, if_neg n2, if_pos n3]
theorem one_mk {s : ByteArray} {k : Nat} (bad : Tk) (h1 : smB (bAt s.data.toList k) = false) (h2 : dgB (bAt s.data.toList k) = false) (h3 : bAt s.data.toList k = 46 → k + 1 < s.size → smB (bAt s.data.toList (k + 1)) = false) : oneE s k = k + 1 ∧ oneT bad s k = ⟨4, 0, s.extract k (k + 1)⟩ := by
  have n1 : ¬ smB (bAt s.data.toList k) = true := by rw [h1]; decide
  have n2 : ¬ dgB (bAt s.data.toList k) = true := by rw [h2]; decide
  have n3 : ¬ (bAt s.data.toList k == 46 && (decide (k + 1 < s.size) && smB (bAt s.data.toList (k + 1)))) = true := by
    intro h
    rw [Bool.and_eq_true, Bool.and_eq_true, beq_iff_eq, decide_eq_true_eq] at h
    rw [h3 h.1 h.2.1] at h
    exact absurd h.2.2 (by decide)
  have e : oneE s k = k + 1 := by unfold oneE; rw [if_neg n1, if_neg n2, if_neg n3]
  refine ⟨e, ?_⟩
  unfold oneT
  rw [if_neg n1, if_neg n2, if_neg n3, e]
set_option maxHeartbeats 2000000 in
theorem oneS_any (s : ByteArray) (k : Nat) (w : World) (hz : s.size ≤ 1048576) (hk : k < s.size) : Calls Tryd.prog 53 #[.string s, .int .i64 k] w fun e w' => e = .returned (.tuple #[(oneT badS s k).v, .int .i64 (oneE s k : Nat)]) ∧ Below w.heap.size w w' := by
  have hl := size_len s
  have he := sAt s k hk
  have hbd := bAt_bd s.data.toList k
  have HE := hide (oneE_bd s k hk)
  have B0 := hide (below_new w (.cells T0c 31))
  have R0 := hide (heap_alloc_new w (.cells T0c 31))
  have Z0 := hide (show w.heap.size ≤ (w.alloc (.cells T0c 31)).heap.size by simp)
  unfold T0c at B0 R0 Z0
  have S1 := hide (fun w => smS_any (bAt s.data.toList k) w hbd.1 hbd.2)
  have D1 := hide (fun w => dgS_any (bAt s.data.toList k) w hbd.1 hbd.2)
  cases h1 : smB (bAt s.data.toList k)
  · cases h2 : dgB (bAt s.data.toList k)
    · by_cases h46 : bAt s.data.toList k = 46
      · by_cases hk1 : k + 1 < s.size
        · have he1 := sAt s (k + 1) hk1
          have hbd1 := bAt_bd s.data.toList (k + 1)
          have S2 := hide (fun w => smS_any (bAt s.data.toList (k + 1)) w hbd1.1 hbd1.2)
          cases h3 : smB (bAt s.data.toList (k + 1))
          · obtain ⟨e1, e2⟩ := one_mk badS h1 h2 (fun _ _ => h3)
            rw [e1, e2]
            rw [h2] at D1
            rw [h46] at he D1 h1
            clear S1 S2
            unfold Tk.v Tk.cs
            simp only
            generalize bAt s.data.toList (k + 1) = c1 at *
            clear e1 e2 h2 h46 hbd HE
            go_enter Tryd.func53, Tryd.ntmps53
            go_wp2_with (first | (go_at_call 86; refine (smS_any _ _ (by omega) (by omega)).mono ?_; rintro e w' ⟨rfl, rfl⟩) | (go_at_call 89; refine (unhide D1 _).mono ?_; rintro e w' ⟨rfl, rfl⟩) | (refine wpList_store_row rfl 31 _ _ rfl w.heap.size #[.int .i64 4, .int .i64 0, .string (s.extract k (k + 1))] rfl rfl 31 _ (unhide R0) szK rfl (tk_one _ _ _) ?_))
            refine bodyPost_ret (results_row2 (P := Tryd.prog) rfl _ _ w.heap.size 31 #[.int .i64 4, .int .i64 0, .string (s.extract k (k + 1))] (0, 0) _ rfl (setRow_heap _ _ _ _ _ _ (unhide R0)) Tryd.underlying31 rfl szK) rfl ?_
            exact ⟨rfl, below_row (unhide B0)⟩
          · obtain ⟨e1, e2⟩ := one_dot badS h1 h2 h46 hk1 h3
            have HE2 := hide (show k < oneE s k ∧ oneE s k ≤ s.size from unhide HE)
            have RN := hide (fun w => runS_any true s (k + 1) w (by omega) (by omega))
            have RN2 := hide (show ∀ w : World, Calls Tryd.prog 87 #[.string s, .int .i64 ((k + 1 : Nat) : Int), .bool true] w fun e w' => e = .returned (.int .i64 (oneE s k : Nat)) ∧ w' = w from fun w => by rw [e1]; exact unhide RN w)
            rw [e2]
            rw [h2] at D1
            rw [h46] at he D1 h1
            clear S1 S2
            unfold Tk.v Tk.cs
            simp only
            generalize oneE s k = E at *
            obtain ⟨b1, b2⟩ := unhide HE2
            generalize bAt s.data.toList (k + 1) = c1 at *
            clear e1 e2 h2 h46 hbd HE RN HE2
            go_enter Tryd.func53, Tryd.ntmps53
            go_wp2_with (first | (go_at_call 86; refine (smS_any _ _ (by omega) (by omega)).mono ?_; rintro e w' ⟨rfl, rfl⟩) | (go_at_call 89; refine (unhide D1 _).mono ?_; rintro e w' ⟨rfl, rfl⟩) | (go_at_call 87; refine (unhide RN2 _).mono ?_; rintro e w' ⟨rfl, rfl⟩) | (refine wpList_store_row rfl 31 _ _ rfl w.heap.size #[.int .i64 3, .int .i64 0, .string (s.extract k E)] rfl rfl 31 _ (unhide R0) szK rfl (tk_one _ _ _) ?_))
            refine bodyPost_ret (results_row2 (P := Tryd.prog) rfl _ _ w.heap.size 31 #[.int .i64 3, .int .i64 0, .string (s.extract k E)] (0, 0) _ rfl (setRow_heap _ _ _ _ _ _ (unhide R0)) Tryd.underlying31 rfl szK) rfl ?_
            exact ⟨rfl, below_row (unhide B0)⟩
        · obtain ⟨e1, e2⟩ := one_mk badS h1 h2 (fun _ h => absurd h hk1)
          have hk1d : decide ((k : Int) + 1 < (s.size : Int)) = false := by simp; omega
          rw [e1, e2]
          rw [h1] at S1
          rw [h2] at D1
          rw [h46] at he S1 D1
          unfold Tk.v Tk.cs
          simp only
          clear e1 e2 h1 h2 h46 hbd HE
          go_enter Tryd.func53, Tryd.ntmps53
          go_wp2_with (first | (go_at_call 86; refine (unhide S1 _).mono ?_; rintro e w' ⟨rfl, rfl⟩) | (go_at_call 89; refine (unhide D1 _).mono ?_; rintro e w' ⟨rfl, rfl⟩) | (refine wpList_store_row rfl 31 _ _ rfl w.heap.size #[.int .i64 4, .int .i64 0, .string (s.extract k (k + 1))] rfl rfl 31 _ (unhide R0) szK rfl (tk_one _ _ _) ?_))
          refine bodyPost_ret (results_row2 (P := Tryd.prog) rfl _ _ w.heap.size 31 #[.int .i64 4, .int .i64 0, .string (s.extract k (k + 1))] (0, 0) _ rfl (setRow_heap _ _ _ _ _ _ (unhide R0)) Tryd.underlying31 rfl szK) rfl ?_
          exact ⟨rfl, below_row (unhide B0)⟩
      · obtain ⟨e1, e2⟩ := one_mk badS h1 h2 (fun h => absurd h h46)
        rw [e1, e2]
        rw [h1] at S1
        rw [h2] at D1
        unfold Tk.v Tk.cs
        simp only
        generalize bAt s.data.toList k = c at *
        clear e1 e2 h1 h2 HE
        go_enter Tryd.func53, Tryd.ntmps53
        go_wp2_with (first | (go_at_call 86; refine (unhide S1 _).mono ?_; rintro e w' ⟨rfl, rfl⟩) | (go_at_call 89; refine (unhide D1 _).mono ?_; rintro e w' ⟨rfl, rfl⟩) | (refine wpList_store_row rfl 31 _ _ rfl w.heap.size #[.int .i64 4, .int .i64 0, .string (s.extract k (k + 1))] rfl rfl 31 _ (unhide R0) szK rfl (tk_one _ _ _) ?_))
        refine bodyPost_ret (results_row2 (P := Tryd.prog) rfl _ _ w.heap.size 31 #[.int .i64 4, .int .i64 0, .string (s.extract k (k + 1))] (0, 0) _ rfl (setRow_heap _ _ _ _ _ _ (unhide R0)) Tryd.underlying31 rfl szK) rfl ?_
        exact ⟨rfl, below_row (unhide B0)⟩
    · obtain ⟨e1, e2⟩ := one_dg badS h1 h2
      have RN := hide (show ∀ w : World, Calls Tryd.prog 87 #[.string s, .int .i64 (k : Int), .bool false] w fun e w' => e = .returned (.int .i64 (oneE s k : Nat)) ∧ w' = w from fun w => by rw [e1]; exact runS_any false s k w (by omega) (by omega))
      rw [e2]
      rw [h1] at S1
      rw [h2] at D1
      generalize oneE s k = E at *
      obtain ⟨b1, b2⟩ := unhide HE
      generalize bAt s.data.toList k = c at *
      have PO := hide (fun w => poS_any (s.extract k E) (by have := extract_size s k E; omega) w)
      have NS := hide (fun m hm hx => numT_some (bad := badS) (x := s.extract k E) (m := m) hm hx)
      have NN := hide (fun h => numT_none (bad := badS) (x := s.extract k E) h)
      generalize numT badS (s.extract k E) = T at *
      clear e1 e2 h1 h2 HE
      go_enter Tryd.func53, Tryd.ntmps53
      go_wp2_with (first | (go_at_call 86; refine (unhide S1 _).mono ?_; rintro e w' ⟨rfl, rfl⟩) | (go_at_call 89; refine (unhide D1 _).mono ?_; rintro e w' ⟨rfl, rfl⟩) | (go_at_call 87; refine (unhide RN _).mono ?_; rintro e w' ⟨rfl, rfl⟩))
      generalize w.alloc (Obj.cells #[.int .i64 0, .int .i64 0, .string ⟨#[]⟩] 31) = W at *
      refine (unhide PO _).mono ?_
      rintro e w1 ⟨hb1, h⟩
      have R1 := hide ((hb1.block _ (Array.getElem?_eq_some_iff.1 (unhide R0)).1).trans (unhide R0))
      have B1 := hide ((unhide B0).trans (hb1.mono (unhide Z0)))
      clear hb1
      rcases h with ⟨m, hm, hx, rfl⟩ | ⟨hno, rfl⟩
      · have ET := hide (unhide NS m hm hx)
        clear hx NS NN PO
        go_wp2_with (first | (refine wpList_store_row rfl 31 _ _ rfl w.heap.size #[.int .i64 2, .int .i64 m, .string ⟨#[]⟩] rfl rfl 31 _ (unhide R1) szK rfl (tk_one _ _ _) ?_))
        refine bodyPost_ret (results_row2 (P := Tryd.prog) rfl _ _ w.heap.size 31 #[.int .i64 2, .int .i64 m, .string ⟨#[]⟩] (0, 0) _ rfl (setRow_heap _ _ _ _ _ _ (unhide R1)) Tryd.underlying31 rfl szK) rfl ?_
        exact ⟨by rw [unhide ET]; rfl, below_row (unhide B1)⟩
      · have ET := hide (unhide NN hno)
        clear hno NS NN PO
        go_wp2_with (first | (refine wpList_store_row rfl 31 _ _ rfl w.heap.size #[.int .i64 2, .int .i64 (-1), .string ⟨#[]⟩] rfl rfl 31 _ (unhide R1) szK rfl (tk_one _ _ _) ?_))
        refine bodyPost_ret (results_row2 (P := Tryd.prog) rfl _ _ w.heap.size 31 #[.int .i64 2, .int .i64 (-1), .string ⟨#[]⟩] (0, 0) _ rfl (setRow_heap _ _ _ _ _ _ (unhide R1)) Tryd.underlying31 rfl szK) rfl ?_
        exact ⟨by rw [unhide ET]; rfl, below_row (unhide B1)⟩
  · obtain ⟨e1, e2⟩ := one_sm badS h1
    have RN := hide (show ∀ w : World, Calls Tryd.prog 87 #[.string s, .int .i64 (k : Int), .bool true] w fun e w' => e = .returned (.int .i64 (oneE s k : Nat)) ∧ w' = w from fun w => by rw [e1]; exact runS_any true s k w (by omega) (by omega))
    rw [e2]
    rw [h1] at S1
    generalize oneE s k = E at *
    obtain ⟨b1, b2⟩ := unhide HE
    generalize bAt s.data.toList k = c at *
    have WO := hide (fun w => wordS_any (s.extract k E) w)
    generalize hT : wordT (s.extract k E) = T at *
    obtain ⟨tk, tn, tx⟩ := T
    unfold Tk.v Tk.cs at *
    simp only at WO ⊢
    clear e1 e2 h1 HE hT D1
    go_enter Tryd.func53, Tryd.ntmps53
    go_wp2_with (first | (go_at_call 86; refine (unhide S1 _).mono ?_; rintro e w' ⟨rfl, rfl⟩) | (go_at_call 87; refine (unhide RN _).mono ?_; rintro e w' ⟨rfl, rfl⟩))
    generalize w.alloc (Obj.cells #[.int .i64 0, .int .i64 0, .string ⟨#[]⟩] 31) = W at *
    refine (unhide WO _).mono ?_
    rintro e w1 ⟨rfl, hb1⟩
    have R1 := hide ((hb1.block _ (Array.getElem?_eq_some_iff.1 (unhide R0)).1).trans (unhide R0))
    have B1 := hide ((unhide B0).trans (hb1.mono (unhide Z0)))
    clear hb1 WO
    go_wp2_with (first | (refine wpList_store_row rfl 31 _ _ rfl w.heap.size #[.int .i64 tk, .int .i64 tn, .string tx] rfl rfl 31 _ (unhide R1) szK rfl (tk_one _ _ _) ?_))
    refine bodyPost_ret (results_row2 (P := Tryd.prog) rfl _ _ w.heap.size 31 #[.int .i64 tk, .int .i64 tn, .string tx] (0, 0) _ rfl (setRow_heap _ _ _ _ _ _ (unhide R1)) Tryd.underlying31 rfl szK) rfl ?_
    exact ⟨rfl, below_row (unhide B1)⟩
end Go.Proofs.YthgbpofcfmnpdaaDoor
