/- Contracts over this seat's translation, laid together; conditions stand as hypotheses of each. -/
import Derived.Test.YtmhcbehplhfgfaaGreatDoorTxH
import Derived.Test.YtmhcbehplhfgfaaGreatDoorTxJ
import Derived.Test.YtmhcbehplhfgfaaGreatDoorTxM
import Derived.OwnWalk

namespace Go.Proofs.YtmhcbehplhfgfaaGreatDoor
open Go.ChangeShapes Go.WideShapes Go.ChangeAt Go.RowKit
set_option linter.unusedVariables false
set_option maxRecDepth 8000
set_option linter.unusedSimpArgs false
theorem TabK.rg {w : World} (h : TabK w) (n : Nat) (hn : n < 8) : w.cell? ⟨2, n, none⟩ = some (.string (wRg.getD n E0)) := by
  obtain ⟨_, t, fr, h⟩ := h
  have : n = 0 ∨ n = 1 ∨ n = 2 ∨ n = 3 ∨ n = 4 ∨ n = 5 ∨ n = 6 ∨ n = 7 := by omega
  rcases this with rfl | rfl | rfl | rfl | rfl | rfl | rfl | rfl
  · exact Lib.cell_of_heap h 0
  · exact Lib.cell_of_heap h 1
  · exact Lib.cell_of_heap h 2
  · exact Lib.cell_of_heap h 3
  · exact Lib.cell_of_heap h 4
  · exact Lib.cell_of_heap h 5
  · exact Lib.cell_of_heap h 6
  · exact Lib.cell_of_heap h 7
theorem rgT_word (n : Nat) (hn : n < 8) : wordT (wRg.getD n E0) = rgT n := by
  have : n = 0 ∨ n = 1 ∨ n = 2 ∨ n = 3 ∨ n = 4 ∨ n = 5 ∨ n = 6 ∨ n = 7 := by omega
  rcases this with rfl | rfl | rfl | rfl | rfl | rfl | rfl | rfl <;> (unfold wordT; rw [if_pos (by decide +kernel)]; rfl)
set_option maxHeartbeats 2000000 in
theorem regI (n : Nat) (hn : n < 8) (w : World) (ht : TabK w) : Calls Tryz.prog 43 #[.int .i64 (n : Int)] w fun e w' => e = .returned (Tk.v (rgT n)) ∧ Below w.heap.size w w' := by
  have B0 := hide (below_new w (.cells T0c 59))
  have R0 := hide (heap_alloc_new w (.cells T0c 59))
  have t1 := ht.next (unhide B0)
  have WI := hide (wordI_any (wRg.getD n E0) _ t1)
  rw [rgT_word n hn] at WI
  have c := t1.rg n hn
  have h1 : (n : Int) < 8 := by omega
  have h0 : (0 : Int) ≤ (n : Int) := by omega
  have h2 : ¬ ((n : Int) < 0) := by omega
  have h3 : ¬ ((8 : Int) ≤ (n : Int)) := by omega
  clear ht t1 hn
  generalize wRg.getD n E0 = s at *
  unfold T0c at B0 R0 WI c
  unfold Tk.v Tk.cs at WI ⊢
  generalize (rgT n).k = tk at *
  generalize (rgT n).n = tn at *
  generalize (rgT n).s = ts at *
  go_enter Tryz.func43, Tryz.ntmps43
  go_wp2_with fail
  generalize w.alloc (.cells #[.int .i64 0, .int .i64 0, .string ⟨#[]⟩] 59) = W at *
  refine (unhide WI).mono ?_
  rintro e w1 ⟨rfl, hb1⟩
  have R1 := hide (row_keep (unhide R0) hb1)
  have B1 := hide ((unhide B0).trans (hb1.mono (unhide B0).size))
  clear hb1 WI R0 B0 c
  go_wp2_with (first | (refine wpList_store_row rfl 59 _ _ rfl w.heap.size #[.int .i64 tk, .int .i64 tn, .string ts] rfl rfl 59 _ (unhide R1) szK rfl (tk_one _ _ _) ?_))
  refine bodyPost_ret (results_cell_row (P := Tryz.prog) rfl _ _ w.heap.size 59 #[.int .i64 tk, .int .i64 tn, .string ts] (0, 0) _ rfl (setRow_heap _ _ _ _ _ _ (unhide R1)) Tryz.underlying59 rfl szK) rfl ?_
  exact ⟨rfl, below_row (unhide B1)⟩
set_option maxHeartbeats 8000000 in
theorem opt_0 (rn : Nat) (hrn : rn < 8) (e : Ex) (ok : True) (w : World) (ht : TabA w) (hg : TabG w) : Calls Tryz.prog 44 #[.agg #[.nilIface, .int .i64 0, .int .i64 (rn : Int)]] w fun r w' => ∃ v, r = .returned v ∧ OwnT w' w.heap.size v (agT ⟨0, (rn : Int), e⟩) ∧ Below w.heap.size w w' := by
  have hbW := below_new w (.cells #[.nilIface, .int .i64 0, .int .i64 (rn : Int)] 87)
  obtain ⟨W, hW⟩ : ∃ W, w.alloc (.cells #[.nilIface, .int .i64 0, .int .i64 (rn : Int)] 87) = W := ⟨_, rfl⟩
  have xl : w.heap.size < W.heap.size := by rw [← hW]; simp
  have xc : ∀ (i : Nat) (v : Value), (#[.nilIface, .int .i64 0, .int .i64 (rn : Int)] : Array Value)[i]? = some v → ∀ w1, Below W.heap.size W w1 → w1.cell? ⟨w.heap.size, i, none⟩ = some v := fun i v h w1 hb => (hb.cell (p := ⟨w.heap.size, i, none⟩) xl).trans (by rw [← hW]; exact box17 w _ _ i v h)
  rw [hW] at hbW
  obtain ⟨y0, hy0⟩ : ∃ z : Sub W.heap.size W, w.alloc (.cells #[.nilIface, .int .i64 0, .int .i64 (rn : Int)] 87) = z.w := ⟨⟨W, Below.refl _ _⟩, hW⟩
  have ne := Sub.ne W.heap.size W
  have HZ := hide (Nat.le_refl W.heap.size)
  have HB := hide (fun y : Sub W.heap.size W => hbW.trans (y.h.mono hbW.size))
  have HO := hide (fun (y : Sub W.heap.size W) v ts (h : OwnT y.w W.heap.size v ts) => h.base hbW.size)
  have E0 : ∀ y : Sub W.heap.size W, y.w.cell? ⟨w.heap.size, 0, none⟩ = some .nilIface := fun y => xc 0 _ rfl y.w y.h
  have E1 : ∀ y : Sub W.heap.size W, y.w.cell? ⟨w.heap.size, 1, none⟩ = some (.int .i64 0) := fun y => xc 1 _ rfl y.w y.h
  have E2 : ∀ y : Sub W.heap.size W, y.w.cell? ⟨w.heap.size, 2, none⟩ = some (.int .i64 (rn : Int)) := fun y => xc 2 _ rfl y.w y.h
  have T0 : ∀ y : Sub W.heap.size W, y.w.cell? ⟨3, 0, none⟩ = some (.string ⟨#[82]⟩) := fun y => (ht.f.next (unhide HB y)).at0
  have MK := hide (fun x w1 => markI_any x w1)
  have RG := hide (fun y : Sub W.heap.size W => regI rn hrn y.w (ht.k.next (unhide HB y)))
  have AT : agT ⟨0, (rn : Int), e⟩ = [rgT rn] := rfl
  rw [AT]
  clear AT ok ht hg hW xc xl hbW hrn
  unfold Tk.v Tk.cs at MK RG
  simp only at MK RG
  generalize hrg : rgT rn = rt at *
  obtain ⟨T, hT⟩ : ∃ T, [rt] = T := ⟨_, rfl⟩
  have HT := hide hT
  rw [hT]
  clear hT hrg
  have l0 : ([] : List Tk).length ≤ 0 := Nat.le_refl 0
  have O0 := hide (ownT_none y0.w W.heap.size)
  go_enter Tryz.func44, Tryz.ntmps44
  go_wp2_with fail
  refine wp_loop_rounds 2 ?_
  rw [rounds_succ]
  go_wp2_with fail
  refine (unhide RG y0).mono ?_
  rintro r w1 ⟨rfl, hb⟩
  have O1 := hide ((unhide O0).later hb)
  clear O0
  obtain ⟨y1, rfl⟩ := Sub.step (unhide HZ) hb
  clear hb
  obtain ⟨y2, hy2⟩ := Sub.step (unhide HZ) (below_new y1.w (.cells #[.int .i64 rt.k, .int .i64 rt.n, .string rt.s] 59))
  have S2 := hide (show OwnT y2.w W.heap.size (.slice (some ⟨y1.w.heap.size, 0, none⟩) 1 1) [rt] by rw [← hy2]; exact ownT_new y1.w rt W.heap.size (Nat.le_trans (unhide HZ) y1.h.size))
  have O2 := hide (show OwnT y2.w W.heap.size (.slice none 0 0) [] by rw [← hy2]; exact (unhide O1).later (below_new _ _))
  clear O1
  go_wp2_with (at_builtin; go_must (refine appT rfl _ _ rfl (unhide HZ) y2.h rfl (unhide O2) rfl (unhide S2) (one_ne _) (lsum l0 (one_le _) (by decide)) ?_; intro v3 y3 hO; obtain ⟨u3, hu⟩ : ∃ u, ([] ++ [rt]) = u := ⟨_, rfl⟩; rw [hu] at hO; have l3 := lapp hu l0 (one_le _); have O3 := hide hO; have H3 := hide hu; clear hO hu O2 S2))
  rw [rounds_succ]
  go_wp2_with fail
  have EQ : u3 = T := by
    rw [← unhide HT]
    rw [← unhide H3]
    simp [mkT, mkS]
  rw [EQ] at O3
  go_ret
  exact ⟨_, rfl, unhide HO y3 _ _ (unhide O3), unhide HB y3⟩
set_option maxHeartbeats 8000000 in
theorem opt_1 (rn : Nat) (hrn : rn < 8) (e : Ex) (ok : True) (w : World) (ht : TabA w) (hg : TabG w) : Calls Tryz.prog 44 #[.agg #[.nilIface, .int .i64 1, .int .i64 (rn : Int)]] w fun r w' => ∃ v, r = .returned v ∧ OwnT w' w.heap.size v (agT ⟨1, (rn : Int), e⟩) ∧ Below w.heap.size w w' := by
  have hbW := below_new w (.cells #[.nilIface, .int .i64 1, .int .i64 (rn : Int)] 87)
  obtain ⟨W, hW⟩ : ∃ W, w.alloc (.cells #[.nilIface, .int .i64 1, .int .i64 (rn : Int)] 87) = W := ⟨_, rfl⟩
  have xl : w.heap.size < W.heap.size := by rw [← hW]; simp
  have xc : ∀ (i : Nat) (v : Value), (#[.nilIface, .int .i64 1, .int .i64 (rn : Int)] : Array Value)[i]? = some v → ∀ w1, Below W.heap.size W w1 → w1.cell? ⟨w.heap.size, i, none⟩ = some v := fun i v h w1 hb => (hb.cell (p := ⟨w.heap.size, i, none⟩) xl).trans (by rw [← hW]; exact box17 w _ _ i v h)
  rw [hW] at hbW
  obtain ⟨y0, hy0⟩ : ∃ z : Sub W.heap.size W, w.alloc (.cells #[.nilIface, .int .i64 1, .int .i64 (rn : Int)] 87) = z.w := ⟨⟨W, Below.refl _ _⟩, hW⟩
  have ne := Sub.ne W.heap.size W
  have HZ := hide (Nat.le_refl W.heap.size)
  have HB := hide (fun y : Sub W.heap.size W => hbW.trans (y.h.mono hbW.size))
  have HO := hide (fun (y : Sub W.heap.size W) v ts (h : OwnT y.w W.heap.size v ts) => h.base hbW.size)
  have E0 : ∀ y : Sub W.heap.size W, y.w.cell? ⟨w.heap.size, 0, none⟩ = some .nilIface := fun y => xc 0 _ rfl y.w y.h
  have E1 : ∀ y : Sub W.heap.size W, y.w.cell? ⟨w.heap.size, 1, none⟩ = some (.int .i64 1) := fun y => xc 1 _ rfl y.w y.h
  have E2 : ∀ y : Sub W.heap.size W, y.w.cell? ⟨w.heap.size, 2, none⟩ = some (.int .i64 (rn : Int)) := fun y => xc 2 _ rfl y.w y.h
  have T0 : ∀ y : Sub W.heap.size W, y.w.cell? ⟨3, 1, none⟩ = some (.string ⟨#[40, 82, 41]⟩) := fun y => (ht.f.next (unhide HB y)).at1
  have MK := hide (fun x w1 => markI_any x w1)
  have RG := hide (fun y : Sub W.heap.size W => regI rn hrn y.w (ht.k.next (unhide HB y)))
  have X0 : (⟨#[40, 82, 41]⟩ : ByteArray).extract 0 1 = ⟨#[40]⟩ := by kernel_rfl
  have X2 : (⟨#[40, 82, 41]⟩ : ByteArray).extract 2 3 = ⟨#[41]⟩ := by kernel_rfl
  have AT : agT ⟨1, (rn : Int), e⟩ = rnT rn := rfl
  rw [AT]
  unfold rnT
  clear AT ok ht hg hW xc xl hbW hrn
  unfold Tk.v Tk.cs at MK RG
  simp only at MK RG
  generalize hrg : rgT rn = rt at *
  obtain ⟨T, hT⟩ : ∃ T, [mkT 40, rt, mkT 41] = T := ⟨_, rfl⟩
  have HT := hide hT
  rw [hT]
  clear hT hrg
  have l0 : ([] : List Tk).length ≤ 0 := Nat.le_refl 0
  have O0 := hide (ownT_none y0.w W.heap.size)
  go_enter Tryz.func44, Tryz.ntmps44
  go_wp2_with fail
  refine wp_loop_rounds 4 ?_
  rw [rounds_succ]
  go_wp2_with fail
  refine (unhide MK ⟨#[40]⟩ y0.w).mono ?_
  rintro r w1 ⟨rfl, hb⟩
  have O1 := hide ((unhide O0).later hb)
  clear O0
  obtain ⟨y1, rfl⟩ := Sub.step (unhide HZ) hb
  clear hb
  obtain ⟨y2, hy2⟩ := Sub.step (unhide HZ) (below_new y1.w (.cells #[.int .i64 4, .int .i64 0, .string ⟨#[40]⟩] 59))
  have S2 := hide (show OwnT y2.w W.heap.size (.slice (some ⟨y1.w.heap.size, 0, none⟩) 1 1) [(Tk.mk 4 0 ⟨#[40]⟩)] by rw [← hy2]; exact ownT_new y1.w (Tk.mk 4 0 ⟨#[40]⟩) W.heap.size (Nat.le_trans (unhide HZ) y1.h.size))
  have O2 := hide (show OwnT y2.w W.heap.size (.slice none 0 0) [] by rw [← hy2]; exact (unhide O1).later (below_new _ _))
  clear O1
  go_wp2_with (at_builtin; go_must (refine appT rfl _ _ rfl (unhide HZ) y2.h rfl (unhide O2) rfl (unhide S2) (one_ne _) (lsum l0 (one_le _) (by decide)) ?_; intro v3 y3 hO; obtain ⟨u3, hu⟩ : ∃ u, ([] ++ [(Tk.mk 4 0 ⟨#[40]⟩)]) = u := ⟨_, rfl⟩; rw [hu] at hO; have l3 := lapp hu l0 (one_le _); have O3 := hide hO; have H3 := hide hu; clear hO hu O2 S2))
  rw [rounds_succ]
  go_wp2_with fail
  refine (unhide RG y3).mono ?_
  rintro r w4 ⟨rfl, hb⟩
  have O4 := hide ((unhide O3).later hb)
  clear O3
  obtain ⟨y4, rfl⟩ := Sub.step (unhide HZ) hb
  clear hb
  obtain ⟨y5, hy5⟩ := Sub.step (unhide HZ) (below_new y4.w (.cells #[.int .i64 rt.k, .int .i64 rt.n, .string rt.s] 59))
  have S5 := hide (show OwnT y5.w W.heap.size (.slice (some ⟨y4.w.heap.size, 0, none⟩) 1 1) [rt] by rw [← hy5]; exact ownT_new y4.w rt W.heap.size (Nat.le_trans (unhide HZ) y4.h.size))
  have O5 := hide (show OwnT y5.w W.heap.size (v3) u3 by rw [← hy5]; exact (unhide O4).later (below_new _ _))
  clear O4
  go_wp2_with (at_builtin; go_must (refine appT rfl _ _ rfl (unhide HZ) y5.h rfl (unhide O5) rfl (unhide S5) (one_ne _) (lsum l3 (one_le _) (by decide)) ?_; intro v6 y6 hO; obtain ⟨u6, hu⟩ : ∃ u, (u3 ++ [rt]) = u := ⟨_, rfl⟩; rw [hu] at hO; have l6 := lapp hu l3 (one_le _); have O6 := hide hO; have H6 := hide hu; clear hO hu O5 S5))
  rw [rounds_succ]
  go_wp2_with fail
  refine (unhide MK ⟨#[41]⟩ y6.w).mono ?_
  rintro r w7 ⟨rfl, hb⟩
  have O7 := hide ((unhide O6).later hb)
  clear O6
  obtain ⟨y7, rfl⟩ := Sub.step (unhide HZ) hb
  clear hb
  obtain ⟨y8, hy8⟩ := Sub.step (unhide HZ) (below_new y7.w (.cells #[.int .i64 4, .int .i64 0, .string ⟨#[41]⟩] 59))
  have S8 := hide (show OwnT y8.w W.heap.size (.slice (some ⟨y7.w.heap.size, 0, none⟩) 1 1) [(Tk.mk 4 0 ⟨#[41]⟩)] by rw [← hy8]; exact ownT_new y7.w (Tk.mk 4 0 ⟨#[41]⟩) W.heap.size (Nat.le_trans (unhide HZ) y7.h.size))
  have O8 := hide (show OwnT y8.w W.heap.size (v6) u6 by rw [← hy8]; exact (unhide O7).later (below_new _ _))
  clear O7
  go_wp2_with (at_builtin; go_must (refine appT rfl _ _ rfl (unhide HZ) y8.h rfl (unhide O8) rfl (unhide S8) (one_ne _) (lsum l6 (one_le _) (by decide)) ?_; intro v9 y9 hO; obtain ⟨u9, hu⟩ : ∃ u, (u6 ++ [(Tk.mk 4 0 ⟨#[41]⟩)]) = u := ⟨_, rfl⟩; rw [hu] at hO; have l9 := lapp hu l6 (one_le _); have O9 := hide hO; have H9 := hide hu; clear hO hu O8 S8))
  rw [rounds_succ]
  go_wp2_with fail
  have EQ : u9 = T := by
    rw [← unhide HT]
    rw [← unhide H9, ← unhide H6, ← unhide H3]
    simp [mkT, mkS]
  rw [EQ] at O9
  go_ret
  exact ⟨_, rfl, unhide HO y9 _ _ (unhide O9), unhide HB y9⟩
set_option maxHeartbeats 8000000 in
theorem opt_2 (rn : Nat) (hrn : rn < 8) (e : Ex) (ok : True) (w : World) (ht : TabA w) (hg : TabG w) : Calls Tryz.prog 44 #[.agg #[.nilIface, .int .i64 2, .int .i64 (rn : Int)]] w fun r w' => ∃ v, r = .returned v ∧ OwnT w' w.heap.size v (agT ⟨2, (rn : Int), e⟩) ∧ Below w.heap.size w w' := by
  have hbW := below_new w (.cells #[.nilIface, .int .i64 2, .int .i64 (rn : Int)] 87)
  obtain ⟨W, hW⟩ : ∃ W, w.alloc (.cells #[.nilIface, .int .i64 2, .int .i64 (rn : Int)] 87) = W := ⟨_, rfl⟩
  have xl : w.heap.size < W.heap.size := by rw [← hW]; simp
  have xc : ∀ (i : Nat) (v : Value), (#[.nilIface, .int .i64 2, .int .i64 (rn : Int)] : Array Value)[i]? = some v → ∀ w1, Below W.heap.size W w1 → w1.cell? ⟨w.heap.size, i, none⟩ = some v := fun i v h w1 hb => (hb.cell (p := ⟨w.heap.size, i, none⟩) xl).trans (by rw [← hW]; exact box17 w _ _ i v h)
  rw [hW] at hbW
  obtain ⟨y0, hy0⟩ : ∃ z : Sub W.heap.size W, w.alloc (.cells #[.nilIface, .int .i64 2, .int .i64 (rn : Int)] 87) = z.w := ⟨⟨W, Below.refl _ _⟩, hW⟩
  have ne := Sub.ne W.heap.size W
  have HZ := hide (Nat.le_refl W.heap.size)
  have HB := hide (fun y : Sub W.heap.size W => hbW.trans (y.h.mono hbW.size))
  have HO := hide (fun (y : Sub W.heap.size W) v ts (h : OwnT y.w W.heap.size v ts) => h.base hbW.size)
  have E0 : ∀ y : Sub W.heap.size W, y.w.cell? ⟨w.heap.size, 0, none⟩ = some .nilIface := fun y => xc 0 _ rfl y.w y.h
  have E1 : ∀ y : Sub W.heap.size W, y.w.cell? ⟨w.heap.size, 1, none⟩ = some (.int .i64 2) := fun y => xc 1 _ rfl y.w y.h
  have E2 : ∀ y : Sub W.heap.size W, y.w.cell? ⟨w.heap.size, 2, none⟩ = some (.int .i64 (rn : Int)) := fun y => xc 2 _ rfl y.w y.h
  have T0 : ∀ y : Sub W.heap.size W, y.w.cell? ⟨3, 2, none⟩ = some (.string ⟨#[40, 82, 41, 43]⟩) := fun y => (ht.f.next (unhide HB y)).at2
  have MK := hide (fun x w1 => markI_any x w1)
  have RG := hide (fun y : Sub W.heap.size W => regI rn hrn y.w (ht.k.next (unhide HB y)))
  have X0 : (⟨#[40, 82, 41, 43]⟩ : ByteArray).extract 0 1 = ⟨#[40]⟩ := by kernel_rfl
  have X2 : (⟨#[40, 82, 41, 43]⟩ : ByteArray).extract 2 3 = ⟨#[41]⟩ := by kernel_rfl
  have X3 : (⟨#[40, 82, 41, 43]⟩ : ByteArray).extract 3 4 = ⟨#[43]⟩ := by kernel_rfl
  have AT : agT ⟨2, (rn : Int), e⟩ = rnT rn ++ [mkT 43] := rfl
  rw [AT]
  unfold rnT
  clear AT ok ht hg hW xc xl hbW hrn
  unfold Tk.v Tk.cs at MK RG
  simp only at MK RG
  generalize hrg : rgT rn = rt at *
  obtain ⟨T, hT⟩ : ∃ T, [mkT 40, rt, mkT 41] ++ [mkT 43] = T := ⟨_, rfl⟩
  have HT := hide hT
  rw [hT]
  clear hT hrg
  have l0 : ([] : List Tk).length ≤ 0 := Nat.le_refl 0
  have O0 := hide (ownT_none y0.w W.heap.size)
  go_enter Tryz.func44, Tryz.ntmps44
  go_wp2_with fail
  refine wp_loop_rounds 5 ?_
  rw [rounds_succ]
  go_wp2_with fail
  refine (unhide MK ⟨#[40]⟩ y0.w).mono ?_
  rintro r w1 ⟨rfl, hb⟩
  have O1 := hide ((unhide O0).later hb)
  clear O0
  obtain ⟨y1, rfl⟩ := Sub.step (unhide HZ) hb
  clear hb
  obtain ⟨y2, hy2⟩ := Sub.step (unhide HZ) (below_new y1.w (.cells #[.int .i64 4, .int .i64 0, .string ⟨#[40]⟩] 59))
  have S2 := hide (show OwnT y2.w W.heap.size (.slice (some ⟨y1.w.heap.size, 0, none⟩) 1 1) [(Tk.mk 4 0 ⟨#[40]⟩)] by rw [← hy2]; exact ownT_new y1.w (Tk.mk 4 0 ⟨#[40]⟩) W.heap.size (Nat.le_trans (unhide HZ) y1.h.size))
  have O2 := hide (show OwnT y2.w W.heap.size (.slice none 0 0) [] by rw [← hy2]; exact (unhide O1).later (below_new _ _))
  clear O1
  go_wp2_with (at_builtin; go_must (refine appT rfl _ _ rfl (unhide HZ) y2.h rfl (unhide O2) rfl (unhide S2) (one_ne _) (lsum l0 (one_le _) (by decide)) ?_; intro v3 y3 hO; obtain ⟨u3, hu⟩ : ∃ u, ([] ++ [(Tk.mk 4 0 ⟨#[40]⟩)]) = u := ⟨_, rfl⟩; rw [hu] at hO; have l3 := lapp hu l0 (one_le _); have O3 := hide hO; have H3 := hide hu; clear hO hu O2 S2))
  rw [rounds_succ]
  go_wp2_with fail
  refine (unhide RG y3).mono ?_
  rintro r w4 ⟨rfl, hb⟩
  have O4 := hide ((unhide O3).later hb)
  clear O3
  obtain ⟨y4, rfl⟩ := Sub.step (unhide HZ) hb
  clear hb
  obtain ⟨y5, hy5⟩ := Sub.step (unhide HZ) (below_new y4.w (.cells #[.int .i64 rt.k, .int .i64 rt.n, .string rt.s] 59))
  have S5 := hide (show OwnT y5.w W.heap.size (.slice (some ⟨y4.w.heap.size, 0, none⟩) 1 1) [rt] by rw [← hy5]; exact ownT_new y4.w rt W.heap.size (Nat.le_trans (unhide HZ) y4.h.size))
  have O5 := hide (show OwnT y5.w W.heap.size (v3) u3 by rw [← hy5]; exact (unhide O4).later (below_new _ _))
  clear O4
  go_wp2_with (at_builtin; go_must (refine appT rfl _ _ rfl (unhide HZ) y5.h rfl (unhide O5) rfl (unhide S5) (one_ne _) (lsum l3 (one_le _) (by decide)) ?_; intro v6 y6 hO; obtain ⟨u6, hu⟩ : ∃ u, (u3 ++ [rt]) = u := ⟨_, rfl⟩; rw [hu] at hO; have l6 := lapp hu l3 (one_le _); have O6 := hide hO; have H6 := hide hu; clear hO hu O5 S5))
  rw [rounds_succ]
  go_wp2_with fail
  refine (unhide MK ⟨#[41]⟩ y6.w).mono ?_
  rintro r w7 ⟨rfl, hb⟩
  have O7 := hide ((unhide O6).later hb)
  clear O6
  obtain ⟨y7, rfl⟩ := Sub.step (unhide HZ) hb
  clear hb
  obtain ⟨y8, hy8⟩ := Sub.step (unhide HZ) (below_new y7.w (.cells #[.int .i64 4, .int .i64 0, .string ⟨#[41]⟩] 59))
  have S8 := hide (show OwnT y8.w W.heap.size (.slice (some ⟨y7.w.heap.size, 0, none⟩) 1 1) [(Tk.mk 4 0 ⟨#[41]⟩)] by rw [← hy8]; exact ownT_new y7.w (Tk.mk 4 0 ⟨#[41]⟩) W.heap.size (Nat.le_trans (unhide HZ) y7.h.size))
  have O8 := hide (show OwnT y8.w W.heap.size (v6) u6 by rw [← hy8]; exact (unhide O7).later (below_new _ _))
  clear O7
  go_wp2_with (at_builtin; go_must (refine appT rfl _ _ rfl (unhide HZ) y8.h rfl (unhide O8) rfl (unhide S8) (one_ne _) (lsum l6 (one_le _) (by decide)) ?_; intro v9 y9 hO; obtain ⟨u9, hu⟩ : ∃ u, (u6 ++ [(Tk.mk 4 0 ⟨#[41]⟩)]) = u := ⟨_, rfl⟩; rw [hu] at hO; have l9 := lapp hu l6 (one_le _); have O9 := hide hO; have H9 := hide hu; clear hO hu O8 S8))
  rw [rounds_succ]
  go_wp2_with fail
  refine (unhide MK ⟨#[43]⟩ y9.w).mono ?_
  rintro r w10 ⟨rfl, hb⟩
  have O10 := hide ((unhide O9).later hb)
  clear O9
  obtain ⟨y10, rfl⟩ := Sub.step (unhide HZ) hb
  clear hb
  obtain ⟨y11, hy11⟩ := Sub.step (unhide HZ) (below_new y10.w (.cells #[.int .i64 4, .int .i64 0, .string ⟨#[43]⟩] 59))
  have S11 := hide (show OwnT y11.w W.heap.size (.slice (some ⟨y10.w.heap.size, 0, none⟩) 1 1) [(Tk.mk 4 0 ⟨#[43]⟩)] by rw [← hy11]; exact ownT_new y10.w (Tk.mk 4 0 ⟨#[43]⟩) W.heap.size (Nat.le_trans (unhide HZ) y10.h.size))
  have O11 := hide (show OwnT y11.w W.heap.size (v9) u9 by rw [← hy11]; exact (unhide O10).later (below_new _ _))
  clear O10
  go_wp2_with (at_builtin; go_must (refine appT rfl _ _ rfl (unhide HZ) y11.h rfl (unhide O11) rfl (unhide S11) (one_ne _) (lsum l9 (one_le _) (by decide)) ?_; intro v12 y12 hO; obtain ⟨u12, hu⟩ : ∃ u, (u9 ++ [(Tk.mk 4 0 ⟨#[43]⟩)]) = u := ⟨_, rfl⟩; rw [hu] at hO; have l12 := lapp hu l9 (one_le _); have O12 := hide hO; have H12 := hide hu; clear hO hu O11 S11))
  rw [rounds_succ]
  go_wp2_with fail
  have EQ : u12 = T := by
    rw [← unhide HT]
    rw [← unhide H12, ← unhide H9, ← unhide H6, ← unhide H3]
    simp [mkT, mkS]
  rw [EQ] at O12
  go_ret
  exact ⟨_, rfl, unhide HO y12 _ _ (unhide O12), unhide HB y12⟩
set_option maxHeartbeats 8000000 in
theorem opt_3 (rn : Nat) (hrn : rn < 8) (e : Ex) (ok : True) (w : World) (ht : TabA w) (hg : TabG w) : Calls Tryz.prog 44 #[.agg #[.nilIface, .int .i64 3, .int .i64 (rn : Int)]] w fun r w' => ∃ v, r = .returned v ∧ OwnT w' w.heap.size v (agT ⟨3, (rn : Int), e⟩) ∧ Below w.heap.size w w' := by
  have hbW := below_new w (.cells #[.nilIface, .int .i64 3, .int .i64 (rn : Int)] 87)
  obtain ⟨W, hW⟩ : ∃ W, w.alloc (.cells #[.nilIface, .int .i64 3, .int .i64 (rn : Int)] 87) = W := ⟨_, rfl⟩
  have xl : w.heap.size < W.heap.size := by rw [← hW]; simp
  have xc : ∀ (i : Nat) (v : Value), (#[.nilIface, .int .i64 3, .int .i64 (rn : Int)] : Array Value)[i]? = some v → ∀ w1, Below W.heap.size W w1 → w1.cell? ⟨w.heap.size, i, none⟩ = some v := fun i v h w1 hb => (hb.cell (p := ⟨w.heap.size, i, none⟩) xl).trans (by rw [← hW]; exact box17 w _ _ i v h)
  rw [hW] at hbW
  obtain ⟨y0, hy0⟩ : ∃ z : Sub W.heap.size W, w.alloc (.cells #[.nilIface, .int .i64 3, .int .i64 (rn : Int)] 87) = z.w := ⟨⟨W, Below.refl _ _⟩, hW⟩
  have ne := Sub.ne W.heap.size W
  have HZ := hide (Nat.le_refl W.heap.size)
  have HB := hide (fun y : Sub W.heap.size W => hbW.trans (y.h.mono hbW.size))
  have HO := hide (fun (y : Sub W.heap.size W) v ts (h : OwnT y.w W.heap.size v ts) => h.base hbW.size)
  have E0 : ∀ y : Sub W.heap.size W, y.w.cell? ⟨w.heap.size, 0, none⟩ = some .nilIface := fun y => xc 0 _ rfl y.w y.h
  have E1 : ∀ y : Sub W.heap.size W, y.w.cell? ⟨w.heap.size, 1, none⟩ = some (.int .i64 3) := fun y => xc 1 _ rfl y.w y.h
  have E2 : ∀ y : Sub W.heap.size W, y.w.cell? ⟨w.heap.size, 2, none⟩ = some (.int .i64 (rn : Int)) := fun y => xc 2 _ rfl y.w y.h
  have T0 : ∀ y : Sub W.heap.size W, y.w.cell? ⟨3, 3, none⟩ = some (.string ⟨#[64, 40, 82, 41, 43]⟩) := fun y => (ht.f.next (unhide HB y)).at3
  have MK := hide (fun x w1 => markI_any x w1)
  have RG := hide (fun y : Sub W.heap.size W => regI rn hrn y.w (ht.k.next (unhide HB y)))
  have X0 : (⟨#[64, 40, 82, 41, 43]⟩ : ByteArray).extract 0 1 = ⟨#[64]⟩ := by kernel_rfl
  have X1 : (⟨#[64, 40, 82, 41, 43]⟩ : ByteArray).extract 1 2 = ⟨#[40]⟩ := by kernel_rfl
  have X3 : (⟨#[64, 40, 82, 41, 43]⟩ : ByteArray).extract 3 4 = ⟨#[41]⟩ := by kernel_rfl
  have X4 : (⟨#[64, 40, 82, 41, 43]⟩ : ByteArray).extract 4 5 = ⟨#[43]⟩ := by kernel_rfl
  have AT : agT ⟨3, (rn : Int), e⟩ = mkT 64 :: (rnT rn ++ [mkT 43]) := rfl
  rw [AT]
  unfold rnT
  clear AT ok ht hg hW xc xl hbW hrn
  unfold Tk.v Tk.cs at MK RG
  simp only at MK RG
  generalize hrg : rgT rn = rt at *
  obtain ⟨T, hT⟩ : ∃ T, mkT 64 :: ([mkT 40, rt, mkT 41] ++ [mkT 43]) = T := ⟨_, rfl⟩
  have HT := hide hT
  rw [hT]
  clear hT hrg
  have l0 : ([] : List Tk).length ≤ 0 := Nat.le_refl 0
  have O0 := hide (ownT_none y0.w W.heap.size)
  go_enter Tryz.func44, Tryz.ntmps44
  go_wp2_with fail
  refine wp_loop_rounds 6 ?_
  rw [rounds_succ]
  go_wp2_with fail
  refine (unhide MK ⟨#[64]⟩ y0.w).mono ?_
  rintro r w1 ⟨rfl, hb⟩
  have O1 := hide ((unhide O0).later hb)
  clear O0
  obtain ⟨y1, rfl⟩ := Sub.step (unhide HZ) hb
  clear hb
  obtain ⟨y2, hy2⟩ := Sub.step (unhide HZ) (below_new y1.w (.cells #[.int .i64 4, .int .i64 0, .string ⟨#[64]⟩] 59))
  have S2 := hide (show OwnT y2.w W.heap.size (.slice (some ⟨y1.w.heap.size, 0, none⟩) 1 1) [(Tk.mk 4 0 ⟨#[64]⟩)] by rw [← hy2]; exact ownT_new y1.w (Tk.mk 4 0 ⟨#[64]⟩) W.heap.size (Nat.le_trans (unhide HZ) y1.h.size))
  have O2 := hide (show OwnT y2.w W.heap.size (.slice none 0 0) [] by rw [← hy2]; exact (unhide O1).later (below_new _ _))
  clear O1
  go_wp2_with (at_builtin; go_must (refine appT rfl _ _ rfl (unhide HZ) y2.h rfl (unhide O2) rfl (unhide S2) (one_ne _) (lsum l0 (one_le _) (by decide)) ?_; intro v3 y3 hO; obtain ⟨u3, hu⟩ : ∃ u, ([] ++ [(Tk.mk 4 0 ⟨#[64]⟩)]) = u := ⟨_, rfl⟩; rw [hu] at hO; have l3 := lapp hu l0 (one_le _); have O3 := hide hO; have H3 := hide hu; clear hO hu O2 S2))
  rw [rounds_succ]
  go_wp2_with fail
  refine (unhide MK ⟨#[40]⟩ y3.w).mono ?_
  rintro r w4 ⟨rfl, hb⟩
  have O4 := hide ((unhide O3).later hb)
  clear O3
  obtain ⟨y4, rfl⟩ := Sub.step (unhide HZ) hb
  clear hb
  obtain ⟨y5, hy5⟩ := Sub.step (unhide HZ) (below_new y4.w (.cells #[.int .i64 4, .int .i64 0, .string ⟨#[40]⟩] 59))
  have S5 := hide (show OwnT y5.w W.heap.size (.slice (some ⟨y4.w.heap.size, 0, none⟩) 1 1) [(Tk.mk 4 0 ⟨#[40]⟩)] by rw [← hy5]; exact ownT_new y4.w (Tk.mk 4 0 ⟨#[40]⟩) W.heap.size (Nat.le_trans (unhide HZ) y4.h.size))
  have O5 := hide (show OwnT y5.w W.heap.size (v3) u3 by rw [← hy5]; exact (unhide O4).later (below_new _ _))
  clear O4
  go_wp2_with (at_builtin; go_must (refine appT rfl _ _ rfl (unhide HZ) y5.h rfl (unhide O5) rfl (unhide S5) (one_ne _) (lsum l3 (one_le _) (by decide)) ?_; intro v6 y6 hO; obtain ⟨u6, hu⟩ : ∃ u, (u3 ++ [(Tk.mk 4 0 ⟨#[40]⟩)]) = u := ⟨_, rfl⟩; rw [hu] at hO; have l6 := lapp hu l3 (one_le _); have O6 := hide hO; have H6 := hide hu; clear hO hu O5 S5))
  rw [rounds_succ]
  go_wp2_with fail
  refine (unhide RG y6).mono ?_
  rintro r w7 ⟨rfl, hb⟩
  have O7 := hide ((unhide O6).later hb)
  clear O6
  obtain ⟨y7, rfl⟩ := Sub.step (unhide HZ) hb
  clear hb
  obtain ⟨y8, hy8⟩ := Sub.step (unhide HZ) (below_new y7.w (.cells #[.int .i64 rt.k, .int .i64 rt.n, .string rt.s] 59))
  have S8 := hide (show OwnT y8.w W.heap.size (.slice (some ⟨y7.w.heap.size, 0, none⟩) 1 1) [rt] by rw [← hy8]; exact ownT_new y7.w rt W.heap.size (Nat.le_trans (unhide HZ) y7.h.size))
  have O8 := hide (show OwnT y8.w W.heap.size (v6) u6 by rw [← hy8]; exact (unhide O7).later (below_new _ _))
  clear O7
  go_wp2_with (at_builtin; go_must (refine appT rfl _ _ rfl (unhide HZ) y8.h rfl (unhide O8) rfl (unhide S8) (one_ne _) (lsum l6 (one_le _) (by decide)) ?_; intro v9 y9 hO; obtain ⟨u9, hu⟩ : ∃ u, (u6 ++ [rt]) = u := ⟨_, rfl⟩; rw [hu] at hO; have l9 := lapp hu l6 (one_le _); have O9 := hide hO; have H9 := hide hu; clear hO hu O8 S8))
  rw [rounds_succ]
  go_wp2_with fail
  refine (unhide MK ⟨#[41]⟩ y9.w).mono ?_
  rintro r w10 ⟨rfl, hb⟩
  have O10 := hide ((unhide O9).later hb)
  clear O9
  obtain ⟨y10, rfl⟩ := Sub.step (unhide HZ) hb
  clear hb
  obtain ⟨y11, hy11⟩ := Sub.step (unhide HZ) (below_new y10.w (.cells #[.int .i64 4, .int .i64 0, .string ⟨#[41]⟩] 59))
  have S11 := hide (show OwnT y11.w W.heap.size (.slice (some ⟨y10.w.heap.size, 0, none⟩) 1 1) [(Tk.mk 4 0 ⟨#[41]⟩)] by rw [← hy11]; exact ownT_new y10.w (Tk.mk 4 0 ⟨#[41]⟩) W.heap.size (Nat.le_trans (unhide HZ) y10.h.size))
  have O11 := hide (show OwnT y11.w W.heap.size (v9) u9 by rw [← hy11]; exact (unhide O10).later (below_new _ _))
  clear O10
  go_wp2_with (at_builtin; go_must (refine appT rfl _ _ rfl (unhide HZ) y11.h rfl (unhide O11) rfl (unhide S11) (one_ne _) (lsum l9 (one_le _) (by decide)) ?_; intro v12 y12 hO; obtain ⟨u12, hu⟩ : ∃ u, (u9 ++ [(Tk.mk 4 0 ⟨#[41]⟩)]) = u := ⟨_, rfl⟩; rw [hu] at hO; have l12 := lapp hu l9 (one_le _); have O12 := hide hO; have H12 := hide hu; clear hO hu O11 S11))
  rw [rounds_succ]
  go_wp2_with fail
  refine (unhide MK ⟨#[43]⟩ y12.w).mono ?_
  rintro r w13 ⟨rfl, hb⟩
  have O13 := hide ((unhide O12).later hb)
  clear O12
  obtain ⟨y13, rfl⟩ := Sub.step (unhide HZ) hb
  clear hb
  obtain ⟨y14, hy14⟩ := Sub.step (unhide HZ) (below_new y13.w (.cells #[.int .i64 4, .int .i64 0, .string ⟨#[43]⟩] 59))
  have S14 := hide (show OwnT y14.w W.heap.size (.slice (some ⟨y13.w.heap.size, 0, none⟩) 1 1) [(Tk.mk 4 0 ⟨#[43]⟩)] by rw [← hy14]; exact ownT_new y13.w (Tk.mk 4 0 ⟨#[43]⟩) W.heap.size (Nat.le_trans (unhide HZ) y13.h.size))
  have O14 := hide (show OwnT y14.w W.heap.size (v12) u12 by rw [← hy14]; exact (unhide O13).later (below_new _ _))
  clear O13
  go_wp2_with (at_builtin; go_must (refine appT rfl _ _ rfl (unhide HZ) y14.h rfl (unhide O14) rfl (unhide S14) (one_ne _) (lsum l12 (one_le _) (by decide)) ?_; intro v15 y15 hO; obtain ⟨u15, hu⟩ : ∃ u, (u12 ++ [(Tk.mk 4 0 ⟨#[43]⟩)]) = u := ⟨_, rfl⟩; rw [hu] at hO; have l15 := lapp hu l12 (one_le _); have O15 := hide hO; have H15 := hide hu; clear hO hu O14 S14))
  rw [rounds_succ]
  go_wp2_with fail
  have EQ : u15 = T := by
    rw [← unhide HT]
    rw [← unhide H15, ← unhide H12, ← unhide H9, ← unhide H6, ← unhide H3]
    simp [mkT, mkS]
  rw [EQ] at O15
  go_ret
  exact ⟨_, rfl, unhide HO y15 _ _ (unhide O15), unhide HB y15⟩
set_option maxHeartbeats 8000000 in
theorem opt_4 (rn : Nat) (hrn : rn < 8) (e : Ex) (ok : True) (w : World) (ht : TabA w) (hg : TabG w) : Calls Tryz.prog 44 #[.agg #[.nilIface, .int .i64 4, .int .i64 (rn : Int)]] w fun r w' => ∃ v, r = .returned v ∧ OwnT w' w.heap.size v (agT ⟨4, (rn : Int), e⟩) ∧ Below w.heap.size w w' := by
  have hbW := below_new w (.cells #[.nilIface, .int .i64 4, .int .i64 (rn : Int)] 87)
  obtain ⟨W, hW⟩ : ∃ W, w.alloc (.cells #[.nilIface, .int .i64 4, .int .i64 (rn : Int)] 87) = W := ⟨_, rfl⟩
  have xl : w.heap.size < W.heap.size := by rw [← hW]; simp
  have xc : ∀ (i : Nat) (v : Value), (#[.nilIface, .int .i64 4, .int .i64 (rn : Int)] : Array Value)[i]? = some v → ∀ w1, Below W.heap.size W w1 → w1.cell? ⟨w.heap.size, i, none⟩ = some v := fun i v h w1 hb => (hb.cell (p := ⟨w.heap.size, i, none⟩) xl).trans (by rw [← hW]; exact box17 w _ _ i v h)
  rw [hW] at hbW
  obtain ⟨y0, hy0⟩ : ∃ z : Sub W.heap.size W, w.alloc (.cells #[.nilIface, .int .i64 4, .int .i64 (rn : Int)] 87) = z.w := ⟨⟨W, Below.refl _ _⟩, hW⟩
  have ne := Sub.ne W.heap.size W
  have HZ := hide (Nat.le_refl W.heap.size)
  have HB := hide (fun y : Sub W.heap.size W => hbW.trans (y.h.mono hbW.size))
  have HO := hide (fun (y : Sub W.heap.size W) v ts (h : OwnT y.w W.heap.size v ts) => h.base hbW.size)
  have E0 : ∀ y : Sub W.heap.size W, y.w.cell? ⟨w.heap.size, 0, none⟩ = some .nilIface := fun y => xc 0 _ rfl y.w y.h
  have E1 : ∀ y : Sub W.heap.size W, y.w.cell? ⟨w.heap.size, 1, none⟩ = some (.int .i64 4) := fun y => xc 1 _ rfl y.w y.h
  have E2 : ∀ y : Sub W.heap.size W, y.w.cell? ⟨w.heap.size, 2, none⟩ = some (.int .i64 (rn : Int)) := fun y => xc 2 _ rfl y.w y.h
  have T0 : ∀ y : Sub W.heap.size W, y.w.cell? ⟨3, 4, none⟩ = some (.string ⟨#[45, 40, 82, 41]⟩) := fun y => (ht.f.next (unhide HB y)).at4
  have MK := hide (fun x w1 => markI_any x w1)
  have RG := hide (fun y : Sub W.heap.size W => regI rn hrn y.w (ht.k.next (unhide HB y)))
  have X0 : (⟨#[45, 40, 82, 41]⟩ : ByteArray).extract 0 1 = ⟨#[45]⟩ := by kernel_rfl
  have X1 : (⟨#[45, 40, 82, 41]⟩ : ByteArray).extract 1 2 = ⟨#[40]⟩ := by kernel_rfl
  have X3 : (⟨#[45, 40, 82, 41]⟩ : ByteArray).extract 3 4 = ⟨#[41]⟩ := by kernel_rfl
  have AT : agT ⟨4, (rn : Int), e⟩ = mkT 45 :: rnT rn := rfl
  rw [AT]
  unfold rnT
  clear AT ok ht hg hW xc xl hbW hrn
  unfold Tk.v Tk.cs at MK RG
  simp only at MK RG
  generalize hrg : rgT rn = rt at *
  obtain ⟨T, hT⟩ : ∃ T, mkT 45 :: [mkT 40, rt, mkT 41] = T := ⟨_, rfl⟩
  have HT := hide hT
  rw [hT]
  clear hT hrg
  have l0 : ([] : List Tk).length ≤ 0 := Nat.le_refl 0
  have O0 := hide (ownT_none y0.w W.heap.size)
  go_enter Tryz.func44, Tryz.ntmps44
  go_wp2_with fail
  refine wp_loop_rounds 5 ?_
  rw [rounds_succ]
  go_wp2_with fail
  refine (unhide MK ⟨#[45]⟩ y0.w).mono ?_
  rintro r w1 ⟨rfl, hb⟩
  have O1 := hide ((unhide O0).later hb)
  clear O0
  obtain ⟨y1, rfl⟩ := Sub.step (unhide HZ) hb
  clear hb
  obtain ⟨y2, hy2⟩ := Sub.step (unhide HZ) (below_new y1.w (.cells #[.int .i64 4, .int .i64 0, .string ⟨#[45]⟩] 59))
  have S2 := hide (show OwnT y2.w W.heap.size (.slice (some ⟨y1.w.heap.size, 0, none⟩) 1 1) [(Tk.mk 4 0 ⟨#[45]⟩)] by rw [← hy2]; exact ownT_new y1.w (Tk.mk 4 0 ⟨#[45]⟩) W.heap.size (Nat.le_trans (unhide HZ) y1.h.size))
  have O2 := hide (show OwnT y2.w W.heap.size (.slice none 0 0) [] by rw [← hy2]; exact (unhide O1).later (below_new _ _))
  clear O1
  go_wp2_with (at_builtin; go_must (refine appT rfl _ _ rfl (unhide HZ) y2.h rfl (unhide O2) rfl (unhide S2) (one_ne _) (lsum l0 (one_le _) (by decide)) ?_; intro v3 y3 hO; obtain ⟨u3, hu⟩ : ∃ u, ([] ++ [(Tk.mk 4 0 ⟨#[45]⟩)]) = u := ⟨_, rfl⟩; rw [hu] at hO; have l3 := lapp hu l0 (one_le _); have O3 := hide hO; have H3 := hide hu; clear hO hu O2 S2))
  rw [rounds_succ]
  go_wp2_with fail
  refine (unhide MK ⟨#[40]⟩ y3.w).mono ?_
  rintro r w4 ⟨rfl, hb⟩
  have O4 := hide ((unhide O3).later hb)
  clear O3
  obtain ⟨y4, rfl⟩ := Sub.step (unhide HZ) hb
  clear hb
  obtain ⟨y5, hy5⟩ := Sub.step (unhide HZ) (below_new y4.w (.cells #[.int .i64 4, .int .i64 0, .string ⟨#[40]⟩] 59))
  have S5 := hide (show OwnT y5.w W.heap.size (.slice (some ⟨y4.w.heap.size, 0, none⟩) 1 1) [(Tk.mk 4 0 ⟨#[40]⟩)] by rw [← hy5]; exact ownT_new y4.w (Tk.mk 4 0 ⟨#[40]⟩) W.heap.size (Nat.le_trans (unhide HZ) y4.h.size))
  have O5 := hide (show OwnT y5.w W.heap.size (v3) u3 by rw [← hy5]; exact (unhide O4).later (below_new _ _))
  clear O4
  go_wp2_with (at_builtin; go_must (refine appT rfl _ _ rfl (unhide HZ) y5.h rfl (unhide O5) rfl (unhide S5) (one_ne _) (lsum l3 (one_le _) (by decide)) ?_; intro v6 y6 hO; obtain ⟨u6, hu⟩ : ∃ u, (u3 ++ [(Tk.mk 4 0 ⟨#[40]⟩)]) = u := ⟨_, rfl⟩; rw [hu] at hO; have l6 := lapp hu l3 (one_le _); have O6 := hide hO; have H6 := hide hu; clear hO hu O5 S5))
  rw [rounds_succ]
  go_wp2_with fail
  refine (unhide RG y6).mono ?_
  rintro r w7 ⟨rfl, hb⟩
  have O7 := hide ((unhide O6).later hb)
  clear O6
  obtain ⟨y7, rfl⟩ := Sub.step (unhide HZ) hb
  clear hb
  obtain ⟨y8, hy8⟩ := Sub.step (unhide HZ) (below_new y7.w (.cells #[.int .i64 rt.k, .int .i64 rt.n, .string rt.s] 59))
  have S8 := hide (show OwnT y8.w W.heap.size (.slice (some ⟨y7.w.heap.size, 0, none⟩) 1 1) [rt] by rw [← hy8]; exact ownT_new y7.w rt W.heap.size (Nat.le_trans (unhide HZ) y7.h.size))
  have O8 := hide (show OwnT y8.w W.heap.size (v6) u6 by rw [← hy8]; exact (unhide O7).later (below_new _ _))
  clear O7
  go_wp2_with (at_builtin; go_must (refine appT rfl _ _ rfl (unhide HZ) y8.h rfl (unhide O8) rfl (unhide S8) (one_ne _) (lsum l6 (one_le _) (by decide)) ?_; intro v9 y9 hO; obtain ⟨u9, hu⟩ : ∃ u, (u6 ++ [rt]) = u := ⟨_, rfl⟩; rw [hu] at hO; have l9 := lapp hu l6 (one_le _); have O9 := hide hO; have H9 := hide hu; clear hO hu O8 S8))
  rw [rounds_succ]
  go_wp2_with fail
  refine (unhide MK ⟨#[41]⟩ y9.w).mono ?_
  rintro r w10 ⟨rfl, hb⟩
  have O10 := hide ((unhide O9).later hb)
  clear O9
  obtain ⟨y10, rfl⟩ := Sub.step (unhide HZ) hb
  clear hb
  obtain ⟨y11, hy11⟩ := Sub.step (unhide HZ) (below_new y10.w (.cells #[.int .i64 4, .int .i64 0, .string ⟨#[41]⟩] 59))
  have S11 := hide (show OwnT y11.w W.heap.size (.slice (some ⟨y10.w.heap.size, 0, none⟩) 1 1) [(Tk.mk 4 0 ⟨#[41]⟩)] by rw [← hy11]; exact ownT_new y10.w (Tk.mk 4 0 ⟨#[41]⟩) W.heap.size (Nat.le_trans (unhide HZ) y10.h.size))
  have O11 := hide (show OwnT y11.w W.heap.size (v9) u9 by rw [← hy11]; exact (unhide O10).later (below_new _ _))
  clear O10
  go_wp2_with (at_builtin; go_must (refine appT rfl _ _ rfl (unhide HZ) y11.h rfl (unhide O11) rfl (unhide S11) (one_ne _) (lsum l9 (one_le _) (by decide)) ?_; intro v12 y12 hO; obtain ⟨u12, hu⟩ : ∃ u, (u9 ++ [(Tk.mk 4 0 ⟨#[41]⟩)]) = u := ⟨_, rfl⟩; rw [hu] at hO; have l12 := lapp hu l9 (one_le _); have O12 := hide hO; have H12 := hide hu; clear hO hu O11 S11))
  rw [rounds_succ]
  go_wp2_with fail
  have EQ : u12 = T := by
    rw [← unhide HT]
    rw [← unhide H12, ← unhide H9, ← unhide H6, ← unhide H3]
    simp [mkT, mkS]
  rw [EQ] at O12
  go_ret
  exact ⟨_, rfl, unhide HO y12 _ _ (unhide O12), unhide HB y12⟩
set_option maxHeartbeats 8000000 in
theorem opt_5 (rn : Nat) (hrn : rn < 8) (e : Ex) (ok : True) (w : World) (ht : TabA w) (hg : TabG w) : Calls Tryz.prog 44 #[.agg #[.nilIface, .int .i64 5, .int .i64 (rn : Int)]] w fun r w' => ∃ v, r = .returned v ∧ OwnT w' w.heap.size v (agT ⟨5, (rn : Int), e⟩) ∧ Below w.heap.size w w' := by
  have hbW := below_new w (.cells #[.nilIface, .int .i64 5, .int .i64 (rn : Int)] 87)
  obtain ⟨W, hW⟩ : ∃ W, w.alloc (.cells #[.nilIface, .int .i64 5, .int .i64 (rn : Int)] 87) = W := ⟨_, rfl⟩
  have xl : w.heap.size < W.heap.size := by rw [← hW]; simp
  have xc : ∀ (i : Nat) (v : Value), (#[.nilIface, .int .i64 5, .int .i64 (rn : Int)] : Array Value)[i]? = some v → ∀ w1, Below W.heap.size W w1 → w1.cell? ⟨w.heap.size, i, none⟩ = some v := fun i v h w1 hb => (hb.cell (p := ⟨w.heap.size, i, none⟩) xl).trans (by rw [← hW]; exact box17 w _ _ i v h)
  rw [hW] at hbW
  obtain ⟨y0, hy0⟩ : ∃ z : Sub W.heap.size W, w.alloc (.cells #[.nilIface, .int .i64 5, .int .i64 (rn : Int)] 87) = z.w := ⟨⟨W, Below.refl _ _⟩, hW⟩
  have ne := Sub.ne W.heap.size W
  have HZ := hide (Nat.le_refl W.heap.size)
  have HB := hide (fun y : Sub W.heap.size W => hbW.trans (y.h.mono hbW.size))
  have HO := hide (fun (y : Sub W.heap.size W) v ts (h : OwnT y.w W.heap.size v ts) => h.base hbW.size)
  have E0 : ∀ y : Sub W.heap.size W, y.w.cell? ⟨w.heap.size, 0, none⟩ = some .nilIface := fun y => xc 0 _ rfl y.w y.h
  have E1 : ∀ y : Sub W.heap.size W, y.w.cell? ⟨w.heap.size, 1, none⟩ = some (.int .i64 5) := fun y => xc 1 _ rfl y.w y.h
  have E2 : ∀ y : Sub W.heap.size W, y.w.cell? ⟨w.heap.size, 2, none⟩ = some (.int .i64 (rn : Int)) := fun y => xc 2 _ rfl y.w y.h
  have T0 : ∀ y : Sub W.heap.size W, y.w.cell? ⟨3, 5, none⟩ = some (.string ⟨#[64, 45, 40, 82, 41]⟩) := fun y => (ht.f.next (unhide HB y)).at5
  have MK := hide (fun x w1 => markI_any x w1)
  have RG := hide (fun y : Sub W.heap.size W => regI rn hrn y.w (ht.k.next (unhide HB y)))
  have X0 : (⟨#[64, 45, 40, 82, 41]⟩ : ByteArray).extract 0 1 = ⟨#[64]⟩ := by kernel_rfl
  have X1 : (⟨#[64, 45, 40, 82, 41]⟩ : ByteArray).extract 1 2 = ⟨#[45]⟩ := by kernel_rfl
  have X2 : (⟨#[64, 45, 40, 82, 41]⟩ : ByteArray).extract 2 3 = ⟨#[40]⟩ := by kernel_rfl
  have X4 : (⟨#[64, 45, 40, 82, 41]⟩ : ByteArray).extract 4 5 = ⟨#[41]⟩ := by kernel_rfl
  have AT : agT ⟨5, (rn : Int), e⟩ = mkT 64 :: mkT 45 :: rnT rn := rfl
  rw [AT]
  unfold rnT
  clear AT ok ht hg hW xc xl hbW hrn
  unfold Tk.v Tk.cs at MK RG
  simp only at MK RG
  generalize hrg : rgT rn = rt at *
  obtain ⟨T, hT⟩ : ∃ T, mkT 64 :: mkT 45 :: [mkT 40, rt, mkT 41] = T := ⟨_, rfl⟩
  have HT := hide hT
  rw [hT]
  clear hT hrg
  have l0 : ([] : List Tk).length ≤ 0 := Nat.le_refl 0
  have O0 := hide (ownT_none y0.w W.heap.size)
  go_enter Tryz.func44, Tryz.ntmps44
  go_wp2_with fail
  refine wp_loop_rounds 6 ?_
  rw [rounds_succ]
  go_wp2_with fail
  refine (unhide MK ⟨#[64]⟩ y0.w).mono ?_
  rintro r w1 ⟨rfl, hb⟩
  have O1 := hide ((unhide O0).later hb)
  clear O0
  obtain ⟨y1, rfl⟩ := Sub.step (unhide HZ) hb
  clear hb
  obtain ⟨y2, hy2⟩ := Sub.step (unhide HZ) (below_new y1.w (.cells #[.int .i64 4, .int .i64 0, .string ⟨#[64]⟩] 59))
  have S2 := hide (show OwnT y2.w W.heap.size (.slice (some ⟨y1.w.heap.size, 0, none⟩) 1 1) [(Tk.mk 4 0 ⟨#[64]⟩)] by rw [← hy2]; exact ownT_new y1.w (Tk.mk 4 0 ⟨#[64]⟩) W.heap.size (Nat.le_trans (unhide HZ) y1.h.size))
  have O2 := hide (show OwnT y2.w W.heap.size (.slice none 0 0) [] by rw [← hy2]; exact (unhide O1).later (below_new _ _))
  clear O1
  go_wp2_with (at_builtin; go_must (refine appT rfl _ _ rfl (unhide HZ) y2.h rfl (unhide O2) rfl (unhide S2) (one_ne _) (lsum l0 (one_le _) (by decide)) ?_; intro v3 y3 hO; obtain ⟨u3, hu⟩ : ∃ u, ([] ++ [(Tk.mk 4 0 ⟨#[64]⟩)]) = u := ⟨_, rfl⟩; rw [hu] at hO; have l3 := lapp hu l0 (one_le _); have O3 := hide hO; have H3 := hide hu; clear hO hu O2 S2))
  rw [rounds_succ]
  go_wp2_with fail
  refine (unhide MK ⟨#[45]⟩ y3.w).mono ?_
  rintro r w4 ⟨rfl, hb⟩
  have O4 := hide ((unhide O3).later hb)
  clear O3
  obtain ⟨y4, rfl⟩ := Sub.step (unhide HZ) hb
  clear hb
  obtain ⟨y5, hy5⟩ := Sub.step (unhide HZ) (below_new y4.w (.cells #[.int .i64 4, .int .i64 0, .string ⟨#[45]⟩] 59))
  have S5 := hide (show OwnT y5.w W.heap.size (.slice (some ⟨y4.w.heap.size, 0, none⟩) 1 1) [(Tk.mk 4 0 ⟨#[45]⟩)] by rw [← hy5]; exact ownT_new y4.w (Tk.mk 4 0 ⟨#[45]⟩) W.heap.size (Nat.le_trans (unhide HZ) y4.h.size))
  have O5 := hide (show OwnT y5.w W.heap.size (v3) u3 by rw [← hy5]; exact (unhide O4).later (below_new _ _))
  clear O4
  go_wp2_with (at_builtin; go_must (refine appT rfl _ _ rfl (unhide HZ) y5.h rfl (unhide O5) rfl (unhide S5) (one_ne _) (lsum l3 (one_le _) (by decide)) ?_; intro v6 y6 hO; obtain ⟨u6, hu⟩ : ∃ u, (u3 ++ [(Tk.mk 4 0 ⟨#[45]⟩)]) = u := ⟨_, rfl⟩; rw [hu] at hO; have l6 := lapp hu l3 (one_le _); have O6 := hide hO; have H6 := hide hu; clear hO hu O5 S5))
  rw [rounds_succ]
  go_wp2_with fail
  refine (unhide MK ⟨#[40]⟩ y6.w).mono ?_
  rintro r w7 ⟨rfl, hb⟩
  have O7 := hide ((unhide O6).later hb)
  clear O6
  obtain ⟨y7, rfl⟩ := Sub.step (unhide HZ) hb
  clear hb
  obtain ⟨y8, hy8⟩ := Sub.step (unhide HZ) (below_new y7.w (.cells #[.int .i64 4, .int .i64 0, .string ⟨#[40]⟩] 59))
  have S8 := hide (show OwnT y8.w W.heap.size (.slice (some ⟨y7.w.heap.size, 0, none⟩) 1 1) [(Tk.mk 4 0 ⟨#[40]⟩)] by rw [← hy8]; exact ownT_new y7.w (Tk.mk 4 0 ⟨#[40]⟩) W.heap.size (Nat.le_trans (unhide HZ) y7.h.size))
  have O8 := hide (show OwnT y8.w W.heap.size (v6) u6 by rw [← hy8]; exact (unhide O7).later (below_new _ _))
  clear O7
  go_wp2_with (at_builtin; go_must (refine appT rfl _ _ rfl (unhide HZ) y8.h rfl (unhide O8) rfl (unhide S8) (one_ne _) (lsum l6 (one_le _) (by decide)) ?_; intro v9 y9 hO; obtain ⟨u9, hu⟩ : ∃ u, (u6 ++ [(Tk.mk 4 0 ⟨#[40]⟩)]) = u := ⟨_, rfl⟩; rw [hu] at hO; have l9 := lapp hu l6 (one_le _); have O9 := hide hO; have H9 := hide hu; clear hO hu O8 S8))
  rw [rounds_succ]
  go_wp2_with fail
  refine (unhide RG y9).mono ?_
  rintro r w10 ⟨rfl, hb⟩
  have O10 := hide ((unhide O9).later hb)
  clear O9
  obtain ⟨y10, rfl⟩ := Sub.step (unhide HZ) hb
  clear hb
  obtain ⟨y11, hy11⟩ := Sub.step (unhide HZ) (below_new y10.w (.cells #[.int .i64 rt.k, .int .i64 rt.n, .string rt.s] 59))
  have S11 := hide (show OwnT y11.w W.heap.size (.slice (some ⟨y10.w.heap.size, 0, none⟩) 1 1) [rt] by rw [← hy11]; exact ownT_new y10.w rt W.heap.size (Nat.le_trans (unhide HZ) y10.h.size))
  have O11 := hide (show OwnT y11.w W.heap.size (v9) u9 by rw [← hy11]; exact (unhide O10).later (below_new _ _))
  clear O10
  go_wp2_with (at_builtin; go_must (refine appT rfl _ _ rfl (unhide HZ) y11.h rfl (unhide O11) rfl (unhide S11) (one_ne _) (lsum l9 (one_le _) (by decide)) ?_; intro v12 y12 hO; obtain ⟨u12, hu⟩ : ∃ u, (u9 ++ [rt]) = u := ⟨_, rfl⟩; rw [hu] at hO; have l12 := lapp hu l9 (one_le _); have O12 := hide hO; have H12 := hide hu; clear hO hu O11 S11))
  rw [rounds_succ]
  go_wp2_with fail
  refine (unhide MK ⟨#[41]⟩ y12.w).mono ?_
  rintro r w13 ⟨rfl, hb⟩
  have O13 := hide ((unhide O12).later hb)
  clear O12
  obtain ⟨y13, rfl⟩ := Sub.step (unhide HZ) hb
  clear hb
  obtain ⟨y14, hy14⟩ := Sub.step (unhide HZ) (below_new y13.w (.cells #[.int .i64 4, .int .i64 0, .string ⟨#[41]⟩] 59))
  have S14 := hide (show OwnT y14.w W.heap.size (.slice (some ⟨y13.w.heap.size, 0, none⟩) 1 1) [(Tk.mk 4 0 ⟨#[41]⟩)] by rw [← hy14]; exact ownT_new y13.w (Tk.mk 4 0 ⟨#[41]⟩) W.heap.size (Nat.le_trans (unhide HZ) y13.h.size))
  have O14 := hide (show OwnT y14.w W.heap.size (v12) u12 by rw [← hy14]; exact (unhide O13).later (below_new _ _))
  clear O13
  go_wp2_with (at_builtin; go_must (refine appT rfl _ _ rfl (unhide HZ) y14.h rfl (unhide O14) rfl (unhide S14) (one_ne _) (lsum l12 (one_le _) (by decide)) ?_; intro v15 y15 hO; obtain ⟨u15, hu⟩ : ∃ u, (u12 ++ [(Tk.mk 4 0 ⟨#[41]⟩)]) = u := ⟨_, rfl⟩; rw [hu] at hO; have l15 := lapp hu l12 (one_le _); have O15 := hide hO; have H15 := hide hu; clear hO hu O14 S14))
  rw [rounds_succ]
  go_wp2_with fail
  have EQ : u15 = T := by
    rw [← unhide HT]
    rw [← unhide H15, ← unhide H12, ← unhide H9, ← unhide H6, ← unhide H3]
    simp [mkT, mkS]
  rw [EQ] at O15
  go_ret
  exact ⟨_, rfl, unhide HO y15 _ _ (unhide O15), unhide HB y15⟩
set_option maxHeartbeats 8000000 in
theorem opt_6 (rn : Nat) (hrn : rn < 8) (e : Ex) (ok : okF 6 true e = true) (w : World) (ht : TabA w) (hg : TabG w) : Calls Tryz.prog 44 #[.agg #[tv e, .int .i64 6, .int .i64 (rn : Int)]] w fun r w' => ∃ v, r = .returned v ∧ OwnT w' w.heap.size v (agT ⟨6, (rn : Int), e⟩) ∧ Below w.heap.size w w' := by
  have PA := put_all 6 (by omega) e
  obtain ⟨tt, xx, e1⟩ := tv_if e
  rw [e1] at PA ⊢
  clear e1
  have m6 := mxT_le 6 (by omega)
  have hbW := below_new w (.cells #[(.iface tt xx), .int .i64 6, .int .i64 (rn : Int)] 87)
  obtain ⟨W, hW⟩ : ∃ W, w.alloc (.cells #[(.iface tt xx), .int .i64 6, .int .i64 (rn : Int)] 87) = W := ⟨_, rfl⟩
  have xl : w.heap.size < W.heap.size := by rw [← hW]; simp
  have xc : ∀ (i : Nat) (v : Value), (#[(.iface tt xx), .int .i64 6, .int .i64 (rn : Int)] : Array Value)[i]? = some v → ∀ w1, Below W.heap.size W w1 → w1.cell? ⟨w.heap.size, i, none⟩ = some v := fun i v h w1 hb => (hb.cell (p := ⟨w.heap.size, i, none⟩) xl).trans (by rw [← hW]; exact box17 w _ _ i v h)
  rw [hW] at hbW
  obtain ⟨y0, hy0⟩ : ∃ z : Sub W.heap.size W, w.alloc (.cells #[(.iface tt xx), .int .i64 6, .int .i64 (rn : Int)] 87) = z.w := ⟨⟨W, Below.refl _ _⟩, hW⟩
  have ne := Sub.ne W.heap.size W
  have HZ := hide (Nat.le_refl W.heap.size)
  have HB := hide (fun y : Sub W.heap.size W => hbW.trans (y.h.mono hbW.size))
  have HO := hide (fun (y : Sub W.heap.size W) v ts (h : OwnT y.w W.heap.size v ts) => h.base hbW.size)
  have E0 : ∀ y : Sub W.heap.size W, y.w.cell? ⟨w.heap.size, 0, none⟩ = some (.iface tt xx) := fun y => xc 0 _ rfl y.w y.h
  have E1 : ∀ y : Sub W.heap.size W, y.w.cell? ⟨w.heap.size, 1, none⟩ = some (.int .i64 6) := fun y => xc 1 _ rfl y.w y.h
  have E2 : ∀ y : Sub W.heap.size W, y.w.cell? ⟨w.heap.size, 2, none⟩ = some (.int .i64 (rn : Int)) := fun y => xc 2 _ rfl y.w y.h
  have T0 : ∀ y : Sub W.heap.size W, y.w.cell? ⟨3, 6, none⟩ = some (.string ⟨#[69, 40, 82, 41]⟩) := fun y => (ht.f.next (unhide HB y)).at6
  have MK := hide (fun x w1 => markI_any x w1)
  have RG := hide (fun y : Sub W.heap.size W => regI rn hrn y.w (ht.k.next (unhide HB y)))
  have PU := hide (fun (y : Sub W.heap.size W) v ts (h : OwnT y.w W.heap.size v ts) (hl : ts.length ≤ 10) => (PA ts v W.heap.size y.w ok h y.h.size (by omega) (hg.later (unhide HB y) hg.lt) (Nat.lt_trans hg.lt xl)).mono (R' := fun r w' => ∃ v', r = .returned v' ∧ OwnT w' W.heap.size v' (ts ++ toksF 6 e) ∧ ∃ z : Sub W.heap.size W, w' = z.w) fun r w' ⟨v', h1, h2, h3, _⟩ => ⟨v', h1, h2, ⟨w', y.h.trans h3⟩, rfl⟩)
  have tle := toks_le ok
  have X1 : (⟨#[69, 40, 82, 41]⟩ : ByteArray).extract 1 2 = ⟨#[40]⟩ := by kernel_rfl
  have X3 : (⟨#[69, 40, 82, 41]⟩ : ByteArray).extract 3 4 = ⟨#[41]⟩ := by kernel_rfl
  have AT : agT ⟨6, (rn : Int), e⟩ = toksF 6 e ++ rnT rn := rfl
  rw [AT]
  unfold rnT
  clear AT ok ht hg hW xc xl hbW hrn PA m6
  generalize toksF 6 e = te at *
  unfold Tk.v Tk.cs at MK RG
  simp only at MK RG
  generalize hrg : rgT rn = rt at *
  obtain ⟨T, hT⟩ : ∃ T, te ++ [mkT 40, rt, mkT 41] = T := ⟨_, rfl⟩
  have HT := hide hT
  rw [hT]
  clear hT hrg
  have l0 : ([] : List Tk).length ≤ 0 := Nat.le_refl 0
  have O0 := hide (ownT_none y0.w W.heap.size)
  go_enter Tryz.func44, Tryz.ntmps44
  go_wp2_with fail
  refine wp_loop_rounds 5 ?_
  rw [rounds_succ]
  go_wp2_with fail
  refine (unhide PU y0 _ _ (unhide O0) (Nat.le_trans l0 (by decide))).mono ?_
  rintro r w1 ⟨v1, rfl, hO, y1, rfl⟩
  obtain ⟨u1, hu⟩ : ∃ u, ([] ++ te) = u := ⟨_, rfl⟩
  rw [hu] at hO
  have l1 := lapp hu l0 tle
  have O1 := hide hO
  have H1 := hide hu
  clear hO hu O0
  go_wp2_with fail
  rw [rounds_succ]
  go_wp2_with fail
  refine (unhide MK ⟨#[40]⟩ y1.w).mono ?_
  rintro r w2 ⟨rfl, hb⟩
  have O2 := hide ((unhide O1).later hb)
  clear O1
  obtain ⟨y2, rfl⟩ := Sub.step (unhide HZ) hb
  clear hb
  obtain ⟨y3, hy3⟩ := Sub.step (unhide HZ) (below_new y2.w (.cells #[.int .i64 4, .int .i64 0, .string ⟨#[40]⟩] 59))
  have S3 := hide (show OwnT y3.w W.heap.size (.slice (some ⟨y2.w.heap.size, 0, none⟩) 1 1) [(Tk.mk 4 0 ⟨#[40]⟩)] by rw [← hy3]; exact ownT_new y2.w (Tk.mk 4 0 ⟨#[40]⟩) W.heap.size (Nat.le_trans (unhide HZ) y2.h.size))
  have O3 := hide (show OwnT y3.w W.heap.size (v1) u1 by rw [← hy3]; exact (unhide O2).later (below_new _ _))
  clear O2
  go_wp2_with (at_builtin; go_must (refine appT rfl _ _ rfl (unhide HZ) y3.h rfl (unhide O3) rfl (unhide S3) (one_ne _) (lsum l1 (one_le _) (by decide)) ?_; intro v4 y4 hO; obtain ⟨u4, hu⟩ : ∃ u, (u1 ++ [(Tk.mk 4 0 ⟨#[40]⟩)]) = u := ⟨_, rfl⟩; rw [hu] at hO; have l4 := lapp hu l1 (one_le _); have O4 := hide hO; have H4 := hide hu; clear hO hu O3 S3))
  rw [rounds_succ]
  go_wp2_with fail
  refine (unhide RG y4).mono ?_
  rintro r w5 ⟨rfl, hb⟩
  have O5 := hide ((unhide O4).later hb)
  clear O4
  obtain ⟨y5, rfl⟩ := Sub.step (unhide HZ) hb
  clear hb
  obtain ⟨y6, hy6⟩ := Sub.step (unhide HZ) (below_new y5.w (.cells #[.int .i64 rt.k, .int .i64 rt.n, .string rt.s] 59))
  have S6 := hide (show OwnT y6.w W.heap.size (.slice (some ⟨y5.w.heap.size, 0, none⟩) 1 1) [rt] by rw [← hy6]; exact ownT_new y5.w rt W.heap.size (Nat.le_trans (unhide HZ) y5.h.size))
  have O6 := hide (show OwnT y6.w W.heap.size (v4) u4 by rw [← hy6]; exact (unhide O5).later (below_new _ _))
  clear O5
  go_wp2_with (at_builtin; go_must (refine appT rfl _ _ rfl (unhide HZ) y6.h rfl (unhide O6) rfl (unhide S6) (one_ne _) (lsum l4 (one_le _) (by decide)) ?_; intro v7 y7 hO; obtain ⟨u7, hu⟩ : ∃ u, (u4 ++ [rt]) = u := ⟨_, rfl⟩; rw [hu] at hO; have l7 := lapp hu l4 (one_le _); have O7 := hide hO; have H7 := hide hu; clear hO hu O6 S6))
  rw [rounds_succ]
  go_wp2_with fail
  refine (unhide MK ⟨#[41]⟩ y7.w).mono ?_
  rintro r w8 ⟨rfl, hb⟩
  have O8 := hide ((unhide O7).later hb)
  clear O7
  obtain ⟨y8, rfl⟩ := Sub.step (unhide HZ) hb
  clear hb
  obtain ⟨y9, hy9⟩ := Sub.step (unhide HZ) (below_new y8.w (.cells #[.int .i64 4, .int .i64 0, .string ⟨#[41]⟩] 59))
  have S9 := hide (show OwnT y9.w W.heap.size (.slice (some ⟨y8.w.heap.size, 0, none⟩) 1 1) [(Tk.mk 4 0 ⟨#[41]⟩)] by rw [← hy9]; exact ownT_new y8.w (Tk.mk 4 0 ⟨#[41]⟩) W.heap.size (Nat.le_trans (unhide HZ) y8.h.size))
  have O9 := hide (show OwnT y9.w W.heap.size (v7) u7 by rw [← hy9]; exact (unhide O8).later (below_new _ _))
  clear O8
  go_wp2_with (at_builtin; go_must (refine appT rfl _ _ rfl (unhide HZ) y9.h rfl (unhide O9) rfl (unhide S9) (one_ne _) (lsum l7 (one_le _) (by decide)) ?_; intro v10 y10 hO; obtain ⟨u10, hu⟩ : ∃ u, (u7 ++ [(Tk.mk 4 0 ⟨#[41]⟩)]) = u := ⟨_, rfl⟩; rw [hu] at hO; have l10 := lapp hu l7 (one_le _); have O10 := hide hO; have H10 := hide hu; clear hO hu O9 S9))
  rw [rounds_succ]
  go_wp2_with fail
  have EQ : u10 = T := by
    rw [← unhide HT]
    rw [← unhide H10, ← unhide H7, ← unhide H4, ← unhide H1]
    simp [mkT, mkS]
  rw [EQ] at O10
  go_ret
  exact ⟨_, rfl, unhide HO y10 _ _ (unhide O10), unhide HB y10⟩
set_option maxHeartbeats 8000000 in
theorem opt_7 (rn : Nat) (hrn : rn < 8) (e : Ex) (ok : okF 6 true e = true) (w : World) (ht : TabA w) (hg : TabG w) : Calls Tryz.prog 44 #[.agg #[tv e, .int .i64 7, .int .i64 (rn : Int)]] w fun r w' => ∃ v, r = .returned v ∧ OwnT w' w.heap.size v (agT ⟨7, (rn : Int), e⟩) ∧ Below w.heap.size w w' := by
  have PA := put_all 6 (by omega) e
  obtain ⟨tt, xx, e1⟩ := tv_if e
  rw [e1] at PA ⊢
  clear e1
  have m6 := mxT_le 6 (by omega)
  have hbW := below_new w (.cells #[(.iface tt xx), .int .i64 7, .int .i64 (rn : Int)] 87)
  obtain ⟨W, hW⟩ : ∃ W, w.alloc (.cells #[(.iface tt xx), .int .i64 7, .int .i64 (rn : Int)] 87) = W := ⟨_, rfl⟩
  have xl : w.heap.size < W.heap.size := by rw [← hW]; simp
  have xc : ∀ (i : Nat) (v : Value), (#[(.iface tt xx), .int .i64 7, .int .i64 (rn : Int)] : Array Value)[i]? = some v → ∀ w1, Below W.heap.size W w1 → w1.cell? ⟨w.heap.size, i, none⟩ = some v := fun i v h w1 hb => (hb.cell (p := ⟨w.heap.size, i, none⟩) xl).trans (by rw [← hW]; exact box17 w _ _ i v h)
  rw [hW] at hbW
  obtain ⟨y0, hy0⟩ : ∃ z : Sub W.heap.size W, w.alloc (.cells #[(.iface tt xx), .int .i64 7, .int .i64 (rn : Int)] 87) = z.w := ⟨⟨W, Below.refl _ _⟩, hW⟩
  have ne := Sub.ne W.heap.size W
  have HZ := hide (Nat.le_refl W.heap.size)
  have HB := hide (fun y : Sub W.heap.size W => hbW.trans (y.h.mono hbW.size))
  have HO := hide (fun (y : Sub W.heap.size W) v ts (h : OwnT y.w W.heap.size v ts) => h.base hbW.size)
  have E0 : ∀ y : Sub W.heap.size W, y.w.cell? ⟨w.heap.size, 0, none⟩ = some (.iface tt xx) := fun y => xc 0 _ rfl y.w y.h
  have E1 : ∀ y : Sub W.heap.size W, y.w.cell? ⟨w.heap.size, 1, none⟩ = some (.int .i64 7) := fun y => xc 1 _ rfl y.w y.h
  have E2 : ∀ y : Sub W.heap.size W, y.w.cell? ⟨w.heap.size, 2, none⟩ = some (.int .i64 (rn : Int)) := fun y => xc 2 _ rfl y.w y.h
  have T0 : ∀ y : Sub W.heap.size W, y.w.cell? ⟨3, 7, none⟩ = some (.string ⟨#[64, 69, 40, 82, 41]⟩) := fun y => (ht.f.next (unhide HB y)).at7
  have MK := hide (fun x w1 => markI_any x w1)
  have RG := hide (fun y : Sub W.heap.size W => regI rn hrn y.w (ht.k.next (unhide HB y)))
  have PU := hide (fun (y : Sub W.heap.size W) v ts (h : OwnT y.w W.heap.size v ts) (hl : ts.length ≤ 10) => (PA ts v W.heap.size y.w ok h y.h.size (by omega) (hg.later (unhide HB y) hg.lt) (Nat.lt_trans hg.lt xl)).mono (R' := fun r w' => ∃ v', r = .returned v' ∧ OwnT w' W.heap.size v' (ts ++ toksF 6 e) ∧ ∃ z : Sub W.heap.size W, w' = z.w) fun r w' ⟨v', h1, h2, h3, _⟩ => ⟨v', h1, h2, ⟨w', y.h.trans h3⟩, rfl⟩)
  have tle := toks_le ok
  have X0 : (⟨#[64, 69, 40, 82, 41]⟩ : ByteArray).extract 0 1 = ⟨#[64]⟩ := by kernel_rfl
  have X2 : (⟨#[64, 69, 40, 82, 41]⟩ : ByteArray).extract 2 3 = ⟨#[40]⟩ := by kernel_rfl
  have X4 : (⟨#[64, 69, 40, 82, 41]⟩ : ByteArray).extract 4 5 = ⟨#[41]⟩ := by kernel_rfl
  have AT : agT ⟨7, (rn : Int), e⟩ = mkT 64 :: (toksF 6 e ++ rnT rn) := rfl
  rw [AT]
  unfold rnT
  clear AT ok ht hg hW xc xl hbW hrn PA m6
  generalize toksF 6 e = te at *
  unfold Tk.v Tk.cs at MK RG
  simp only at MK RG
  generalize hrg : rgT rn = rt at *
  obtain ⟨T, hT⟩ : ∃ T, mkT 64 :: (te ++ [mkT 40, rt, mkT 41]) = T := ⟨_, rfl⟩
  have HT := hide hT
  rw [hT]
  clear hT hrg
  have l0 : ([] : List Tk).length ≤ 0 := Nat.le_refl 0
  have O0 := hide (ownT_none y0.w W.heap.size)
  go_enter Tryz.func44, Tryz.ntmps44
  go_wp2_with fail
  refine wp_loop_rounds 6 ?_
  rw [rounds_succ]
  go_wp2_with fail
  refine (unhide MK ⟨#[64]⟩ y0.w).mono ?_
  rintro r w1 ⟨rfl, hb⟩
  have O1 := hide ((unhide O0).later hb)
  clear O0
  obtain ⟨y1, rfl⟩ := Sub.step (unhide HZ) hb
  clear hb
  obtain ⟨y2, hy2⟩ := Sub.step (unhide HZ) (below_new y1.w (.cells #[.int .i64 4, .int .i64 0, .string ⟨#[64]⟩] 59))
  have S2 := hide (show OwnT y2.w W.heap.size (.slice (some ⟨y1.w.heap.size, 0, none⟩) 1 1) [(Tk.mk 4 0 ⟨#[64]⟩)] by rw [← hy2]; exact ownT_new y1.w (Tk.mk 4 0 ⟨#[64]⟩) W.heap.size (Nat.le_trans (unhide HZ) y1.h.size))
  have O2 := hide (show OwnT y2.w W.heap.size (.slice none 0 0) [] by rw [← hy2]; exact (unhide O1).later (below_new _ _))
  clear O1
  go_wp2_with (at_builtin; go_must (refine appT rfl _ _ rfl (unhide HZ) y2.h rfl (unhide O2) rfl (unhide S2) (one_ne _) (lsum l0 (one_le _) (by decide)) ?_; intro v3 y3 hO; obtain ⟨u3, hu⟩ : ∃ u, ([] ++ [(Tk.mk 4 0 ⟨#[64]⟩)]) = u := ⟨_, rfl⟩; rw [hu] at hO; have l3 := lapp hu l0 (one_le _); have O3 := hide hO; have H3 := hide hu; clear hO hu O2 S2))
  rw [rounds_succ]
  go_wp2_with fail
  refine (unhide PU y3 _ _ (unhide O3) (Nat.le_trans l3 (by decide))).mono ?_
  rintro r w4 ⟨v4, rfl, hO, y4, rfl⟩
  obtain ⟨u4, hu⟩ : ∃ u, (u3 ++ te) = u := ⟨_, rfl⟩
  rw [hu] at hO
  have l4 := lapp hu l3 tle
  have O4 := hide hO
  have H4 := hide hu
  clear hO hu O3
  go_wp2_with fail
  rw [rounds_succ]
  go_wp2_with fail
  refine (unhide MK ⟨#[40]⟩ y4.w).mono ?_
  rintro r w5 ⟨rfl, hb⟩
  have O5 := hide ((unhide O4).later hb)
  clear O4
  obtain ⟨y5, rfl⟩ := Sub.step (unhide HZ) hb
  clear hb
  obtain ⟨y6, hy6⟩ := Sub.step (unhide HZ) (below_new y5.w (.cells #[.int .i64 4, .int .i64 0, .string ⟨#[40]⟩] 59))
  have S6 := hide (show OwnT y6.w W.heap.size (.slice (some ⟨y5.w.heap.size, 0, none⟩) 1 1) [(Tk.mk 4 0 ⟨#[40]⟩)] by rw [← hy6]; exact ownT_new y5.w (Tk.mk 4 0 ⟨#[40]⟩) W.heap.size (Nat.le_trans (unhide HZ) y5.h.size))
  have O6 := hide (show OwnT y6.w W.heap.size (v4) u4 by rw [← hy6]; exact (unhide O5).later (below_new _ _))
  clear O5
  go_wp2_with (at_builtin; go_must (refine appT rfl _ _ rfl (unhide HZ) y6.h rfl (unhide O6) rfl (unhide S6) (one_ne _) (lsum l4 (one_le _) (by decide)) ?_; intro v7 y7 hO; obtain ⟨u7, hu⟩ : ∃ u, (u4 ++ [(Tk.mk 4 0 ⟨#[40]⟩)]) = u := ⟨_, rfl⟩; rw [hu] at hO; have l7 := lapp hu l4 (one_le _); have O7 := hide hO; have H7 := hide hu; clear hO hu O6 S6))
  rw [rounds_succ]
  go_wp2_with fail
  refine (unhide RG y7).mono ?_
  rintro r w8 ⟨rfl, hb⟩
  have O8 := hide ((unhide O7).later hb)
  clear O7
  obtain ⟨y8, rfl⟩ := Sub.step (unhide HZ) hb
  clear hb
  obtain ⟨y9, hy9⟩ := Sub.step (unhide HZ) (below_new y8.w (.cells #[.int .i64 rt.k, .int .i64 rt.n, .string rt.s] 59))
  have S9 := hide (show OwnT y9.w W.heap.size (.slice (some ⟨y8.w.heap.size, 0, none⟩) 1 1) [rt] by rw [← hy9]; exact ownT_new y8.w rt W.heap.size (Nat.le_trans (unhide HZ) y8.h.size))
  have O9 := hide (show OwnT y9.w W.heap.size (v7) u7 by rw [← hy9]; exact (unhide O8).later (below_new _ _))
  clear O8
  go_wp2_with (at_builtin; go_must (refine appT rfl _ _ rfl (unhide HZ) y9.h rfl (unhide O9) rfl (unhide S9) (one_ne _) (lsum l7 (one_le _) (by decide)) ?_; intro v10 y10 hO; obtain ⟨u10, hu⟩ : ∃ u, (u7 ++ [rt]) = u := ⟨_, rfl⟩; rw [hu] at hO; have l10 := lapp hu l7 (one_le _); have O10 := hide hO; have H10 := hide hu; clear hO hu O9 S9))
  rw [rounds_succ]
  go_wp2_with fail
  refine (unhide MK ⟨#[41]⟩ y10.w).mono ?_
  rintro r w11 ⟨rfl, hb⟩
  have O11 := hide ((unhide O10).later hb)
  clear O10
  obtain ⟨y11, rfl⟩ := Sub.step (unhide HZ) hb
  clear hb
  obtain ⟨y12, hy12⟩ := Sub.step (unhide HZ) (below_new y11.w (.cells #[.int .i64 4, .int .i64 0, .string ⟨#[41]⟩] 59))
  have S12 := hide (show OwnT y12.w W.heap.size (.slice (some ⟨y11.w.heap.size, 0, none⟩) 1 1) [(Tk.mk 4 0 ⟨#[41]⟩)] by rw [← hy12]; exact ownT_new y11.w (Tk.mk 4 0 ⟨#[41]⟩) W.heap.size (Nat.le_trans (unhide HZ) y11.h.size))
  have O12 := hide (show OwnT y12.w W.heap.size (v10) u10 by rw [← hy12]; exact (unhide O11).later (below_new _ _))
  clear O11
  go_wp2_with (at_builtin; go_must (refine appT rfl _ _ rfl (unhide HZ) y12.h rfl (unhide O12) rfl (unhide S12) (one_ne _) (lsum l10 (one_le _) (by decide)) ?_; intro v13 y13 hO; obtain ⟨u13, hu⟩ : ∃ u, (u10 ++ [(Tk.mk 4 0 ⟨#[41]⟩)]) = u := ⟨_, rfl⟩; rw [hu] at hO; have l13 := lapp hu l10 (one_le _); have O13 := hide hO; have H13 := hide hu; clear hO hu O12 S12))
  rw [rounds_succ]
  go_wp2_with fail
  have EQ : u13 = T := by
    rw [← unhide HT]
    rw [← unhide H13, ← unhide H10, ← unhide H7, ← unhide H4, ← unhide H3]
    simp [mkT, mkS]
  rw [EQ] at O13
  go_ret
  exact ⟨_, rfl, unhide HO y13 _ _ (unhide O13), unhide HB y13⟩
set_option maxHeartbeats 8000000 in
theorem opt_8 (rn : Nat) (hrn : rn < 8) (e : Ex) (ok : okF 6 true e = true) (w : World) (ht : TabA w) (hg : TabG w) : Calls Tryz.prog 44 #[.agg #[tv e, .int .i64 8, .int .i64 (rn : Int)]] w fun r w' => ∃ v, r = .returned v ∧ OwnT w' w.heap.size v (agT ⟨8, (rn : Int), e⟩) ∧ Below w.heap.size w w' := by
  have PA := put_all 6 (by omega) e
  obtain ⟨tt, xx, e1⟩ := tv_if e
  rw [e1] at PA ⊢
  clear e1
  have m6 := mxT_le 6 (by omega)
  have hbW := below_new w (.cells #[(.iface tt xx), .int .i64 8, .int .i64 (rn : Int)] 87)
  obtain ⟨W, hW⟩ : ∃ W, w.alloc (.cells #[(.iface tt xx), .int .i64 8, .int .i64 (rn : Int)] 87) = W := ⟨_, rfl⟩
  have xl : w.heap.size < W.heap.size := by rw [← hW]; simp
  have xc : ∀ (i : Nat) (v : Value), (#[(.iface tt xx), .int .i64 8, .int .i64 (rn : Int)] : Array Value)[i]? = some v → ∀ w1, Below W.heap.size W w1 → w1.cell? ⟨w.heap.size, i, none⟩ = some v := fun i v h w1 hb => (hb.cell (p := ⟨w.heap.size, i, none⟩) xl).trans (by rw [← hW]; exact box17 w _ _ i v h)
  rw [hW] at hbW
  obtain ⟨y0, hy0⟩ : ∃ z : Sub W.heap.size W, w.alloc (.cells #[(.iface tt xx), .int .i64 8, .int .i64 (rn : Int)] 87) = z.w := ⟨⟨W, Below.refl _ _⟩, hW⟩
  have ne := Sub.ne W.heap.size W
  have HZ := hide (Nat.le_refl W.heap.size)
  have HB := hide (fun y : Sub W.heap.size W => hbW.trans (y.h.mono hbW.size))
  have HO := hide (fun (y : Sub W.heap.size W) v ts (h : OwnT y.w W.heap.size v ts) => h.base hbW.size)
  have E0 : ∀ y : Sub W.heap.size W, y.w.cell? ⟨w.heap.size, 0, none⟩ = some (.iface tt xx) := fun y => xc 0 _ rfl y.w y.h
  have E1 : ∀ y : Sub W.heap.size W, y.w.cell? ⟨w.heap.size, 1, none⟩ = some (.int .i64 8) := fun y => xc 1 _ rfl y.w y.h
  have E2 : ∀ y : Sub W.heap.size W, y.w.cell? ⟨w.heap.size, 2, none⟩ = some (.int .i64 (rn : Int)) := fun y => xc 2 _ rfl y.w y.h
  have T0 : ∀ y : Sub W.heap.size W, y.w.cell? ⟨3, 8, none⟩ = some (.string ⟨#[35, 69]⟩) := fun y => (ht.f.next (unhide HB y)).at8
  have MK := hide (fun x w1 => markI_any x w1)
  have RG := hide (fun y : Sub W.heap.size W => regI rn hrn y.w (ht.k.next (unhide HB y)))
  have PU := hide (fun (y : Sub W.heap.size W) v ts (h : OwnT y.w W.heap.size v ts) (hl : ts.length ≤ 10) => (PA ts v W.heap.size y.w ok h y.h.size (by omega) (hg.later (unhide HB y) hg.lt) (Nat.lt_trans hg.lt xl)).mono (R' := fun r w' => ∃ v', r = .returned v' ∧ OwnT w' W.heap.size v' (ts ++ toksF 6 e) ∧ ∃ z : Sub W.heap.size W, w' = z.w) fun r w' ⟨v', h1, h2, h3, _⟩ => ⟨v', h1, h2, ⟨w', y.h.trans h3⟩, rfl⟩)
  have tle := toks_le ok
  have X0 : (⟨#[35, 69]⟩ : ByteArray).extract 0 1 = ⟨#[35]⟩ := by kernel_rfl
  have AT : agT ⟨8, (rn : Int), e⟩ = mkT 35 :: toksF 6 e := rfl
  rw [AT]
  clear AT ok ht hg hW xc xl hbW hrn PA m6
  generalize toksF 6 e = te at *
  unfold Tk.v Tk.cs at MK RG
  simp only at MK RG
  generalize hrg : rgT rn = rt at *
  obtain ⟨T, hT⟩ : ∃ T, mkT 35 :: te = T := ⟨_, rfl⟩
  have HT := hide hT
  rw [hT]
  clear hT hrg
  have l0 : ([] : List Tk).length ≤ 0 := Nat.le_refl 0
  have O0 := hide (ownT_none y0.w W.heap.size)
  go_enter Tryz.func44, Tryz.ntmps44
  go_wp2_with fail
  refine wp_loop_rounds 3 ?_
  rw [rounds_succ]
  go_wp2_with fail
  refine (unhide MK ⟨#[35]⟩ y0.w).mono ?_
  rintro r w1 ⟨rfl, hb⟩
  have O1 := hide ((unhide O0).later hb)
  clear O0
  obtain ⟨y1, rfl⟩ := Sub.step (unhide HZ) hb
  clear hb
  obtain ⟨y2, hy2⟩ := Sub.step (unhide HZ) (below_new y1.w (.cells #[.int .i64 4, .int .i64 0, .string ⟨#[35]⟩] 59))
  have S2 := hide (show OwnT y2.w W.heap.size (.slice (some ⟨y1.w.heap.size, 0, none⟩) 1 1) [(Tk.mk 4 0 ⟨#[35]⟩)] by rw [← hy2]; exact ownT_new y1.w (Tk.mk 4 0 ⟨#[35]⟩) W.heap.size (Nat.le_trans (unhide HZ) y1.h.size))
  have O2 := hide (show OwnT y2.w W.heap.size (.slice none 0 0) [] by rw [← hy2]; exact (unhide O1).later (below_new _ _))
  clear O1
  go_wp2_with (at_builtin; go_must (refine appT rfl _ _ rfl (unhide HZ) y2.h rfl (unhide O2) rfl (unhide S2) (one_ne _) (lsum l0 (one_le _) (by decide)) ?_; intro v3 y3 hO; obtain ⟨u3, hu⟩ : ∃ u, ([] ++ [(Tk.mk 4 0 ⟨#[35]⟩)]) = u := ⟨_, rfl⟩; rw [hu] at hO; have l3 := lapp hu l0 (one_le _); have O3 := hide hO; have H3 := hide hu; clear hO hu O2 S2))
  rw [rounds_succ]
  go_wp2_with fail
  refine (unhide PU y3 _ _ (unhide O3) (Nat.le_trans l3 (by decide))).mono ?_
  rintro r w4 ⟨v4, rfl, hO, y4, rfl⟩
  obtain ⟨u4, hu⟩ : ∃ u, (u3 ++ te) = u := ⟨_, rfl⟩
  rw [hu] at hO
  have l4 := lapp hu l3 tle
  have O4 := hide hO
  have H4 := hide hu
  clear hO hu O3
  go_wp2_with fail
  rw [rounds_succ]
  go_wp2_with fail
  have EQ : u4 = T := by
    rw [← unhide HT]
    rw [← unhide H4, ← unhide H3]
    simp [mkT, mkS]
  rw [EQ] at O4
  go_ret
  exact ⟨_, rfl, unhide HO y4 _ _ (unhide O4), unhide HB y4⟩
set_option maxHeartbeats 8000000 in
theorem opt_9 (rn : Nat) (hrn : rn < 8) (e : Ex) (ok : okF 6 true e = true) (w : World) (ht : TabA w) (hg : TabG w) : Calls Tryz.prog 44 #[.agg #[tv e, .int .i64 9, .int .i64 (rn : Int)]] w fun r w' => ∃ v, r = .returned v ∧ OwnT w' w.heap.size v (agT ⟨9, (rn : Int), e⟩) ∧ Below w.heap.size w w' := by
  have PA := put_all 6 (by omega) e
  obtain ⟨tt, xx, e1⟩ := tv_if e
  rw [e1] at PA ⊢
  clear e1
  have m6 := mxT_le 6 (by omega)
  have hbW := below_new w (.cells #[(.iface tt xx), .int .i64 9, .int .i64 (rn : Int)] 87)
  obtain ⟨W, hW⟩ : ∃ W, w.alloc (.cells #[(.iface tt xx), .int .i64 9, .int .i64 (rn : Int)] 87) = W := ⟨_, rfl⟩
  have xl : w.heap.size < W.heap.size := by rw [← hW]; simp
  have xc : ∀ (i : Nat) (v : Value), (#[(.iface tt xx), .int .i64 9, .int .i64 (rn : Int)] : Array Value)[i]? = some v → ∀ w1, Below W.heap.size W w1 → w1.cell? ⟨w.heap.size, i, none⟩ = some v := fun i v h w1 hb => (hb.cell (p := ⟨w.heap.size, i, none⟩) xl).trans (by rw [← hW]; exact box17 w _ _ i v h)
  rw [hW] at hbW
  obtain ⟨y0, hy0⟩ : ∃ z : Sub W.heap.size W, w.alloc (.cells #[(.iface tt xx), .int .i64 9, .int .i64 (rn : Int)] 87) = z.w := ⟨⟨W, Below.refl _ _⟩, hW⟩
  have ne := Sub.ne W.heap.size W
  have HZ := hide (Nat.le_refl W.heap.size)
  have HB := hide (fun y : Sub W.heap.size W => hbW.trans (y.h.mono hbW.size))
  have HO := hide (fun (y : Sub W.heap.size W) v ts (h : OwnT y.w W.heap.size v ts) => h.base hbW.size)
  have E0 : ∀ y : Sub W.heap.size W, y.w.cell? ⟨w.heap.size, 0, none⟩ = some (.iface tt xx) := fun y => xc 0 _ rfl y.w y.h
  have E1 : ∀ y : Sub W.heap.size W, y.w.cell? ⟨w.heap.size, 1, none⟩ = some (.int .i64 9) := fun y => xc 1 _ rfl y.w y.h
  have E2 : ∀ y : Sub W.heap.size W, y.w.cell? ⟨w.heap.size, 2, none⟩ = some (.int .i64 (rn : Int)) := fun y => xc 2 _ rfl y.w y.h
  have T0 : ∀ y : Sub W.heap.size W, y.w.cell? ⟨3, 9, none⟩ = some (.string ⟨#[64, 35, 69]⟩) := fun y => (ht.f.next (unhide HB y)).at9
  have MK := hide (fun x w1 => markI_any x w1)
  have RG := hide (fun y : Sub W.heap.size W => regI rn hrn y.w (ht.k.next (unhide HB y)))
  have PU := hide (fun (y : Sub W.heap.size W) v ts (h : OwnT y.w W.heap.size v ts) (hl : ts.length ≤ 10) => (PA ts v W.heap.size y.w ok h y.h.size (by omega) (hg.later (unhide HB y) hg.lt) (Nat.lt_trans hg.lt xl)).mono (R' := fun r w' => ∃ v', r = .returned v' ∧ OwnT w' W.heap.size v' (ts ++ toksF 6 e) ∧ ∃ z : Sub W.heap.size W, w' = z.w) fun r w' ⟨v', h1, h2, h3, _⟩ => ⟨v', h1, h2, ⟨w', y.h.trans h3⟩, rfl⟩)
  have tle := toks_le ok
  have X0 : (⟨#[64, 35, 69]⟩ : ByteArray).extract 0 1 = ⟨#[64]⟩ := by kernel_rfl
  have X1 : (⟨#[64, 35, 69]⟩ : ByteArray).extract 1 2 = ⟨#[35]⟩ := by kernel_rfl
  have AT : agT ⟨9, (rn : Int), e⟩ = mkT 64 :: mkT 35 :: toksF 6 e := rfl
  rw [AT]
  clear AT ok ht hg hW xc xl hbW hrn PA m6
  generalize toksF 6 e = te at *
  unfold Tk.v Tk.cs at MK RG
  simp only at MK RG
  generalize hrg : rgT rn = rt at *
  obtain ⟨T, hT⟩ : ∃ T, mkT 64 :: mkT 35 :: te = T := ⟨_, rfl⟩
  have HT := hide hT
  rw [hT]
  clear hT hrg
  have l0 : ([] : List Tk).length ≤ 0 := Nat.le_refl 0
  have O0 := hide (ownT_none y0.w W.heap.size)
  go_enter Tryz.func44, Tryz.ntmps44
  go_wp2_with fail
  refine wp_loop_rounds 4 ?_
  rw [rounds_succ]
  go_wp2_with fail
  refine (unhide MK ⟨#[64]⟩ y0.w).mono ?_
  rintro r w1 ⟨rfl, hb⟩
  have O1 := hide ((unhide O0).later hb)
  clear O0
  obtain ⟨y1, rfl⟩ := Sub.step (unhide HZ) hb
  clear hb
  obtain ⟨y2, hy2⟩ := Sub.step (unhide HZ) (below_new y1.w (.cells #[.int .i64 4, .int .i64 0, .string ⟨#[64]⟩] 59))
  have S2 := hide (show OwnT y2.w W.heap.size (.slice (some ⟨y1.w.heap.size, 0, none⟩) 1 1) [(Tk.mk 4 0 ⟨#[64]⟩)] by rw [← hy2]; exact ownT_new y1.w (Tk.mk 4 0 ⟨#[64]⟩) W.heap.size (Nat.le_trans (unhide HZ) y1.h.size))
  have O2 := hide (show OwnT y2.w W.heap.size (.slice none 0 0) [] by rw [← hy2]; exact (unhide O1).later (below_new _ _))
  clear O1
  go_wp2_with (at_builtin; go_must (refine appT rfl _ _ rfl (unhide HZ) y2.h rfl (unhide O2) rfl (unhide S2) (one_ne _) (lsum l0 (one_le _) (by decide)) ?_; intro v3 y3 hO; obtain ⟨u3, hu⟩ : ∃ u, ([] ++ [(Tk.mk 4 0 ⟨#[64]⟩)]) = u := ⟨_, rfl⟩; rw [hu] at hO; have l3 := lapp hu l0 (one_le _); have O3 := hide hO; have H3 := hide hu; clear hO hu O2 S2))
  rw [rounds_succ]
  go_wp2_with fail
  refine (unhide MK ⟨#[35]⟩ y3.w).mono ?_
  rintro r w4 ⟨rfl, hb⟩
  have O4 := hide ((unhide O3).later hb)
  clear O3
  obtain ⟨y4, rfl⟩ := Sub.step (unhide HZ) hb
  clear hb
  obtain ⟨y5, hy5⟩ := Sub.step (unhide HZ) (below_new y4.w (.cells #[.int .i64 4, .int .i64 0, .string ⟨#[35]⟩] 59))
  have S5 := hide (show OwnT y5.w W.heap.size (.slice (some ⟨y4.w.heap.size, 0, none⟩) 1 1) [(Tk.mk 4 0 ⟨#[35]⟩)] by rw [← hy5]; exact ownT_new y4.w (Tk.mk 4 0 ⟨#[35]⟩) W.heap.size (Nat.le_trans (unhide HZ) y4.h.size))
  have O5 := hide (show OwnT y5.w W.heap.size (v3) u3 by rw [← hy5]; exact (unhide O4).later (below_new _ _))
  clear O4
  go_wp2_with (at_builtin; go_must (refine appT rfl _ _ rfl (unhide HZ) y5.h rfl (unhide O5) rfl (unhide S5) (one_ne _) (lsum l3 (one_le _) (by decide)) ?_; intro v6 y6 hO; obtain ⟨u6, hu⟩ : ∃ u, (u3 ++ [(Tk.mk 4 0 ⟨#[35]⟩)]) = u := ⟨_, rfl⟩; rw [hu] at hO; have l6 := lapp hu l3 (one_le _); have O6 := hide hO; have H6 := hide hu; clear hO hu O5 S5))
  rw [rounds_succ]
  go_wp2_with fail
  refine (unhide PU y6 _ _ (unhide O6) (Nat.le_trans l6 (by decide))).mono ?_
  rintro r w7 ⟨v7, rfl, hO, y7, rfl⟩
  obtain ⟨u7, hu⟩ : ∃ u, (u6 ++ te) = u := ⟨_, rfl⟩
  rw [hu] at hO
  have l7 := lapp hu l6 tle
  have O7 := hide hO
  have H7 := hide hu
  clear hO hu O6
  go_wp2_with fail
  rw [rounds_succ]
  go_wp2_with fail
  have EQ : u7 = T := by
    rw [← unhide HT]
    rw [← unhide H7, ← unhide H6, ← unhide H3]
    simp [mkT, mkS]
  rw [EQ] at O7
  go_ret
  exact ⟨_, rfl, unhide HO y7 _ _ (unhide O7), unhide HB y7⟩
set_option maxHeartbeats 8000000 in
theorem opt_10 (rn : Nat) (hrn : rn < 8) (e : Ex) (ok : okF 6 true e = true) (w : World) (ht : TabA w) (hg : TabG w) : Calls Tryz.prog 44 #[.agg #[tv e, .int .i64 10, .int .i64 (rn : Int)]] w fun r w' => ∃ v, r = .returned v ∧ OwnT w' w.heap.size v (agT ⟨10, (rn : Int), e⟩) ∧ Below w.heap.size w w' := by
  have PA := put_all 6 (by omega) e
  obtain ⟨tt, xx, e1⟩ := tv_if e
  rw [e1] at PA ⊢
  clear e1
  have m6 := mxT_le 6 (by omega)
  have hbW := below_new w (.cells #[(.iface tt xx), .int .i64 10, .int .i64 (rn : Int)] 87)
  obtain ⟨W, hW⟩ : ∃ W, w.alloc (.cells #[(.iface tt xx), .int .i64 10, .int .i64 (rn : Int)] 87) = W := ⟨_, rfl⟩
  have xl : w.heap.size < W.heap.size := by rw [← hW]; simp
  have xc : ∀ (i : Nat) (v : Value), (#[(.iface tt xx), .int .i64 10, .int .i64 (rn : Int)] : Array Value)[i]? = some v → ∀ w1, Below W.heap.size W w1 → w1.cell? ⟨w.heap.size, i, none⟩ = some v := fun i v h w1 hb => (hb.cell (p := ⟨w.heap.size, i, none⟩) xl).trans (by rw [← hW]; exact box17 w _ _ i v h)
  rw [hW] at hbW
  obtain ⟨y0, hy0⟩ : ∃ z : Sub W.heap.size W, w.alloc (.cells #[(.iface tt xx), .int .i64 10, .int .i64 (rn : Int)] 87) = z.w := ⟨⟨W, Below.refl _ _⟩, hW⟩
  have ne := Sub.ne W.heap.size W
  have HZ := hide (Nat.le_refl W.heap.size)
  have HB := hide (fun y : Sub W.heap.size W => hbW.trans (y.h.mono hbW.size))
  have HO := hide (fun (y : Sub W.heap.size W) v ts (h : OwnT y.w W.heap.size v ts) => h.base hbW.size)
  have E0 : ∀ y : Sub W.heap.size W, y.w.cell? ⟨w.heap.size, 0, none⟩ = some (.iface tt xx) := fun y => xc 0 _ rfl y.w y.h
  have E1 : ∀ y : Sub W.heap.size W, y.w.cell? ⟨w.heap.size, 1, none⟩ = some (.int .i64 10) := fun y => xc 1 _ rfl y.w y.h
  have E2 : ∀ y : Sub W.heap.size W, y.w.cell? ⟨w.heap.size, 2, none⟩ = some (.int .i64 (rn : Int)) := fun y => xc 2 _ rfl y.w y.h
  have T0 : ∀ y : Sub W.heap.size W, y.w.cell? ⟨3, 10, none⟩ = some (.string ⟨#[69]⟩) := fun y => (ht.f.next (unhide HB y)).at10
  have MK := hide (fun x w1 => markI_any x w1)
  have RG := hide (fun y : Sub W.heap.size W => regI rn hrn y.w (ht.k.next (unhide HB y)))
  have PU := hide (fun (y : Sub W.heap.size W) v ts (h : OwnT y.w W.heap.size v ts) (hl : ts.length ≤ 10) => (PA ts v W.heap.size y.w ok h y.h.size (by omega) (hg.later (unhide HB y) hg.lt) (Nat.lt_trans hg.lt xl)).mono (R' := fun r w' => ∃ v', r = .returned v' ∧ OwnT w' W.heap.size v' (ts ++ toksF 6 e) ∧ ∃ z : Sub W.heap.size W, w' = z.w) fun r w' ⟨v', h1, h2, h3, _⟩ => ⟨v', h1, h2, ⟨w', y.h.trans h3⟩, rfl⟩)
  have tle := toks_le ok
  have AT : agT ⟨10, (rn : Int), e⟩ = toksF 6 e := rfl
  rw [AT]
  clear AT ok ht hg hW xc xl hbW hrn PA m6
  generalize toksF 6 e = te at *
  unfold Tk.v Tk.cs at MK RG
  simp only at MK RG
  generalize hrg : rgT rn = rt at *
  obtain ⟨T, hT⟩ : ∃ T, te = T := ⟨_, rfl⟩
  have HT := hide hT
  rw [hT]
  clear hT hrg
  have l0 : ([] : List Tk).length ≤ 0 := Nat.le_refl 0
  have O0 := hide (ownT_none y0.w W.heap.size)
  go_enter Tryz.func44, Tryz.ntmps44
  go_wp2_with fail
  refine wp_loop_rounds 2 ?_
  rw [rounds_succ]
  go_wp2_with fail
  refine (unhide PU y0 _ _ (unhide O0) (Nat.le_trans l0 (by decide))).mono ?_
  rintro r w1 ⟨v1, rfl, hO, y1, rfl⟩
  obtain ⟨u1, hu⟩ : ∃ u, ([] ++ te) = u := ⟨_, rfl⟩
  rw [hu] at hO
  have l1 := lapp hu l0 tle
  have O1 := hide hO
  have H1 := hide hu
  clear hO hu O0
  go_wp2_with fail
  rw [rounds_succ]
  go_wp2_with fail
  have EQ : u1 = T := by
    rw [← unhide HT]
    rw [← unhide H1]
    simp [mkT, mkS]
  rw [EQ] at O1
  go_ret
  exact ⟨_, rfl, unhide HO y1 _ _ (unhide O1), unhide HB y1⟩
set_option maxHeartbeats 8000000 in
theorem opt_11 (rn : Nat) (hrn : rn < 8) (e : Ex) (ok : okF 6 true e = true) (w : World) (ht : TabA w) (hg : TabG w) : Calls Tryz.prog 44 #[.agg #[tv e, .int .i64 11, .int .i64 (rn : Int)]] w fun r w' => ∃ v, r = .returned v ∧ OwnT w' w.heap.size v (agT ⟨11, (rn : Int), e⟩) ∧ Below w.heap.size w w' := by
  have PA := put_all 6 (by omega) e
  obtain ⟨tt, xx, e1⟩ := tv_if e
  rw [e1] at PA ⊢
  clear e1
  have m6 := mxT_le 6 (by omega)
  have hbW := below_new w (.cells #[(.iface tt xx), .int .i64 11, .int .i64 (rn : Int)] 87)
  obtain ⟨W, hW⟩ : ∃ W, w.alloc (.cells #[(.iface tt xx), .int .i64 11, .int .i64 (rn : Int)] 87) = W := ⟨_, rfl⟩
  have xl : w.heap.size < W.heap.size := by rw [← hW]; simp
  have xc : ∀ (i : Nat) (v : Value), (#[(.iface tt xx), .int .i64 11, .int .i64 (rn : Int)] : Array Value)[i]? = some v → ∀ w1, Below W.heap.size W w1 → w1.cell? ⟨w.heap.size, i, none⟩ = some v := fun i v h w1 hb => (hb.cell (p := ⟨w.heap.size, i, none⟩) xl).trans (by rw [← hW]; exact box17 w _ _ i v h)
  rw [hW] at hbW
  obtain ⟨y0, hy0⟩ : ∃ z : Sub W.heap.size W, w.alloc (.cells #[(.iface tt xx), .int .i64 11, .int .i64 (rn : Int)] 87) = z.w := ⟨⟨W, Below.refl _ _⟩, hW⟩
  have ne := Sub.ne W.heap.size W
  have HZ := hide (Nat.le_refl W.heap.size)
  have HB := hide (fun y : Sub W.heap.size W => hbW.trans (y.h.mono hbW.size))
  have HO := hide (fun (y : Sub W.heap.size W) v ts (h : OwnT y.w W.heap.size v ts) => h.base hbW.size)
  have E0 : ∀ y : Sub W.heap.size W, y.w.cell? ⟨w.heap.size, 0, none⟩ = some (.iface tt xx) := fun y => xc 0 _ rfl y.w y.h
  have E1 : ∀ y : Sub W.heap.size W, y.w.cell? ⟨w.heap.size, 1, none⟩ = some (.int .i64 11) := fun y => xc 1 _ rfl y.w y.h
  have E2 : ∀ y : Sub W.heap.size W, y.w.cell? ⟨w.heap.size, 2, none⟩ = some (.int .i64 (rn : Int)) := fun y => xc 2 _ rfl y.w y.h
  have T0 : ∀ y : Sub W.heap.size W, y.w.cell? ⟨3, 11, none⟩ = some (.string ⟨#[64, 69]⟩) := fun y => (ht.f.next (unhide HB y)).at11
  have MK := hide (fun x w1 => markI_any x w1)
  have RG := hide (fun y : Sub W.heap.size W => regI rn hrn y.w (ht.k.next (unhide HB y)))
  have PU := hide (fun (y : Sub W.heap.size W) v ts (h : OwnT y.w W.heap.size v ts) (hl : ts.length ≤ 10) => (PA ts v W.heap.size y.w ok h y.h.size (by omega) (hg.later (unhide HB y) hg.lt) (Nat.lt_trans hg.lt xl)).mono (R' := fun r w' => ∃ v', r = .returned v' ∧ OwnT w' W.heap.size v' (ts ++ toksF 6 e) ∧ ∃ z : Sub W.heap.size W, w' = z.w) fun r w' ⟨v', h1, h2, h3, _⟩ => ⟨v', h1, h2, ⟨w', y.h.trans h3⟩, rfl⟩)
  have tle := toks_le ok
  have X0 : (⟨#[64, 69]⟩ : ByteArray).extract 0 1 = ⟨#[64]⟩ := by kernel_rfl
  have AT : agT ⟨11, (rn : Int), e⟩ = mkT 64 :: toksF 6 e := rfl
  rw [AT]
  clear AT ok ht hg hW xc xl hbW hrn PA m6
  generalize toksF 6 e = te at *
  unfold Tk.v Tk.cs at MK RG
  simp only at MK RG
  generalize hrg : rgT rn = rt at *
  obtain ⟨T, hT⟩ : ∃ T, mkT 64 :: te = T := ⟨_, rfl⟩
  have HT := hide hT
  rw [hT]
  clear hT hrg
  have l0 : ([] : List Tk).length ≤ 0 := Nat.le_refl 0
  have O0 := hide (ownT_none y0.w W.heap.size)
  go_enter Tryz.func44, Tryz.ntmps44
  go_wp2_with fail
  refine wp_loop_rounds 3 ?_
  rw [rounds_succ]
  go_wp2_with fail
  refine (unhide MK ⟨#[64]⟩ y0.w).mono ?_
  rintro r w1 ⟨rfl, hb⟩
  have O1 := hide ((unhide O0).later hb)
  clear O0
  obtain ⟨y1, rfl⟩ := Sub.step (unhide HZ) hb
  clear hb
  obtain ⟨y2, hy2⟩ := Sub.step (unhide HZ) (below_new y1.w (.cells #[.int .i64 4, .int .i64 0, .string ⟨#[64]⟩] 59))
  have S2 := hide (show OwnT y2.w W.heap.size (.slice (some ⟨y1.w.heap.size, 0, none⟩) 1 1) [(Tk.mk 4 0 ⟨#[64]⟩)] by rw [← hy2]; exact ownT_new y1.w (Tk.mk 4 0 ⟨#[64]⟩) W.heap.size (Nat.le_trans (unhide HZ) y1.h.size))
  have O2 := hide (show OwnT y2.w W.heap.size (.slice none 0 0) [] by rw [← hy2]; exact (unhide O1).later (below_new _ _))
  clear O1
  go_wp2_with (at_builtin; go_must (refine appT rfl _ _ rfl (unhide HZ) y2.h rfl (unhide O2) rfl (unhide S2) (one_ne _) (lsum l0 (one_le _) (by decide)) ?_; intro v3 y3 hO; obtain ⟨u3, hu⟩ : ∃ u, ([] ++ [(Tk.mk 4 0 ⟨#[64]⟩)]) = u := ⟨_, rfl⟩; rw [hu] at hO; have l3 := lapp hu l0 (one_le _); have O3 := hide hO; have H3 := hide hu; clear hO hu O2 S2))
  rw [rounds_succ]
  go_wp2_with fail
  refine (unhide PU y3 _ _ (unhide O3) (Nat.le_trans l3 (by decide))).mono ?_
  rintro r w4 ⟨v4, rfl, hO, y4, rfl⟩
  obtain ⟨u4, hu⟩ : ∃ u, (u3 ++ te) = u := ⟨_, rfl⟩
  rw [hu] at hO
  have l4 := lapp hu l3 tle
  have O4 := hide hO
  have H4 := hide hu
  clear hO hu O3
  go_wp2_with fail
  rw [rounds_succ]
  go_wp2_with fail
  have EQ : u4 = T := by
    rw [← unhide HT]
    rw [← unhide H4, ← unhide H3]
    simp [mkT, mkS]
  rw [EQ] at O4
  go_ret
  exact ⟨_, rfl, unhide HO y4 _ _ (unhide O4), unhide HB y4⟩
theorem agX_rg {a : Ag} (ok : agX a = true) : 0 ≤ a.r ∧ a.r ≤ 7 := by
  unfold agX at ok
  split at ok
  · rw [Bool.and_eq_true] at ok; exact (inB_iff _ _ _).1 ok.1
  split at ok
  · rw [Bool.and_eq_true] at ok; exact (inB_iff _ _ _).1 ok.1
  split at ok
  · rw [Bool.and_eq_true] at ok; have := beq_iff_eq.1 ok.1; omega
  · cases ok
theorem opt_any (a : Ag) (ok : agX a = true) (w : World) (ht : TabA w) (hg : TabG w) : Calls Tryz.prog 44 #[.agg #[opU a, .int .i64 a.f, .int .i64 a.r]] w fun r w' => ∃ v, r = .returned v ∧ OwnT w' w.heap.size v (agT a) ∧ Below w.heap.size w w' := by
  have hf := agX_f ok
  have hr := agX_rg ok
  obtain ⟨f, r, e⟩ := a
  obtain ⟨rn, rfl⟩ : ∃ rn : Nat, r = (rn : Int) := ⟨r.toNat, (Int.toNat_of_nonneg hr.1).symm⟩
  have hrn : rn < 8 := by have := hr.2; simp only at this; omega
  have : f = 0 ∨ f = 1 ∨ f = 2 ∨ f = 3 ∨ f = 4 ∨ f = 5 ∨ f = 6 ∨ f = 7 ∨ f = 8 ∨ f = 9 ∨ f = 10 ∨ f = 11 := by simp only at hf; omega
  rcases this with rfl | rfl | rfl | rfl | rfl | rfl | rfl | rfl | rfl | rfl | rfl | rfl
  · exact opt_0 rn hrn e trivial w ht hg
  · exact opt_1 rn hrn e trivial w ht hg
  · exact opt_2 rn hrn e trivial w ht hg
  · exact opt_3 rn hrn e trivial w ht hg
  · exact opt_4 rn hrn e trivial w ht hg
  · exact opt_5 rn hrn e trivial w ht hg
  · exact opt_6 rn hrn e (agX_e ok (by simp)) w ht hg
  · exact opt_7 rn hrn e (agX_e ok (by simp)) w ht hg
  · exact opt_8 rn hrn e (agX_e ok (by simp)) w ht hg
  · exact opt_9 rn hrn e (agX_e ok (by simp)) w ht hg
  · exact opt_10 rn hrn e (agX_e ok (by simp)) w ht hg
  · exact opt_11 rn hrn e (agX_e ok (by simp)) w ht hg
end Go.Proofs.YtmhcbehplhfgfaaGreatDoor

namespace Go.Proofs.YtmhcbehplhfgfaaGreatDoor
open Go.ChangeShapes Go.WideShapes Go.ChangeAt Go.RowKit
set_option linter.unusedVariables false
set_option maxRecDepth 8000
set_option linter.unusedSimpArgs false
theorem ln_f {x : Ln} (ok : lnX x = true) : (x.k = 3 ∧ 1 ≤ x.op ∧ x.op ≤ 23) ∨ (x.k ≠ 3 ∧ x.op = 0 ∧ 0 ≤ x.k ∧ x.k ≤ 8) := by
  rw [← st_eq] at ok
  unfold stX at ok
  rw [Bool.and_eq_true] at ok
  have h := ok.1
  unfold shB at h
  by_cases h3 : x.k = 3
  · rw [if_pos h3] at h
    exact .inl ⟨h3, (inB_iff _ _ _).1 h⟩
  · rw [if_neg h3] at h
    by_cases h0 : x.op = 0
    · rw [if_pos h0] at h
      exact .inr ⟨h3, h0, (inB_iff _ _ _).1 h⟩
    · rw [if_neg h0] at h
      cases h
theorem ln_nm {x : Ln} (ok : lnX x = true) (h : x.k = 1 ∨ x.k = 2 ∨ x.k = 6) : nameB x.s = true := by
  have hf := ln_f ok
  rw [← st_eq] at ok
  unfold stX at ok
  simp only [Bool.and_eq_true] at ok
  have h1 := ok.2.1
  have ho : x.op = 0 := by omega
  rw [ho] at h1
  rcases h with h | h | h <;> (rw [h] at h1; exact h1)
theorem ln_rg {x : Ln} (ok : lnX x = true) (h : regB x.op = true) : 0 ≤ x.n ∧ x.n ≤ 7 := by
  have hf := ln_f ok
  rw [← st_eq] at ok
  unfold stX at ok
  simp only [Bool.and_eq_true] at ok
  have h1 := ok.2.2.1
  have h0 : x.op ≠ 0 := by intro h0; rw [h0] at h; cases h
  have h3 : x.k = 3 := by omega
  have hg : (shX x.k x.op).gn = 7 := by unfold shX; rw [if_pos h3, h]; rfl
  rw [hg] at h1
  exact (inB_iff _ _ _).1 h1
theorem name_word {s : ByteArray} (h : nameB s = true) : wordT s = ⟨1, 0, s⟩ := by
  unfold wordT
  rw [if_neg]
  intro hk
  unfold nameB at h
  rw [hk] at h
  simp at h
theorem ovr_word : wordT ovrS = ⟨1, 0, ovrS⟩ := by
  unfold wordT
  rw [if_neg (by decide +kernel)]
def dotC : Array Value := (dotL.map Value.string).toArray
def TabD (w : World) : Prop := ∃ t fr, w.heap[1]? = some (.cells dotC t fr)
theorem TabD.lt {w : World} (h : TabD w) : 1 < w.heap.size := by obtain ⟨t, fr, h⟩ := h; exact (Array.getElem?_eq_some_iff.1 h).1
theorem TabD.later {w w' : World} {B : Nat} (h : TabD w) (hb : Below B w w') (hB : 1 < B) : TabD w' := by
  obtain ⟨t, fr, h⟩ := h
  exact ⟨t, fr, (hb.block _ hB).trans h⟩
theorem TabD.next {w w' : World} (h : TabD w) (hb : Below w.heap.size w w') : TabD w' := h.later hb h.lt
theorem TabD.at4 {w : World} (h : TabD w) : w.cell? ⟨1, 4, none⟩ = some (.string ⟨#[46, 119, 111, 114, 100]⟩) := by obtain ⟨t, fr, h⟩ := h; exact Lib.cell_of_heap h 4
theorem TabD.at5 {w : World} (h : TabD w) : w.cell? ⟨1, 5, none⟩ = some (.string ⟨#[46, 98, 108, 107, 119]⟩) := by obtain ⟨t, fr, h⟩ := h; exact Lib.cell_of_heap h 5
theorem TabD.at6 {w : World} (h : TabD w) : w.cell? ⟨1, 6, none⟩ = some (.string ⟨#[46, 115, 101, 99, 116]⟩) := by obtain ⟨t, fr, h⟩ := h; exact Lib.cell_of_heap h 6
theorem TabD.at7 {w : World} (h : TabD w) : w.cell? ⟨1, 7, none⟩ = some (.string ⟨#[46, 103, 108, 111, 98, 108]⟩) := by obtain ⟨t, fr, h⟩ := h; exact Lib.cell_of_heap h 7
theorem TabD.at8 {w : World} (h : TabD w) : w.cell? ⟨1, 8, none⟩ = some (.string ⟨#[46, 101, 110, 100]⟩) := by obtain ⟨t, fr, h⟩ := h; exact Lib.cell_of_heap h 8
theorem opC_at (n : Nat) (h : n < 24) : opC[n]? = some (.string (opL.getD n E0)) := by
  have : n = 0 ∨ n = 1 ∨ n = 2 ∨ n = 3 ∨ n = 4 ∨ n = 5 ∨ n = 6 ∨ n = 7 ∨ n = 8 ∨ n = 9 ∨ n = 10 ∨ n = 11 ∨ n = 12 ∨ n = 13 ∨ n = 14 ∨ n = 15 ∨ n = 16 ∨ n = 17 ∨ n = 18 ∨ n = 19 ∨ n = 20 ∨ n = 21 ∨ n = 22 ∨ n = 23 := by omega
  rcases this with rfl | rfl | rfl | rfl | rfl | rfl | rfl | rfl | rfl | rfl | rfl | rfl | rfl | rfl | rfl | rfl | rfl | rfl | rfl | rfl | rfl | rfl | rfl | rfl <;> rfl
theorem TabK.opw {w : World} (h : TabK w) (n : Nat) (hn : n < 24) : w.cell? ⟨0, n, none⟩ = some (.string (opL.getD n E0)) := by
  obtain ⟨⟨t, fr, h⟩, _⟩ := h
  exact (Lib.cell_of_heap h n).trans (opC_at n hn)
theorem opw_word (n : Nat) (h1 : 1 ≤ n) (hn : n < 24) : wordT (opL.getD n E0) = kpT (n - 1) := by
  have : n = 1 ∨ n = 2 ∨ n = 3 ∨ n = 4 ∨ n = 5 ∨ n = 6 ∨ n = 7 ∨ n = 8 ∨ n = 9 ∨ n = 10 ∨ n = 11 ∨ n = 12 ∨ n = 13 ∨ n = 14 ∨ n = 15 ∨ n = 16 ∨ n = 17 ∨ n = 18 ∨ n = 19 ∨ n = 20 ∨ n = 21 ∨ n = 22 ∨ n = 23 := by omega
  rcases this with rfl | rfl | rfl | rfl | rfl | rfl | rfl | rfl | rfl | rfl | rfl | rfl | rfl | rfl | rfl | rfl | rfl | rfl | rfl | rfl | rfl | rfl | rfl <;> (unfold wordT; rw [if_pos (by decide +kernel)]; rfl)
set_option maxHeartbeats 2000000 in
theorem hd_0 (op : Int) (s : ByteArray) (n : Int) (e1 : Option Addr) (i1 j1 : Nat) (e2 : Option Addr) (i2 j2 : Nat) (w : World) : Calls Tryz.prog 17 #[.agg #[.int .i64 0, .string s, .int .i64 op, .int .i64 n, .slice e1 i1 j1, .slice e2 i2 j2]] w fun r w' => ∃ v, r = .returned v ∧ OwnT w' w.heap.size v [] ∧ Below w.heap.size w w' := by
  have hbW := below_new w (.cells #[.int .i64 0, .string s, .int .i64 op, .int .i64 n, .slice e1 i1 j1, .slice e2 i2 j2] 52)
  obtain ⟨W, hW⟩ : ∃ W, w.alloc (.cells #[.int .i64 0, .string s, .int .i64 op, .int .i64 n, .slice e1 i1 j1, .slice e2 i2 j2] 52) = W := ⟨_, rfl⟩
  have rM : W.heap[w.heap.size]? = some (.cells #[.int .i64 0, .string s, .int .i64 op, .int .i64 n, .slice e1 i1 j1, .slice e2 i2 j2] 52 (0, 0)) := by rw [← hW]; exact Array.getElem?_push_size
  rw [hW] at hbW
  have C0 := Lib.cell_of_heap rM 0
  have C1 := Lib.cell_of_heap rM 1
  have C2 := Lib.cell_of_heap rM 2
  have BW := hide hbW
  clear hbW rM
  go_enter Tryz.func17, Tryz.ntmps17
  go_wp2
  go_ret
  exact ⟨_, rfl, ownT_none _ _, unhide BW⟩
set_option maxHeartbeats 4000000 in
theorem hd_1 (op : Int) (s : ByteArray) (n : Int) (e1 : Option Addr) (i1 j1 : Nat) (e2 : Option Addr) (i2 j2 : Nat) (w : World) (ht : TabK w) (hn : nameB s = true) : Calls Tryz.prog 17 #[.agg #[.int .i64 1, .string s, .int .i64 op, .int .i64 n, .slice e1 i1 j1, .slice e2 i2 j2]] w fun r w' => ∃ v, r = .returned v ∧ OwnT w' w.heap.size v [⟨1, 0, s⟩, mkT 58] ∧ Below w.heap.size w w' := by
  have hbW := below_new w (.cells #[.int .i64 1, .string s, .int .i64 op, .int .i64 n, .slice e1 i1 j1, .slice e2 i2 j2] 52)
  obtain ⟨W, hW⟩ : ∃ W, w.alloc (.cells #[.int .i64 1, .string s, .int .i64 op, .int .i64 n, .slice e1 i1 j1, .slice e2 i2 j2] 52) = W := ⟨_, rfl⟩
  have rM : W.heap[w.heap.size]? = some (.cells #[.int .i64 1, .string s, .int .i64 op, .int .i64 n, .slice e1 i1 j1, .slice e2 i2 j2] 52 (0, 0)) := by rw [← hW]; exact Array.getElem?_push_size
  rw [hW] at hbW
  have C0 := Lib.cell_of_heap rM 0
  have C1 := Lib.cell_of_heap rM 1
  have C2 := Lib.cell_of_heap rM 2
  have BW := hide hbW
  have M1 := hide (wordI_any s W (ht.next hbW))
  rw [name_word hn] at M1
  have M2 := hide (fun w1 => markI_any ⟨#[58]⟩ w1)
  have OW := hide (fun (w1 : World) (h : w.heap.size ≤ w1.heap.size) => ownT_two w1 ⟨1, 0, s⟩ (mkT 58) w.heap.size h)
  generalize hL : [(⟨1, 0, s⟩ : Tk), mkT 58] = L at *
  clear hL hbW rM ht hn
  unfold mkT mkS at OW
  unfold Tk.v Tk.cs at M1 M2
  simp only at M1 M2 OW
  go_enter Tryz.func17, Tryz.ntmps17
  go_wp2_with fail
  refine (unhide M1).mono ?_
  rintro r w1 ⟨rfl, hb1⟩
  have B1 := hide ((unhide BW).trans (hb1.mono (unhide BW).size))
  clear hb1 BW M1 C0 C1 C2
  go_wp2_with fail
  refine (unhide M2 _).mono ?_
  rintro r w2 ⟨rfl, hb2⟩
  have B2 := hide ((unhide B1).trans (hb2.mono (unhide B1).size))
  have OV := hide (unhide OW w2 (unhide B2).size)
  clear hb2 B1
  go_wp2
  go_ret
  exact ⟨_, rfl, unhide OV, (unhide B2).alloc (unhide B2).size _⟩
set_option maxHeartbeats 4000000 in
theorem hd_2 (op : Int) (s : ByteArray) (n : Int) (e1 : Option Addr) (i1 j1 : Nat) (e2 : Option Addr) (i2 j2 : Nat) (w : World) (ht : TabK w) (hn : nameB s = true) : Calls Tryz.prog 17 #[.agg #[.int .i64 2, .string s, .int .i64 op, .int .i64 n, .slice e1 i1 j1, .slice e2 i2 j2]] w fun r w' => ∃ v, r = .returned v ∧ OwnT w' w.heap.size v [⟨1, 0, s⟩, mkT 61] ∧ Below w.heap.size w w' := by
  have hbW := below_new w (.cells #[.int .i64 2, .string s, .int .i64 op, .int .i64 n, .slice e1 i1 j1, .slice e2 i2 j2] 52)
  obtain ⟨W, hW⟩ : ∃ W, w.alloc (.cells #[.int .i64 2, .string s, .int .i64 op, .int .i64 n, .slice e1 i1 j1, .slice e2 i2 j2] 52) = W := ⟨_, rfl⟩
  have rM : W.heap[w.heap.size]? = some (.cells #[.int .i64 2, .string s, .int .i64 op, .int .i64 n, .slice e1 i1 j1, .slice e2 i2 j2] 52 (0, 0)) := by rw [← hW]; exact Array.getElem?_push_size
  rw [hW] at hbW
  have C0 := Lib.cell_of_heap rM 0
  have C1 := Lib.cell_of_heap rM 1
  have C2 := Lib.cell_of_heap rM 2
  have BW := hide hbW
  have M1 := hide (wordI_any s W (ht.next hbW))
  rw [name_word hn] at M1
  have M2 := hide (fun w1 => markI_any ⟨#[61]⟩ w1)
  have OW := hide (fun (w1 : World) (h : w.heap.size ≤ w1.heap.size) => ownT_two w1 ⟨1, 0, s⟩ (mkT 61) w.heap.size h)
  generalize hL : [(⟨1, 0, s⟩ : Tk), mkT 61] = L at *
  clear hL hbW rM ht hn
  unfold mkT mkS at OW
  unfold Tk.v Tk.cs at M1 M2
  simp only at M1 M2 OW
  go_enter Tryz.func17, Tryz.ntmps17
  go_wp2_with fail
  refine (unhide M1).mono ?_
  rintro r w1 ⟨rfl, hb1⟩
  have B1 := hide ((unhide BW).trans (hb1.mono (unhide BW).size))
  clear hb1 BW M1 C0 C1 C2
  go_wp2_with fail
  refine (unhide M2 _).mono ?_
  rintro r w2 ⟨rfl, hb2⟩
  have B2 := hide ((unhide B1).trans (hb2.mono (unhide B1).size))
  have OV := hide (unhide OW w2 (unhide B2).size)
  clear hb2 B1
  go_wp2
  go_ret
  exact ⟨_, rfl, unhide OV, (unhide B2).alloc (unhide B2).size _⟩
set_option maxHeartbeats 4000000 in
theorem hd_3 (o : Nat) (h1 : 1 ≤ o) (h24 : o < 24) (s : ByteArray) (n : Int) (e1 : Option Addr) (i1 j1 : Nat) (e2 : Option Addr) (i2 j2 : Nat) (w : World) (ht : TabK w) : Calls Tryz.prog 17 #[.agg #[.int .i64 3, .string s, .int .i64 (o : Int), .int .i64 n, .slice e1 i1 j1, .slice e2 i2 j2]] w fun r w' => ∃ v, r = .returned v ∧ OwnT w' w.heap.size v [kpT (o - 1)] ∧ Below w.heap.size w w' := by
  have hbW := below_new w (.cells #[.int .i64 3, .string s, .int .i64 (o : Int), .int .i64 n, .slice e1 i1 j1, .slice e2 i2 j2] 52)
  obtain ⟨W, hW⟩ : ∃ W, w.alloc (.cells #[.int .i64 3, .string s, .int .i64 (o : Int), .int .i64 n, .slice e1 i1 j1, .slice e2 i2 j2] 52) = W := ⟨_, rfl⟩
  have rM : W.heap[w.heap.size]? = some (.cells #[.int .i64 3, .string s, .int .i64 (o : Int), .int .i64 n, .slice e1 i1 j1, .slice e2 i2 j2] 52 (0, 0)) := by rw [← hW]; exact Array.getElem?_push_size
  rw [hW] at hbW
  have C0 := Lib.cell_of_heap rM 0
  have C1 := Lib.cell_of_heap rM 1
  have C2 := Lib.cell_of_heap rM 2
  have BW := hide hbW
  have M1 := hide (wordI_any (opL.getD o E0) W (ht.next hbW))
  rw [opw_word o h1 h24] at M1
  have c := (ht.next hbW).opw o h24
  have g1 : (o : Int) < 24 := by omega
  have g0 : (0 : Int) ≤ (o : Int) := by omega
  have g2 : ¬ ((o : Int) < 0) := by omega
  have g3 : ¬ ((24 : Int) ≤ (o : Int)) := by omega
  generalize opL.getD o E0 = os at *
  have OW := hide (fun (w1 : World) (h : w.heap.size ≤ w1.heap.size) => ownT_new w1 (kpT (o - 1)) w.heap.size h)
  generalize kpT (o - 1) = kt at *
  clear hbW rM ht h1 h24
  unfold Tk.v at M1
  unfold Tk.cs at M1 OW
  go_enter Tryz.func17, Tryz.ntmps17
  go_wp2_with fail
  refine (unhide M1).mono ?_
  rintro r w1 ⟨rfl, hb1⟩
  have B1 := hide ((unhide BW).trans (hb1.mono (unhide BW).size))
  have OV := hide (unhide OW w1 (unhide B1).size)
  clear hb1 BW M1
  go_wp2
  go_ret
  exact ⟨_, rfl, unhide OV, (unhide B1).alloc (unhide B1).size _⟩
set_option maxHeartbeats 4000000 in
theorem hd_4 (op : Int) (s : ByteArray) (n : Int) (e1 : Option Addr) (i1 j1 : Nat) (e2 : Option Addr) (i2 j2 : Nat) (w : World) (hd : TabD w) : Calls Tryz.prog 17 #[.agg #[.int .i64 4, .string s, .int .i64 op, .int .i64 n, .slice e1 i1 j1, .slice e2 i2 j2]] w fun r w' => ∃ v, r = .returned v ∧ OwnT w' w.heap.size v [⟨3, 0, ⟨#[46, 119, 111, 114, 100]⟩⟩] ∧ Below w.heap.size w w' := by
  have hbW := below_new w (.cells #[.int .i64 4, .string s, .int .i64 op, .int .i64 n, .slice e1 i1 j1, .slice e2 i2 j2] 52)
  obtain ⟨W, hW⟩ : ∃ W, w.alloc (.cells #[.int .i64 4, .string s, .int .i64 op, .int .i64 n, .slice e1 i1 j1, .slice e2 i2 j2] 52) = W := ⟨_, rfl⟩
  have rM : W.heap[w.heap.size]? = some (.cells #[.int .i64 4, .string s, .int .i64 op, .int .i64 n, .slice e1 i1 j1, .slice e2 i2 j2] 52 (0, 0)) := by rw [← hW]; exact Array.getElem?_push_size
  rw [hW] at hbW
  have C0 := Lib.cell_of_heap rM 0
  have C1 := Lib.cell_of_heap rM 1
  have C2 := Lib.cell_of_heap rM 2
  have BW := hide hbW
  have c := (hd.next hbW).at4
  have OV := hide (ownT_new W ⟨3, 0, ⟨#[46, 119, 111, 114, 100]⟩⟩ w.heap.size hbW.size)
  unfold Tk.cs at OV
  simp only at OV
  clear hbW rM hd
  go_enter Tryz.func17, Tryz.ntmps17
  go_wp2
  go_ret
  exact ⟨_, rfl, unhide OV, (unhide BW).alloc (unhide BW).size _⟩
set_option maxHeartbeats 4000000 in
theorem hd_5 (op : Int) (s : ByteArray) (n : Int) (e1 : Option Addr) (i1 j1 : Nat) (e2 : Option Addr) (i2 j2 : Nat) (w : World) (hd : TabD w) : Calls Tryz.prog 17 #[.agg #[.int .i64 5, .string s, .int .i64 op, .int .i64 n, .slice e1 i1 j1, .slice e2 i2 j2]] w fun r w' => ∃ v, r = .returned v ∧ OwnT w' w.heap.size v [⟨3, 0, ⟨#[46, 98, 108, 107, 119]⟩⟩] ∧ Below w.heap.size w w' := by
  have hbW := below_new w (.cells #[.int .i64 5, .string s, .int .i64 op, .int .i64 n, .slice e1 i1 j1, .slice e2 i2 j2] 52)
  obtain ⟨W, hW⟩ : ∃ W, w.alloc (.cells #[.int .i64 5, .string s, .int .i64 op, .int .i64 n, .slice e1 i1 j1, .slice e2 i2 j2] 52) = W := ⟨_, rfl⟩
  have rM : W.heap[w.heap.size]? = some (.cells #[.int .i64 5, .string s, .int .i64 op, .int .i64 n, .slice e1 i1 j1, .slice e2 i2 j2] 52 (0, 0)) := by rw [← hW]; exact Array.getElem?_push_size
  rw [hW] at hbW
  have C0 := Lib.cell_of_heap rM 0
  have C1 := Lib.cell_of_heap rM 1
  have C2 := Lib.cell_of_heap rM 2
  have BW := hide hbW
  have c := (hd.next hbW).at5
  have OV := hide (ownT_new W ⟨3, 0, ⟨#[46, 98, 108, 107, 119]⟩⟩ w.heap.size hbW.size)
  unfold Tk.cs at OV
  simp only at OV
  clear hbW rM hd
  go_enter Tryz.func17, Tryz.ntmps17
  go_wp2
  go_ret
  exact ⟨_, rfl, unhide OV, (unhide BW).alloc (unhide BW).size _⟩
set_option maxHeartbeats 4000000 in
theorem hd_6 (op : Int) (s : ByteArray) (n : Int) (e1 : Option Addr) (i1 j1 : Nat) (e2 : Option Addr) (i2 j2 : Nat) (w : World) (hd : TabD w) : Calls Tryz.prog 17 #[.agg #[.int .i64 6, .string s, .int .i64 op, .int .i64 n, .slice e1 i1 j1, .slice e2 i2 j2]] w fun r w' => ∃ v, r = .returned v ∧ OwnT w' w.heap.size v [⟨3, 0, ⟨#[46, 115, 101, 99, 116]⟩⟩] ∧ Below w.heap.size w w' := by
  have hbW := below_new w (.cells #[.int .i64 6, .string s, .int .i64 op, .int .i64 n, .slice e1 i1 j1, .slice e2 i2 j2] 52)
  obtain ⟨W, hW⟩ : ∃ W, w.alloc (.cells #[.int .i64 6, .string s, .int .i64 op, .int .i64 n, .slice e1 i1 j1, .slice e2 i2 j2] 52) = W := ⟨_, rfl⟩
  have rM : W.heap[w.heap.size]? = some (.cells #[.int .i64 6, .string s, .int .i64 op, .int .i64 n, .slice e1 i1 j1, .slice e2 i2 j2] 52 (0, 0)) := by rw [← hW]; exact Array.getElem?_push_size
  rw [hW] at hbW
  have C0 := Lib.cell_of_heap rM 0
  have C1 := Lib.cell_of_heap rM 1
  have C2 := Lib.cell_of_heap rM 2
  have BW := hide hbW
  have c := (hd.next hbW).at6
  have OV := hide (ownT_new W ⟨3, 0, ⟨#[46, 115, 101, 99, 116]⟩⟩ w.heap.size hbW.size)
  unfold Tk.cs at OV
  simp only at OV
  clear hbW rM hd
  go_enter Tryz.func17, Tryz.ntmps17
  go_wp2
  go_ret
  exact ⟨_, rfl, unhide OV, (unhide BW).alloc (unhide BW).size _⟩
set_option maxHeartbeats 4000000 in
theorem hd_7 (op : Int) (s : ByteArray) (n : Int) (e1 : Option Addr) (i1 j1 : Nat) (e2 : Option Addr) (i2 j2 : Nat) (w : World) (hd : TabD w) : Calls Tryz.prog 17 #[.agg #[.int .i64 7, .string s, .int .i64 op, .int .i64 n, .slice e1 i1 j1, .slice e2 i2 j2]] w fun r w' => ∃ v, r = .returned v ∧ OwnT w' w.heap.size v [⟨3, 0, ⟨#[46, 103, 108, 111, 98, 108]⟩⟩] ∧ Below w.heap.size w w' := by
  have hbW := below_new w (.cells #[.int .i64 7, .string s, .int .i64 op, .int .i64 n, .slice e1 i1 j1, .slice e2 i2 j2] 52)
  obtain ⟨W, hW⟩ : ∃ W, w.alloc (.cells #[.int .i64 7, .string s, .int .i64 op, .int .i64 n, .slice e1 i1 j1, .slice e2 i2 j2] 52) = W := ⟨_, rfl⟩
  have rM : W.heap[w.heap.size]? = some (.cells #[.int .i64 7, .string s, .int .i64 op, .int .i64 n, .slice e1 i1 j1, .slice e2 i2 j2] 52 (0, 0)) := by rw [← hW]; exact Array.getElem?_push_size
  rw [hW] at hbW
  have C0 := Lib.cell_of_heap rM 0
  have C1 := Lib.cell_of_heap rM 1
  have C2 := Lib.cell_of_heap rM 2
  have BW := hide hbW
  have c := (hd.next hbW).at7
  have OV := hide (ownT_new W ⟨3, 0, ⟨#[46, 103, 108, 111, 98, 108]⟩⟩ w.heap.size hbW.size)
  unfold Tk.cs at OV
  simp only at OV
  clear hbW rM hd
  go_enter Tryz.func17, Tryz.ntmps17
  go_wp2
  go_ret
  exact ⟨_, rfl, unhide OV, (unhide BW).alloc (unhide BW).size _⟩
set_option maxHeartbeats 4000000 in
theorem hd_8 (op : Int) (s : ByteArray) (n : Int) (e1 : Option Addr) (i1 j1 : Nat) (e2 : Option Addr) (i2 j2 : Nat) (w : World) (hd : TabD w) : Calls Tryz.prog 17 #[.agg #[.int .i64 8, .string s, .int .i64 op, .int .i64 n, .slice e1 i1 j1, .slice e2 i2 j2]] w fun r w' => ∃ v, r = .returned v ∧ OwnT w' w.heap.size v [⟨3, 0, ⟨#[46, 101, 110, 100]⟩⟩] ∧ Below w.heap.size w w' := by
  have hbW := below_new w (.cells #[.int .i64 8, .string s, .int .i64 op, .int .i64 n, .slice e1 i1 j1, .slice e2 i2 j2] 52)
  obtain ⟨W, hW⟩ : ∃ W, w.alloc (.cells #[.int .i64 8, .string s, .int .i64 op, .int .i64 n, .slice e1 i1 j1, .slice e2 i2 j2] 52) = W := ⟨_, rfl⟩
  have rM : W.heap[w.heap.size]? = some (.cells #[.int .i64 8, .string s, .int .i64 op, .int .i64 n, .slice e1 i1 j1, .slice e2 i2 j2] 52 (0, 0)) := by rw [← hW]; exact Array.getElem?_push_size
  rw [hW] at hbW
  have C0 := Lib.cell_of_heap rM 0
  have C1 := Lib.cell_of_heap rM 1
  have C2 := Lib.cell_of_heap rM 2
  have BW := hide hbW
  have c := (hd.next hbW).at8
  have OV := hide (ownT_new W ⟨3, 0, ⟨#[46, 101, 110, 100]⟩⟩ w.heap.size hbW.size)
  unfold Tk.cs at OV
  simp only at OV
  clear hbW rM hd
  go_enter Tryz.func17, Tryz.ntmps17
  go_wp2
  go_ret
  exact ⟨_, rfl, unhide OV, (unhide BW).alloc (unhide BW).size _⟩
theorem hdI_any (x : Ln) (ok : lnX x = true) (e1 : Option Addr) (i1 j1 : Nat) (e2 : Option Addr) (i2 j2 : Nat) (w : World) (ht : TabK w) (hd : TabD w) : Calls Tryz.prog 17 #[.agg #[.int .i64 x.k, .string x.s, .int .i64 x.op, .int .i64 x.n, .slice e1 i1 j1, .slice e2 i2 j2]] w fun r w' => ∃ v, r = .returned v ∧ OwnT w' w.heap.size v (hdT x) ∧ Below w.heap.size w w' := by
  have hf := ln_f ok
  have hn := ln_nm ok
  clear ok
  obtain ⟨k, s, op, src, dst, n, l⟩ := x
  simp only at hf hn ⊢
  have hk : k = 0 ∨ k = 1 ∨ k = 2 ∨ k = 3 ∨ k = 4 ∨ k = 5 ∨ k = 6 ∨ k = 7 ∨ k = 8 := by omega
  rcases hk with rfl | rfl | rfl | rfl | rfl | rfl | rfl | rfl | rfl
  · exact hd_0 op s n e1 i1 j1 e2 i2 j2 w
  · exact hd_1 op s n e1 i1 j1 e2 i2 j2 w ht (hn (by simp))
  · exact hd_2 op s n e1 i1 j1 e2 i2 j2 w ht (hn (by simp))
  · obtain ⟨o, rfl⟩ : ∃ o : Nat, op = (o : Int) := ⟨op.toNat, by omega⟩
    have h := hd_3 o (by omega) (by omega) s n e1 i1 j1 e2 i2 j2 w ht
    have e : hdT ⟨3, s, (o : Int), src, dst, n, l⟩ = [kpT (o - 1)] := by
      unfold hdT
      simp only
      rw [if_neg (by decide), if_neg (by decide), if_neg (by decide), if_pos trivial, show ((o : Int) - 1).toNat = o - 1 by omega]
    rw [e]
    exact h
  · exact hd_4 op s n e1 i1 j1 e2 i2 j2 w hd
  · exact hd_5 op s n e1 i1 j1 e2 i2 j2 w hd
  · exact hd_6 op s n e1 i1 j1 e2 i2 j2 w hd
  · exact hd_7 op s n e1 i1 j1 e2 i2 j2 w hd
  · exact hd_8 op s n e1 i1 j1 e2 i2 j2 w hd
end Go.Proofs.YtmhcbehplhfgfaaGreatDoor

namespace Go.Proofs.YtmhcbehplhfgfaaGreatDoor
open Go.ChangeShapes Go.WideShapes Go.ChangeAt Go.RowKit
set_option linter.unusedVariables false
set_option maxRecDepth 8000
set_option linter.unusedSimpArgs false
theorem own_ty {w : World} {B m n : Nat} {t : TypeId} {v : Value} {cs : List Value} (h : w.ownsRow B t m v n cs) {g : Nat} (hg : v.ownBlock = some g) : B ≤ g ∧ ∃ cur, w.heap[g]? = some (.cells cur t (0, 0)) := by
  obtain ⟨_, ⟨rfl, _⟩ | ⟨g', cap, cur, rfl, hB, hh, r⟩⟩ := h
  · cases hg
  · cases hg
    exact ⟨hB, cur, hh⟩
theorem own_two {w : World} {B B' m m' n n' : Nat} {t t' : TypeId} {v v' : Value} {cs cs' : List Value} (h : w.ownsRow B t m v n cs) (h' : w.ownsRow B' t' m' v' n' cs') (hne : t ≠ t') {g : Nat} (hg : v.ownBlock = some g) (hg' : v'.ownBlock = some g) : False := by
  obtain ⟨_, c, e⟩ := own_ty h hg
  obtain ⟨_, c', e'⟩ := own_ty h' hg'
  rw [e] at e'
  injection e' with e'
  injection e' with _ e'
  exact hne e'
/-- A row of parts that is owned, each part a row of tokens that is owned. -/
def OwnL (w : World) (B : Nat) (v : Value) (ps : List (List Tk)) : Prop := ∃ vs : List Value, vs.length = ps.length ∧ w.ownsRow B 45 1 v ps.length vs ∧ ∀ i, i < ps.length → OwnT w B (vs.getD i undef) (ps.getD i [])
theorem ownL_none (w : World) (B : Nat) : OwnL w B (.slice none 0 0) [] := ⟨[], rfl, ⟨rfl, .inl ⟨rfl, rfl⟩⟩, fun i h => by simp at h⟩
theorem OwnL.later {w w' : World} {B : Nat} {v : Value} {ps : List (List Tk)} (h : OwnL w B v ps) (hb : Below w.heap.size w w') : OwnL w' B v ps := by
  obtain ⟨vs, h1, h2, h3⟩ := h
  refine ⟨vs, h1, ?_, fun i hi => (h3 i hi).later hb⟩
  obtain ⟨k1, k2 | ⟨g, cap, cur, e, hg, hh, r⟩⟩ := h2
  · exact ⟨k1, .inl k2⟩
  · exact ⟨k1, .inr ⟨g, cap, cur, e, hg, (hb.block g (Array.getElem?_eq_some_iff.1 hh).1).trans hh, r⟩⟩
theorem OwnL.base {w : World} {B B' : Nat} {v : Value} {ps : List (List Tk)} (h : OwnL w B v ps) (hB : B' ≤ B) : OwnL w B' v ps := by
  obtain ⟨vs, h1, h2, h3⟩ := h
  refine ⟨vs, h1, ?_, fun i hi => (h3 i hi).base hB⟩
  obtain ⟨k1, k2 | ⟨g, cap, cur, e, hg, r⟩⟩ := h2
  · exact ⟨k1, .inl k2⟩
  · exact ⟨k1, .inr ⟨g, cap, cur, e, Nat.le_trans hB hg, r⟩⟩
theorem infoL : (Tryz.prog.info? 45).map (fun i => (i.zero, i.size, i.bytes)) = some (some (.slice none 0 0), 1, 24) := by kernel_rfl
theorem OwnT.sl {w : World} {B : Nat} {v : Value} {ts : List Tk} (h : OwnT w B v ts) : v.oneCell' = true := by
  rcases h.form with ⟨rfl, _⟩ | ⟨g, cap, rfl, _⟩ <;> rfl
section
variable {ops : Array Oper} {rest : List Oper} {o : Oper} {a : Act} {Q : Exit → Act → World → Prop} {w w0 : World} {B : Nat} {K : Act → World → Prop}
/-- One part appended. -/
theorem wp_appL (s x : Operand) (ho : o.op = .call { callee := .builtin .append, args := #[s, x], argTypes := #[56, 56] }) (hB : B ≤ w0.heap.size) (hD : Below B w0 w) {v : Value} {ps : List (List Tk)} (hs : a.eval s = v) (hown : OwnL w B v ps) (g : Nat) (p : Value) (ts : List Tk) (hx : a.eval x = .slice (some ⟨g, 0, none⟩) 1 1) (hg : w.heap[g]? = some (.cells #[p] 45 (0, 0))) (hp : OwnT w B p ts) (hl : ps.length ≤ 1000)
    (h : ∀ (v' : Value) (y : Sub B w0), OwnL y.w B v' (ps ++ [ts]) → K (a.put o.dst v') y.w) : o.wp Tryz.prog a w K Q := by
  obtain ⟨i0, hi0, hz0, hz1, hz2⟩ := info_parts infoL
  obtain ⟨vs, hv1, hv2, hv3⟩ := hown
  have hsz := hD.size
  refine wp_append_own w s x 56 ho B 45 i0 (.slice none 0 0) 1 24 Tryz.underlying56 hi0 hz0 hz1 hz2 rfl (by decide) v ps.length vs hs hv2 ⟨g, 0, none⟩ 1 1 [p] hx rfl (fun j u hj => by
    have hc := Lib.cell_of_heap hg j
    have e : (#[p] : Array Value)[j]? = some u := by rw [← hj]; simp
    have ha : (⟨g, 0, none⟩ : Addr).add j = ⟨g, j, none⟩ := by simp [Addr.add]; exact fun h => h.symm
    rw [ha]
    exact hc.trans e) (fun u hu => by rw [List.mem_singleton.1 hu]; exact hp.sl) (by unfold maxLen; omega) (by omega) (by omega) ?_
  intro v' w' h1 h2 _
  have kp : ∀ {q : Value} {us : List Tk}, OwnT w B q us → OwnT w' B q us := fun {q us} hq => hq.keep fun k hk hlt => h2.block k hlt (fun e => own_two hq hv2 (by decide) hk e.symm)
  refine h v' ⟨w', hD.grown h2 (Nat.le_trans hB hD.size) (fun k hk => (own_ty hv2 hk).1)⟩ ⟨vs ++ [p], by simp [hv1], by rw [List.length_append]; exact h1, fun i hi => ?_⟩
  rw [List.length_append, List.length_singleton] at hi
  by_cases hlt : i < ps.length
  · rw [show (vs ++ [p]).getD i undef = vs.getD i undef by simp [List.getD_eq_getElem?_getD, List.getElem?_append, show i < vs.length by omega], show (ps ++ [ts]).getD i [] = ps.getD i [] by simp [List.getD_eq_getElem?_getD, List.getElem?_append, hlt]]
    exact kp (hv3 i hlt)
  · obtain rfl : i = ps.length := by omega
    rw [show (vs ++ [p]).getD ps.length undef = p by rw [← hv1]; simp [List.getD_eq_getElem?_getD], show (ps ++ [ts]).getD ps.length [] = ts by simp [List.getD_eq_getElem?_getD]]
    exact kp hp
theorem appL (hgd : o.guard = none) (s x : Operand) (ho : o.op = .call { callee := .builtin .append, args := #[s, x], argTypes := #[56, 56] }) (hB : B ≤ w0.heap.size) (hD : Below B w0 w) {v : Value} {ps : List (List Tk)} (hs : a.eval s = v) (hown : OwnL w B v ps) (g : Nat) (p : Value) (ts : List Tk) (hx : a.eval x = .slice (some ⟨g, 0, none⟩) 1 1) (hg : w.heap[g]? = some (.cells #[p] 45 (0, 0))) (hp : OwnT w B p ts) (hl : ps.length ≤ 1000)
    (h : ∀ (v' : Value) (y : Sub B w0), OwnL y.w B v' (ps ++ [ts]) → wpList Tryz.prog ops Q rest (a.put o.dst v') y.w) : wpList Tryz.prog ops Q (o :: rest) a w :=
  wpList_plain hgd fun _ hK => wp_appL s x ho hB hD hs hown g p ts hx hg hp hl fun v' y h1 => hK _ _ (h v' y h1)
end
theorem cellsO_at : ∀ (l : List Op3) (j o : Nat), j < l.length → (cellsO l)[j * 3]? = some (l.getD j ⟨undef, 0, 0⟩).u ∧ (cellsO l)[j * 3 + 1]? = some (.int .i64 (l.getD j ⟨undef, 0, 0⟩).f) ∧ (cellsO l)[j * 3 + 2]? = some (.int .i64 (l.getD j ⟨undef, 0, 0⟩).g)
  | [], j, _, h => by simp at h
  | p :: l, 0, _, _ => by simp [cellsO]
  | p :: l, j + 1, o, h => by
    have ih := cellsO_at l j o (by simpa using h)
    simp only [cellsO, List.getD_cons_succ]
    rw [show (j + 1) * 3 = j * 3 + 3 by omega]
    exact ih
theorem ownCells {w : World} {B m n : Nat} {t : TypeId} {v : Value} {cs : List Value} (h : w.ownsRow B t m v n cs) (g : Nat) (hg : v.ownBlock = some g) (j : Nat) (u : Value) (hj : cs[j]? = some u) : w.cell? ⟨g, j, none⟩ = some u := by
  obtain ⟨h0, ⟨rfl, _⟩ | ⟨g', cap, cur, rfl, hB, hh, hn, hm, hs, ht⟩⟩ := h
  · cases hg
  · cases hg
    have hlt : j < cs.length := (List.getElem?_eq_some_iff.1 hj).1
    rw [Lib.cell_of_heap hh j]
    have e : (cur.toList.take (n * m))[j]? = some u := by rw [ht]; exact hj
    rw [List.getElem?_take_of_lt (by omega)] at e
    simpa using e
theorem OwnA.cells' {w : World} {B : Nat} {v : Value} {l : List Op3} (h : OwnA w B v l) (g : Nat) (hg : v.ownBlock = some g) (j : Nat) (u : Value) (hj : (cellsO l)[j]? = some u) : w.cell? ⟨g, j, none⟩ = some u := ownCells h g hg j u hj
theorem OwnV.cells' {w : World} {B : Nat} {v : Value} {l : List Value} (h : OwnV w B v l) (g : Nat) (hg : v.ownBlock = some g) (j : Nat) (u : Value) (hj : l[j]? = some u) : w.cell? ⟨g, j, none⟩ = some u := ownCells h g hg j u hj
theorem OwnA.at_ {w : World} {B : Nat} {e : Option Addr} {i c : Nat} {l : List Op3} (h : OwnA w B (.slice e i c) l) : i = l.length ∧ ∀ j, j < l.length → ∃ g, e = some ⟨g, 0, none⟩ ∧ g < w.heap.size ∧ w.cell? ⟨g, j * 3, none⟩ = some (l.getD j ⟨undef, 0, 0⟩).u ∧ w.cell? ⟨g, j * 3 + 1, none⟩ = some (.int .i64 (l.getD j ⟨undef, 0, 0⟩).f) ∧ w.cell? ⟨g, j * 3 + 2, none⟩ = some (.int .i64 (l.getD j ⟨undef, 0, 0⟩).g) := by
  have hc := h.cells'
  obtain ⟨h0, ⟨h1, h2⟩ | ⟨g, cap, cur, he, hg, hh, hn, hm, r⟩⟩ := h
  · injection h1 with h1 h3 h4
    exact ⟨by omega, fun j hj => by omega⟩
  · injection he with e1 e2 e3
    subst e1 e2 e3
    refine ⟨rfl, fun j hj => ⟨g, rfl, (Array.getElem?_eq_some_iff.1 hh).1, ?_, ?_, ?_⟩⟩
    · exact hc g rfl (j * 3) _ (cellsO_at l j 0 hj).1
    · exact hc g rfl (j * 3 + 1) _ (cellsO_at l j 1 hj).2.1
    · exact hc g rfl (j * 3 + 2) _ (cellsO_at l j 2 hj).2.2
theorem OwnV.at_ {w : World} {B : Nat} {e : Option Addr} {i c : Nat} {l : List Value} (h : OwnV w B (.slice e i c) l) : i = l.length ∧ ∀ j, j < l.length → ∃ g, e = some ⟨g, 0, none⟩ ∧ g < w.heap.size ∧ w.cell? ⟨g, j, none⟩ = some (l.getD j undef) := by
  have hc := h.cells'
  obtain ⟨h0, ⟨h1, h2⟩ | ⟨g, cap, cur, he, hg, hh, hn, hm, r⟩⟩ := h
  · injection h1 with h1 h3 h4
    exact ⟨by omega, fun j hj => by omega⟩
  · injection he with e1 e2 e3
    subst e1 e2 e3
    exact ⟨rfl, fun j hj => ⟨g, rfl, (Array.getElem?_eq_some_iff.1 hh).1, hc g rfl j _ (by simp [List.getD_eq_getElem?_getD, hj])⟩⟩
end Go.Proofs.YtmhcbehplhfgfaaGreatDoor
