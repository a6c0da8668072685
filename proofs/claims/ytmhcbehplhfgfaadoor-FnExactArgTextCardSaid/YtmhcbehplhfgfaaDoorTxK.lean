/- Contracts over this seat's translation, laid together; conditions stand as hypotheses of each. -/
import Derived.Test.YtmhcbehplhfgfaaDoorTxA
import Derived.Test.YtmhcbehplhfgfaaDoorTxB
import Derived.Test.YtmhcbehplhfgfaaDoorTxE
import Derived.Test.YtmhcbehplhfgfaaDoorTxH
import Derived.Test.YtmhcbehplhfgfaaDoorTxI
import Derived.Test.YtmhcbehplhfgfaaDoorTxJ
import Derived.Deep.Slices
import Derived.Laws.Rows
import Derived.Lib.Builder

namespace Go.Proofs.YtmhcbehplhfgfaaDoor
open Go.ChangeShapes Go.WideShapes Go.ChangeAt Go.RowKit
set_option linter.unusedVariables false
set_option maxRecDepth 8000
set_option linter.unusedSimpArgs false

theorem TabK.rg {w : World} (h : TabK w) (n : Nat) (hn : n < 8) : w.cell? ⟨1, n, none⟩ = some (.string (wRg.getD n E0)) := by
  obtain ⟨_, t, fr, h⟩ := h
  have : n = 0 ∨ n = 1 ∨ n = 2 ∨ n = 3 ∨ n = 4 ∨ n = 5 ∨ n = 6 ∨ n = 7 := by omega
  rcases this with rfl | rfl | rfl | rfl | rfl | rfl | rfl | rfl
  · exact Lib.cell_of_heap h 0
  · exact Lib.cell_of_heap h 1
  · exact Lib.cell_of_heap h 2
  · exact Lib.cell_of_heap h 3
  · exact Lib.cell_of_heap h 4
  · exact Lib.cell_of_heap h 5
  · exact Lib.cell_of_heap h 6
  · exact Lib.cell_of_heap h 7
theorem rgT_word (n : Nat) (hn : n < 8) : wordT (wRg.getD n E0) = rgT n := by
  have : n = 0 ∨ n = 1 ∨ n = 2 ∨ n = 3 ∨ n = 4 ∨ n = 5 ∨ n = 6 ∨ n = 7 := by omega
  rcases this with rfl | rfl | rfl | rfl | rfl | rfl | rfl | rfl <;> (unfold wordT; rw [if_pos (by decide +kernel)]; rfl)
set_option maxHeartbeats 2000000 in
theorem regI (n : Nat) (hn : n < 8) (w : World) (ht : TabK w) : Calls Tryd.prog 59 #[.int .i64 (n : Int)] w fun e w' => e = .returned (Tk.v (rgT n)) ∧ Below w.heap.size w w' := by
  have B0 := hide (below_new w (.cells T0c 91))
  have R0 := hide (heap_alloc_new w (.cells T0c 91))
  have t1 := ht.next (unhide B0)
  have WI := hide (wordI_any (wRg.getD n E0) _ t1)
  rw [rgT_word n hn] at WI
  have c := t1.rg n hn
  have h1 : (n : Int) < 8 := by omega
  have h0 : (0 : Int) ≤ (n : Int) := by omega
  have h2 : ¬ ((n : Int) < 0) := by omega
  have h3 : ¬ ((8 : Int) ≤ (n : Int)) := by omega
  clear ht t1 hn
  generalize wRg.getD n E0 = s at *
  unfold T0c at B0 R0 WI c
  unfold Tk.v Tk.cs at WI ⊢
  generalize (rgT n).k = tk at *
  generalize (rgT n).n = tn at *
  generalize (rgT n).s = ts at *
  go_enter Tryd.func59, Tryd.ntmps59
  go_wp2_with fail
  generalize w.alloc (.cells #[.int .i64 0, .int .i64 0, .string ⟨#[]⟩] 91) = W at *
  refine (unhide WI).mono ?_
  rintro e w1 ⟨rfl, hb1⟩
  have R1 := hide (row_keep (unhide R0) hb1)
  have B1 := hide ((unhide B0).trans (hb1.mono (unhide B0).size))
  clear hb1 WI R0 B0 c
  go_wp2_with (first | (refine wpList_store_row rfl 91 _ _ rfl w.heap.size #[.int .i64 tk, .int .i64 tn, .string ts] rfl rfl 91 _ (unhide R1) szK rfl (tk_one _ _ _) ?_))
  refine bodyPost_ret (results_cell_row (P := Tryd.prog) rfl _ _ w.heap.size 91 #[.int .i64 tk, .int .i64 tn, .string ts] (0, 0) _ rfl (setRow_heap _ _ _ _ _ _ (unhide R1)) Tryd.underlying91 rfl szK) rfl ?_
  exact ⟨rfl, below_row (unhide B1)⟩
set_option maxHeartbeats 8000000 in
theorem opt_0 (rn : Nat) (hrn : rn < 8) (e : Ex) (ok : True) (w : World) (ht : TabA w) (hg : TabG w) : Calls Tryd.prog 37 #[.agg #[.nilIface, .int .i64 0, .int .i64 (rn : Int)]] w fun r w' => ∃ v, r = .returned v ∧ OwnT w' w.heap.size v (agT ⟨0, (rn : Int), e⟩) ∧ Below w.heap.size w w' := by
  have hbW := below_new w (.cells #[.nilIface, .int .i64 0, .int .i64 (rn : Int)] 54)
  obtain ⟨W, hW⟩ : ∃ W, w.alloc (.cells #[.nilIface, .int .i64 0, .int .i64 (rn : Int)] 54) = W := ⟨_, rfl⟩
  have xl : w.heap.size < W.heap.size := by rw [← hW]; simp
  have xc : ∀ (i : Nat) (v : Value), (#[.nilIface, .int .i64 0, .int .i64 (rn : Int)] : Array Value)[i]? = some v → ∀ w1, Below W.heap.size W w1 → w1.cell? ⟨w.heap.size, i, none⟩ = some v := fun i v h w1 hb => (hb.cell (p := ⟨w.heap.size, i, none⟩) xl).trans (by rw [← hW]; exact box17 w _ _ i v h)
  rw [hW] at hbW
  obtain ⟨y0, hy0⟩ : ∃ z : Sub W.heap.size W, w.alloc (.cells #[.nilIface, .int .i64 0, .int .i64 (rn : Int)] 54) = z.w := ⟨⟨W, Below.refl _ _⟩, hW⟩
  have ne := Sub.ne W.heap.size W
  have HZ := hide (Nat.le_refl W.heap.size)
  have HB := hide (fun y : Sub W.heap.size W => hbW.trans (y.h.mono hbW.size))
  have HO := hide (fun (y : Sub W.heap.size W) v ts (h : OwnT y.w W.heap.size v ts) => h.base hbW.size)
  have E0 : ∀ y : Sub W.heap.size W, y.w.cell? ⟨w.heap.size, 0, none⟩ = some .nilIface := fun y => xc 0 _ rfl y.w y.h
  have E1 : ∀ y : Sub W.heap.size W, y.w.cell? ⟨w.heap.size, 1, none⟩ = some (.int .i64 0) := fun y => xc 1 _ rfl y.w y.h
  have E2 : ∀ y : Sub W.heap.size W, y.w.cell? ⟨w.heap.size, 2, none⟩ = some (.int .i64 (rn : Int)) := fun y => xc 2 _ rfl y.w y.h
  have T0 : ∀ y : Sub W.heap.size W, y.w.cell? ⟨0, 0, none⟩ = some (.string ⟨#[82]⟩) := fun y => (ht.f.next (unhide HB y)).at0
  have MK := hide (fun x w1 => markI_any x w1)
  have RG := hide (fun y : Sub W.heap.size W => regI rn hrn y.w (ht.k.next (unhide HB y)))
  have AT : agT ⟨0, (rn : Int), e⟩ = [rgT rn] := rfl
  rw [AT]
  clear AT ok ht hg hW xc xl hbW hrn
  unfold Tk.v Tk.cs at MK RG
  simp only at MK RG
  generalize hrg : rgT rn = rt at *
  obtain ⟨T, hT⟩ : ∃ T, [rt] = T := ⟨_, rfl⟩
  have HT := hide hT
  rw [hT]
  clear hT hrg
  have l0 : ([] : List Tk).length ≤ 0 := Nat.le_refl 0
  have O0 := hide (ownT_none y0.w W.heap.size)
  go_enter Tryd.func37, Tryd.ntmps37
  go_wp2_with fail
  refine wp_loop_rounds 2 ?_
  rw [rounds_succ]
  go_wp2_with fail
  refine (unhide RG y0).mono ?_
  rintro r w1 ⟨rfl, hb⟩
  have O1 := hide ((unhide O0).later hb)
  clear O0
  obtain ⟨y1, rfl⟩ := Sub.step (unhide HZ) hb
  clear hb
  obtain ⟨y2, hy2⟩ := Sub.step (unhide HZ) (below_new y1.w (.cells #[.int .i64 rt.k, .int .i64 rt.n, .string rt.s] 91))
  have S2 := hide (show OwnT y2.w W.heap.size (.slice (some ⟨y1.w.heap.size, 0, none⟩) 1 1) [rt] by rw [← hy2]; exact ownT_new y1.w rt W.heap.size (Nat.le_trans (unhide HZ) y1.h.size))
  have O2 := hide (show OwnT y2.w W.heap.size (.slice none 0 0) [] by rw [← hy2]; exact (unhide O1).later (below_new _ _))
  clear O1
  go_wp2_with (at_builtin; go_must (refine appT rfl _ _ rfl (unhide HZ) y2.h rfl (unhide O2) rfl (unhide S2) (one_ne _) (lsum l0 (one_le _) (by decide)) ?_; intro v3 y3 hO; obtain ⟨u3, hu⟩ : ∃ u, ([] ++ [rt]) = u := ⟨_, rfl⟩; rw [hu] at hO; have l3 := lapp hu l0 (one_le _); have O3 := hide hO; have H3 := hide hu; clear hO hu O2 S2))
  rw [rounds_succ]
  go_wp2_with fail
  have EQ : u3 = T := by
    rw [← unhide HT]
    rw [← unhide H3]
    simp [mkT, mkS]
  rw [EQ] at O3
  go_ret
  exact ⟨_, rfl, unhide HO y3 _ _ (unhide O3), unhide HB y3⟩
set_option maxHeartbeats 8000000 in
theorem opt_1 (rn : Nat) (hrn : rn < 8) (e : Ex) (ok : True) (w : World) (ht : TabA w) (hg : TabG w) : Calls Tryd.prog 37 #[.agg #[.nilIface, .int .i64 1, .int .i64 (rn : Int)]] w fun r w' => ∃ v, r = .returned v ∧ OwnT w' w.heap.size v (agT ⟨1, (rn : Int), e⟩) ∧ Below w.heap.size w w' := by
  have hbW := below_new w (.cells #[.nilIface, .int .i64 1, .int .i64 (rn : Int)] 54)
  obtain ⟨W, hW⟩ : ∃ W, w.alloc (.cells #[.nilIface, .int .i64 1, .int .i64 (rn : Int)] 54) = W := ⟨_, rfl⟩
  have xl : w.heap.size < W.heap.size := by rw [← hW]; simp
  have xc : ∀ (i : Nat) (v : Value), (#[.nilIface, .int .i64 1, .int .i64 (rn : Int)] : Array Value)[i]? = some v → ∀ w1, Below W.heap.size W w1 → w1.cell? ⟨w.heap.size, i, none⟩ = some v := fun i v h w1 hb => (hb.cell (p := ⟨w.heap.size, i, none⟩) xl).trans (by rw [← hW]; exact box17 w _ _ i v h)
  rw [hW] at hbW
  obtain ⟨y0, hy0⟩ : ∃ z : Sub W.heap.size W, w.alloc (.cells #[.nilIface, .int .i64 1, .int .i64 (rn : Int)] 54) = z.w := ⟨⟨W, Below.refl _ _⟩, hW⟩
  have ne := Sub.ne W.heap.size W
  have HZ := hide (Nat.le_refl W.heap.size)
  have HB := hide (fun y : Sub W.heap.size W => hbW.trans (y.h.mono hbW.size))
  have HO := hide (fun (y : Sub W.heap.size W) v ts (h : OwnT y.w W.heap.size v ts) => h.base hbW.size)
  have E0 : ∀ y : Sub W.heap.size W, y.w.cell? ⟨w.heap.size, 0, none⟩ = some .nilIface := fun y => xc 0 _ rfl y.w y.h
  have E1 : ∀ y : Sub W.heap.size W, y.w.cell? ⟨w.heap.size, 1, none⟩ = some (.int .i64 1) := fun y => xc 1 _ rfl y.w y.h
  have E2 : ∀ y : Sub W.heap.size W, y.w.cell? ⟨w.heap.size, 2, none⟩ = some (.int .i64 (rn : Int)) := fun y => xc 2 _ rfl y.w y.h
  have T0 : ∀ y : Sub W.heap.size W, y.w.cell? ⟨0, 1, none⟩ = some (.string ⟨#[40, 82, 41]⟩) := fun y => (ht.f.next (unhide HB y)).at1
  have MK := hide (fun x w1 => markI_any x w1)
  have RG := hide (fun y : Sub W.heap.size W => regI rn hrn y.w (ht.k.next (unhide HB y)))
  have X0 : (⟨#[40, 82, 41]⟩ : ByteArray).extract 0 1 = ⟨#[40]⟩ := by kernel_rfl
  have X2 : (⟨#[40, 82, 41]⟩ : ByteArray).extract 2 3 = ⟨#[41]⟩ := by kernel_rfl
  have AT : agT ⟨1, (rn : Int), e⟩ = rnT rn := rfl
  rw [AT]
  unfold rnT
  clear AT ok ht hg hW xc xl hbW hrn
  unfold Tk.v Tk.cs at MK RG
  simp only at MK RG
  generalize hrg : rgT rn = rt at *
  obtain ⟨T, hT⟩ : ∃ T, [mkT 40, rt, mkT 41] = T := ⟨_, rfl⟩
  have HT := hide hT
  rw [hT]
  clear hT hrg
  have l0 : ([] : List Tk).length ≤ 0 := Nat.le_refl 0
  have O0 := hide (ownT_none y0.w W.heap.size)
  go_enter Tryd.func37, Tryd.ntmps37
  go_wp2_with fail
  refine wp_loop_rounds 4 ?_
  rw [rounds_succ]
  go_wp2_with fail
  refine (unhide MK ⟨#[40]⟩ y0.w).mono ?_
  rintro r w1 ⟨rfl, hb⟩
  have O1 := hide ((unhide O0).later hb)
  clear O0
  obtain ⟨y1, rfl⟩ := Sub.step (unhide HZ) hb
  clear hb
  obtain ⟨y2, hy2⟩ := Sub.step (unhide HZ) (below_new y1.w (.cells #[.int .i64 4, .int .i64 0, .string ⟨#[40]⟩] 91))
  have S2 := hide (show OwnT y2.w W.heap.size (.slice (some ⟨y1.w.heap.size, 0, none⟩) 1 1) [(Tk.mk 4 0 ⟨#[40]⟩)] by rw [← hy2]; exact ownT_new y1.w (Tk.mk 4 0 ⟨#[40]⟩) W.heap.size (Nat.le_trans (unhide HZ) y1.h.size))
  have O2 := hide (show OwnT y2.w W.heap.size (.slice none 0 0) [] by rw [← hy2]; exact (unhide O1).later (below_new _ _))
  clear O1
  go_wp2_with (at_builtin; go_must (refine appT rfl _ _ rfl (unhide HZ) y2.h rfl (unhide O2) rfl (unhide S2) (one_ne _) (lsum l0 (one_le _) (by decide)) ?_; intro v3 y3 hO; obtain ⟨u3, hu⟩ : ∃ u, ([] ++ [(Tk.mk 4 0 ⟨#[40]⟩)]) = u := ⟨_, rfl⟩; rw [hu] at hO; have l3 := lapp hu l0 (one_le _); have O3 := hide hO; have H3 := hide hu; clear hO hu O2 S2))
  rw [rounds_succ]
  go_wp2_with fail
  refine (unhide RG y3).mono ?_
  rintro r w4 ⟨rfl, hb⟩
  have O4 := hide ((unhide O3).later hb)
  clear O3
  obtain ⟨y4, rfl⟩ := Sub.step (unhide HZ) hb
  clear hb
  obtain ⟨y5, hy5⟩ := Sub.step (unhide HZ) (below_new y4.w (.cells #[.int .i64 rt.k, .int .i64 rt.n, .string rt.s] 91))
  have S5 := hide (show OwnT y5.w W.heap.size (.slice (some ⟨y4.w.heap.size, 0, none⟩) 1 1) [rt] by rw [← hy5]; exact ownT_new y4.w rt W.heap.size (Nat.le_trans (unhide HZ) y4.h.size))
  have O5 := hide (show OwnT y5.w W.heap.size (v3) u3 by rw [← hy5]; exact (unhide O4).later (below_new _ _))
  clear O4
  go_wp2_with (at_builtin; go_must (refine appT rfl _ _ rfl (unhide HZ) y5.h rfl (unhide O5) rfl (unhide S5) (one_ne _) (lsum l3 (one_le _) (by decide)) ?_; intro v6 y6 hO; obtain ⟨u6, hu⟩ : ∃ u, (u3 ++ [rt]) = u := ⟨_, rfl⟩; rw [hu] at hO; have l6 := lapp hu l3 (one_le _); have O6 := hide hO; have H6 := hide hu; clear hO hu O5 S5))
  rw [rounds_succ]
  go_wp2_with fail
  refine (unhide MK ⟨#[41]⟩ y6.w).mono ?_
  rintro r w7 ⟨rfl, hb⟩
  have O7 := hide ((unhide O6).later hb)
  clear O6
  obtain ⟨y7, rfl⟩ := Sub.step (unhide HZ) hb
  clear hb
  obtain ⟨y8, hy8⟩ := Sub.step (unhide HZ) (below_new y7.w (.cells #[.int .i64 4, .int .i64 0, .string ⟨#[41]⟩] 91))
  have S8 := hide (show OwnT y8.w W.heap.size (.slice (some ⟨y7.w.heap.size, 0, none⟩) 1 1) [(Tk.mk 4 0 ⟨#[41]⟩)] by rw [← hy8]; exact ownT_new y7.w (Tk.mk 4 0 ⟨#[41]⟩) W.heap.size (Nat.le_trans (unhide HZ) y7.h.size))
  have O8 := hide (show OwnT y8.w W.heap.size (v6) u6 by rw [← hy8]; exact (unhide O7).later (below_new _ _))
  clear O7
  go_wp2_with (at_builtin; go_must (refine appT rfl _ _ rfl (unhide HZ) y8.h rfl (unhide O8) rfl (unhide S8) (one_ne _) (lsum l6 (one_le _) (by decide)) ?_; intro v9 y9 hO; obtain ⟨u9, hu⟩ : ∃ u, (u6 ++ [(Tk.mk 4 0 ⟨#[41]⟩)]) = u := ⟨_, rfl⟩; rw [hu] at hO; have l9 := lapp hu l6 (one_le _); have O9 := hide hO; have H9 := hide hu; clear hO hu O8 S8))
  rw [rounds_succ]
  go_wp2_with fail
  have EQ : u9 = T := by
    rw [← unhide HT]
    rw [← unhide H9, ← unhide H6, ← unhide H3]
    simp [mkT, mkS]
  rw [EQ] at O9
  go_ret
  exact ⟨_, rfl, unhide HO y9 _ _ (unhide O9), unhide HB y9⟩
set_option maxHeartbeats 8000000 in
theorem opt_2 (rn : Nat) (hrn : rn < 8) (e : Ex) (ok : True) (w : World) (ht : TabA w) (hg : TabG w) : Calls Tryd.prog 37 #[.agg #[.nilIface, .int .i64 2, .int .i64 (rn : Int)]] w fun r w' => ∃ v, r = .returned v ∧ OwnT w' w.heap.size v (agT ⟨2, (rn : Int), e⟩) ∧ Below w.heap.size w w' := by
  have hbW := below_new w (.cells #[.nilIface, .int .i64 2, .int .i64 (rn : Int)] 54)
  obtain ⟨W, hW⟩ : ∃ W, w.alloc (.cells #[.nilIface, .int .i64 2, .int .i64 (rn : Int)] 54) = W := ⟨_, rfl⟩
  have xl : w.heap.size < W.heap.size := by rw [← hW]; simp
  have xc : ∀ (i : Nat) (v : Value), (#[.nilIface, .int .i64 2, .int .i64 (rn : Int)] : Array Value)[i]? = some v → ∀ w1, Below W.heap.size W w1 → w1.cell? ⟨w.heap.size, i, none⟩ = some v := fun i v h w1 hb => (hb.cell (p := ⟨w.heap.size, i, none⟩) xl).trans (by rw [← hW]; exact box17 w _ _ i v h)
  rw [hW] at hbW
  obtain ⟨y0, hy0⟩ : ∃ z : Sub W.heap.size W, w.alloc (.cells #[.nilIface, .int .i64 2, .int .i64 (rn : Int)] 54) = z.w := ⟨⟨W, Below.refl _ _⟩, hW⟩
  have ne := Sub.ne W.heap.size W
  have HZ := hide (Nat.le_refl W.heap.size)
  have HB := hide (fun y : Sub W.heap.size W => hbW.trans (y.h.mono hbW.size))
  have HO := hide (fun (y : Sub W.heap.size W) v ts (h : OwnT y.w W.heap.size v ts) => h.base hbW.size)
  have E0 : ∀ y : Sub W.heap.size W, y.w.cell? ⟨w.heap.size, 0, none⟩ = some .nilIface := fun y => xc 0 _ rfl y.w y.h
  have E1 : ∀ y : Sub W.heap.size W, y.w.cell? ⟨w.heap.size, 1, none⟩ = some (.int .i64 2) := fun y => xc 1 _ rfl y.w y.h
  have E2 : ∀ y : Sub W.heap.size W, y.w.cell? ⟨w.heap.size, 2, none⟩ = some (.int .i64 (rn : Int)) := fun y => xc 2 _ rfl y.w y.h
  have T0 : ∀ y : Sub W.heap.size W, y.w.cell? ⟨0, 2, none⟩ = some (.string ⟨#[40, 82, 41, 43]⟩) := fun y => (ht.f.next (unhide HB y)).at2
  have MK := hide (fun x w1 => markI_any x w1)
  have RG := hide (fun y : Sub W.heap.size W => regI rn hrn y.w (ht.k.next (unhide HB y)))
  have X0 : (⟨#[40, 82, 41, 43]⟩ : ByteArray).extract 0 1 = ⟨#[40]⟩ := by kernel_rfl
  have X2 : (⟨#[40, 82, 41, 43]⟩ : ByteArray).extract 2 3 = ⟨#[41]⟩ := by kernel_rfl
  have X3 : (⟨#[40, 82, 41, 43]⟩ : ByteArray).extract 3 4 = ⟨#[43]⟩ := by kernel_rfl
  have AT : agT ⟨2, (rn : Int), e⟩ = rnT rn ++ [mkT 43] := rfl
  rw [AT]
  unfold rnT
  clear AT ok ht hg hW xc xl hbW hrn
  unfold Tk.v Tk.cs at MK RG
  simp only at MK RG
  generalize hrg : rgT rn = rt at *
  obtain ⟨T, hT⟩ : ∃ T, [mkT 40, rt, mkT 41] ++ [mkT 43] = T := ⟨_, rfl⟩
  have HT := hide hT
  rw [hT]
  clear hT hrg
  have l0 : ([] : List Tk).length ≤ 0 := Nat.le_refl 0
  have O0 := hide (ownT_none y0.w W.heap.size)
  go_enter Tryd.func37, Tryd.ntmps37
  go_wp2_with fail
  refine wp_loop_rounds 5 ?_
  rw [rounds_succ]
  go_wp2_with fail
  refine (unhide MK ⟨#[40]⟩ y0.w).mono ?_
  rintro r w1 ⟨rfl, hb⟩
  have O1 := hide ((unhide O0).later hb)
  clear O0
  obtain ⟨y1, rfl⟩ := Sub.step (unhide HZ) hb
  clear hb
  obtain ⟨y2, hy2⟩ := Sub.step (unhide HZ) (below_new y1.w (.cells #[.int .i64 4, .int .i64 0, .string ⟨#[40]⟩] 91))
  have S2 := hide (show OwnT y2.w W.heap.size (.slice (some ⟨y1.w.heap.size, 0, none⟩) 1 1) [(Tk.mk 4 0 ⟨#[40]⟩)] by rw [← hy2]; exact ownT_new y1.w (Tk.mk 4 0 ⟨#[40]⟩) W.heap.size (Nat.le_trans (unhide HZ) y1.h.size))
  have O2 := hide (show OwnT y2.w W.heap.size (.slice none 0 0) [] by rw [← hy2]; exact (unhide O1).later (below_new _ _))
  clear O1
  go_wp2_with (at_builtin; go_must (refine appT rfl _ _ rfl (unhide HZ) y2.h rfl (unhide O2) rfl (unhide S2) (one_ne _) (lsum l0 (one_le _) (by decide)) ?_; intro v3 y3 hO; obtain ⟨u3, hu⟩ : ∃ u, ([] ++ [(Tk.mk 4 0 ⟨#[40]⟩)]) = u := ⟨_, rfl⟩; rw [hu] at hO; have l3 := lapp hu l0 (one_le _); have O3 := hide hO; have H3 := hide hu; clear hO hu O2 S2))
  rw [rounds_succ]
  go_wp2_with fail
  refine (unhide RG y3).mono ?_
  rintro r w4 ⟨rfl, hb⟩
  have O4 := hide ((unhide O3).later hb)
  clear O3
  obtain ⟨y4, rfl⟩ := Sub.step (unhide HZ) hb
  clear hb
  obtain ⟨y5, hy5⟩ := Sub.step (unhide HZ) (below_new y4.w (.cells #[.int .i64 rt.k, .int .i64 rt.n, .string rt.s] 91))
  have S5 := hide (show OwnT y5.w W.heap.size (.slice (some ⟨y4.w.heap.size, 0, none⟩) 1 1) [rt] by rw [← hy5]; exact ownT_new y4.w rt W.heap.size (Nat.le_trans (unhide HZ) y4.h.size))
  have O5 := hide (show OwnT y5.w W.heap.size (v3) u3 by rw [← hy5]; exact (unhide O4).later (below_new _ _))
  clear O4
  go_wp2_with (at_builtin; go_must (refine appT rfl _ _ rfl (unhide HZ) y5.h rfl (unhide O5) rfl (unhide S5) (one_ne _) (lsum l3 (one_le _) (by decide)) ?_; intro v6 y6 hO; obtain ⟨u6, hu⟩ : ∃ u, (u3 ++ [rt]) = u := ⟨_, rfl⟩; rw [hu] at hO; have l6 := lapp hu l3 (one_le _); have O6 := hide hO; have H6 := hide hu; clear hO hu O5 S5))
  rw [rounds_succ]
  go_wp2_with fail
  refine (unhide MK ⟨#[41]⟩ y6.w).mono ?_
  rintro r w7 ⟨rfl, hb⟩
  have O7 := hide ((unhide O6).later hb)
  clear O6
  obtain ⟨y7, rfl⟩ := Sub.step (unhide HZ) hb
  clear hb
  obtain ⟨y8, hy8⟩ := Sub.step (unhide HZ) (below_new y7.w (.cells #[.int .i64 4, .int .i64 0, .string ⟨#[41]⟩] 91))
  have S8 := hide (show OwnT y8.w W.heap.size (.slice (some ⟨y7.w.heap.size, 0, none⟩) 1 1) [(Tk.mk 4 0 ⟨#[41]⟩)] by rw [← hy8]; exact ownT_new y7.w (Tk.mk 4 0 ⟨#[41]⟩) W.heap.size (Nat.le_trans (unhide HZ) y7.h.size))
  have O8 := hide (show OwnT y8.w W.heap.size (v6) u6 by rw [← hy8]; exact (unhide O7).later (below_new _ _))
  clear O7
  go_wp2_with (at_builtin; go_must (refine appT rfl _ _ rfl (unhide HZ) y8.h rfl (unhide O8) rfl (unhide S8) (one_ne _) (lsum l6 (one_le _) (by decide)) ?_; intro v9 y9 hO; obtain ⟨u9, hu⟩ : ∃ u, (u6 ++ [(Tk.mk 4 0 ⟨#[41]⟩)]) = u := ⟨_, rfl⟩; rw [hu] at hO; have l9 := lapp hu l6 (one_le _); have O9 := hide hO; have H9 := hide hu; clear hO hu O8 S8))
  rw [rounds_succ]
  go_wp2_with fail
  refine (unhide MK ⟨#[43]⟩ y9.w).mono ?_
  rintro r w10 ⟨rfl, hb⟩
  have O10 := hide ((unhide O9).later hb)
  clear O9
  obtain ⟨y10, rfl⟩ := Sub.step (unhide HZ) hb
  clear hb
  obtain ⟨y11, hy11⟩ := Sub.step (unhide HZ) (below_new y10.w (.cells #[.int .i64 4, .int .i64 0, .string ⟨#[43]⟩] 91))
  have S11 := hide (show OwnT y11.w W.heap.size (.slice (some ⟨y10.w.heap.size, 0, none⟩) 1 1) [(Tk.mk 4 0 ⟨#[43]⟩)] by rw [← hy11]; exact ownT_new y10.w (Tk.mk 4 0 ⟨#[43]⟩) W.heap.size (Nat.le_trans (unhide HZ) y10.h.size))
  have O11 := hide (show OwnT y11.w W.heap.size (v9) u9 by rw [← hy11]; exact (unhide O10).later (below_new _ _))
  clear O10
  go_wp2_with (at_builtin; go_must (refine appT rfl _ _ rfl (unhide HZ) y11.h rfl (unhide O11) rfl (unhide S11) (one_ne _) (lsum l9 (one_le _) (by decide)) ?_; intro v12 y12 hO; obtain ⟨u12, hu⟩ : ∃ u, (u9 ++ [(Tk.mk 4 0 ⟨#[43]⟩)]) = u := ⟨_, rfl⟩; rw [hu] at hO; have l12 := lapp hu l9 (one_le _); have O12 := hide hO; have H12 := hide hu; clear hO hu O11 S11))
  rw [rounds_succ]
  go_wp2_with fail
  have EQ : u12 = T := by
    rw [← unhide HT]
    rw [← unhide H12, ← unhide H9, ← unhide H6, ← unhide H3]
    simp [mkT, mkS]
  rw [EQ] at O12
  go_ret
  exact ⟨_, rfl, unhide HO y12 _ _ (unhide O12), unhide HB y12⟩
set_option maxHeartbeats 8000000 in
theorem opt_3 (rn : Nat) (hrn : rn < 8) (e : Ex) (ok : True) (w : World) (ht : TabA w) (hg : TabG w) : Calls Tryd.prog 37 #[.agg #[.nilIface, .int .i64 3, .int .i64 (rn : Int)]] w fun r w' => ∃ v, r = .returned v ∧ OwnT w' w.heap.size v (agT ⟨3, (rn : Int), e⟩) ∧ Below w.heap.size w w' := by
  have hbW := below_new w (.cells #[.nilIface, .int .i64 3, .int .i64 (rn : Int)] 54)
  obtain ⟨W, hW⟩ : ∃ W, w.alloc (.cells #[.nilIface, .int .i64 3, .int .i64 (rn : Int)] 54) = W := ⟨_, rfl⟩
  have xl : w.heap.size < W.heap.size := by rw [← hW]; simp
  have xc : ∀ (i : Nat) (v : Value), (#[.nilIface, .int .i64 3, .int .i64 (rn : Int)] : Array Value)[i]? = some v → ∀ w1, Below W.heap.size W w1 → w1.cell? ⟨w.heap.size, i, none⟩ = some v := fun i v h w1 hb => (hb.cell (p := ⟨w.heap.size, i, none⟩) xl).trans (by rw [← hW]; exact box17 w _ _ i v h)
  rw [hW] at hbW
  obtain ⟨y0, hy0⟩ : ∃ z : Sub W.heap.size W, w.alloc (.cells #[.nilIface, .int .i64 3, .int .i64 (rn : Int)] 54) = z.w := ⟨⟨W, Below.refl _ _⟩, hW⟩
  have ne := Sub.ne W.heap.size W
  have HZ := hide (Nat.le_refl W.heap.size)
  have HB := hide (fun y : Sub W.heap.size W => hbW.trans (y.h.mono hbW.size))
  have HO := hide (fun (y : Sub W.heap.size W) v ts (h : OwnT y.w W.heap.size v ts) => h.base hbW.size)
  have E0 : ∀ y : Sub W.heap.size W, y.w.cell? ⟨w.heap.size, 0, none⟩ = some .nilIface := fun y => xc 0 _ rfl y.w y.h
  have E1 : ∀ y : Sub W.heap.size W, y.w.cell? ⟨w.heap.size, 1, none⟩ = some (.int .i64 3) := fun y => xc 1 _ rfl y.w y.h
  have E2 : ∀ y : Sub W.heap.size W, y.w.cell? ⟨w.heap.size, 2, none⟩ = some (.int .i64 (rn : Int)) := fun y => xc 2 _ rfl y.w y.h
  have T0 : ∀ y : Sub W.heap.size W, y.w.cell? ⟨0, 3, none⟩ = some (.string ⟨#[64, 40, 82, 41, 43]⟩) := fun y => (ht.f.next (unhide HB y)).at3
  have MK := hide (fun x w1 => markI_any x w1)
  have RG := hide (fun y : Sub W.heap.size W => regI rn hrn y.w (ht.k.next (unhide HB y)))
  have X0 : (⟨#[64, 40, 82, 41, 43]⟩ : ByteArray).extract 0 1 = ⟨#[64]⟩ := by kernel_rfl
  have X1 : (⟨#[64, 40, 82, 41, 43]⟩ : ByteArray).extract 1 2 = ⟨#[40]⟩ := by kernel_rfl
  have X3 : (⟨#[64, 40, 82, 41, 43]⟩ : ByteArray).extract 3 4 = ⟨#[41]⟩ := by kernel_rfl
  have X4 : (⟨#[64, 40, 82, 41, 43]⟩ : ByteArray).extract 4 5 = ⟨#[43]⟩ := by kernel_rfl
  have AT : agT ⟨3, (rn : Int), e⟩ = mkT 64 :: (rnT rn ++ [mkT 43]) := rfl
  rw [AT]
  unfold rnT
  clear AT ok ht hg hW xc xl hbW hrn
  unfold Tk.v Tk.cs at MK RG
  simp only at MK RG
  generalize hrg : rgT rn = rt at *
  obtain ⟨T, hT⟩ : ∃ T, mkT 64 :: ([mkT 40, rt, mkT 41] ++ [mkT 43]) = T := ⟨_, rfl⟩
  have HT := hide hT
  rw [hT]
  clear hT hrg
  have l0 : ([] : List Tk).length ≤ 0 := Nat.le_refl 0
  have O0 := hide (ownT_none y0.w W.heap.size)
  go_enter Tryd.func37, Tryd.ntmps37
  go_wp2_with fail
  refine wp_loop_rounds 6 ?_
  rw [rounds_succ]
  go_wp2_with fail
  refine (unhide MK ⟨#[64]⟩ y0.w).mono ?_
  rintro r w1 ⟨rfl, hb⟩
  have O1 := hide ((unhide O0).later hb)
  clear O0
  obtain ⟨y1, rfl⟩ := Sub.step (unhide HZ) hb
  clear hb
  obtain ⟨y2, hy2⟩ := Sub.step (unhide HZ) (below_new y1.w (.cells #[.int .i64 4, .int .i64 0, .string ⟨#[64]⟩] 91))
  have S2 := hide (show OwnT y2.w W.heap.size (.slice (some ⟨y1.w.heap.size, 0, none⟩) 1 1) [(Tk.mk 4 0 ⟨#[64]⟩)] by rw [← hy2]; exact ownT_new y1.w (Tk.mk 4 0 ⟨#[64]⟩) W.heap.size (Nat.le_trans (unhide HZ) y1.h.size))
  have O2 := hide (show OwnT y2.w W.heap.size (.slice none 0 0) [] by rw [← hy2]; exact (unhide O1).later (below_new _ _))
  clear O1
  go_wp2_with (at_builtin; go_must (refine appT rfl _ _ rfl (unhide HZ) y2.h rfl (unhide O2) rfl (unhide S2) (one_ne _) (lsum l0 (one_le _) (by decide)) ?_; intro v3 y3 hO; obtain ⟨u3, hu⟩ : ∃ u, ([] ++ [(Tk.mk 4 0 ⟨#[64]⟩)]) = u := ⟨_, rfl⟩; rw [hu] at hO; have l3 := lapp hu l0 (one_le _); have O3 := hide hO; have H3 := hide hu; clear hO hu O2 S2))
  rw [rounds_succ]
  go_wp2_with fail
  refine (unhide MK ⟨#[40]⟩ y3.w).mono ?_
  rintro r w4 ⟨rfl, hb⟩
  have O4 := hide ((unhide O3).later hb)
  clear O3
  obtain ⟨y4, rfl⟩ := Sub.step (unhide HZ) hb
  clear hb
  obtain ⟨y5, hy5⟩ := Sub.step (unhide HZ) (below_new y4.w (.cells #[.int .i64 4, .int .i64 0, .string ⟨#[40]⟩] 91))
  have S5 := hide (show OwnT y5.w W.heap.size (.slice (some ⟨y4.w.heap.size, 0, none⟩) 1 1) [(Tk.mk 4 0 ⟨#[40]⟩)] by rw [← hy5]; exact ownT_new y4.w (Tk.mk 4 0 ⟨#[40]⟩) W.heap.size (Nat.le_trans (unhide HZ) y4.h.size))
  have O5 := hide (show OwnT y5.w W.heap.size (v3) u3 by rw [← hy5]; exact (unhide O4).later (below_new _ _))
  clear O4
  go_wp2_with (at_builtin; go_must (refine appT rfl _ _ rfl (unhide HZ) y5.h rfl (unhide O5) rfl (unhide S5) (one_ne _) (lsum l3 (one_le _) (by decide)) ?_; intro v6 y6 hO; obtain ⟨u6, hu⟩ : ∃ u, (u3 ++ [(Tk.mk 4 0 ⟨#[40]⟩)]) = u := ⟨_, rfl⟩; rw [hu] at hO; have l6 := lapp hu l3 (one_le _); have O6 := hide hO; have H6 := hide hu; clear hO hu O5 S5))
  rw [rounds_succ]
  go_wp2_with fail
  refine (unhide RG y6).mono ?_
  rintro r w7 ⟨rfl, hb⟩
  have O7 := hide ((unhide O6).later hb)
  clear O6
  obtain ⟨y7, rfl⟩ := Sub.step (unhide HZ) hb
  clear hb
  obtain ⟨y8, hy8⟩ := Sub.step (unhide HZ) (below_new y7.w (.cells #[.int .i64 rt.k, .int .i64 rt.n, .string rt.s] 91))
  have S8 := hide (show OwnT y8.w W.heap.size (.slice (some ⟨y7.w.heap.size, 0, none⟩) 1 1) [rt] by rw [← hy8]; exact ownT_new y7.w rt W.heap.size (Nat.le_trans (unhide HZ) y7.h.size))
  have O8 := hide (show OwnT y8.w W.heap.size (v6) u6 by rw [← hy8]; exact (unhide O7).later (below_new _ _))
  clear O7
  go_wp2_with (at_builtin; go_must (refine appT rfl _ _ rfl (unhide HZ) y8.h rfl (unhide O8) rfl (unhide S8) (one_ne _) (lsum l6 (one_le _) (by decide)) ?_; intro v9 y9 hO; obtain ⟨u9, hu⟩ : ∃ u, (u6 ++ [rt]) = u := ⟨_, rfl⟩; rw [hu] at hO; have l9 := lapp hu l6 (one_le _); have O9 := hide hO; have H9 := hide hu; clear hO hu O8 S8))
  rw [rounds_succ]
  go_wp2_with fail
  refine (unhide MK ⟨#[41]⟩ y9.w).mono ?_
  rintro r w10 ⟨rfl, hb⟩
  have O10 := hide ((unhide O9).later hb)
  clear O9
  obtain ⟨y10, rfl⟩ := Sub.step (unhide HZ) hb
  clear hb
  obtain ⟨y11, hy11⟩ := Sub.step (unhide HZ) (below_new y10.w (.cells #[.int .i64 4, .int .i64 0, .string ⟨#[41]⟩] 91))
  have S11 := hide (show OwnT y11.w W.heap.size (.slice (some ⟨y10.w.heap.size, 0, none⟩) 1 1) [(Tk.mk 4 0 ⟨#[41]⟩)] by rw [← hy11]; exact ownT_new y10.w (Tk.mk 4 0 ⟨#[41]⟩) W.heap.size (Nat.le_trans (unhide HZ) y10.h.size))
  have O11 := hide (show OwnT y11.w W.heap.size (v9) u9 by rw [← hy11]; exact (unhide O10).later (below_new _ _))
  clear O10
  go_wp2_with (at_builtin; go_must (refine appT rfl _ _ rfl (unhide HZ) y11.h rfl (unhide O11) rfl (unhide S11) (one_ne _) (lsum l9 (one_le _) (by decide)) ?_; intro v12 y12 hO; obtain ⟨u12, hu⟩ : ∃ u, (u9 ++ [(Tk.mk 4 0 ⟨#[41]⟩)]) = u := ⟨_, rfl⟩; rw [hu] at hO; have l12 := lapp hu l9 (one_le _); have O12 := hide hO; have H12 := hide hu; clear hO hu O11 S11))
  rw [rounds_succ]
  go_wp2_with fail
  refine (unhide MK ⟨#[43]⟩ y12.w).mono ?_
  rintro r w13 ⟨rfl, hb⟩
  have O13 := hide ((unhide O12).later hb)
  clear O12
  obtain ⟨y13, rfl⟩ := Sub.step (unhide HZ) hb
  clear hb
  obtain ⟨y14, hy14⟩ := Sub.step (unhide HZ) (below_new y13.w (.cells #[.int .i64 4, .int .i64 0, .string ⟨#[43]⟩] 91))
  have S14 := hide (show OwnT y14.w W.heap.size (.slice (some ⟨y13.w.heap.size, 0, none⟩) 1 1) [(Tk.mk 4 0 ⟨#[43]⟩)] by rw [← hy14]; exact ownT_new y13.w (Tk.mk 4 0 ⟨#[43]⟩) W.heap.size (Nat.le_trans (unhide HZ) y13.h.size))
  have O14 := hide (show OwnT y14.w W.heap.size (v12) u12 by rw [← hy14]; exact (unhide O13).later (below_new _ _))
  clear O13
  go_wp2_with (at_builtin; go_must (refine appT rfl _ _ rfl (unhide HZ) y14.h rfl (unhide O14) rfl (unhide S14) (one_ne _) (lsum l12 (one_le _) (by decide)) ?_; intro v15 y15 hO; obtain ⟨u15, hu⟩ : ∃ u, (u12 ++ [(Tk.mk 4 0 ⟨#[43]⟩)]) = u := ⟨_, rfl⟩; rw [hu] at hO; have l15 := lapp hu l12 (one_le _); have O15 := hide hO; have H15 := hide hu; clear hO hu O14 S14))
  rw [rounds_succ]
  go_wp2_with fail
  have EQ : u15 = T := by
    rw [← unhide HT]
    rw [← unhide H15, ← unhide H12, ← unhide H9, ← unhide H6, ← unhide H3]
    simp [mkT, mkS]
  rw [EQ] at O15
  go_ret
  exact ⟨_, rfl, unhide HO y15 _ _ (unhide O15), unhide HB y15⟩
set_option maxHeartbeats 8000000 in
theorem opt_4 (rn : Nat) (hrn : rn < 8) (e : Ex) (ok : True) (w : World) (ht : TabA w) (hg : TabG w) : Calls Tryd.prog 37 #[.agg #[.nilIface, .int .i64 4, .int .i64 (rn : Int)]] w fun r w' => ∃ v, r = .returned v ∧ OwnT w' w.heap.size v (agT ⟨4, (rn : Int), e⟩) ∧ Below w.heap.size w w' := by
  have hbW := below_new w (.cells #[.nilIface, .int .i64 4, .int .i64 (rn : Int)] 54)
  obtain ⟨W, hW⟩ : ∃ W, w.alloc (.cells #[.nilIface, .int .i64 4, .int .i64 (rn : Int)] 54) = W := ⟨_, rfl⟩
  have xl : w.heap.size < W.heap.size := by rw [← hW]; simp
  have xc : ∀ (i : Nat) (v : Value), (#[.nilIface, .int .i64 4, .int .i64 (rn : Int)] : Array Value)[i]? = some v → ∀ w1, Below W.heap.size W w1 → w1.cell? ⟨w.heap.size, i, none⟩ = some v := fun i v h w1 hb => (hb.cell (p := ⟨w.heap.size, i, none⟩) xl).trans (by rw [← hW]; exact box17 w _ _ i v h)
  rw [hW] at hbW
  obtain ⟨y0, hy0⟩ : ∃ z : Sub W.heap.size W, w.alloc (.cells #[.nilIface, .int .i64 4, .int .i64 (rn : Int)] 54) = z.w := ⟨⟨W, Below.refl _ _⟩, hW⟩
  have ne := Sub.ne W.heap.size W
  have HZ := hide (Nat.le_refl W.heap.size)
  have HB := hide (fun y : Sub W.heap.size W => hbW.trans (y.h.mono hbW.size))
  have HO := hide (fun (y : Sub W.heap.size W) v ts (h : OwnT y.w W.heap.size v ts) => h.base hbW.size)
  have E0 : ∀ y : Sub W.heap.size W, y.w.cell? ⟨w.heap.size, 0, none⟩ = some .nilIface := fun y => xc 0 _ rfl y.w y.h
  have E1 : ∀ y : Sub W.heap.size W, y.w.cell? ⟨w.heap.size, 1, none⟩ = some (.int .i64 4) := fun y => xc 1 _ rfl y.w y.h
  have E2 : ∀ y : Sub W.heap.size W, y.w.cell? ⟨w.heap.size, 2, none⟩ = some (.int .i64 (rn : Int)) := fun y => xc 2 _ rfl y.w y.h
  have T0 : ∀ y : Sub W.heap.size W, y.w.cell? ⟨0, 4, none⟩ = some (.string ⟨#[45, 40, 82, 41]⟩) := fun y => (ht.f.next (unhide HB y)).at4
  have MK := hide (fun x w1 => markI_any x w1)
  have RG := hide (fun y : Sub W.heap.size W => regI rn hrn y.w (ht.k.next (unhide HB y)))
  have X0 : (⟨#[45, 40, 82, 41]⟩ : ByteArray).extract 0 1 = ⟨#[45]⟩ := by kernel_rfl
  have X1 : (⟨#[45, 40, 82, 41]⟩ : ByteArray).extract 1 2 = ⟨#[40]⟩ := by kernel_rfl
  have X3 : (⟨#[45, 40, 82, 41]⟩ : ByteArray).extract 3 4 = ⟨#[41]⟩ := by kernel_rfl
  have AT : agT ⟨4, (rn : Int), e⟩ = mkT 45 :: rnT rn := rfl
  rw [AT]
  unfold rnT
  clear AT ok ht hg hW xc xl hbW hrn
  unfold Tk.v Tk.cs at MK RG
  simp only at MK RG
  generalize hrg : rgT rn = rt at *
  obtain ⟨T, hT⟩ : ∃ T, mkT 45 :: [mkT 40, rt, mkT 41] = T := ⟨_, rfl⟩
  have HT := hide hT
  rw [hT]
  clear hT hrg
  have l0 : ([] : List Tk).length ≤ 0 := Nat.le_refl 0
  have O0 := hide (ownT_none y0.w W.heap.size)
  go_enter Tryd.func37, Tryd.ntmps37
  go_wp2_with fail
  refine wp_loop_rounds 5 ?_
  rw [rounds_succ]
  go_wp2_with fail
  refine (unhide MK ⟨#[45]⟩ y0.w).mono ?_
  rintro r w1 ⟨rfl, hb⟩
  have O1 := hide ((unhide O0).later hb)
  clear O0
  obtain ⟨y1, rfl⟩ := Sub.step (unhide HZ) hb
  clear hb
  obtain ⟨y2, hy2⟩ := Sub.step (unhide HZ) (below_new y1.w (.cells #[.int .i64 4, .int .i64 0, .string ⟨#[45]⟩] 91))
  have S2 := hide (show OwnT y2.w W.heap.size (.slice (some ⟨y1.w.heap.size, 0, none⟩) 1 1) [(Tk.mk 4 0 ⟨#[45]⟩)] by rw [← hy2]; exact ownT_new y1.w (Tk.mk 4 0 ⟨#[45]⟩) W.heap.size (Nat.le_trans (unhide HZ) y1.h.size))
  have O2 := hide (show OwnT y2.w W.heap.size (.slice none 0 0) [] by rw [← hy2]; exact (unhide O1).later (below_new _ _))
  clear O1
  go_wp2_with (at_builtin; go_must (refine appT rfl _ _ rfl (unhide HZ) y2.h rfl (unhide O2) rfl (unhide S2) (one_ne _) (lsum l0 (one_le _) (by decide)) ?_; intro v3 y3 hO; obtain ⟨u3, hu⟩ : ∃ u, ([] ++ [(Tk.mk 4 0 ⟨#[45]⟩)]) = u := ⟨_, rfl⟩; rw [hu] at hO; have l3 := lapp hu l0 (one_le _); have O3 := hide hO; have H3 := hide hu; clear hO hu O2 S2))
  rw [rounds_succ]
  go_wp2_with fail
  refine (unhide MK ⟨#[40]⟩ y3.w).mono ?_
  rintro r w4 ⟨rfl, hb⟩
  have O4 := hide ((unhide O3).later hb)
  clear O3
  obtain ⟨y4, rfl⟩ := Sub.step (unhide HZ) hb
  clear hb
  obtain ⟨y5, hy5⟩ := Sub.step (unhide HZ) (below_new y4.w (.cells #[.int .i64 4, .int .i64 0, .string ⟨#[40]⟩] 91))
  have S5 := hide (show OwnT y5.w W.heap.size (.slice (some ⟨y4.w.heap.size, 0, none⟩) 1 1) [(Tk.mk 4 0 ⟨#[40]⟩)] by rw [← hy5]; exact ownT_new y4.w (Tk.mk 4 0 ⟨#[40]⟩) W.heap.size (Nat.le_trans (unhide HZ) y4.h.size))
  have O5 := hide (show OwnT y5.w W.heap.size (v3) u3 by rw [← hy5]; exact (unhide O4).later (below_new _ _))
  clear O4
  go_wp2_with (at_builtin; go_must (refine appT rfl _ _ rfl (unhide HZ) y5.h rfl (unhide O5) rfl (unhide S5) (one_ne _) (lsum l3 (one_le _) (by decide)) ?_; intro v6 y6 hO; obtain ⟨u6, hu⟩ : ∃ u, (u3 ++ [(Tk.mk 4 0 ⟨#[40]⟩)]) = u := ⟨_, rfl⟩; rw [hu] at hO; have l6 := lapp hu l3 (one_le _); have O6 := hide hO; have H6 := hide hu; clear hO hu O5 S5))
  rw [rounds_succ]
  go_wp2_with fail
  refine (unhide RG y6).mono ?_
  rintro r w7 ⟨rfl, hb⟩
  have O7 := hide ((unhide O6).later hb)
  clear O6
  obtain ⟨y7, rfl⟩ := Sub.step (unhide HZ) hb
  clear hb
  obtain ⟨y8, hy8⟩ := Sub.step (unhide HZ) (below_new y7.w (.cells #[.int .i64 rt.k, .int .i64 rt.n, .string rt.s] 91))
  have S8 := hide (show OwnT y8.w W.heap.size (.slice (some ⟨y7.w.heap.size, 0, none⟩) 1 1) [rt] by rw [← hy8]; exact ownT_new y7.w rt W.heap.size (Nat.le_trans (unhide HZ) y7.h.size))
  have O8 := hide (show OwnT y8.w W.heap.size (v6) u6 by rw [← hy8]; exact (unhide O7).later (below_new _ _))
  clear O7
  go_wp2_with (at_builtin; go_must (refine appT rfl _ _ rfl (unhide HZ) y8.h rfl (unhide O8) rfl (unhide S8) (one_ne _) (lsum l6 (one_le _) (by decide)) ?_; intro v9 y9 hO; obtain ⟨u9, hu⟩ : ∃ u, (u6 ++ [rt]) = u := ⟨_, rfl⟩; rw [hu] at hO; have l9 := lapp hu l6 (one_le _); have O9 := hide hO; have H9 := hide hu; clear hO hu O8 S8))
  rw [rounds_succ]
  go_wp2_with fail
  refine (unhide MK ⟨#[41]⟩ y9.w).mono ?_
  rintro r w10 ⟨rfl, hb⟩
  have O10 := hide ((unhide O9).later hb)
  clear O9
  obtain ⟨y10, rfl⟩ := Sub.step (unhide HZ) hb
  clear hb
  obtain ⟨y11, hy11⟩ := Sub.step (unhide HZ) (below_new y10.w (.cells #[.int .i64 4, .int .i64 0, .string ⟨#[41]⟩] 91))
  have S11 := hide (show OwnT y11.w W.heap.size (.slice (some ⟨y10.w.heap.size, 0, none⟩) 1 1) [(Tk.mk 4 0 ⟨#[41]⟩)] by rw [← hy11]; exact ownT_new y10.w (Tk.mk 4 0 ⟨#[41]⟩) W.heap.size (Nat.le_trans (unhide HZ) y10.h.size))
  have O11 := hide (show OwnT y11.w W.heap.size (v9) u9 by rw [← hy11]; exact (unhide O10).later (below_new _ _))
  clear O10
  go_wp2_with (at_builtin; go_must (refine appT rfl _ _ rfl (unhide HZ) y11.h rfl (unhide O11) rfl (unhide S11) (one_ne _) (lsum l9 (one_le _) (by decide)) ?_; intro v12 y12 hO; obtain ⟨u12, hu⟩ : ∃ u, (u9 ++ [(Tk.mk 4 0 ⟨#[41]⟩)]) = u := ⟨_, rfl⟩; rw [hu] at hO; have l12 := lapp hu l9 (one_le _); have O12 := hide hO; have H12 := hide hu; clear hO hu O11 S11))
  rw [rounds_succ]
  go_wp2_with fail
  have EQ : u12 = T := by
    rw [← unhide HT]
    rw [← unhide H12, ← unhide H9, ← unhide H6, ← unhide H3]
    simp [mkT, mkS]
  rw [EQ] at O12
  go_ret
  exact ⟨_, rfl, unhide HO y12 _ _ (unhide O12), unhide HB y12⟩
set_option maxHeartbeats 8000000 in
theorem opt_5 (rn : Nat) (hrn : rn < 8) (e : Ex) (ok : True) (w : World) (ht : TabA w) (hg : TabG w) : Calls Tryd.prog 37 #[.agg #[.nilIface, .int .i64 5, .int .i64 (rn : Int)]] w fun r w' => ∃ v, r = .returned v ∧ OwnT w' w.heap.size v (agT ⟨5, (rn : Int), e⟩) ∧ Below w.heap.size w w' := by
  have hbW := below_new w (.cells #[.nilIface, .int .i64 5, .int .i64 (rn : Int)] 54)
  obtain ⟨W, hW⟩ : ∃ W, w.alloc (.cells #[.nilIface, .int .i64 5, .int .i64 (rn : Int)] 54) = W := ⟨_, rfl⟩
  have xl : w.heap.size < W.heap.size := by rw [← hW]; simp
  have xc : ∀ (i : Nat) (v : Value), (#[.nilIface, .int .i64 5, .int .i64 (rn : Int)] : Array Value)[i]? = some v → ∀ w1, Below W.heap.size W w1 → w1.cell? ⟨w.heap.size, i, none⟩ = some v := fun i v h w1 hb => (hb.cell (p := ⟨w.heap.size, i, none⟩) xl).trans (by rw [← hW]; exact box17 w _ _ i v h)
  rw [hW] at hbW
  obtain ⟨y0, hy0⟩ : ∃ z : Sub W.heap.size W, w.alloc (.cells #[.nilIface, .int .i64 5, .int .i64 (rn : Int)] 54) = z.w := ⟨⟨W, Below.refl _ _⟩, hW⟩
  have ne := Sub.ne W.heap.size W
  have HZ := hide (Nat.le_refl W.heap.size)
  have HB := hide (fun y : Sub W.heap.size W => hbW.trans (y.h.mono hbW.size))
  have HO := hide (fun (y : Sub W.heap.size W) v ts (h : OwnT y.w W.heap.size v ts) => h.base hbW.size)
  have E0 : ∀ y : Sub W.heap.size W, y.w.cell? ⟨w.heap.size, 0, none⟩ = some .nilIface := fun y => xc 0 _ rfl y.w y.h
  have E1 : ∀ y : Sub W.heap.size W, y.w.cell? ⟨w.heap.size, 1, none⟩ = some (.int .i64 5) := fun y => xc 1 _ rfl y.w y.h
  have E2 : ∀ y : Sub W.heap.size W, y.w.cell? ⟨w.heap.size, 2, none⟩ = some (.int .i64 (rn : Int)) := fun y => xc 2 _ rfl y.w y.h
  have T0 : ∀ y : Sub W.heap.size W, y.w.cell? ⟨0, 5, none⟩ = some (.string ⟨#[64, 45, 40, 82, 41]⟩) := fun y => (ht.f.next (unhide HB y)).at5
  have MK := hide (fun x w1 => markI_any x w1)
  have RG := hide (fun y : Sub W.heap.size W => regI rn hrn y.w (ht.k.next (unhide HB y)))
  have X0 : (⟨#[64, 45, 40, 82, 41]⟩ : ByteArray).extract 0 1 = ⟨#[64]⟩ := by kernel_rfl
  have X1 : (⟨#[64, 45, 40, 82, 41]⟩ : ByteArray).extract 1 2 = ⟨#[45]⟩ := by kernel_rfl
  have X2 : (⟨#[64, 45, 40, 82, 41]⟩ : ByteArray).extract 2 3 = ⟨#[40]⟩ := by kernel_rfl
  have X4 : (⟨#[64, 45, 40, 82, 41]⟩ : ByteArray).extract 4 5 = ⟨#[41]⟩ := by kernel_rfl
  have AT : agT ⟨5, (rn : Int), e⟩ = mkT 64 :: mkT 45 :: rnT rn := rfl
  rw [AT]
  unfold rnT
  clear AT ok ht hg hW xc xl hbW hrn
  unfold Tk.v Tk.cs at MK RG
  simp only at MK RG
  generalize hrg : rgT rn = rt at *
  obtain ⟨T, hT⟩ : ∃ T, mkT 64 :: mkT 45 :: [mkT 40, rt, mkT 41] = T := ⟨_, rfl⟩
  have HT := hide hT
  rw [hT]
  clear hT hrg
  have l0 : ([] : List Tk).length ≤ 0 := Nat.le_refl 0
  have O0 := hide (ownT_none y0.w W.heap.size)
  go_enter Tryd.func37, Tryd.ntmps37
  go_wp2_with fail
  refine wp_loop_rounds 6 ?_
  rw [rounds_succ]
  go_wp2_with fail
  refine (unhide MK ⟨#[64]⟩ y0.w).mono ?_
  rintro r w1 ⟨rfl, hb⟩
  have O1 := hide ((unhide O0).later hb)
  clear O0
  obtain ⟨y1, rfl⟩ := Sub.step (unhide HZ) hb
  clear hb
  obtain ⟨y2, hy2⟩ := Sub.step (unhide HZ) (below_new y1.w (.cells #[.int .i64 4, .int .i64 0, .string ⟨#[64]⟩] 91))
  have S2 := hide (show OwnT y2.w W.heap.size (.slice (some ⟨y1.w.heap.size, 0, none⟩) 1 1) [(Tk.mk 4 0 ⟨#[64]⟩)] by rw [← hy2]; exact ownT_new y1.w (Tk.mk 4 0 ⟨#[64]⟩) W.heap.size (Nat.le_trans (unhide HZ) y1.h.size))
  have O2 := hide (show OwnT y2.w W.heap.size (.slice none 0 0) [] by rw [← hy2]; exact (unhide O1).later (below_new _ _))
  clear O1
  go_wp2_with (at_builtin; go_must (refine appT rfl _ _ rfl (unhide HZ) y2.h rfl (unhide O2) rfl (unhide S2) (one_ne _) (lsum l0 (one_le _) (by decide)) ?_; intro v3 y3 hO; obtain ⟨u3, hu⟩ : ∃ u, ([] ++ [(Tk.mk 4 0 ⟨#[64]⟩)]) = u := ⟨_, rfl⟩; rw [hu] at hO; have l3 := lapp hu l0 (one_le _); have O3 := hide hO; have H3 := hide hu; clear hO hu O2 S2))
  rw [rounds_succ]
  go_wp2_with fail
  refine (unhide MK ⟨#[45]⟩ y3.w).mono ?_
  rintro r w4 ⟨rfl, hb⟩
  have O4 := hide ((unhide O3).later hb)
  clear O3
  obtain ⟨y4, rfl⟩ := Sub.step (unhide HZ) hb
  clear hb
  obtain ⟨y5, hy5⟩ := Sub.step (unhide HZ) (below_new y4.w (.cells #[.int .i64 4, .int .i64 0, .string ⟨#[45]⟩] 91))
  have S5 := hide (show OwnT y5.w W.heap.size (.slice (some ⟨y4.w.heap.size, 0, none⟩) 1 1) [(Tk.mk 4 0 ⟨#[45]⟩)] by rw [← hy5]; exact ownT_new y4.w (Tk.mk 4 0 ⟨#[45]⟩) W.heap.size (Nat.le_trans (unhide HZ) y4.h.size))
  have O5 := hide (show OwnT y5.w W.heap.size (v3) u3 by rw [← hy5]; exact (unhide O4).later (below_new _ _))
  clear O4
  go_wp2_with (at_builtin; go_must (refine appT rfl _ _ rfl (unhide HZ) y5.h rfl (unhide O5) rfl (unhide S5) (one_ne _) (lsum l3 (one_le _) (by decide)) ?_; intro v6 y6 hO; obtain ⟨u6, hu⟩ : ∃ u, (u3 ++ [(Tk.mk 4 0 ⟨#[45]⟩)]) = u := ⟨_, rfl⟩; rw [hu] at hO; have l6 := lapp hu l3 (one_le _); have O6 := hide hO; have H6 := hide hu; clear hO hu O5 S5))
  rw [rounds_succ]
  go_wp2_with fail
  refine (unhide MK ⟨#[40]⟩ y6.w).mono ?_
  rintro r w7 ⟨rfl, hb⟩
  have O7 := hide ((unhide O6).later hb)
  clear O6
  obtain ⟨y7, rfl⟩ := Sub.step (unhide HZ) hb
  clear hb
  obtain ⟨y8, hy8⟩ := Sub.step (unhide HZ) (below_new y7.w (.cells #[.int .i64 4, .int .i64 0, .string ⟨#[40]⟩] 91))
  have S8 := hide (show OwnT y8.w W.heap.size (.slice (some ⟨y7.w.heap.size, 0, none⟩) 1 1) [(Tk.mk 4 0 ⟨#[40]⟩)] by rw [← hy8]; exact ownT_new y7.w (Tk.mk 4 0 ⟨#[40]⟩) W.heap.size (Nat.le_trans (unhide HZ) y7.h.size))
  have O8 := hide (show OwnT y8.w W.heap.size (v6) u6 by rw [← hy8]; exact (unhide O7).later (below_new _ _))
  clear O7
  go_wp2_with (at_builtin; go_must (refine appT rfl _ _ rfl (unhide HZ) y8.h rfl (unhide O8) rfl (unhide S8) (one_ne _) (lsum l6 (one_le _) (by decide)) ?_; intro v9 y9 hO; obtain ⟨u9, hu⟩ : ∃ u, (u6 ++ [(Tk.mk 4 0 ⟨#[40]⟩)]) = u := ⟨_, rfl⟩; rw [hu] at hO; have l9 := lapp hu l6 (one_le _); have O9 := hide hO; have H9 := hide hu; clear hO hu O8 S8))
  rw [rounds_succ]
  go_wp2_with fail
  refine (unhide RG y9).mono ?_
  rintro r w10 ⟨rfl, hb⟩
  have O10 := hide ((unhide O9).later hb)
  clear O9
  obtain ⟨y10, rfl⟩ := Sub.step (unhide HZ) hb
  clear hb
  obtain ⟨y11, hy11⟩ := Sub.step (unhide HZ) (below_new y10.w (.cells #[.int .i64 rt.k, .int .i64 rt.n, .string rt.s] 91))
  have S11 := hide (show OwnT y11.w W.heap.size (.slice (some ⟨y10.w.heap.size, 0, none⟩) 1 1) [rt] by rw [← hy11]; exact ownT_new y10.w rt W.heap.size (Nat.le_trans (unhide HZ) y10.h.size))
  have O11 := hide (show OwnT y11.w W.heap.size (v9) u9 by rw [← hy11]; exact (unhide O10).later (below_new _ _))
  clear O10
  go_wp2_with (at_builtin; go_must (refine appT rfl _ _ rfl (unhide HZ) y11.h rfl (unhide O11) rfl (unhide S11) (one_ne _) (lsum l9 (one_le _) (by decide)) ?_; intro v12 y12 hO; obtain ⟨u12, hu⟩ : ∃ u, (u9 ++ [rt]) = u := ⟨_, rfl⟩; rw [hu] at hO; have l12 := lapp hu l9 (one_le _); have O12 := hide hO; have H12 := hide hu; clear hO hu O11 S11))
  rw [rounds_succ]
  go_wp2_with fail
  refine (unhide MK ⟨#[41]⟩ y12.w).mono ?_
  rintro r w13 ⟨rfl, hb⟩
  have O13 := hide ((unhide O12).later hb)
  clear O12
  obtain ⟨y13, rfl⟩ := Sub.step (unhide HZ) hb
  clear hb
  obtain ⟨y14, hy14⟩ := Sub.step (unhide HZ) (below_new y13.w (.cells #[.int .i64 4, .int .i64 0, .string ⟨#[41]⟩] 91))
  have S14 := hide (show OwnT y14.w W.heap.size (.slice (some ⟨y13.w.heap.size, 0, none⟩) 1 1) [(Tk.mk 4 0 ⟨#[41]⟩)] by rw [← hy14]; exact ownT_new y13.w (Tk.mk 4 0 ⟨#[41]⟩) W.heap.size (Nat.le_trans (unhide HZ) y13.h.size))
  have O14 := hide (show OwnT y14.w W.heap.size (v12) u12 by rw [← hy14]; exact (unhide O13).later (below_new _ _))
  clear O13
  go_wp2_with (at_builtin; go_must (refine appT rfl _ _ rfl (unhide HZ) y14.h rfl (unhide O14) rfl (unhide S14) (one_ne _) (lsum l12 (one_le _) (by decide)) ?_; intro v15 y15 hO; obtain ⟨u15, hu⟩ : ∃ u, (u12 ++ [(Tk.mk 4 0 ⟨#[41]⟩)]) = u := ⟨_, rfl⟩; rw [hu] at hO; have l15 := lapp hu l12 (one_le _); have O15 := hide hO; have H15 := hide hu; clear hO hu O14 S14))
  rw [rounds_succ]
  go_wp2_with fail
  have EQ : u15 = T := by
    rw [← unhide HT]
    rw [← unhide H15, ← unhide H12, ← unhide H9, ← unhide H6, ← unhide H3]
    simp [mkT, mkS]
  rw [EQ] at O15
  go_ret
  exact ⟨_, rfl, unhide HO y15 _ _ (unhide O15), unhide HB y15⟩
set_option maxHeartbeats 8000000 in
theorem opt_6 (rn : Nat) (hrn : rn < 8) (e : Ex) (ok : okF 6 true e = true) (w : World) (ht : TabA w) (hg : TabG w) : Calls Tryd.prog 37 #[.agg #[tv e, .int .i64 6, .int .i64 (rn : Int)]] w fun r w' => ∃ v, r = .returned v ∧ OwnT w' w.heap.size v (agT ⟨6, (rn : Int), e⟩) ∧ Below w.heap.size w w' := by
  have PA := put_all 6 (by omega) e
  obtain ⟨tt, xx, e1⟩ := tv_if e
  rw [e1] at PA ⊢
  clear e1
  have m6 := mxT_le 6 (by omega)
  have hbW := below_new w (.cells #[(.iface tt xx), .int .i64 6, .int .i64 (rn : Int)] 54)
  obtain ⟨W, hW⟩ : ∃ W, w.alloc (.cells #[(.iface tt xx), .int .i64 6, .int .i64 (rn : Int)] 54) = W := ⟨_, rfl⟩
  have xl : w.heap.size < W.heap.size := by rw [← hW]; simp
  have xc : ∀ (i : Nat) (v : Value), (#[(.iface tt xx), .int .i64 6, .int .i64 (rn : Int)] : Array Value)[i]? = some v → ∀ w1, Below W.heap.size W w1 → w1.cell? ⟨w.heap.size, i, none⟩ = some v := fun i v h w1 hb => (hb.cell (p := ⟨w.heap.size, i, none⟩) xl).trans (by rw [← hW]; exact box17 w _ _ i v h)
  rw [hW] at hbW
  obtain ⟨y0, hy0⟩ : ∃ z : Sub W.heap.size W, w.alloc (.cells #[(.iface tt xx), .int .i64 6, .int .i64 (rn : Int)] 54) = z.w := ⟨⟨W, Below.refl _ _⟩, hW⟩
  have ne := Sub.ne W.heap.size W
  have HZ := hide (Nat.le_refl W.heap.size)
  have HB := hide (fun y : Sub W.heap.size W => hbW.trans (y.h.mono hbW.size))
  have HO := hide (fun (y : Sub W.heap.size W) v ts (h : OwnT y.w W.heap.size v ts) => h.base hbW.size)
  have E0 : ∀ y : Sub W.heap.size W, y.w.cell? ⟨w.heap.size, 0, none⟩ = some (.iface tt xx) := fun y => xc 0 _ rfl y.w y.h
  have E1 : ∀ y : Sub W.heap.size W, y.w.cell? ⟨w.heap.size, 1, none⟩ = some (.int .i64 6) := fun y => xc 1 _ rfl y.w y.h
  have E2 : ∀ y : Sub W.heap.size W, y.w.cell? ⟨w.heap.size, 2, none⟩ = some (.int .i64 (rn : Int)) := fun y => xc 2 _ rfl y.w y.h
  have T0 : ∀ y : Sub W.heap.size W, y.w.cell? ⟨0, 6, none⟩ = some (.string ⟨#[69, 40, 82, 41]⟩) := fun y => (ht.f.next (unhide HB y)).at6
  have MK := hide (fun x w1 => markI_any x w1)
  have RG := hide (fun y : Sub W.heap.size W => regI rn hrn y.w (ht.k.next (unhide HB y)))
  have PU := hide (fun (y : Sub W.heap.size W) v ts (h : OwnT y.w W.heap.size v ts) (hl : ts.length ≤ 10) => (PA ts v W.heap.size y.w ok h y.h.size (by omega) (hg.later (unhide HB y) hg.lt) (Nat.lt_trans hg.lt xl)).mono (R' := fun r w' => ∃ v', r = .returned v' ∧ OwnT w' W.heap.size v' (ts ++ toksF 6 e) ∧ ∃ z : Sub W.heap.size W, w' = z.w) fun r w' ⟨v', h1, h2, h3, _⟩ => ⟨v', h1, h2, ⟨w', y.h.trans h3⟩, rfl⟩)
  have tle := toks_le ok
  have X1 : (⟨#[69, 40, 82, 41]⟩ : ByteArray).extract 1 2 = ⟨#[40]⟩ := by kernel_rfl
  have X3 : (⟨#[69, 40, 82, 41]⟩ : ByteArray).extract 3 4 = ⟨#[41]⟩ := by kernel_rfl
  have AT : agT ⟨6, (rn : Int), e⟩ = toksF 6 e ++ rnT rn := rfl
  rw [AT]
  unfold rnT
  clear AT ok ht hg hW xc xl hbW hrn PA m6
  generalize toksF 6 e = te at *
  unfold Tk.v Tk.cs at MK RG
  simp only at MK RG
  generalize hrg : rgT rn = rt at *
  obtain ⟨T, hT⟩ : ∃ T, te ++ [mkT 40, rt, mkT 41] = T := ⟨_, rfl⟩
  have HT := hide hT
  rw [hT]
  clear hT hrg
  have l0 : ([] : List Tk).length ≤ 0 := Nat.le_refl 0
  have O0 := hide (ownT_none y0.w W.heap.size)
  go_enter Tryd.func37, Tryd.ntmps37
  go_wp2_with fail
  refine wp_loop_rounds 5 ?_
  rw [rounds_succ]
  go_wp2_with fail
  refine (unhide PU y0 _ _ (unhide O0) (Nat.le_trans l0 (by decide))).mono ?_
  rintro r w1 ⟨v1, rfl, hO, y1, rfl⟩
  obtain ⟨u1, hu⟩ : ∃ u, ([] ++ te) = u := ⟨_, rfl⟩
  rw [hu] at hO
  have l1 := lapp hu l0 tle
  have O1 := hide hO
  have H1 := hide hu
  clear hO hu O0
  go_wp2_with fail
  rw [rounds_succ]
  go_wp2_with fail
  refine (unhide MK ⟨#[40]⟩ y1.w).mono ?_
  rintro r w2 ⟨rfl, hb⟩
  have O2 := hide ((unhide O1).later hb)
  clear O1
  obtain ⟨y2, rfl⟩ := Sub.step (unhide HZ) hb
  clear hb
  obtain ⟨y3, hy3⟩ := Sub.step (unhide HZ) (below_new y2.w (.cells #[.int .i64 4, .int .i64 0, .string ⟨#[40]⟩] 91))
  have S3 := hide (show OwnT y3.w W.heap.size (.slice (some ⟨y2.w.heap.size, 0, none⟩) 1 1) [(Tk.mk 4 0 ⟨#[40]⟩)] by rw [← hy3]; exact ownT_new y2.w (Tk.mk 4 0 ⟨#[40]⟩) W.heap.size (Nat.le_trans (unhide HZ) y2.h.size))
  have O3 := hide (show OwnT y3.w W.heap.size (v1) u1 by rw [← hy3]; exact (unhide O2).later (below_new _ _))
  clear O2
  go_wp2_with (at_builtin; go_must (refine appT rfl _ _ rfl (unhide HZ) y3.h rfl (unhide O3) rfl (unhide S3) (one_ne _) (lsum l1 (one_le _) (by decide)) ?_; intro v4 y4 hO; obtain ⟨u4, hu⟩ : ∃ u, (u1 ++ [(Tk.mk 4 0 ⟨#[40]⟩)]) = u := ⟨_, rfl⟩; rw [hu] at hO; have l4 := lapp hu l1 (one_le _); have O4 := hide hO; have H4 := hide hu; clear hO hu O3 S3))
  rw [rounds_succ]
  go_wp2_with fail
  refine (unhide RG y4).mono ?_
  rintro r w5 ⟨rfl, hb⟩
  have O5 := hide ((unhide O4).later hb)
  clear O4
  obtain ⟨y5, rfl⟩ := Sub.step (unhide HZ) hb
  clear hb
  obtain ⟨y6, hy6⟩ := Sub.step (unhide HZ) (below_new y5.w (.cells #[.int .i64 rt.k, .int .i64 rt.n, .string rt.s] 91))
  have S6 := hide (show OwnT y6.w W.heap.size (.slice (some ⟨y5.w.heap.size, 0, none⟩) 1 1) [rt] by rw [← hy6]; exact ownT_new y5.w rt W.heap.size (Nat.le_trans (unhide HZ) y5.h.size))
  have O6 := hide (show OwnT y6.w W.heap.size (v4) u4 by rw [← hy6]; exact (unhide O5).later (below_new _ _))
  clear O5
  go_wp2_with (at_builtin; go_must (refine appT rfl _ _ rfl (unhide HZ) y6.h rfl (unhide O6) rfl (unhide S6) (one_ne _) (lsum l4 (one_le _) (by decide)) ?_; intro v7 y7 hO; obtain ⟨u7, hu⟩ : ∃ u, (u4 ++ [rt]) = u := ⟨_, rfl⟩; rw [hu] at hO; have l7 := lapp hu l4 (one_le _); have O7 := hide hO; have H7 := hide hu; clear hO hu O6 S6))
  rw [rounds_succ]
  go_wp2_with fail
  refine (unhide MK ⟨#[41]⟩ y7.w).mono ?_
  rintro r w8 ⟨rfl, hb⟩
  have O8 := hide ((unhide O7).later hb)
  clear O7
  obtain ⟨y8, rfl⟩ := Sub.step (unhide HZ) hb
  clear hb
  obtain ⟨y9, hy9⟩ := Sub.step (unhide HZ) (below_new y8.w (.cells #[.int .i64 4, .int .i64 0, .string ⟨#[41]⟩] 91))
  have S9 := hide (show OwnT y9.w W.heap.size (.slice (some ⟨y8.w.heap.size, 0, none⟩) 1 1) [(Tk.mk 4 0 ⟨#[41]⟩)] by rw [← hy9]; exact ownT_new y8.w (Tk.mk 4 0 ⟨#[41]⟩) W.heap.size (Nat.le_trans (unhide HZ) y8.h.size))
  have O9 := hide (show OwnT y9.w W.heap.size (v7) u7 by rw [← hy9]; exact (unhide O8).later (below_new _ _))
  clear O8
  go_wp2_with (at_builtin; go_must (refine appT rfl _ _ rfl (unhide HZ) y9.h rfl (unhide O9) rfl (unhide S9) (one_ne _) (lsum l7 (one_le _) (by decide)) ?_; intro v10 y10 hO; obtain ⟨u10, hu⟩ : ∃ u, (u7 ++ [(Tk.mk 4 0 ⟨#[41]⟩)]) = u := ⟨_, rfl⟩; rw [hu] at hO; have l10 := lapp hu l7 (one_le _); have O10 := hide hO; have H10 := hide hu; clear hO hu O9 S9))
  rw [rounds_succ]
  go_wp2_with fail
  have EQ : u10 = T := by
    rw [← unhide HT]
    rw [← unhide H10, ← unhide H7, ← unhide H4, ← unhide H1]
    simp [mkT, mkS]
  rw [EQ] at O10
  go_ret
  exact ⟨_, rfl, unhide HO y10 _ _ (unhide O10), unhide HB y10⟩
set_option maxHeartbeats 8000000 in
theorem opt_7 (rn : Nat) (hrn : rn < 8) (e : Ex) (ok : okF 6 true e = true) (w : World) (ht : TabA w) (hg : TabG w) : Calls Tryd.prog 37 #[.agg #[tv e, .int .i64 7, .int .i64 (rn : Int)]] w fun r w' => ∃ v, r = .returned v ∧ OwnT w' w.heap.size v (agT ⟨7, (rn : Int), e⟩) ∧ Below w.heap.size w w' := by
  have PA := put_all 6 (by omega) e
  obtain ⟨tt, xx, e1⟩ := tv_if e
  rw [e1] at PA ⊢
  clear e1
  have m6 := mxT_le 6 (by omega)
  have hbW := below_new w (.cells #[(.iface tt xx), .int .i64 7, .int .i64 (rn : Int)] 54)
  obtain ⟨W, hW⟩ : ∃ W, w.alloc (.cells #[(.iface tt xx), .int .i64 7, .int .i64 (rn : Int)] 54) = W := ⟨_, rfl⟩
  have xl : w.heap.size < W.heap.size := by rw [← hW]; simp
  have xc : ∀ (i : Nat) (v : Value), (#[(.iface tt xx), .int .i64 7, .int .i64 (rn : Int)] : Array Value)[i]? = some v → ∀ w1, Below W.heap.size W w1 → w1.cell? ⟨w.heap.size, i, none⟩ = some v := fun i v h w1 hb => (hb.cell (p := ⟨w.heap.size, i, none⟩) xl).trans (by rw [← hW]; exact box17 w _ _ i v h)
  rw [hW] at hbW
  obtain ⟨y0, hy0⟩ : ∃ z : Sub W.heap.size W, w.alloc (.cells #[(.iface tt xx), .int .i64 7, .int .i64 (rn : Int)] 54) = z.w := ⟨⟨W, Below.refl _ _⟩, hW⟩
  have ne := Sub.ne W.heap.size W
  have HZ := hide (Nat.le_refl W.heap.size)
  have HB := hide (fun y : Sub W.heap.size W => hbW.trans (y.h.mono hbW.size))
  have HO := hide (fun (y : Sub W.heap.size W) v ts (h : OwnT y.w W.heap.size v ts) => h.base hbW.size)
  have E0 : ∀ y : Sub W.heap.size W, y.w.cell? ⟨w.heap.size, 0, none⟩ = some (.iface tt xx) := fun y => xc 0 _ rfl y.w y.h
  have E1 : ∀ y : Sub W.heap.size W, y.w.cell? ⟨w.heap.size, 1, none⟩ = some (.int .i64 7) := fun y => xc 1 _ rfl y.w y.h
  have E2 : ∀ y : Sub W.heap.size W, y.w.cell? ⟨w.heap.size, 2, none⟩ = some (.int .i64 (rn : Int)) := fun y => xc 2 _ rfl y.w y.h
  have T0 : ∀ y : Sub W.heap.size W, y.w.cell? ⟨0, 7, none⟩ = some (.string ⟨#[64, 69, 40, 82, 41]⟩) := fun y => (ht.f.next (unhide HB y)).at7
  have MK := hide (fun x w1 => markI_any x w1)
  have RG := hide (fun y : Sub W.heap.size W => regI rn hrn y.w (ht.k.next (unhide HB y)))
  have PU := hide (fun (y : Sub W.heap.size W) v ts (h : OwnT y.w W.heap.size v ts) (hl : ts.length ≤ 10) => (PA ts v W.heap.size y.w ok h y.h.size (by omega) (hg.later (unhide HB y) hg.lt) (Nat.lt_trans hg.lt xl)).mono (R' := fun r w' => ∃ v', r = .returned v' ∧ OwnT w' W.heap.size v' (ts ++ toksF 6 e) ∧ ∃ z : Sub W.heap.size W, w' = z.w) fun r w' ⟨v', h1, h2, h3, _⟩ => ⟨v', h1, h2, ⟨w', y.h.trans h3⟩, rfl⟩)
  have tle := toks_le ok
  have X0 : (⟨#[64, 69, 40, 82, 41]⟩ : ByteArray).extract 0 1 = ⟨#[64]⟩ := by kernel_rfl
  have X2 : (⟨#[64, 69, 40, 82, 41]⟩ : ByteArray).extract 2 3 = ⟨#[40]⟩ := by kernel_rfl
  have X4 : (⟨#[64, 69, 40, 82, 41]⟩ : ByteArray).extract 4 5 = ⟨#[41]⟩ := by kernel_rfl
  have AT : agT ⟨7, (rn : Int), e⟩ = mkT 64 :: (toksF 6 e ++ rnT rn) := rfl
  rw [AT]
  unfold rnT
  clear AT ok ht hg hW xc xl hbW hrn PA m6
  generalize toksF 6 e = te at *
  unfold Tk.v Tk.cs at MK RG
  simp only at MK RG
  generalize hrg : rgT rn = rt at *
  obtain ⟨T, hT⟩ : ∃ T, mkT 64 :: (te ++ [mkT 40, rt, mkT 41]) = T := ⟨_, rfl⟩
  have HT := hide hT
  rw [hT]
  clear hT hrg
  have l0 : ([] : List Tk).length ≤ 0 := Nat.le_refl 0
  have O0 := hide (ownT_none y0.w W.heap.size)
  go_enter Tryd.func37, Tryd.ntmps37
  go_wp2_with fail
  refine wp_loop_rounds 6 ?_
  rw [rounds_succ]
  go_wp2_with fail
  refine (unhide MK ⟨#[64]⟩ y0.w).mono ?_
  rintro r w1 ⟨rfl, hb⟩
  have O1 := hide ((unhide O0).later hb)
  clear O0
  obtain ⟨y1, rfl⟩ := Sub.step (unhide HZ) hb
  clear hb
  obtain ⟨y2, hy2⟩ := Sub.step (unhide HZ) (below_new y1.w (.cells #[.int .i64 4, .int .i64 0, .string ⟨#[64]⟩] 91))
  have S2 := hide (show OwnT y2.w W.heap.size (.slice (some ⟨y1.w.heap.size, 0, none⟩) 1 1) [(Tk.mk 4 0 ⟨#[64]⟩)] by rw [← hy2]; exact ownT_new y1.w (Tk.mk 4 0 ⟨#[64]⟩) W.heap.size (Nat.le_trans (unhide HZ) y1.h.size))
  have O2 := hide (show OwnT y2.w W.heap.size (.slice none 0 0) [] by rw [← hy2]; exact (unhide O1).later (below_new _ _))
  clear O1
  go_wp2_with (at_builtin; go_must (refine appT rfl _ _ rfl (unhide HZ) y2.h rfl (unhide O2) rfl (unhide S2) (one_ne _) (lsum l0 (one_le _) (by decide)) ?_; intro v3 y3 hO; obtain ⟨u3, hu⟩ : ∃ u, ([] ++ [(Tk.mk 4 0 ⟨#[64]⟩)]) = u := ⟨_, rfl⟩; rw [hu] at hO; have l3 := lapp hu l0 (one_le _); have O3 := hide hO; have H3 := hide hu; clear hO hu O2 S2))
  rw [rounds_succ]
  go_wp2_with fail
  refine (unhide PU y3 _ _ (unhide O3) (Nat.le_trans l3 (by decide))).mono ?_
  rintro r w4 ⟨v4, rfl, hO, y4, rfl⟩
  obtain ⟨u4, hu⟩ : ∃ u, (u3 ++ te) = u := ⟨_, rfl⟩
  rw [hu] at hO
  have l4 := lapp hu l3 tle
  have O4 := hide hO
  have H4 := hide hu
  clear hO hu O3
  go_wp2_with fail
  rw [rounds_succ]
  go_wp2_with fail
  refine (unhide MK ⟨#[40]⟩ y4.w).mono ?_
  rintro r w5 ⟨rfl, hb⟩
  have O5 := hide ((unhide O4).later hb)
  clear O4
  obtain ⟨y5, rfl⟩ := Sub.step (unhide HZ) hb
  clear hb
  obtain ⟨y6, hy6⟩ := Sub.step (unhide HZ) (below_new y5.w (.cells #[.int .i64 4, .int .i64 0, .string ⟨#[40]⟩] 91))
  have S6 := hide (show OwnT y6.w W.heap.size (.slice (some ⟨y5.w.heap.size, 0, none⟩) 1 1) [(Tk.mk 4 0 ⟨#[40]⟩)] by rw [← hy6]; exact ownT_new y5.w (Tk.mk 4 0 ⟨#[40]⟩) W.heap.size (Nat.le_trans (unhide HZ) y5.h.size))
  have O6 := hide (show OwnT y6.w W.heap.size (v4) u4 by rw [← hy6]; exact (unhide O5).later (below_new _ _))
  clear O5
  go_wp2_with (at_builtin; go_must (refine appT rfl _ _ rfl (unhide HZ) y6.h rfl (unhide O6) rfl (unhide S6) (one_ne _) (lsum l4 (one_le _) (by decide)) ?_; intro v7 y7 hO; obtain ⟨u7, hu⟩ : ∃ u, (u4 ++ [(Tk.mk 4 0 ⟨#[40]⟩)]) = u := ⟨_, rfl⟩; rw [hu] at hO; have l7 := lapp hu l4 (one_le _); have O7 := hide hO; have H7 := hide hu; clear hO hu O6 S6))
  rw [rounds_succ]
  go_wp2_with fail
  refine (unhide RG y7).mono ?_
  rintro r w8 ⟨rfl, hb⟩
  have O8 := hide ((unhide O7).later hb)
  clear O7
  obtain ⟨y8, rfl⟩ := Sub.step (unhide HZ) hb
  clear hb
  obtain ⟨y9, hy9⟩ := Sub.step (unhide HZ) (below_new y8.w (.cells #[.int .i64 rt.k, .int .i64 rt.n, .string rt.s] 91))
  have S9 := hide (show OwnT y9.w W.heap.size (.slice (some ⟨y8.w.heap.size, 0, none⟩) 1 1) [rt] by rw [← hy9]; exact ownT_new y8.w rt W.heap.size (Nat.le_trans (unhide HZ) y8.h.size))
  have O9 := hide (show OwnT y9.w W.heap.size (v7) u7 by rw [← hy9]; exact (unhide O8).later (below_new _ _))
  clear O8
  go_wp2_with (at_builtin; go_must (refine appT rfl _ _ rfl (unhide HZ) y9.h rfl (unhide O9) rfl (unhide S9) (one_ne _) (lsum l7 (one_le _) (by decide)) ?_; intro v10 y10 hO; obtain ⟨u10, hu⟩ : ∃ u, (u7 ++ [rt]) = u := ⟨_, rfl⟩; rw [hu] at hO; have l10 := lapp hu l7 (one_le _); have O10 := hide hO; have H10 := hide hu; clear hO hu O9 S9))
  rw [rounds_succ]
  go_wp2_with fail
  refine (unhide MK ⟨#[41]⟩ y10.w).mono ?_
  rintro r w11 ⟨rfl, hb⟩
  have O11 := hide ((unhide O10).later hb)
  clear O10
  obtain ⟨y11, rfl⟩ := Sub.step (unhide HZ) hb
  clear hb
  obtain ⟨y12, hy12⟩ := Sub.step (unhide HZ) (below_new y11.w (.cells #[.int .i64 4, .int .i64 0, .string ⟨#[41]⟩] 91))
  have S12 := hide (show OwnT y12.w W.heap.size (.slice (some ⟨y11.w.heap.size, 0, none⟩) 1 1) [(Tk.mk 4 0 ⟨#[41]⟩)] by rw [← hy12]; exact ownT_new y11.w (Tk.mk 4 0 ⟨#[41]⟩) W.heap.size (Nat.le_trans (unhide HZ) y11.h.size))
  have O12 := hide (show OwnT y12.w W.heap.size (v10) u10 by rw [← hy12]; exact (unhide O11).later (below_new _ _))
  clear O11
  go_wp2_with (at_builtin; go_must (refine appT rfl _ _ rfl (unhide HZ) y12.h rfl (unhide O12) rfl (unhide S12) (one_ne _) (lsum l10 (one_le _) (by decide)) ?_; intro v13 y13 hO; obtain ⟨u13, hu⟩ : ∃ u, (u10 ++ [(Tk.mk 4 0 ⟨#[41]⟩)]) = u := ⟨_, rfl⟩; rw [hu] at hO; have l13 := lapp hu l10 (one_le _); have O13 := hide hO; have H13 := hide hu; clear hO hu O12 S12))
  rw [rounds_succ]
  go_wp2_with fail
  have EQ : u13 = T := by
    rw [← unhide HT]
    rw [← unhide H13, ← unhide H10, ← unhide H7, ← unhide H4, ← unhide H3]
    simp [mkT, mkS]
  rw [EQ] at O13
  go_ret
  exact ⟨_, rfl, unhide HO y13 _ _ (unhide O13), unhide HB y13⟩
set_option maxHeartbeats 8000000 in
theorem opt_8 (rn : Nat) (hrn : rn < 8) (e : Ex) (ok : okF 6 true e = true) (w : World) (ht : TabA w) (hg : TabG w) : Calls Tryd.prog 37 #[.agg #[tv e, .int .i64 8, .int .i64 (rn : Int)]] w fun r w' => ∃ v, r = .returned v ∧ OwnT w' w.heap.size v (agT ⟨8, (rn : Int), e⟩) ∧ Below w.heap.size w w' := by
  have PA := put_all 6 (by omega) e
  obtain ⟨tt, xx, e1⟩ := tv_if e
  rw [e1] at PA ⊢
  clear e1
  have m6 := mxT_le 6 (by omega)
  have hbW := below_new w (.cells #[(.iface tt xx), .int .i64 8, .int .i64 (rn : Int)] 54)
  obtain ⟨W, hW⟩ : ∃ W, w.alloc (.cells #[(.iface tt xx), .int .i64 8, .int .i64 (rn : Int)] 54) = W := ⟨_, rfl⟩
  have xl : w.heap.size < W.heap.size := by rw [← hW]; simp
  have xc : ∀ (i : Nat) (v : Value), (#[(.iface tt xx), .int .i64 8, .int .i64 (rn : Int)] : Array Value)[i]? = some v → ∀ w1, Below W.heap.size W w1 → w1.cell? ⟨w.heap.size, i, none⟩ = some v := fun i v h w1 hb => (hb.cell (p := ⟨w.heap.size, i, none⟩) xl).trans (by rw [← hW]; exact box17 w _ _ i v h)
  rw [hW] at hbW
  obtain ⟨y0, hy0⟩ : ∃ z : Sub W.heap.size W, w.alloc (.cells #[(.iface tt xx), .int .i64 8, .int .i64 (rn : Int)] 54) = z.w := ⟨⟨W, Below.refl _ _⟩, hW⟩
  have ne := Sub.ne W.heap.size W
  have HZ := hide (Nat.le_refl W.heap.size)
  have HB := hide (fun y : Sub W.heap.size W => hbW.trans (y.h.mono hbW.size))
  have HO := hide (fun (y : Sub W.heap.size W) v ts (h : OwnT y.w W.heap.size v ts) => h.base hbW.size)
  have E0 : ∀ y : Sub W.heap.size W, y.w.cell? ⟨w.heap.size, 0, none⟩ = some (.iface tt xx) := fun y => xc 0 _ rfl y.w y.h
  have E1 : ∀ y : Sub W.heap.size W, y.w.cell? ⟨w.heap.size, 1, none⟩ = some (.int .i64 8) := fun y => xc 1 _ rfl y.w y.h
  have E2 : ∀ y : Sub W.heap.size W, y.w.cell? ⟨w.heap.size, 2, none⟩ = some (.int .i64 (rn : Int)) := fun y => xc 2 _ rfl y.w y.h
  have T0 : ∀ y : Sub W.heap.size W, y.w.cell? ⟨0, 8, none⟩ = some (.string ⟨#[35, 69]⟩) := fun y => (ht.f.next (unhide HB y)).at8
  have MK := hide (fun x w1 => markI_any x w1)
  have RG := hide (fun y : Sub W.heap.size W => regI rn hrn y.w (ht.k.next (unhide HB y)))
  have PU := hide (fun (y : Sub W.heap.size W) v ts (h : OwnT y.w W.heap.size v ts) (hl : ts.length ≤ 10) => (PA ts v W.heap.size y.w ok h y.h.size (by omega) (hg.later (unhide HB y) hg.lt) (Nat.lt_trans hg.lt xl)).mono (R' := fun r w' => ∃ v', r = .returned v' ∧ OwnT w' W.heap.size v' (ts ++ toksF 6 e) ∧ ∃ z : Sub W.heap.size W, w' = z.w) fun r w' ⟨v', h1, h2, h3, _⟩ => ⟨v', h1, h2, ⟨w', y.h.trans h3⟩, rfl⟩)
  have tle := toks_le ok
  have X0 : (⟨#[35, 69]⟩ : ByteArray).extract 0 1 = ⟨#[35]⟩ := by kernel_rfl
  have AT : agT ⟨8, (rn : Int), e⟩ = mkT 35 :: toksF 6 e := rfl
  rw [AT]
  clear AT ok ht hg hW xc xl hbW hrn PA m6
  generalize toksF 6 e = te at *
  unfold Tk.v Tk.cs at MK RG
  simp only at MK RG
  generalize hrg : rgT rn = rt at *
  obtain ⟨T, hT⟩ : ∃ T, mkT 35 :: te = T := ⟨_, rfl⟩
  have HT := hide hT
  rw [hT]
  clear hT hrg
  have l0 : ([] : List Tk).length ≤ 0 := Nat.le_refl 0
  have O0 := hide (ownT_none y0.w W.heap.size)
  go_enter Tryd.func37, Tryd.ntmps37
  go_wp2_with fail
  refine wp_loop_rounds 3 ?_
  rw [rounds_succ]
  go_wp2_with fail
  refine (unhide MK ⟨#[35]⟩ y0.w).mono ?_
  rintro r w1 ⟨rfl, hb⟩
  have O1 := hide ((unhide O0).later hb)
  clear O0
  obtain ⟨y1, rfl⟩ := Sub.step (unhide HZ) hb
  clear hb
  obtain ⟨y2, hy2⟩ := Sub.step (unhide HZ) (below_new y1.w (.cells #[.int .i64 4, .int .i64 0, .string ⟨#[35]⟩] 91))
  have S2 := hide (show OwnT y2.w W.heap.size (.slice (some ⟨y1.w.heap.size, 0, none⟩) 1 1) [(Tk.mk 4 0 ⟨#[35]⟩)] by rw [← hy2]; exact ownT_new y1.w (Tk.mk 4 0 ⟨#[35]⟩) W.heap.size (Nat.le_trans (unhide HZ) y1.h.size))
  have O2 := hide (show OwnT y2.w W.heap.size (.slice none 0 0) [] by rw [← hy2]; exact (unhide O1).later (below_new _ _))
  clear O1
  go_wp2_with (at_builtin; go_must (refine appT rfl _ _ rfl (unhide HZ) y2.h rfl (unhide O2) rfl (unhide S2) (one_ne _) (lsum l0 (one_le _) (by decide)) ?_; intro v3 y3 hO; obtain ⟨u3, hu⟩ : ∃ u, ([] ++ [(Tk.mk 4 0 ⟨#[35]⟩)]) = u := ⟨_, rfl⟩; rw [hu] at hO; have l3 := lapp hu l0 (one_le _); have O3 := hide hO; have H3 := hide hu; clear hO hu O2 S2))
  rw [rounds_succ]
  go_wp2_with fail
  refine (unhide PU y3 _ _ (unhide O3) (Nat.le_trans l3 (by decide))).mono ?_
  rintro r w4 ⟨v4, rfl, hO, y4, rfl⟩
  obtain ⟨u4, hu⟩ : ∃ u, (u3 ++ te) = u := ⟨_, rfl⟩
  rw [hu] at hO
  have l4 := lapp hu l3 tle
  have O4 := hide hO
  have H4 := hide hu
  clear hO hu O3
  go_wp2_with fail
  rw [rounds_succ]
  go_wp2_with fail
  have EQ : u4 = T := by
    rw [← unhide HT]
    rw [← unhide H4, ← unhide H3]
    simp [mkT, mkS]
  rw [EQ] at O4
  go_ret
  exact ⟨_, rfl, unhide HO y4 _ _ (unhide O4), unhide HB y4⟩
set_option maxHeartbeats 8000000 in
theorem opt_9 (rn : Nat) (hrn : rn < 8) (e : Ex) (ok : okF 6 true e = true) (w : World) (ht : TabA w) (hg : TabG w) : Calls Tryd.prog 37 #[.agg #[tv e, .int .i64 9, .int .i64 (rn : Int)]] w fun r w' => ∃ v, r = .returned v ∧ OwnT w' w.heap.size v (agT ⟨9, (rn : Int), e⟩) ∧ Below w.heap.size w w' := by
  have PA := put_all 6 (by omega) e
  obtain ⟨tt, xx, e1⟩ := tv_if e
  rw [e1] at PA ⊢
  clear e1
  have m6 := mxT_le 6 (by omega)
  have hbW := below_new w (.cells #[(.iface tt xx), .int .i64 9, .int .i64 (rn : Int)] 54)
  obtain ⟨W, hW⟩ : ∃ W, w.alloc (.cells #[(.iface tt xx), .int .i64 9, .int .i64 (rn : Int)] 54) = W := ⟨_, rfl⟩
  have xl : w.heap.size < W.heap.size := by rw [← hW]; simp
  have xc : ∀ (i : Nat) (v : Value), (#[(.iface tt xx), .int .i64 9, .int .i64 (rn : Int)] : Array Value)[i]? = some v → ∀ w1, Below W.heap.size W w1 → w1.cell? ⟨w.heap.size, i, none⟩ = some v := fun i v h w1 hb => (hb.cell (p := ⟨w.heap.size, i, none⟩) xl).trans (by rw [← hW]; exact box17 w _ _ i v h)
  rw [hW] at hbW
  obtain ⟨y0, hy0⟩ : ∃ z : Sub W.heap.size W, w.alloc (.cells #[(.iface tt xx), .int .i64 9, .int .i64 (rn : Int)] 54) = z.w := ⟨⟨W, Below.refl _ _⟩, hW⟩
  have ne := Sub.ne W.heap.size W
  have HZ := hide (Nat.le_refl W.heap.size)
  have HB := hide (fun y : Sub W.heap.size W => hbW.trans (y.h.mono hbW.size))
  have HO := hide (fun (y : Sub W.heap.size W) v ts (h : OwnT y.w W.heap.size v ts) => h.base hbW.size)
  have E0 : ∀ y : Sub W.heap.size W, y.w.cell? ⟨w.heap.size, 0, none⟩ = some (.iface tt xx) := fun y => xc 0 _ rfl y.w y.h
  have E1 : ∀ y : Sub W.heap.size W, y.w.cell? ⟨w.heap.size, 1, none⟩ = some (.int .i64 9) := fun y => xc 1 _ rfl y.w y.h
  have E2 : ∀ y : Sub W.heap.size W, y.w.cell? ⟨w.heap.size, 2, none⟩ = some (.int .i64 (rn : Int)) := fun y => xc 2 _ rfl y.w y.h
  have T0 : ∀ y : Sub W.heap.size W, y.w.cell? ⟨0, 9, none⟩ = some (.string ⟨#[64, 35, 69]⟩) := fun y => (ht.f.next (unhide HB y)).at9
  have MK := hide (fun x w1 => markI_any x w1)
  have RG := hide (fun y : Sub W.heap.size W => regI rn hrn y.w (ht.k.next (unhide HB y)))
  have PU := hide (fun (y : Sub W.heap.size W) v ts (h : OwnT y.w W.heap.size v ts) (hl : ts.length ≤ 10) => (PA ts v W.heap.size y.w ok h y.h.size (by omega) (hg.later (unhide HB y) hg.lt) (Nat.lt_trans hg.lt xl)).mono (R' := fun r w' => ∃ v', r = .returned v' ∧ OwnT w' W.heap.size v' (ts ++ toksF 6 e) ∧ ∃ z : Sub W.heap.size W, w' = z.w) fun r w' ⟨v', h1, h2, h3, _⟩ => ⟨v', h1, h2, ⟨w', y.h.trans h3⟩, rfl⟩)
  have tle := toks_le ok
  have X0 : (⟨#[64, 35, 69]⟩ : ByteArray).extract 0 1 = ⟨#[64]⟩ := by kernel_rfl
  have X1 : (⟨#[64, 35, 69]⟩ : ByteArray).extract 1 2 = ⟨#[35]⟩ := by kernel_rfl
  have AT : agT ⟨9, (rn : Int), e⟩ = mkT 64 :: mkT 35 :: toksF 6 e := rfl
  rw [AT]
  clear AT ok ht hg hW xc xl hbW hrn PA m6
  generalize toksF 6 e = te at *
  unfold Tk.v Tk.cs at MK RG
  simp only at MK RG
  generalize hrg : rgT rn = rt at *
  obtain ⟨T, hT⟩ : ∃ T, mkT 64 :: mkT 35 :: te = T := ⟨_, rfl⟩
  have HT := hide hT
  rw [hT]
  clear hT hrg
  have l0 : ([] : List Tk).length ≤ 0 := Nat.le_refl 0
  have O0 := hide (ownT_none y0.w W.heap.size)
  go_enter Tryd.func37, Tryd.ntmps37
  go_wp2_with fail
  refine wp_loop_rounds 4 ?_
  rw [rounds_succ]
  go_wp2_with fail
  refine (unhide MK ⟨#[64]⟩ y0.w).mono ?_
  rintro r w1 ⟨rfl, hb⟩
  have O1 := hide ((unhide O0).later hb)
  clear O0
  obtain ⟨y1, rfl⟩ := Sub.step (unhide HZ) hb
  clear hb
  obtain ⟨y2, hy2⟩ := Sub.step (unhide HZ) (below_new y1.w (.cells #[.int .i64 4, .int .i64 0, .string ⟨#[64]⟩] 91))
  have S2 := hide (show OwnT y2.w W.heap.size (.slice (some ⟨y1.w.heap.size, 0, none⟩) 1 1) [(Tk.mk 4 0 ⟨#[64]⟩)] by rw [← hy2]; exact ownT_new y1.w (Tk.mk 4 0 ⟨#[64]⟩) W.heap.size (Nat.le_trans (unhide HZ) y1.h.size))
  have O2 := hide (show OwnT y2.w W.heap.size (.slice none 0 0) [] by rw [← hy2]; exact (unhide O1).later (below_new _ _))
  clear O1
  go_wp2_with (at_builtin; go_must (refine appT rfl _ _ rfl (unhide HZ) y2.h rfl (unhide O2) rfl (unhide S2) (one_ne _) (lsum l0 (one_le _) (by decide)) ?_; intro v3 y3 hO; obtain ⟨u3, hu⟩ : ∃ u, ([] ++ [(Tk.mk 4 0 ⟨#[64]⟩)]) = u := ⟨_, rfl⟩; rw [hu] at hO; have l3 := lapp hu l0 (one_le _); have O3 := hide hO; have H3 := hide hu; clear hO hu O2 S2))
  rw [rounds_succ]
  go_wp2_with fail
  refine (unhide MK ⟨#[35]⟩ y3.w).mono ?_
  rintro r w4 ⟨rfl, hb⟩
  have O4 := hide ((unhide O3).later hb)
  clear O3
  obtain ⟨y4, rfl⟩ := Sub.step (unhide HZ) hb
  clear hb
  obtain ⟨y5, hy5⟩ := Sub.step (unhide HZ) (below_new y4.w (.cells #[.int .i64 4, .int .i64 0, .string ⟨#[35]⟩] 91))
  have S5 := hide (show OwnT y5.w W.heap.size (.slice (some ⟨y4.w.heap.size, 0, none⟩) 1 1) [(Tk.mk 4 0 ⟨#[35]⟩)] by rw [← hy5]; exact ownT_new y4.w (Tk.mk 4 0 ⟨#[35]⟩) W.heap.size (Nat.le_trans (unhide HZ) y4.h.size))
  have O5 := hide (show OwnT y5.w W.heap.size (v3) u3 by rw [← hy5]; exact (unhide O4).later (below_new _ _))
  clear O4
  go_wp2_with (at_builtin; go_must (refine appT rfl _ _ rfl (unhide HZ) y5.h rfl (unhide O5) rfl (unhide S5) (one_ne _) (lsum l3 (one_le _) (by decide)) ?_; intro v6 y6 hO; obtain ⟨u6, hu⟩ : ∃ u, (u3 ++ [(Tk.mk 4 0 ⟨#[35]⟩)]) = u := ⟨_, rfl⟩; rw [hu] at hO; have l6 := lapp hu l3 (one_le _); have O6 := hide hO; have H6 := hide hu; clear hO hu O5 S5))
  rw [rounds_succ]
  go_wp2_with fail
  refine (unhide PU y6 _ _ (unhide O6) (Nat.le_trans l6 (by decide))).mono ?_
  rintro r w7 ⟨v7, rfl, hO, y7, rfl⟩
  obtain ⟨u7, hu⟩ : ∃ u, (u6 ++ te) = u := ⟨_, rfl⟩
  rw [hu] at hO
  have l7 := lapp hu l6 tle
  have O7 := hide hO
  have H7 := hide hu
  clear hO hu O6
  go_wp2_with fail
  rw [rounds_succ]
  go_wp2_with fail
  have EQ : u7 = T := by
    rw [← unhide HT]
    rw [← unhide H7, ← unhide H6, ← unhide H3]
    simp [mkT, mkS]
  rw [EQ] at O7
  go_ret
  exact ⟨_, rfl, unhide HO y7 _ _ (unhide O7), unhide HB y7⟩
set_option maxHeartbeats 8000000 in
theorem opt_10 (rn : Nat) (hrn : rn < 8) (e : Ex) (ok : okF 6 true e = true) (w : World) (ht : TabA w) (hg : TabG w) : Calls Tryd.prog 37 #[.agg #[tv e, .int .i64 10, .int .i64 (rn : Int)]] w fun r w' => ∃ v, r = .returned v ∧ OwnT w' w.heap.size v (agT ⟨10, (rn : Int), e⟩) ∧ Below w.heap.size w w' := by
  have PA := put_all 6 (by omega) e
  obtain ⟨tt, xx, e1⟩ := tv_if e
  rw [e1] at PA ⊢
  clear e1
  have m6 := mxT_le 6 (by omega)
  have hbW := below_new w (.cells #[(.iface tt xx), .int .i64 10, .int .i64 (rn : Int)] 54)
  obtain ⟨W, hW⟩ : ∃ W, w.alloc (.cells #[(.iface tt xx), .int .i64 10, .int .i64 (rn : Int)] 54) = W := ⟨_, rfl⟩
  have xl : w.heap.size < W.heap.size := by rw [← hW]; simp
  have xc : ∀ (i : Nat) (v : Value), (#[(.iface tt xx), .int .i64 10, .int .i64 (rn : Int)] : Array Value)[i]? = some v → ∀ w1, Below W.heap.size W w1 → w1.cell? ⟨w.heap.size, i, none⟩ = some v := fun i v h w1 hb => (hb.cell (p := ⟨w.heap.size, i, none⟩) xl).trans (by rw [← hW]; exact box17 w _ _ i v h)
  rw [hW] at hbW
  obtain ⟨y0, hy0⟩ : ∃ z : Sub W.heap.size W, w.alloc (.cells #[(.iface tt xx), .int .i64 10, .int .i64 (rn : Int)] 54) = z.w := ⟨⟨W, Below.refl _ _⟩, hW⟩
  have ne := Sub.ne W.heap.size W
  have HZ := hide (Nat.le_refl W.heap.size)
  have HB := hide (fun y : Sub W.heap.size W => hbW.trans (y.h.mono hbW.size))
  have HO := hide (fun (y : Sub W.heap.size W) v ts (h : OwnT y.w W.heap.size v ts) => h.base hbW.size)
  have E0 : ∀ y : Sub W.heap.size W, y.w.cell? ⟨w.heap.size, 0, none⟩ = some (.iface tt xx) := fun y => xc 0 _ rfl y.w y.h
  have E1 : ∀ y : Sub W.heap.size W, y.w.cell? ⟨w.heap.size, 1, none⟩ = some (.int .i64 10) := fun y => xc 1 _ rfl y.w y.h
  have E2 : ∀ y : Sub W.heap.size W, y.w.cell? ⟨w.heap.size, 2, none⟩ = some (.int .i64 (rn : Int)) := fun y => xc 2 _ rfl y.w y.h
  have T0 : ∀ y : Sub W.heap.size W, y.w.cell? ⟨0, 10, none⟩ = some (.string ⟨#[69]⟩) := fun y => (ht.f.next (unhide HB y)).at10
  have MK := hide (fun x w1 => markI_any x w1)
  have RG := hide (fun y : Sub W.heap.size W => regI rn hrn y.w (ht.k.next (unhide HB y)))
  have PU := hide (fun (y : Sub W.heap.size W) v ts (h : OwnT y.w W.heap.size v ts) (hl : ts.length ≤ 10) => (PA ts v W.heap.size y.w ok h y.h.size (by omega) (hg.later (unhide HB y) hg.lt) (Nat.lt_trans hg.lt xl)).mono (R' := fun r w' => ∃ v', r = .returned v' ∧ OwnT w' W.heap.size v' (ts ++ toksF 6 e) ∧ ∃ z : Sub W.heap.size W, w' = z.w) fun r w' ⟨v', h1, h2, h3, _⟩ => ⟨v', h1, h2, ⟨w', y.h.trans h3⟩, rfl⟩)
  have tle := toks_le ok
  have AT : agT ⟨10, (rn : Int), e⟩ = toksF 6 e := rfl
  rw [AT]
  clear AT ok ht hg hW xc xl hbW hrn PA m6
  generalize toksF 6 e = te at *
  unfold Tk.v Tk.cs at MK RG
  simp only at MK RG
  generalize hrg : rgT rn = rt at *
  obtain ⟨T, hT⟩ : ∃ T, te = T := ⟨_, rfl⟩
  have HT := hide hT
  rw [hT]
  clear hT hrg
  have l0 : ([] : List Tk).length ≤ 0 := Nat.le_refl 0
  have O0 := hide (ownT_none y0.w W.heap.size)
  go_enter Tryd.func37, Tryd.ntmps37
  go_wp2_with fail
  refine wp_loop_rounds 2 ?_
  rw [rounds_succ]
  go_wp2_with fail
  refine (unhide PU y0 _ _ (unhide O0) (Nat.le_trans l0 (by decide))).mono ?_
  rintro r w1 ⟨v1, rfl, hO, y1, rfl⟩
  obtain ⟨u1, hu⟩ : ∃ u, ([] ++ te) = u := ⟨_, rfl⟩
  rw [hu] at hO
  have l1 := lapp hu l0 tle
  have O1 := hide hO
  have H1 := hide hu
  clear hO hu O0
  go_wp2_with fail
  rw [rounds_succ]
  go_wp2_with fail
  have EQ : u1 = T := by
    rw [← unhide HT]
    rw [← unhide H1]
    simp [mkT, mkS]
  rw [EQ] at O1
  go_ret
  exact ⟨_, rfl, unhide HO y1 _ _ (unhide O1), unhide HB y1⟩
set_option maxHeartbeats 8000000 in
theorem opt_11 (rn : Nat) (hrn : rn < 8) (e : Ex) (ok : okF 6 true e = true) (w : World) (ht : TabA w) (hg : TabG w) : Calls Tryd.prog 37 #[.agg #[tv e, .int .i64 11, .int .i64 (rn : Int)]] w fun r w' => ∃ v, r = .returned v ∧ OwnT w' w.heap.size v (agT ⟨11, (rn : Int), e⟩) ∧ Below w.heap.size w w' := by
  have PA := put_all 6 (by omega) e
  obtain ⟨tt, xx, e1⟩ := tv_if e
  rw [e1] at PA ⊢
  clear e1
  have m6 := mxT_le 6 (by omega)
  have hbW := below_new w (.cells #[(.iface tt xx), .int .i64 11, .int .i64 (rn : Int)] 54)
  obtain ⟨W, hW⟩ : ∃ W, w.alloc (.cells #[(.iface tt xx), .int .i64 11, .int .i64 (rn : Int)] 54) = W := ⟨_, rfl⟩
  have xl : w.heap.size < W.heap.size := by rw [← hW]; simp
  have xc : ∀ (i : Nat) (v : Value), (#[(.iface tt xx), .int .i64 11, .int .i64 (rn : Int)] : Array Value)[i]? = some v → ∀ w1, Below W.heap.size W w1 → w1.cell? ⟨w.heap.size, i, none⟩ = some v := fun i v h w1 hb => (hb.cell (p := ⟨w.heap.size, i, none⟩) xl).trans (by rw [← hW]; exact box17 w _ _ i v h)
  rw [hW] at hbW
  obtain ⟨y0, hy0⟩ : ∃ z : Sub W.heap.size W, w.alloc (.cells #[(.iface tt xx), .int .i64 11, .int .i64 (rn : Int)] 54) = z.w := ⟨⟨W, Below.refl _ _⟩, hW⟩
  have ne := Sub.ne W.heap.size W
  have HZ := hide (Nat.le_refl W.heap.size)
  have HB := hide (fun y : Sub W.heap.size W => hbW.trans (y.h.mono hbW.size))
  have HO := hide (fun (y : Sub W.heap.size W) v ts (h : OwnT y.w W.heap.size v ts) => h.base hbW.size)
  have E0 : ∀ y : Sub W.heap.size W, y.w.cell? ⟨w.heap.size, 0, none⟩ = some (.iface tt xx) := fun y => xc 0 _ rfl y.w y.h
  have E1 : ∀ y : Sub W.heap.size W, y.w.cell? ⟨w.heap.size, 1, none⟩ = some (.int .i64 11) := fun y => xc 1 _ rfl y.w y.h
  have E2 : ∀ y : Sub W.heap.size W, y.w.cell? ⟨w.heap.size, 2, none⟩ = some (.int .i64 (rn : Int)) := fun y => xc 2 _ rfl y.w y.h
  have T0 : ∀ y : Sub W.heap.size W, y.w.cell? ⟨0, 11, none⟩ = some (.string ⟨#[64, 69]⟩) := fun y => (ht.f.next (unhide HB y)).at11
  have MK := hide (fun x w1 => markI_any x w1)
  have RG := hide (fun y : Sub W.heap.size W => regI rn hrn y.w (ht.k.next (unhide HB y)))
  have PU := hide (fun (y : Sub W.heap.size W) v ts (h : OwnT y.w W.heap.size v ts) (hl : ts.length ≤ 10) => (PA ts v W.heap.size y.w ok h y.h.size (by omega) (hg.later (unhide HB y) hg.lt) (Nat.lt_trans hg.lt xl)).mono (R' := fun r w' => ∃ v', r = .returned v' ∧ OwnT w' W.heap.size v' (ts ++ toksF 6 e) ∧ ∃ z : Sub W.heap.size W, w' = z.w) fun r w' ⟨v', h1, h2, h3, _⟩ => ⟨v', h1, h2, ⟨w', y.h.trans h3⟩, rfl⟩)
  have tle := toks_le ok
  have X0 : (⟨#[64, 69]⟩ : ByteArray).extract 0 1 = ⟨#[64]⟩ := by kernel_rfl
  have AT : agT ⟨11, (rn : Int), e⟩ = mkT 64 :: toksF 6 e := rfl
  rw [AT]
  clear AT ok ht hg hW xc xl hbW hrn PA m6
  generalize toksF 6 e = te at *
  unfold Tk.v Tk.cs at MK RG
  simp only at MK RG
  generalize hrg : rgT rn = rt at *
  obtain ⟨T, hT⟩ : ∃ T, mkT 64 :: te = T := ⟨_, rfl⟩
  have HT := hide hT
  rw [hT]
  clear hT hrg
  have l0 : ([] : List Tk).length ≤ 0 := Nat.le_refl 0
  have O0 := hide (ownT_none y0.w W.heap.size)
  go_enter Tryd.func37, Tryd.ntmps37
  go_wp2_with fail
  refine wp_loop_rounds 3 ?_
  rw [rounds_succ]
  go_wp2_with fail
  refine (unhide MK ⟨#[64]⟩ y0.w).mono ?_
  rintro r w1 ⟨rfl, hb⟩
  have O1 := hide ((unhide O0).later hb)
  clear O0
  obtain ⟨y1, rfl⟩ := Sub.step (unhide HZ) hb
  clear hb
  obtain ⟨y2, hy2⟩ := Sub.step (unhide HZ) (below_new y1.w (.cells #[.int .i64 4, .int .i64 0, .string ⟨#[64]⟩] 91))
  have S2 := hide (show OwnT y2.w W.heap.size (.slice (some ⟨y1.w.heap.size, 0, none⟩) 1 1) [(Tk.mk 4 0 ⟨#[64]⟩)] by rw [← hy2]; exact ownT_new y1.w (Tk.mk 4 0 ⟨#[64]⟩) W.heap.size (Nat.le_trans (unhide HZ) y1.h.size))
  have O2 := hide (show OwnT y2.w W.heap.size (.slice none 0 0) [] by rw [← hy2]; exact (unhide O1).later (below_new _ _))
  clear O1
  go_wp2_with (at_builtin; go_must (refine appT rfl _ _ rfl (unhide HZ) y2.h rfl (unhide O2) rfl (unhide S2) (one_ne _) (lsum l0 (one_le _) (by decide)) ?_; intro v3 y3 hO; obtain ⟨u3, hu⟩ : ∃ u, ([] ++ [(Tk.mk 4 0 ⟨#[64]⟩)]) = u := ⟨_, rfl⟩; rw [hu] at hO; have l3 := lapp hu l0 (one_le _); have O3 := hide hO; have H3 := hide hu; clear hO hu O2 S2))
  rw [rounds_succ]
  go_wp2_with fail
  refine (unhide PU y3 _ _ (unhide O3) (Nat.le_trans l3 (by decide))).mono ?_
  rintro r w4 ⟨v4, rfl, hO, y4, rfl⟩
  obtain ⟨u4, hu⟩ : ∃ u, (u3 ++ te) = u := ⟨_, rfl⟩
  rw [hu] at hO
  have l4 := lapp hu l3 tle
  have O4 := hide hO
  have H4 := hide hu
  clear hO hu O3
  go_wp2_with fail
  rw [rounds_succ]
  go_wp2_with fail
  have EQ : u4 = T := by
    rw [← unhide HT]
    rw [← unhide H4, ← unhide H3]
    simp [mkT, mkS]
  rw [EQ] at O4
  go_ret
  exact ⟨_, rfl, unhide HO y4 _ _ (unhide O4), unhide HB y4⟩
theorem agX_rg {a : Ag} (ok : agX a = true) : 0 ≤ a.r ∧ a.r ≤ 7 := by
  unfold agX at ok
  split at ok
  · rw [Bool.and_eq_true] at ok; exact (inB_iff _ _ _).1 ok.1
  split at ok
  · rw [Bool.and_eq_true] at ok; exact (inB_iff _ _ _).1 ok.1
  split at ok
  · rw [Bool.and_eq_true] at ok; have := beq_iff_eq.1 ok.1; omega
  · cases ok
theorem opt_any (a : Ag) (ok : agX a = true) (w : World) (ht : TabA w) (hg : TabG w) : Calls Tryd.prog 37 #[.agg #[opU a, .int .i64 a.f, .int .i64 a.r]] w fun r w' => ∃ v, r = .returned v ∧ OwnT w' w.heap.size v (agT a) ∧ Below w.heap.size w w' := by
  have hf := agX_f ok
  have hr := agX_rg ok
  obtain ⟨f, r, e⟩ := a
  obtain ⟨rn, rfl⟩ : ∃ rn : Nat, r = (rn : Int) := ⟨r.toNat, (Int.toNat_of_nonneg hr.1).symm⟩
  have hrn : rn < 8 := by have := hr.2; simp only at this; omega
  have : f = 0 ∨ f = 1 ∨ f = 2 ∨ f = 3 ∨ f = 4 ∨ f = 5 ∨ f = 6 ∨ f = 7 ∨ f = 8 ∨ f = 9 ∨ f = 10 ∨ f = 11 := by simp only at hf; omega
  rcases this with rfl | rfl | rfl | rfl | rfl | rfl | rfl | rfl | rfl | rfl | rfl | rfl
  · exact opt_0 rn hrn e trivial w ht hg
  · exact opt_1 rn hrn e trivial w ht hg
  · exact opt_2 rn hrn e trivial w ht hg
  · exact opt_3 rn hrn e trivial w ht hg
  · exact opt_4 rn hrn e trivial w ht hg
  · exact opt_5 rn hrn e trivial w ht hg
  · exact opt_6 rn hrn e (agX_e ok (by simp)) w ht hg
  · exact opt_7 rn hrn e (agX_e ok (by simp)) w ht hg
  · exact opt_8 rn hrn e (agX_e ok (by simp)) w ht hg
  · exact opt_9 rn hrn e (agX_e ok (by simp)) w ht hg
  · exact opt_10 rn hrn e (agX_e ok (by simp)) w ht hg
  · exact opt_11 rn hrn e (agX_e ok (by simp)) w ht hg
end Go.Proofs.YtmhcbehplhfgfaaDoor

namespace Go.Proofs.YtmhcbehplhfgfaaDoor
open Go.ChangeShapes Go.WideShapes Go.ChangeAt Go.RowKit
set_option linter.unusedVariables false
set_option maxRecDepth 8000
set_option linter.unusedSimpArgs false

theorem two_ne (t u : Tk) : [t, u] ≠ [] := by simp
theorem two_le (t u : Tk) : [t, u].length ≤ 2 := Nat.le_refl 2
/-- The tokens of an instruction's line. -/
def insT (x : Ln) : List Tk :=
  kpT (x.op - 1).toNat :: (if x.op ≤ 6 then agT x.src ++ mkT 44 :: agT x.dst else if x.op ≤ 14 then agT x.dst
    else if x.op = 15 then rgT x.n.toNat :: mkT 44 :: agT x.dst else if x.op = 16 then [rgT x.n.toNat] else if x.op = 22 then [] else toksF 6 (xAt x.l 0))
end Go.Proofs.YtmhcbehplhfgfaaDoor

namespace Go.Proofs.YtmhcbehplhfgfaaDoor
open Go.ChangeShapes Go.WideShapes Go.ChangeAt Go.RowKit
set_option linter.unusedVariables false
set_option maxRecDepth 8000
set_option linter.unusedSimpArgs false

/-- The tokens of a line. -/
def lnT (x : Ln) : List Tk :=
  if x.k = 1 then [⟨1, 0, x.s⟩, mkT 58] else if x.k = 2 then ⟨1, 0, x.s⟩ :: mkT 61 :: toksF 6 (xAt x.l 0) else if x.k = 3 then insT x
  else if x.k = 4 then tmT ⟨#[46, 119, 111, 114, 100]⟩ x.l else if x.k = 5 then tmT ⟨#[46, 98, 108, 107, 119]⟩ x.l else if x.k = 7 then tmT ⟨#[46, 103, 108, 111, 98, 108]⟩ x.l else if x.k = 8 then tmT ⟨#[46, 101, 110, 100]⟩ x.l
  else if x.k = 6 then (if x.n = 1 then [⟨3, 0, ⟨#[46, 115, 101, 99, 116]⟩⟩, ⟨1, 0, x.s⟩, mkT 44, ⟨1, 0, ⟨#[111, 118, 101, 114]⟩⟩] else [⟨3, 0, ⟨#[46, 115, 101, 99, 116]⟩⟩, ⟨1, 0, x.s⟩]) else []
end Go.Proofs.YtmhcbehplhfgfaaDoor

namespace Go.Proofs.YtmhcbehplhfgfaaDoor
open Go.ChangeShapes Go.WideShapes Go.ChangeAt Go.RowKit
set_option linter.unusedVariables false
set_option maxRecDepth 8000
set_option linter.unusedSimpArgs false

theorem kpT_ok (k : Nat) (hk : k < 31) : (kpT k).ok = true := by
  have h : keptB (keptL.getD k E0) = true := hasS_iff.2 (by
    rw [List.getD_eq_getElem?_getD, List.getElem?_eq_getElem (by rw [keptL_len]; exact hk)]
    exact List.getElem_mem _)
  exact h
theorem rgT_ok (n : Nat) (hn : n < 8) : (rgT n).ok = true := kpT_ok _ (by omega)
theorem rnT_ok (n : Nat) (hn : n < 8) : AllOk (rnT n) := allOk_cons (mkT_ok (by decide)) (allOk_cons (rgT_ok n hn) (allOk_cons (mkT_ok (by decide)) allOk_nil))
theorem agX_r {a : Ag} (ok : agX a = true) : 0 ≤ a.r ∧ a.r ≤ 7 := by
  unfold agX at ok
  by_cases h1 : inB a.f 0 5 = true
  · rw [if_pos h1] at ok; exact inB_of (Bool.and_eq_true_iff.1 ok).1
  rw [if_neg h1] at ok
  by_cases h2 : (a.f == 6 || a.f == 7) = true
  · rw [if_pos h2] at ok; exact inB_of (Bool.and_eq_true_iff.1 ok).1
  rw [if_neg h2] at ok
  by_cases h3 : inB a.f 8 11 = true
  · rw [if_pos h3] at ok
    have : a.r = 0 := by simpa using (Bool.and_eq_true_iff.1 ok).1
    omega
  rw [if_neg h3] at ok
  cases ok
theorem agT_all {a : Ag} (ok : agX a = true) : AllOk (agT a) := by
  obtain ⟨f1, f2⟩ := agX_f ok
  obtain ⟨r1, r2⟩ := agX_r ok
  have h8 : a.r.toNat < 8 := by omega
  have hn := rnT_ok _ h8
  have hg := rgT_ok _ h8
  have m43 : (mkT 43).ok = true := mkT_ok (by decide)
  have m64 : (mkT 64).ok = true := mkT_ok (by decide)
  have m45 : (mkT 45).ok = true := mkT_ok (by decide)
  have m35 : (mkT 35).ok = true := mkT_ok (by decide)
  by_cases h6 : 6 ≤ a.f
  · have ht := (toks_ok 6 a.e (agX_e ok h6)).1
    have : a.f = 6 ∨ a.f = 7 ∨ a.f = 8 ∨ a.f = 9 ∨ a.f = 10 ∨ a.f = 11 := by omega
    rcases this with h | h | h | h | h | h <;> (unfold agT; simp only [h]; simp (decide := true) only [if_false, if_true])
    · exact allOk_app ht hn
    · exact allOk_cons m64 (allOk_app ht hn)
    · exact allOk_cons m35 ht
    · exact allOk_cons m64 (allOk_cons m35 ht)
    · exact ht
    · exact allOk_cons m64 ht
  · have : a.f = 0 ∨ a.f = 1 ∨ a.f = 2 ∨ a.f = 3 ∨ a.f = 4 ∨ a.f = 5 := by omega
    rcases this with h | h | h | h | h | h <;> (unfold agT; simp only [h]; simp (decide := true) only [if_false, if_true])
    · exact allOk_cons hg allOk_nil
    · exact hn
    · exact allOk_app hn (allOk_cons m43 allOk_nil)
    · exact allOk_cons m64 (allOk_app hn (allOk_cons m43 allOk_nil))
    · exact allOk_cons m45 hn
    · exact allOk_cons m64 (allOk_cons m45 hn)
theorem cmT_all (l : List Ex) (ok : l.all (okF 6 true) = true) : AllOk (cmT l) := by
  have hl : ∀ e ∈ l, AllOk (toksF 6 e) := fun e he => (toks_ok 6 e (List.all_eq_true.1 ok e he)).1
  cases l with
  | nil => exact allOk_nil
  | cons e r =>
    refine allOk_app (hl e List.mem_cons_self) ?_
    intro t ht
    rw [List.mem_flatten] at ht
    obtain ⟨q, hq, ht⟩ := ht
    obtain ⟨x, hx, rfl⟩ := List.mem_map.1 hq
    exact allOk_cons (mkT_ok (by decide)) (hl x (List.mem_cons_of_mem _ hx)) t ht
theorem cmT_len (l : List Ex) (ok : l.all (okF 6 true) = true) : (cmT l).length ≤ 201 * l.length := by
  have := cmT_le l ok l.length (Nat.le_refl _)
  rwa [List.take_length] at this
theorem nmF_all (l : List Ex) (h : l.all nmF = true) : l.all (okF 6 true) = true := by
  rw [List.all_eq_true] at h ⊢
  intro e he
  exact (Bool.and_eq_true_iff.1 (h e he)).1
theorem insT_all {x : Ln} (ok : insX x = true) : AllOk (insT x) ∧ (insT x).length ≤ 600 := by
  unfold insX insV at ok
  unfold insT
  by_cases h1 : inB x.op 1 6 = true
  · rw [if_pos h1] at ok
    simp only [Bool.and_eq_true] at ok
    obtain ⟨q1, q2⟩ := inB_of h1
    rw [if_pos q2]
    have l1 := (agT_ok ok.1).2
    have l2 := (agT_ok ok.2.1).2
    exact ⟨allOk_cons (kpT_ok _ (by omega)) (allOk_app (agT_all ok.1) (allOk_cons (mkT_ok (by decide)) (agT_all ok.2.1))), by simp only [List.length_cons, List.length_append]; omega⟩
  rw [if_neg h1] at ok
  by_cases h2 : inB x.op 7 14 = true
  · rw [if_pos h2] at ok
    simp only [Bool.and_eq_true] at ok
    obtain ⟨q1, q2⟩ := inB_of h2
    rw [if_neg (by omega), if_pos q2]
    have l2 := (agT_ok ok.2.1).2
    exact ⟨allOk_cons (kpT_ok _ (by omega)) (agT_all ok.2.1), by simp only [List.length_cons]; omega⟩
  rw [if_neg h2] at ok
  by_cases h3 : x.op = 15
  · rw [if_pos (by simp [h3])] at ok
    simp only [Bool.and_eq_true] at ok
    obtain ⟨q1, q2⟩ := inB_of ok.2.2.1
    rw [if_neg (by omega), if_neg (by omega), if_pos h3]
    have l2 := (agT_ok ok.2.1).2
    exact ⟨allOk_cons (kpT_ok _ (by omega)) (allOk_cons (rgT_ok _ (by omega)) (allOk_cons (mkT_ok (by decide)) (agT_all ok.2.1))), by simp only [List.length_cons]; omega⟩
  rw [if_neg (by simp [h3])] at ok
  by_cases h4 : (!nonX x.src || !nonX x.dst) = true
  · rw [if_pos h4] at ok
    cases ok
  rw [if_neg h4] at ok
  by_cases h5 : x.op = 16
  · rw [if_pos (by simp [h5])] at ok
    simp only [Bool.and_eq_true] at ok
    obtain ⟨q1, q2⟩ := inB_of ok.1
    rw [if_neg (by omega), if_neg (by omega), if_neg h3, if_pos h5]
    exact ⟨allOk_cons (kpT_ok _ (by omega)) (allOk_cons (rgT_ok _ (by omega)) allOk_nil), by simp⟩
  rw [if_neg (by simp [h5])] at ok
  by_cases h6 : x.op = 22
  · rw [if_neg (by omega), if_neg (by omega), if_neg h3, if_neg h5, if_pos h6]
    exact ⟨allOk_cons (kpT_ok _ (by omega)) allOk_nil, by simp⟩
  rw [if_neg (by simp [h6])] at ok
  by_cases h7 : (inB x.op 17 21 || x.op == 23) = true
  · rw [if_pos h7] at ok
    simp only [Bool.and_eq_true, beq_iff_eq] at ok
    have h8 : 17 ≤ x.op ∧ x.op ≤ 23 ∧ x.op ≠ 22 := by
      rcases Bool.or_eq_true_iff.1 h7 with h | h
      · have := inB_of h; omega
      · have : x.op = 23 := by simpa using h
        omega
    have okt : okF 6 true (xAt x.l 0) = true := List.all_eq_true.1 ok.2.2 _ (xAt_mem (by omega))
    have l2 := toks_le okt
    rw [if_neg (by omega), if_neg (by omega), if_neg h3, if_neg h5, if_neg h6]
    exact ⟨allOk_cons (kpT_ok _ (by omega)) (toks_ok 6 _ okt).1, by simp only [List.length_cons]; omega⟩
  rw [if_neg h7] at ok
  cases ok
theorem lnT_all {x : Ln} (ok : lnX x = true) : AllOk (lnT x) ∧ (lnT x).length ≤ 1300 := by
  unfold lnX lnV at ok
  unfold lnT
  by_cases k3 : x.k = 3
  · rw [if_pos (by simp [k3])] at ok
    have oki := (Bool.and_eq_true_iff.1 ok).2
    rw [if_neg (by omega), if_neg (by omega), if_pos k3]
    obtain ⟨r1, r2⟩ := insT_all oki; exact ⟨r1, by omega⟩
  rw [if_neg (by simp [k3])] at ok
  by_cases h0 : (!(x.op == 0) || (!nonX x.src || !nonX x.dst)) = true
  · rw [if_pos h0] at ok
    cases ok
  rw [if_neg h0] at ok
  by_cases k0 : x.k = 0
  · rw [if_neg (by omega), if_neg (by omega), if_neg (by omega), if_neg (by omega), if_neg (by omega), if_neg (by omega), if_neg (by omega), if_neg (by omega)]
    exact ⟨allOk_nil, by simp⟩
  by_cases k8 : x.k = 8
  · rw [if_pos (by simp [k8])] at ok
    simp only [Bool.and_eq_true, beq_iff_eq] at ok
    have hl : x.l.length = 0 := ok.2.2
    have hnil : x.l = [] := List.eq_nil_of_length_eq_zero hl
    have okl : x.l.all (okF 6 true) = true := by rw [hnil]; rfl
    rw [if_neg (by omega), if_neg (by omega), if_neg k3, if_neg (by omega), if_neg (by omega), if_neg (by omega), if_pos k8]
    have lc := cmT_len _ okl; exact ⟨allOk_cons (by decide) (cmT_all _ okl), by unfold tmT; simp only [List.length_cons]; omega⟩
  rw [if_neg (by simp [k0, k8])] at ok
  by_cases k1 : x.k = 1
  · rw [if_pos (by simp [k1])] at ok
    have oki := (Bool.and_eq_true_iff.1 ok).1
    rw [if_pos k1]
    exact ⟨allOk_cons oki (allOk_cons (mkT_ok (by decide)) allOk_nil), by simp⟩
  rw [if_neg (by simp [k1])] at ok
  by_cases k2 : x.k = 2
  · rw [if_pos (by simp [k2])] at ok
    simp only [Bool.and_eq_true, beq_iff_eq] at ok
    have okt : okF 6 true (xAt x.l 0) = true := List.all_eq_true.1 ok.2.2.2 _ (xAt_mem (by omega))
    rw [if_neg k1, if_pos k2]
    have l2 := toks_le okt; exact ⟨allOk_cons ok.1 (allOk_cons (mkT_ok (by decide)) (toks_ok 6 _ okt).1), by simp only [List.length_cons]; omega⟩
  rw [if_neg (by simp [k2])] at ok
  by_cases k4 : x.k = 4
  · rw [if_pos (by simp [k4])] at ok
    simp only [Bool.and_eq_true, beq_iff_eq] at ok
    obtain ⟨q1, q2⟩ := inB_of ok.2.2.1
    have hl : x.l.length ≤ 6 := by omega
    have okl := ok.2.2.2
    rw [if_neg k1, if_neg k2, if_neg k3, if_pos k4]
    have lc := cmT_len _ okl; exact ⟨allOk_cons (by decide) (cmT_all _ okl), by unfold tmT; simp only [List.length_cons]; omega⟩
  rw [if_neg (by simp [k4])] at ok
  by_cases k5 : x.k = 5
  · rw [if_pos (by simp [k5])] at ok
    simp only [Bool.and_eq_true, beq_iff_eq] at ok
    have hl : x.l.length ≤ 6 := by omega
    have okl := ok.2.2.2
    rw [if_neg k1, if_neg k2, if_neg k3, if_neg k4, if_pos k5]
    have lc := cmT_len _ okl; exact ⟨allOk_cons (by decide) (cmT_all _ okl), by unfold tmT; simp only [List.length_cons]; omega⟩
  rw [if_neg (by simp [k5])] at ok
  by_cases k6 : x.k = 6
  · rw [if_pos (by simp [k6])] at ok
    simp only [Bool.and_eq_true] at ok
    have oki := ok.1
    rw [if_neg k1, if_neg k2, if_neg k3, if_neg k4, if_neg k5, if_neg (by omega), if_neg k8, if_pos k6]
    by_cases n1 : x.n = 1
    · rw [if_pos n1]
      exact ⟨allOk_cons (by decide) (allOk_cons oki (allOk_cons (mkT_ok (by decide)) (allOk_cons (by kernel_rfl) allOk_nil))), by simp⟩
    · rw [if_neg n1]
      exact ⟨allOk_cons (by decide) (allOk_cons oki allOk_nil), by simp⟩
  rw [if_neg (by simp [k6])] at ok
  by_cases k7 : x.k = 7
  · rw [if_pos (by simp [k7])] at ok
    simp only [Bool.and_eq_true] at ok
    have okn := Bool.and_eq_true_iff.1 (show (x.l.all nmF && inB x.l.length 1 6) = true from ok.2.2)
    have okl := nmF_all _ okn.1
    obtain ⟨q1, q2⟩ := inB_of okn.2
    have hl : x.l.length ≤ 6 := by omega
    rw [if_neg k1, if_neg k2, if_neg k3, if_neg k4, if_neg k5, if_pos k7]
    have lc := cmT_len _ okl; exact ⟨allOk_cons (by decide) (cmT_all _ okl), by unfold tmT; simp only [List.length_cons]; omega⟩
  rw [if_neg (by simp [k7])] at ok
  cases ok
/-- A line's text. -/
def lnTx (x : Ln) : ByteArray := if lnX x = true then strOf (lineOf (lnT x)) else ⟨#[]⟩
/-- An operand's text. -/
def agTx (a : Ag) : ByteArray := if agX a = true then strOf (lineOf (agT a)) else ⟨#[]⟩
theorem lnT_sz {x : Ln} (ok : lnX x = true) : (lnT x).length + szL (lnT x) ≤ 1048576 := by
  obtain ⟨h1, h2⟩ := lnT_all ok
  have := szL_allOk _ h1
  omega
theorem agT_sz {a : Ag} (ok : agX a = true) : (agT a).length + szL (agT a) ≤ 1048576 := by
  have h2 := (agT_ok ok).2
  have := szL_allOk _ (agT_all ok)
  omega
set_option maxHeartbeats 4000000 in
theorem atxS_any (x : Ag) (b : Option Addr) (cap : Nat) (w : World) (hr : RdX w 0 x.e b) (hz : x.e.sz ≤ 1048576) : Calls Tryd.prog 16 #[.agg (x.cs b cap)] w fun r w' => r = .returned (.string (agTx x)) ∧ Below w.heap.size w w' := by
  have hbW := below_new w (.cells (x.cs b cap) 33)
  obtain ⟨W, hW⟩ : ∃ W, w.alloc (.cells (x.cs b cap) 33) = W := ⟨_, rfl⟩
  have hrW := hr.later hbW
  have xl : w.heap.size < W.heap.size := by rw [← hW]; simp
  have hG : W.heap[w.heap.size]? = some (.cells (x.cs b cap) 33 (0, 0)) := by rw [← hW]; exact Array.getElem?_push_size
  have GG := hide (fun w1 (hb : Below W.heap.size W w1) => (hb.block _ xl).trans hG)
  rw [hW] at hbW hrW
  have BB := hide (fun w1 (hb : Below W.heap.size W w1) => hbW.trans (hb.mono hbW.size))
  have OK := hide (agS_any x b cap W hrW hz)
  have TO := hide (fun w1 (hb : Below W.heap.size W w1) (ok : agX x = true) => agtS_any x b cap w1 ok (hrW.later hb))
  have LS := hide (fun w1 a c (ok : agX x = true) (h2 : RdT w1 a (agT x)) => lineS_any a (agT x).length c (agT x) w1 rfl (agT_sz ok) h2)
  have TX := hide (show (agX x = true → agTx x = strOf (lineOf (agT x))) ∧ (agX x = false → agTx x = ⟨#[]⟩) from ⟨fun h => by unfold agTx; rw [if_pos h], fun h => by unfold agTx; rw [if_neg (by rw [h]; decide)]⟩)
  generalize agX x = q at *
  generalize agT x = ts at *
  generalize agTx x = tx at *
  clear hr hrW hG xl hbW hz
  obtain ⟨cs, hcs⟩ : ∃ cs, x.cs b cap = cs := ⟨_, rfl⟩
  have hcz : cs.size = 6 := by rw [← hcs]; rfl
  have HC := hide hcz
  rw [hcs] at GG OK TO hW ⊢
  clear hcs hcz
  go_enter Tryd.func16, Tryd.ntmps16
  have G0 := hide (unhide GG W (Below.refl _ _))
  go_wp2_with (refine wpList_load_row rfl 33 _ rfl w.heap.size rfl 33 cs (0, 0) _ (unhide G0) Tryd.underlying33 rfl (by rw [unhide HC]; kernel_rfl) ?_)
  refine (unhide OK).mono ?_
  rintro r w1 ⟨rfl, hb1⟩
  have B1 := hide hb1
  clear hb1 OK G0
  cases q with
  | false =>
    have e0 := (unhide TX).2 rfl
    subst e0
    go_wp2
    go_ret
    exact ⟨rfl, unhide BB _ (unhide B1)⟩
  | true =>
    have e0 := hide ((unhide TX).1 rfl)
    have G1 := hide (unhide GG w1 (unhide B1))
    have T1 := hide (unhide TO w1 (unhide B1) rfl)
    go_wp2_with (refine wpList_load_row rfl 33 _ rfl w.heap.size rfl 33 cs (0, 0) _ (unhide G1) Tryd.underlying33 rfl (by rw [unhide HC]; kernel_rfl) ?_)
    refine (unhide T1).mono ?_
    rintro r w2 ⟨v2, rfl, o2, hb2⟩
    obtain ⟨a2, c2, rfl, r2⟩ := o2.rd
    have B2 := hide ((unhide B1).trans (hb2.mono (unhide B1).size))
    have L2 := hide (unhide LS w2 a2 c2 (by trivial) r2)
    clear o2 r2 hb2 T1 G1
    generalize strOf (lineOf ts) = ln at *
    go_wp2_with fail
    refine (unhide L2).mono ?_
    rintro r w3 ⟨rfl, hb3⟩
    have B3 := hide ((unhide B2).trans (hb3.mono (unhide B2).size))
    clear hb3 L2
    go_wp2
    go_ret
    exact ⟨by rw [unhide e0]; rfl, unhide BB _ (unhide B3)⟩
end Go.Proofs.YtmhcbehplhfgfaaDoor

namespace Go.Proofs.YtmhcbehplhfgfaaDoor
open Go.ChangeShapes Go.WideShapes Go.ChangeAt Go.RowKit
set_option linter.unusedVariables false
set_option maxRecDepth 8000
set_option linter.unusedSimpArgs false

/-- What the text's road reads: kept words, marks, digits' table. -/
structure TabX (w : World) : Prop where
  k : TabK w
  g : TabG w
  b : w.cell? ⟨7, 7, none⟩ = some (.int .u8 3)
theorem TabX.next {w w' : World} (h : TabX w) (hb : Below w.heap.size w w') : TabX w' :=
  ⟨h.k.next hb, h.g.later hb h.g.lt, (hb.cell (p := ⟨7, 7, none⟩) (World.block_lt_of_cell? w _ h.b)).trans h.b⟩
end Go.Proofs.YtmhcbehplhfgfaaDoor

namespace Go.Proofs.YtmhcbehplhfgfaaDoor
open Go.ChangeShapes Go.WideShapes Go.ChangeAt Go.RowKit
set_option linter.unusedVariables false
set_option maxRecDepth 8000
set_option linter.unusedSimpArgs false

/-- What the road of an operand's text reads. -/
structure TabB (w : World) : Prop where
  x : TabX w
  f : TabF w
theorem TabB.next {w w' : World} (h : TabB w) (hb : Below w.heap.size w w') : TabB w' := ⟨h.x.next hb, h.f.next hb⟩
theorem TabB.a {w : World} (h : TabB w) : TabA w := ⟨h.x.k, h.f⟩
set_option maxHeartbeats 4000000 in
theorem atxI_any (a : Ag) (b : Option Addr) (cap : Nat) (w : World) (hr : RdX w 0 a.e b) (hz : a.e.sz ≤ 1048576) (ht : TabB w) : Calls Tryd.prog 17 #[.agg (a.cs b cap)] w fun r w' => r = .returned (.string (agTx a)) ∧ Below w.heap.size w w' := by
  have B0 := below_new w (.cells (a.cs b cap) 33)
  have HH := hide (opdI_any a b cap _ (hr.later B0) hz (ht.a.next B0))
  have HB := hide B0
  have TK := hide (fun w1 (h : Below w.heap.size w w1) (ok : agX a = true) => opt_any a ok w1 (ht.next h).a (ht.next h).x.g)
  have LI := hide (fun w1 (h : Below w.heap.size w w1) c cp (ok : agX a = true) (h2 : RdT w1 c (agT a)) => lineI_any c (agT a).length cp (agT a) w1 rfl (agT_sz ok) h2 (ht.next h).x.b)
  have TE := hide (show (agX a = true → agTx a = strOf (lineOf (agT a))) ∧ (agX a = false → agTx a = ⟨#[]⟩) from ⟨fun h => by unfold agTx; rw [if_pos h], fun h => by unfold agTx; rw [if_neg (by rw [h]; decide)]⟩)
  clear hr B0 ht
  unfold OpdR at HH
  have OU : IfV (opU a) := by
    unfold opU
    split
    · obtain ⟨t, x, e⟩ := tv_if a.e; exact .inr ⟨t, x, e⟩
    · exact .inl rfl
  generalize opU a = ou at *
  generalize agX a = q at *
  generalize agTx a = tx at *
  generalize agT a = at_ at *
  unfold Ag.cs at HH HB ⊢
  go_enter Tryd.func17, Tryd.ntmps17
  go_wp2_with fail
  refine (unhide HH).mono ?_
  rintro r w1 ⟨u, f, g, rfl, hv, hb1⟩
  have BB := hide ((unhide HB).trans (hb1.mono (unhide HB).size))
  cases q with
  | false =>
    have E := hide ((unhide TE).2 rfl)
    rcases hv.1 with rfl | ⟨tt, xx, rfl⟩
    · clear hb1 HH HB hv TK LI
      go_wp2
      go_ret
      exact ⟨by rw [unhide E]; rfl, (unhide BB).alloc (unhide BB).size _⟩
    · clear hb1 HH HB hv TK LI
      go_wp2
      go_ret
      exact ⟨by rw [unhide E]; rfl, (unhide BB).alloc (unhide BB).size _⟩
  | true =>
    obtain ⟨hu, rfl, rfl⟩ := hv.2 rfl
    subst hu
    have T1 := hide (unhide TK (w1.alloc (.cells #[u, .int .i64 a.f, .int .i64 a.r] 54)) ((unhide BB).alloc (unhide BB).size _) rfl)
    have E := hide ((unhide TE).1 rfl)
    have LJ := hide (fun w1 (h : Below w.heap.size w w1) c cp (h2 : RdT w1 c at_) => unhide LI w1 h c cp rfl h2)
    clear LI TE
    have B1 := hide ((unhide BB).alloc (unhide BB).size (.cells #[u, .int .i64 a.f, .int .i64 a.r] 54))
    rcases OU with rfl | ⟨tt, xx, rfl⟩
    · clear hb1 HH HB hv TK
      go_wp2_with fail
      refine (unhide T1).mono ?_
      rintro r w2 ⟨v, rfl, ho, hb⟩
      have B2 := hide ((unhide B1).trans (hb.mono (unhide B1).size))
      obtain ⟨c, cp, rfl, hrd⟩ := ho.rd
      have L2 := hide (unhide LJ w2 (unhide B2) c cp hrd)
      clear hb ho hrd T1 B1 LJ
      go_wp2_with fail
      refine (unhide L2).mono ?_
      rintro r w3 ⟨rfl, hb⟩
      have B3 := hide ((unhide B2).trans (hb.mono (unhide B2).size))
      clear hb L2 B2
      go_wp2
      go_ret
      exact ⟨by rw [unhide E]; rfl, unhide B3⟩
    · clear hb1 HH HB hv TK
      go_wp2_with fail
      refine (unhide T1).mono ?_
      rintro r w2 ⟨v, rfl, ho, hb⟩
      have B2 := hide ((unhide B1).trans (hb.mono (unhide B1).size))
      obtain ⟨c, cp, rfl, hrd⟩ := ho.rd
      have L2 := hide (unhide LJ w2 (unhide B2) c cp hrd)
      clear hb ho hrd T1 B1 LJ
      go_wp2_with fail
      refine (unhide L2).mono ?_
      rintro r w3 ⟨rfl, hb⟩
      have B3 := hide ((unhide B2).trans (hb.mono (unhide B2).size))
      clear hb L2 B2
      go_wp2
      go_ret
      exact ⟨by rw [unhide E]; rfl, unhide B3⟩
end Go.Proofs.YtmhcbehplhfgfaaDoor

namespace Go.Proofs.YtmhcbehplhfgfaaDoor
open Go.ChangeShapes Go.WideShapes Go.ChangeAt Go.RowKit
set_option linter.unusedVariables false
set_option maxRecDepth 8000

/-- What is known of a list that came in. -/
structure IsT (W : World) (a : Option Addr) (len : Nat) (ts : List Tk) : Prop where
  hlen : ts.length = len
  max : len ≤ 9223372036854775807
  each : ∀ i, i < len → (tAt ts i).s.size ≤ 9223372036854775807
  rd : RdT W a ts
section
variable {H : Type} {enc : TypeId × Value → H} {W : World} {b0 base : Nat} {spare : TypeId → Bool} {held : Bool}
end
theorem gDb : Tryd.prog.globalNamed "math/bits.deBruijn64tab" = some 7 := by kernel_rfl
theorem tDb : (Tryd.prog.globals[7]?).map (·.type) = some 163 := by kernel_rfl
def dbT : List Int := [0, 1, 56, 2, 57, 49, 28, 3, 61, 58, 42, 50, 38, 29, 17, 4, 62, 47, 59, 36, 45, 43, 51, 22, 53, 39, 33, 30, 24, 18, 12, 5, 63, 55, 48, 27, 60, 41, 37, 16, 46, 35, 44, 21, 52, 32, 23, 11, 54, 26, 40, 15, 34, 20, 31, 10, 25, 14, 19, 9, 13, 8, 7, 6]
theorem dbT_eq : (Rows.laid_math_bits_deBruijn64tab : DataW Unit) = Lib.tabData .u8 dbT := by kernel_rfl
theorem db_of {W : World} {rest : List (String × DataW Unit)} (h : laidMet Tryd.prog (("math/bits.deBruijn64tab", Rows.laid_math_bits_deBruijn64tab) :: rest) W) : W.cell? ⟨7, 7, none⟩ = some (.int .u8 3) := by
  rw [dbT_eq] at h
  have h2 := Lib.tabIs_of_head gDb tDb Tryd.underlying163 Tryd.underlying5 (by kernel_rfl) (by kernel_rfl) h
  exact h2.cell gDb 7 (by decide)
theorem db_of_three {W : World} (h : laidMetH Tryd.prog [("math/bits.deBruijn32tab", Rows.laid_math_bits_deBruijn32tab), ("math/bits.deBruijn64tab", Rows.laid_math_bits_deBruijn64tab), ("internal/strconv.uint64pow10", Rows.laid_internal_strconv_uint64pow10)] W) : W.cell? ⟨7, 7, none⟩ = some (.int .u8 3) := by
  rw [MakeChecks.laidMetH_plain _ _ _ (by kernel_rfl)] at h
  exact db_of h.tail
end Go.Proofs.YtmhcbehplhfgfaaDoor

namespace Go.Proofs.YtmhcbehplhfgfaaDoor
open Go.ChangeShapes Go.WideShapes Go.ChangeAt Go.RowKit
set_option linter.unusedVariables false
set_option maxRecDepth 8000
set_option linter.unusedSimpArgs false

theorem gSn : Tryd.prog.globalNamed "loop.example/g00329/impl.signs" = some 2 := by kernel_rfl
theorem tSn : (Tryd.prog.globals[2]?).map (·.type) = some 131 := by kernel_rfl
theorem snD_eq : (Rows.laid_loop_example_g00329_impl_signs : DataW Unit) = strData sgnL := by kernel_rfl
theorem tabb_of {W : World} (h : laidMetH Tryd.prog [("math/bits.deBruijn32tab", Rows.laid_math_bits_deBruijn32tab), ("math/bits.deBruijn64tab", Rows.laid_math_bits_deBruijn64tab), ("internal/strconv.uint64pow10", Rows.laid_internal_strconv_uint64pow10), ("loop.example/g00329/impl.opWords", Rows.laid_loop_example_g00329_impl_opWords), ("loop.example/g00329/impl.regWords", Rows.laid_loop_example_g00329_impl_regWords), ("loop.example/g00329/impl.signs", Rows.laid_loop_example_g00329_impl_signs), ("loop.example/g00329/impl.argForms", Rows.laid_loop_example_g00329_impl_argForms)] W) : TabB W := by
  rw [MakeChecks.laidMetH_plain _ _ _ (by kernel_rfl)] at h
  have hd := db_of h.tail
  have h := h.tail.tail.tail
  rw [opD_eq, rgD_eq, snD_eq, fmD_eq] at h
  exact ⟨⟨⟨strs_of_head gOp tOp Tryd.underlying147 Tryd.underlying9 (by kernel_rfl) (by kernel_rfl) h, strs_of_head gRg tRg Tryd.underlying119 Tryd.underlying9 (by kernel_rfl) (by kernel_rfl) h.tail⟩, strs_of_head gSn tSn Tryd.underlying131 Tryd.underlying9 (by kernel_rfl) (by kernel_rfl) h.tail.tail, hd⟩, strs_of_head gFm tFm Tryd.underlying74 Tryd.underlying9 (by kernel_rfl) (by kernel_rfl) h.tail.tail.tail⟩
end Go.Proofs.YtmhcbehplhfgfaaDoor

namespace Go.Proofs.YtmhcbehplhfgfaaDoor
open Go.ChangeShapes Go.WideShapes Go.ChangeAt Go.RowKit
set_option linter.unusedVariables false
set_option maxRecDepth 8000

set_option maxHeartbeats 1000000 in
theorem toXS_of (e : Ex) (ih : ∀ i, i < e.l.length → ToP (xAt e.l i)) (b : Option Addr) (cap : Nat) (w : World) (hr : RdX w 0 e b) (hz : e.sz ≤ 1048576) : Calls Tryd.prog 31 #[.slice b e.l.length cap] w fun r w' => r = .returned (.slice (some ⟨w.heap.size, 0, none⟩) e.l.length e.l.length) ∧ NewX w' w.heap.size e (some ⟨w.heap.size, 0, none⟩) ∧ Below w.heap.size w w' := by
  have hsz := sz_is e
  have RD := hide (fun (w' : World) (M : Nat) (h : DoneX w' w.heap.size e.l e.l.length e.l.length e.l.length M) => DoneX.new h)
  rw [RdX_eq] at hr
  have hp : ∀ i, i < e.l.length → (xAt e.l i).sz ≤ 1048576 := fun i hi => by have := sz_part hi; omega
  have hm : e.l.length ≤ 1048576 := by omega
  clear hsz hz
  generalize hR : (fun w' => NewX w' w.heap.size e (some ⟨w.heap.size, 0, none⟩)) = R
  have hR' : ∀ w', NewX w' w.heap.size e (some ⟨w.heap.size, 0, none⟩) = R w' := fun w' => congrFun hR w'
  simp only [hR'] at RD ⊢
  clear hR hR'
  generalize e.l = l at *
  obtain ⟨len, hl⟩ : ∃ len, l.length = len := ⟨_, rfl⟩
  rw [hl] at hm ih hr hp RD ⊢
  obtain ⟨i0, hi, hz0, hz1, hz2⟩ := info_parts infoX
  obtain ⟨w1, hmk, hown, hgr⟩ := run_make_full (P := Tryd.prog) w w.heap.size 29 31 i0 _ 4 Tryd.underlying29 hi hz0 hz1 .i64 .i64 len (by rw [hz2]; omega) (by unfold maxLen; omega) (Nat.le_refl _)
  have O0 := hide (show DoneX w1 w.heap.size l len len 0 w1.heap.size from ⟨_, [], hown, rfl, List.nodup_nil, (fun b hb => by simp at hb), (fun i hi => by omega)⟩)
  have B0 := hide ((Below.refl w.heap.size w).grown hgr (Nat.le_refl _) (fun k h => by cases h))
  have G0 := hide (World.ownsRow.lt hown w.heap.size rfl).2
  clear hown hgr
  go_enter Tryd.func31, Tryd.ntmps31
  go_wp2
  clear hmk
  go_loopw [4] (fun i wr => ∃ k : Nat, k ≤ len ∧ i = .int .i64 k ∧ DoneX wr w.heap.size l len len k wr.heap.size ∧ w.heap.size < wr.heap.size ∧ Below w.heap.size w wr) (fun i _ => len - (intOf i).toNat)
  case atStart => exact ⟨0, Nat.zero_le _, rfl, unhide O0, unhide G0, unhide B0⟩
  case round =>
    clear O0 B0 G0
    obtain ⟨k, hk, rfl, ho, hgl, hb⟩ := hrel
    by_cases hlt : k < len
    · rcases hr with h0 | ⟨b, off, rfl, _, hbl, hc⟩
      · rw [h0] at hl; simp at hl; omega
      obtain ⟨c0, c1, c2, c, cap', c3, c4⟩ := hc k (by omega)
      have d0 : wr.cell? ⟨b, off + k * 4, none⟩ = _ := (hb.cell (p := ⟨b, _, none⟩) hbl).trans c0
      have d1 : wr.cell? ⟨b, off + k * 4 + 1, none⟩ = _ := (hb.cell (p := ⟨b, _, none⟩) hbl).trans c1
      have d2 : wr.cell? ⟨b, off + k * 4 + 2, none⟩ = _ := (hb.cell (p := ⟨b, _, none⟩) hbl).trans c2
      have d3 : wr.cell? ⟨b, off + k * 4 + 3, none⟩ = _ := (hb.cell (p := ⟨b, _, none⟩) hbl).trans c3
      have HT := hide (ih k hlt c cap' wr (c4.later hb) (hp k hlt))
      have PT := hide (fun (w2 : World) (hz2 : wr.heap.size ≤ w2.heap.size) (h : DoneX w2 w.heap.size l len len k wr.heap.size) (q : Option Addr) (cp : Nat) (hq : NewX w2 wr.heap.size (xAt l k) q) => h.put hlt hgl hz2 q cp hq (Nat.le_refl _))
      have O1 := hide ho
      have B1 := hide hb
      have ZB := hide hb.size
      have GL := hide hgl
      clear c0 c1 c2 c3 c4 hc ho hb hgl
      unfold Ex.cs at HT
      generalize (xAt l k).s = ss at d2 HT PT
      generalize (xAt l k).k = kk at d0 HT PT
      generalize (xAt l k).n = nn at d1 HT PT
      generalize (xAt l k).l.length = ll at d3 HT PT
      go_wp2_with fail
      refine (unhide HT).mono ?_
      rintro e w2 ⟨q, cq, rfl, hq, hb2⟩
      have O2 := hide ((unhide O1).later hb2)
      have B2 := hide ((unhide B1).trans (hb2.mono (unhide ZB)))
      have G2 := hide (Nat.lt_of_lt_of_le (unhide GL) hb2.size)
      have PP := hide (unhide PT w2 hb2.size (unhide O2) q cq hq)
      obtain ⟨cs, _, own2, _⟩ := unhide O2
      have hcl : cs.length = len * 4 := own2.1
      obtain ⟨v0, e0⟩ : ∃ v, cs[k * 4]? = some v := ⟨_, List.getElem?_eq_getElem (by omega)⟩
      obtain ⟨v1, e1⟩ : ∃ v, cs[k * 4 + 1]? = some v := ⟨_, List.getElem?_eq_getElem (by omega)⟩
      obtain ⟨v2, e2⟩ : ∃ v, cs[k * 4 + 2]? = some v := ⟨_, List.getElem?_eq_getElem (by omega)⟩
      obtain ⟨v3, e3⟩ : ∃ v, cs[k * 4 + 3]? = some v := ⟨_, List.getElem?_eq_getElem (by omega)⟩
      have c0 := (World.ownsRow.cellAt own2 (k * 4) (by omega)).trans e0
      have c1 := (World.ownsRow.cellAt own2 (k * 4 + 1) (by omega)).trans e1
      have c2 := (World.ownsRow.cellAt own2 (k * 4 + 2) (by omega)).trans e2
      have c3 := (World.ownsRow.cellAt own2 (k * 4 + 3) (by omega)).trans e3
      have f0 := World.ownsRow.frozenAt own2 (k * 4)
      have f1 := World.ownsRow.frozenAt own2 (k * 4 + 1)
      have f2 := World.ownsRow.frozenAt own2 (k * 4 + 2)
      have f3 := World.ownsRow.frozenAt own2 (k * 4 + 3)
      clear own2 hb2 O1 B1 HT PT O2 d0 d1 d2 d3 e0 e1 e2 e3 hq hcl
      go_wp2
      go_roundw
      case rel => exact ⟨k + 1, by omega, by go_num, by simpa using unhide PP, by simpa using unhide G2, ((((unhide B2).setCell (p := ⟨w.heap.size, _, none⟩) (Nat.le_refl _) _).setCell (p := ⟨w.heap.size, _, none⟩) (Nat.le_refl _) _).setCell (p := ⟨w.heap.size, _, none⟩) (Nat.le_refl _) _).setCell (p := ⟨w.heap.size, _, none⟩) (Nat.le_refl _) _⟩
      case measure => simp [intOf]; omega
    · obtain rfl : k = len := by omega
      have R1 := hide (unhide RD wr _ ho)
      clear ho
      go_wp2
      go_ret
      exact ⟨rfl, unhide R1, hb⟩
end Go.Proofs.YtmhcbehplhfgfaaDoor

namespace Go.Proofs.YtmhcbehplhfgfaaDoor
open Go.ChangeShapes Go.WideShapes Go.ChangeAt Go.RowKit
set_option linter.unusedVariables false
set_option maxRecDepth 8000
theorem three_new (w : World) (o1 o2 o3 : Obj) : Below w.heap.size w (((w.alloc o1).alloc o2).alloc o3) ∧ (((w.alloc o1).alloc o2).alloc o3).heap[w.heap.size + 1]? = some o2 ∧ (((w.alloc o1).alloc o2).alloc o3).heap[w.heap.size + 1 + 1]? = some o3 := by
  have h1 : (w.alloc o1).heap.size = w.heap.size + 1 := by simp
  have h2 : ((w.alloc o1).alloc o2).heap.size = w.heap.size + 1 + 1 := by simp
  have p2 : ((w.alloc o1).alloc o2).heap[w.heap.size + 1]? = some o2 := by rw [← h1]; exact Array.getElem?_push_size
  refine ⟨(((Below.refl _ _).alloc (Nat.le_refl _) _).alloc (by simp) _).alloc (by simp; omega) _, ?_, ?_⟩
  · exact ((Below.refl ((w.alloc o1).alloc o2).heap.size _).alloc (Nat.le_refl _) o3).block _ (by simp) |>.trans p2
  · rw [← h2]; exact Array.getElem?_push_size
theorem row4_set {w : World} {g : Nat} {u0 u1 u2 u3 : Value} {t : TypeId} (h : w.heap[g]? = some (.cells #[u0, u1, u2, u3] t (0, 0))) (v0 v1 v2 v3 : Value) : ((((w.setCell ⟨g, 0, none⟩ v0).setCell ⟨g, 1, none⟩ v1).setCell ⟨g, 2, none⟩ v2).setCell ⟨g, 3, none⟩ v3).heap[g]? = some (.cells #[v0, v1, v2, v3] t (0, 0)) :=
  heap_setCell_same _ g 3 _ t v3 (heap_setCell_same _ g 2 _ t v2 (heap_setCell_same _ g 1 _ t v1 (heap_setCell_same _ g 0 _ t v0 h)))
set_option maxHeartbeats 1000000 in
theorem toX_any (e : Ex) : ToP e := by
  induction e using Ex.ind with
  | h k n s l ih =>
    intro b cap w hr hz
    have e2 : (Ex.mk k n s l).l = l := rfl
    obtain ⟨W, hW⟩ : ∃ W, ((w.alloc (.cells #[.int .i64 k, .int .i64 n, .string s, .slice b l.length cap] 24)).alloc (.cells #[.int .i64 0, .int .i64 0, .string ⟨#[]⟩, .slice none 0 0] 31)).alloc (.cells #[.int .i64 k, .int .i64 n, .string s, .slice none 0 0] 31) = W := ⟨_, rfl⟩
    obtain ⟨hb, hg1, hg2⟩ := three_new w (.cells #[.int .i64 k, .int .i64 n, .string s, .slice b l.length cap] 24) (.cells #[.int .i64 0, .int .i64 0, .string ⟨#[]⟩, .slice none 0 0] 31) (.cells #[.int .i64 k, .int .i64 n, .string s, .slice none 0 0] 31)
    have hsz : w.heap.size + 3 = W.heap.size := by rw [← hW]; simp
    rw [hW] at hb hg1 hg2
    have HC := toXS_of ⟨k, n, s, l⟩ (fun i hi => ih _ (xAt_mem hi)) b cap W (hr.later hb) hz
    rw [e2] at HC
    have HD := HC.mono (R' := fun r w' => ∃ g, r = .returned (.slice (some ⟨g, 0, none⟩) l.length l.length) ∧ NewX w' (w.heap.size + 3) ⟨k, n, s, l⟩ (some ⟨g, 0, none⟩) ∧ Below w.heap.size w w' ∧ w'.heap[w.heap.size + 1]? = some (.cells #[.int .i64 0, .int .i64 0, .string ⟨#[]⟩, .slice none 0 0] 31 (0, 0)) ∧ w'.heap[w.heap.size + 1 + 1]? = some (.cells #[.int .i64 k, .int .i64 n, .string s, .slice none 0 0] 31 (0, 0))) (by
      rintro r w' ⟨rfl, h1, h2⟩
      exact ⟨_, rfl, h1.lower (by omega), hb.trans (h2.mono (by omega)), (h2.block _ (by omega)).trans hg1, (h2.block _ (by omega)).trans hg2⟩)
    have HH := hide HD
    rw [← hW] at HH
    unfold Ex.cs
    simp only
    clear hr hz ih HC HD hb hg1 hg2 hW hsz e2 W
    generalize hll : l.length = ll at *
    go_enter Tryd.func22, Tryd.ntmps22
    go_wp2_with fail
    refine (unhide HH).mono ?_
    rintro r w2 ⟨g, rfl, hrd, hb2, hg1, hg2⟩
    have a0 := Lib.cell_of_heap hg1 0
    have a1 := Lib.cell_of_heap hg1 1
    have a2 := Lib.cell_of_heap hg1 2
    have a3 := Lib.cell_of_heap hg1 3
    have b0 := Lib.cell_of_heap hg2 0
    have b1 := Lib.cell_of_heap hg2 1
    have b2 := Lib.cell_of_heap hg2 2
    have b3 := Lib.cell_of_heap hg2 3
    have f0 := Lib.frozen_of_heap hg1 0
    have f1 := Lib.frozen_of_heap hg1 1
    have f2 := Lib.frozen_of_heap hg1 2
    have f3 := Lib.frozen_of_heap hg1 3
    have f4 := Lib.frozen_of_heap hg2 3
    clear HH
    have hg3 : (w2.setCell ⟨w.heap.size + 1 + 1, 3, none⟩ (.slice (some ⟨g, 0, none⟩) ll ll)).heap[w.heap.size + 1]? = _ := (heap_setCell_other w2 ⟨w.heap.size + 1 + 1, 3, none⟩ (w.heap.size + 1) (.slice (some ⟨g, 0, none⟩) ll ll) (by simp)).trans hg1
    have H1 := hide (fun v0 v1 v2 v3 => row4_set hg3 v0 v1 v2 v3)
    have R := hide (fun u v0 v1 v2 v3 => ((((hrd.far ⟨w.heap.size + 1 + 1, 3, none⟩ u (by simp)).far ⟨w.heap.size + 1, 0, none⟩ v0 (by simp)).far ⟨w.heap.size + 1, 1, none⟩ v1 (by simp)).far ⟨w.heap.size + 1, 2, none⟩ v2 (by simp)).far ⟨w.heap.size + 1, 3, none⟩ v3 (by simp))
    have B := hide (fun u v0 v1 v2 v3 => ((((hb2.setCell (p := ⟨w.heap.size + 1 + 1, 3, none⟩) (by simp; omega) u).setCell (p := ⟨w.heap.size + 1, 0, none⟩) (by simp) v0).setCell (p := ⟨w.heap.size + 1, 1, none⟩) (by simp) v1).setCell (p := ⟨w.heap.size + 1, 2, none⟩) (by simp) v2).setCell (p := ⟨w.heap.size + 1, 3, none⟩) (by simp) v3)
    clear hrd hb2 hg3
    go_wp2
    refine bodyPost_ret (results_cell_row (P := Tryd.prog) rfl _ _ (w.heap.size + 1) 31 #[.int .i64 k, .int .i64 n, .string s, .slice (some ⟨g, 0, none⟩) ll ll] (0, 0) _ rfl (unhide H1 _ _ _ _) Tryd.underlying31 rfl (by kernel_rfl)) rfl ?_
    exact ⟨_, _, rfl, (unhide R _ _ _ _ _).lower (by omega), unhide B _ _ _ _ _⟩
end Go.Proofs.YtmhcbehplhfgfaaDoor
