/- Contracts over this seat's translation, laid together; conditions stand as hypotheses of each. -/
import Derived.Test.YtboedaofbchdkaaGreatDoorRsR
namespace Go.Proofs.YtboedaofbchdkaaGreatDoor
open Go.ChangeShapes Go.WideShapes Go.ChangeAt Go.RowKit
set_option maxHeartbeats 16000000
set_option linter.unusedVariables false
set_option linter.unusedSimpArgs false
def okD (n : Int) : Bool := !((dI n).op == 0)
theorem okD_hit {n : Int} {k : Nat} (h1 : 1 ≤ k) (h2 : k ≤ 23) (h : Hit n k) : okD n = true := by
 unfold okD
 rw [dI_hit h1 h2 h, getK_op]
 simp
 omega
theorem okD_miss {n : Int} (hm : ∀ k, 1 ≤ k → k ≤ 23 → ¬ Hit n k) : okD n = false := by
 unfold okD
 rw [dI_miss hm]
 rfl
theorem getK_two (k : Nat) (h : k ≤ 6) (f : Int) : getK k f = ⟨(k : Int), opdOf (f / 64), opdOf f, 0⟩ := by unfold getK; rw [if_pos h]
theorem getK_one (k : Nat) (h : 6 < k ∧ k ≤ 14) (f : Int) : getK k f = ⟨(k : Int), zO, opdOf f, 0⟩ := by unfold getK; rw [if_neg (by omega), if_pos h.2]
theorem getK_reg (k : Nat) (h : k = 15) (f : Int) : getK k f = ⟨(k : Int), zO, opdOf f, f / 64⟩ := by unfold getK; rw [if_neg (by omega), if_neg (by omega), if_pos h]
theorem getK_num (k : Nat) (h : k = 16 ∨ 21 < k) (f : Int) : getK k f = ⟨(k : Int), zO, zO, f⟩ := by unfold getK; rw [if_neg (by omega), if_neg (by omega), if_neg (by omega), if_neg (by omega)]
theorem cnt_0 (k : Nat) (h : 1 ≤ k ∧ k ≤ 6) : cntAt k = 4096 := by
 obtain rfl | rfl | rfl | rfl | rfl | rfl : k = 1 ∨ k = 2 ∨ k = 3 ∨ k = 4 ∨ k = 5 ∨ k = 6 := by omega
 · exact ct1
 · exact ct2
 · exact ct3
 · exact ct4
 · exact ct5
 · exact ct6
theorem cnt_1 (k : Nat) (h : 7 ≤ k ∧ k ≤ 14) : cntAt k = 64 := by
 obtain rfl | rfl | rfl | rfl | rfl | rfl | rfl | rfl : k = 7 ∨ k = 8 ∨ k = 9 ∨ k = 10 ∨ k = 11 ∨ k = 12 ∨ k = 13 ∨ k = 14 := by omega
 · exact ct7
 · exact ct8
 · exact ct9
 · exact ct10
 · exact ct11
 · exact ct12
 · exact ct13
 · exact ct14
theorem cnt_2 (k : Nat) (h : 15 ≤ k ∧ k ≤ 15) : cntAt k = 512 := by
 obtain rfl : k = 15 := by omega
 · exact ct15
theorem cnt_3 (k : Nat) (h : 16 ≤ k ∧ k ≤ 16) : cntAt k = 8 := by
 obtain rfl : k = 16 := by omega
 · exact ct16
theorem cnt_4 (k : Nat) (h : 17 ≤ k ∧ k ≤ 21) : cntAt k = 256 := by
 obtain rfl | rfl | rfl | rfl | rfl : k = 17 ∨ k = 18 ∨ k = 19 ∨ k = 20 ∨ k = 21 := by omega
 · exact ct17
 · exact ct18
 · exact ct19
 · exact ct20
 · exact ct21
theorem cnt_5 (k : Nat) (h : 22 ≤ k ∧ k ≤ 22) : cntAt k = 1 := by
 obtain rfl : k = 22 := by omega
 · exact ct22
theorem cnt_6 (k : Nat) (h : 23 ≤ k ∧ k ≤ 23) : cntAt k = 256 := by
 obtain rfl : k = 23 := by omega
 · exact ct23
set_option maxRecDepth 100000 in
theorem insI_any (n : Int) (hn : n ≤ 9223372036854775807) (w : World) (ht : Tab w) : Calls Tryz.prog 64 #[.int .i64 n] w fun e w' => e = .returned (.tuple #[(dI n).v, .bool (okD n)]) ∧ Below w.heap.size w w' := by
 have R0 := hide (rz_new w)
 have TL := hide (fun (w' : World) (hb : Below w.heap.size w w') => ht.later hb)
 clear ht
 go_enter Tryz.func64, Tryz.ntmps64
 go_wp2_with fail
 refine (forms_any _).mono ?_
 rintro e w0 ⟨rfl, hb⟩
 have R1 := hide ((uh R0).later hb)
 clear hb R0
 go_wp2_with fail
 go_loopw [10] (fun v10 wr => ∃ j : Nat, j ≤ 7 ∧ v10 = .int .i64 j ∧ Rz w wr [0, 0, 0, 0, 0, 0, 0, 0] ∧ Hid (∀ k, 1 ≤ k → k < firstOf j → ¬ Hit n k)) (fun v10 _ => 7 - (intOf v10).toNat)
 case atStart => exact ⟨0, by omega, rfl, uh R1, fun k a b => by simp [firstOf] at b; omega⟩
 case round =>
  clear R1
  obtain ⟨j, hj, rfl, hrz, hms⟩ := hrel
  obtain rfl | rfl | rfl | rfl | rfl | rfl | rfl | rfl : j = 0 ∨ j = 1 ∨ j = 2 ∨ j = 3 ∨ j = 4 ∨ j = 5 ∨ j = 6 ∨ j = 7 := by omega
  ·
   have Z := hide (hrz.later ((Below.refl _ _).alloc (Nat.le_refl _) (Obj.cells #[.int .i64 1, .int .i64 6, .int .i64 4096, .func (.func 114) #[] #[], .func (.func 115) #[] #[]] 103)))
   have TW := hide ((uh TL) _ (uh Z).bel)
   have MS := hide (show ∀ k, 1 ≤ k → k < 1 → ¬ Hit n k from fun k x y => hms.out k x (by simpa [firstOf] using y))
   clear hrz hms
   go_wp2_with (refine wpList_index_at rfl 104 _ _ rfl formsA 0 _ rfl rfl ix_0 ?_)
   go_loop [6] (fun v6 => ∃ k : Nat, 1 ≤ k ∧ k ≤ 7 ∧ v6 = .int .i64 k ∧ Hid (∀ i, 1 ≤ i → i < k → ¬ Hit n i)) (fun v6 => 7 - (intOf v6).toNat)
   case atStart => exact ⟨1, by omega, by omega, rfl, uh MS⟩
   case round =>
    clear MS
    obtain ⟨k, hk1, hk2, rfl, hmk⟩ := hrel
    by_cases hk : k ≤ 6
    ·
     have hcell := (uh TW).2 k (by omega)
     obtain ⟨bk, hbk⟩ : ∃ b, baseAt k = b := ⟨_, rfl⟩
     have hbb := base_bd ⟨k, by omega⟩
     simp only at hbb
     rw [hbk] at hcell hbb
     have HIT := hide (show (bk ≤ n ∧ n - bk < 4096) → Hit n k from fun h => by unfold Hit; rw [hbk, cnt_0 k (by omega)]; exact h)
     have MIS := hide (show ¬ (bk ≤ n ∧ n - bk < 4096) → ∀ i, 1 ≤ i → i < k + 1 → ¬ Hit n i from fun h i x y => by
      by_cases e : i = k
      · subst e; unfold Hit; rw [hbk, cnt_0 i (by omega)]; exact h
      · exact hmk.out i x (by omega))
     have DK := hide (show Hit n k → getK k (n - bk) = dI n from fun h => by rw [dI_hit (by omega) (by omega) h, hbk])
     clear hbk hmk
     by_cases hA : bk ≤ n
     ·
      by_cases hB : n - bk < 4096
      ·
       have hh := uh HIT ⟨hA, hB⟩
       have hok := okD_hit (by omega) (by omega) hh
       have hdk := uh DK hh
       rw [getK_two k (by omega)] at hdk
       have HD := hide hdk
       have HOK := hide hok
       have GC := hide (fun w => getTwo_any (n - bk) w)
       clear hh hok hdk HIT MIS DK
       unfold Is.v opdOf at GC
       simp only at GC
       go_wp2_with fail
       refine (uh GC _).mono ?_
       rintro e w1 ⟨rfl, hb1⟩
       have Z1 := hide ((uh Z).later hb1)
       have ZL : ∀ o, Rz w (w1.alloc o) [0, 0, 0, 0, 0, 0, 0, 0] := fun o => (uh Z1).later ((Below.refl _ _).alloc (Nat.le_refl _) o)
       have c0 : ∀ o, (w1.alloc o).cell? ⟨w.heap.size, 0, none⟩ = some (.int .i64 0) := fun o => (ZL o).row.cell (i := 0) (by omega)
       have f0 : ∀ o, (w1.alloc o).frozen? ⟨w.heap.size, 0, none⟩ = false := fun o => (ZL o).row.frozen 0
       have c1 : ∀ o, (w1.alloc o).cell? ⟨w.heap.size, 1, none⟩ = some (.int .i64 0) := fun o => (ZL o).row.cell (i := 1) (by omega)
       have f1 : ∀ o, (w1.alloc o).frozen? ⟨w.heap.size, 1, none⟩ = false := fun o => (ZL o).row.frozen 1
       have c2 : ∀ o, (w1.alloc o).cell? ⟨w.heap.size, 2, none⟩ = some (.int .i64 0) := fun o => (ZL o).row.cell (i := 2) (by omega)
       have f2 : ∀ o, (w1.alloc o).frozen? ⟨w.heap.size, 2, none⟩ = false := fun o => (ZL o).row.frozen 2
       have c3 : ∀ o, (w1.alloc o).cell? ⟨w.heap.size, 3, none⟩ = some (.int .i64 0) := fun o => (ZL o).row.cell (i := 3) (by omega)
       have f3 : ∀ o, (w1.alloc o).frozen? ⟨w.heap.size, 3, none⟩ = false := fun o => (ZL o).row.frozen 3
       have c4 : ∀ o, (w1.alloc o).cell? ⟨w.heap.size, 4, none⟩ = some (.int .i64 0) := fun o => (ZL o).row.cell (i := 4) (by omega)
       have f4 : ∀ o, (w1.alloc o).frozen? ⟨w.heap.size, 4, none⟩ = false := fun o => (ZL o).row.frozen 4
       have c5 : ∀ o, (w1.alloc o).cell? ⟨w.heap.size, 5, none⟩ = some (.int .i64 0) := fun o => (ZL o).row.cell (i := 5) (by omega)
       have f5 : ∀ o, (w1.alloc o).frozen? ⟨w.heap.size, 5, none⟩ = false := fun o => (ZL o).row.frozen 5
       have c6 : ∀ o, (w1.alloc o).cell? ⟨w.heap.size, 6, none⟩ = some (.int .i64 0) := fun o => (ZL o).row.cell (i := 6) (by omega)
       have f6 : ∀ o, (w1.alloc o).frozen? ⟨w.heap.size, 6, none⟩ = false := fun o => (ZL o).row.frozen 6
       have c7 : ∀ o, (w1.alloc o).cell? ⟨w.heap.size, 7, none⟩ = some (.int .i64 0) := fun o => (ZL o).row.cell (i := 7) (by omega)
       have f7 : ∀ o, (w1.alloc o).frozen? ⟨w.heap.size, 7, none⟩ = false := fun o => (ZL o).row.frozen 7
       have ZZ := hide ZL
       clear ZL hb1 Z1 GC hcell
       go_wp2
       refine bodyPost_ret (results_row2Q (P := Tryz.prog) rfl _ _ w.heap.size 48 (cs8 [(k : Int), (n - bk) / 64 / 8 % 8, (n - bk) / 64 % 8, 0, (n - bk) / 8 % 8, (n - bk) % 8, 0, 0]) (0, 0) _ rfl (row8_heap ((uh ZZ _).put ((k : Int)) ((n - bk) / 64 / 8 % 8) ((n - bk) / 64 % 8) (0) ((n - bk) / 8 % 8) ((n - bk) % 8) (0) (0)).row) Tryz.underlying48 rfl (by kernel_rfl)) rfl ?_
       exact ⟨by rw [← uh HD, uh HOK]; rfl, ((uh ZZ _).put ((k : Int)) ((n - bk) / 64 / 8 % 8) ((n - bk) / 64 % 8) (0) ((n - bk) / 8 % 8) ((n - bk) % 8) (0) (0)).bel⟩
      ·
       have M2 := hide (uh MIS (fun h => hB h.2))
       clear HIT MIS DK
       go_wp2
       go_round
       case rel => exact ⟨k + 1, by omega, by omega, by go_num, uh M2⟩
       case measure => simp [intOf]; omega
     ·
      have M2 := hide (uh MIS (fun h => hA h.1))
      clear HIT MIS DK
      go_wp2
      go_round
      case rel => exact ⟨k + 1, by omega, by omega, by go_num, uh M2⟩
      case measure => simp [intOf]; omega
    ·
     have M3 := hide (show ∀ i, 1 ≤ i → i < firstOf 1 → ¬ Hit n i from fun i x y => hmk.out i x (by simp [firstOf] at y; omega))
     clear hmk
     go_wp2
     go_roundw
     case rel => exact ⟨1, by omega, by go_num, uh Z, uh M3⟩
     case measure => simp [intOf]
  ·
   have Z := hide (hrz.later ((Below.refl _ _).alloc (Nat.le_refl _) (Obj.cells #[.int .i64 7, .int .i64 14, .int .i64 64, .func (.func 116) #[] #[], .func (.func 117) #[] #[]] 103)))
   have TW := hide ((uh TL) _ (uh Z).bel)
   have MS := hide (show ∀ k, 1 ≤ k → k < 7 → ¬ Hit n k from fun k x y => hms.out k x (by simpa [firstOf] using y))
   clear hrz hms
   go_wp2_with (refine wpList_index_at rfl 104 _ _ rfl formsA 1 _ rfl rfl ix_1 ?_)
   go_loop [6] (fun v6 => ∃ k : Nat, 7 ≤ k ∧ k ≤ 15 ∧ v6 = .int .i64 k ∧ Hid (∀ i, 1 ≤ i → i < k → ¬ Hit n i)) (fun v6 => 15 - (intOf v6).toNat)
   case atStart => exact ⟨7, by omega, by omega, rfl, uh MS⟩
   case round =>
    clear MS
    obtain ⟨k, hk1, hk2, rfl, hmk⟩ := hrel
    by_cases hk : k ≤ 14
    ·
     have hcell := (uh TW).2 k (by omega)
     obtain ⟨bk, hbk⟩ : ∃ b, baseAt k = b := ⟨_, rfl⟩
     have hbb := base_bd ⟨k, by omega⟩
     simp only at hbb
     rw [hbk] at hcell hbb
     have HIT := hide (show (bk ≤ n ∧ n - bk < 64) → Hit n k from fun h => by unfold Hit; rw [hbk, cnt_1 k (by omega)]; exact h)
     have MIS := hide (show ¬ (bk ≤ n ∧ n - bk < 64) → ∀ i, 1 ≤ i → i < k + 1 → ¬ Hit n i from fun h i x y => by
      by_cases e : i = k
      · subst e; unfold Hit; rw [hbk, cnt_1 i (by omega)]; exact h
      · exact hmk.out i x (by omega))
     have DK := hide (show Hit n k → getK k (n - bk) = dI n from fun h => by rw [dI_hit (by omega) (by omega) h, hbk])
     clear hbk hmk
     by_cases hA : bk ≤ n
     ·
      by_cases hB : n - bk < 64
      ·
       have hh := uh HIT ⟨hA, hB⟩
       have hok := okD_hit (by omega) (by omega) hh
       have hdk := uh DK hh
       rw [getK_one k (by omega)] at hdk
       have HD := hide hdk
       have HOK := hide hok
       have GC := hide (fun w => getOperand_any (n - bk) w)
       clear hh hok hdk HIT MIS DK
       unfold Is.v zO opdOf at GC
       simp only at GC
       go_wp2_with fail
       refine (uh GC _).mono ?_
       rintro e w1 ⟨rfl, hb1⟩
       have Z1 := hide ((uh Z).later hb1)
       have ZL : ∀ o, Rz w (w1.alloc o) [0, 0, 0, 0, 0, 0, 0, 0] := fun o => (uh Z1).later ((Below.refl _ _).alloc (Nat.le_refl _) o)
       have c0 : ∀ o, (w1.alloc o).cell? ⟨w.heap.size, 0, none⟩ = some (.int .i64 0) := fun o => (ZL o).row.cell (i := 0) (by omega)
       have f0 : ∀ o, (w1.alloc o).frozen? ⟨w.heap.size, 0, none⟩ = false := fun o => (ZL o).row.frozen 0
       have c1 : ∀ o, (w1.alloc o).cell? ⟨w.heap.size, 1, none⟩ = some (.int .i64 0) := fun o => (ZL o).row.cell (i := 1) (by omega)
       have f1 : ∀ o, (w1.alloc o).frozen? ⟨w.heap.size, 1, none⟩ = false := fun o => (ZL o).row.frozen 1
       have c2 : ∀ o, (w1.alloc o).cell? ⟨w.heap.size, 2, none⟩ = some (.int .i64 0) := fun o => (ZL o).row.cell (i := 2) (by omega)
       have f2 : ∀ o, (w1.alloc o).frozen? ⟨w.heap.size, 2, none⟩ = false := fun o => (ZL o).row.frozen 2
       have c3 : ∀ o, (w1.alloc o).cell? ⟨w.heap.size, 3, none⟩ = some (.int .i64 0) := fun o => (ZL o).row.cell (i := 3) (by omega)
       have f3 : ∀ o, (w1.alloc o).frozen? ⟨w.heap.size, 3, none⟩ = false := fun o => (ZL o).row.frozen 3
       have c4 : ∀ o, (w1.alloc o).cell? ⟨w.heap.size, 4, none⟩ = some (.int .i64 0) := fun o => (ZL o).row.cell (i := 4) (by omega)
       have f4 : ∀ o, (w1.alloc o).frozen? ⟨w.heap.size, 4, none⟩ = false := fun o => (ZL o).row.frozen 4
       have c5 : ∀ o, (w1.alloc o).cell? ⟨w.heap.size, 5, none⟩ = some (.int .i64 0) := fun o => (ZL o).row.cell (i := 5) (by omega)
       have f5 : ∀ o, (w1.alloc o).frozen? ⟨w.heap.size, 5, none⟩ = false := fun o => (ZL o).row.frozen 5
       have c6 : ∀ o, (w1.alloc o).cell? ⟨w.heap.size, 6, none⟩ = some (.int .i64 0) := fun o => (ZL o).row.cell (i := 6) (by omega)
       have f6 : ∀ o, (w1.alloc o).frozen? ⟨w.heap.size, 6, none⟩ = false := fun o => (ZL o).row.frozen 6
       have c7 : ∀ o, (w1.alloc o).cell? ⟨w.heap.size, 7, none⟩ = some (.int .i64 0) := fun o => (ZL o).row.cell (i := 7) (by omega)
       have f7 : ∀ o, (w1.alloc o).frozen? ⟨w.heap.size, 7, none⟩ = false := fun o => (ZL o).row.frozen 7
       have ZZ := hide ZL
       clear ZL hb1 Z1 GC hcell
       go_wp2
       refine bodyPost_ret (results_row2Q (P := Tryz.prog) rfl _ _ w.heap.size 48 (cs8 [(k : Int), 0, 0, 0, (n - bk) / 8 % 8, (n - bk) % 8, 0, 0]) (0, 0) _ rfl (row8_heap ((uh ZZ _).put ((k : Int)) (0) (0) (0) ((n - bk) / 8 % 8) ((n - bk) % 8) (0) (0)).row) Tryz.underlying48 rfl (by kernel_rfl)) rfl ?_
       exact ⟨by rw [← uh HD, uh HOK]; rfl, ((uh ZZ _).put ((k : Int)) (0) (0) (0) ((n - bk) / 8 % 8) ((n - bk) % 8) (0) (0)).bel⟩
      ·
       have M2 := hide (uh MIS (fun h => hB h.2))
       clear HIT MIS DK
       go_wp2
       go_round
       case rel => exact ⟨k + 1, by omega, by omega, by go_num, uh M2⟩
       case measure => simp [intOf]; omega
     ·
      have M2 := hide (uh MIS (fun h => hA h.1))
      clear HIT MIS DK
      go_wp2
      go_round
      case rel => exact ⟨k + 1, by omega, by omega, by go_num, uh M2⟩
      case measure => simp [intOf]; omega
    ·
     have M3 := hide (show ∀ i, 1 ≤ i → i < firstOf 2 → ¬ Hit n i from fun i x y => hmk.out i x (by simp [firstOf] at y; omega))
     clear hmk
     go_wp2
     go_roundw
     case rel => exact ⟨2, by omega, by go_num, uh Z, uh M3⟩
     case measure => simp [intOf]
  ·
   have Z := hide (hrz.later ((Below.refl _ _).alloc (Nat.le_refl _) (Obj.cells #[.int .i64 15, .int .i64 15, .int .i64 512, .func (.func 118) #[] #[], .func (.func 119) #[] #[]] 103)))
   have TW := hide ((uh TL) _ (uh Z).bel)
   have MS := hide (show ∀ k, 1 ≤ k → k < 15 → ¬ Hit n k from fun k x y => hms.out k x (by simpa [firstOf] using y))
   clear hrz hms
   go_wp2_with (refine wpList_index_at rfl 104 _ _ rfl formsA 2 _ rfl rfl ix_2 ?_)
   go_loop [6] (fun v6 => ∃ k : Nat, 15 ≤ k ∧ k ≤ 16 ∧ v6 = .int .i64 k ∧ Hid (∀ i, 1 ≤ i → i < k → ¬ Hit n i)) (fun v6 => 16 - (intOf v6).toNat)
   case atStart => exact ⟨15, by omega, by omega, rfl, uh MS⟩
   case round =>
    clear MS
    obtain ⟨k, hk1, hk2, rfl, hmk⟩ := hrel
    by_cases hk : k ≤ 15
    ·
     have hcell := (uh TW).2 k (by omega)
     obtain ⟨bk, hbk⟩ : ∃ b, baseAt k = b := ⟨_, rfl⟩
     have hbb := base_bd ⟨k, by omega⟩
     simp only at hbb
     rw [hbk] at hcell hbb
     have HIT := hide (show (bk ≤ n ∧ n - bk < 512) → Hit n k from fun h => by unfold Hit; rw [hbk, cnt_2 k (by omega)]; exact h)
     have MIS := hide (show ¬ (bk ≤ n ∧ n - bk < 512) → ∀ i, 1 ≤ i → i < k + 1 → ¬ Hit n i from fun h i x y => by
      by_cases e : i = k
      · subst e; unfold Hit; rw [hbk, cnt_2 i (by omega)]; exact h
      · exact hmk.out i x (by omega))
     have DK := hide (show Hit n k → getK k (n - bk) = dI n from fun h => by rw [dI_hit (by omega) (by omega) h, hbk])
     clear hbk hmk
     by_cases hA : bk ≤ n
     ·
      by_cases hB : n - bk < 512
      ·
       have hh := uh HIT ⟨hA, hB⟩
       have hok := okD_hit (by omega) (by omega) hh
       have hdk := uh DK hh
       rw [getK_reg k (by omega)] at hdk
       have HD := hide hdk
       have HOK := hide hok
       have GC := hide (fun w => getReg_any (n - bk) w)
       clear hh hok hdk HIT MIS DK
       unfold Is.v zO opdOf at GC
       simp only at GC
       go_wp2_with fail
       refine (uh GC _).mono ?_
       rintro e w1 ⟨rfl, hb1⟩
       have Z1 := hide ((uh Z).later hb1)
       have ZL : ∀ o, Rz w (w1.alloc o) [0, 0, 0, 0, 0, 0, 0, 0] := fun o => (uh Z1).later ((Below.refl _ _).alloc (Nat.le_refl _) o)
       have c0 : ∀ o, (w1.alloc o).cell? ⟨w.heap.size, 0, none⟩ = some (.int .i64 0) := fun o => (ZL o).row.cell (i := 0) (by omega)
       have f0 : ∀ o, (w1.alloc o).frozen? ⟨w.heap.size, 0, none⟩ = false := fun o => (ZL o).row.frozen 0
       have c1 : ∀ o, (w1.alloc o).cell? ⟨w.heap.size, 1, none⟩ = some (.int .i64 0) := fun o => (ZL o).row.cell (i := 1) (by omega)
       have f1 : ∀ o, (w1.alloc o).frozen? ⟨w.heap.size, 1, none⟩ = false := fun o => (ZL o).row.frozen 1
       have c2 : ∀ o, (w1.alloc o).cell? ⟨w.heap.size, 2, none⟩ = some (.int .i64 0) := fun o => (ZL o).row.cell (i := 2) (by omega)
       have f2 : ∀ o, (w1.alloc o).frozen? ⟨w.heap.size, 2, none⟩ = false := fun o => (ZL o).row.frozen 2
       have c3 : ∀ o, (w1.alloc o).cell? ⟨w.heap.size, 3, none⟩ = some (.int .i64 0) := fun o => (ZL o).row.cell (i := 3) (by omega)
       have f3 : ∀ o, (w1.alloc o).frozen? ⟨w.heap.size, 3, none⟩ = false := fun o => (ZL o).row.frozen 3
       have c4 : ∀ o, (w1.alloc o).cell? ⟨w.heap.size, 4, none⟩ = some (.int .i64 0) := fun o => (ZL o).row.cell (i := 4) (by omega)
       have f4 : ∀ o, (w1.alloc o).frozen? ⟨w.heap.size, 4, none⟩ = false := fun o => (ZL o).row.frozen 4
       have c5 : ∀ o, (w1.alloc o).cell? ⟨w.heap.size, 5, none⟩ = some (.int .i64 0) := fun o => (ZL o).row.cell (i := 5) (by omega)
       have f5 : ∀ o, (w1.alloc o).frozen? ⟨w.heap.size, 5, none⟩ = false := fun o => (ZL o).row.frozen 5
       have c6 : ∀ o, (w1.alloc o).cell? ⟨w.heap.size, 6, none⟩ = some (.int .i64 0) := fun o => (ZL o).row.cell (i := 6) (by omega)
       have f6 : ∀ o, (w1.alloc o).frozen? ⟨w.heap.size, 6, none⟩ = false := fun o => (ZL o).row.frozen 6
       have c7 : ∀ o, (w1.alloc o).cell? ⟨w.heap.size, 7, none⟩ = some (.int .i64 0) := fun o => (ZL o).row.cell (i := 7) (by omega)
       have f7 : ∀ o, (w1.alloc o).frozen? ⟨w.heap.size, 7, none⟩ = false := fun o => (ZL o).row.frozen 7
       have ZZ := hide ZL
       clear ZL hb1 Z1 GC hcell
       go_wp2
       refine bodyPost_ret (results_row2Q (P := Tryz.prog) rfl _ _ w.heap.size 48 (cs8 [(k : Int), 0, 0, 0, (n - bk) / 8 % 8, (n - bk) % 8, 0, (n - bk) / 64]) (0, 0) _ rfl (row8_heap ((uh ZZ _).put ((k : Int)) (0) (0) (0) ((n - bk) / 8 % 8) ((n - bk) % 8) (0) ((n - bk) / 64)).row) Tryz.underlying48 rfl (by kernel_rfl)) rfl ?_
       exact ⟨by rw [← uh HD, uh HOK]; rfl, ((uh ZZ _).put ((k : Int)) (0) (0) (0) ((n - bk) / 8 % 8) ((n - bk) % 8) (0) ((n - bk) / 64)).bel⟩
      ·
       have M2 := hide (uh MIS (fun h => hB h.2))
       clear HIT MIS DK
       go_wp2
       go_round
       case rel => exact ⟨k + 1, by omega, by omega, by go_num, uh M2⟩
       case measure => simp [intOf]; omega
     ·
      have M2 := hide (uh MIS (fun h => hA h.1))
      clear HIT MIS DK
      go_wp2
      go_round
      case rel => exact ⟨k + 1, by omega, by omega, by go_num, uh M2⟩
      case measure => simp [intOf]; omega
    ·
     have M3 := hide (show ∀ i, 1 ≤ i → i < firstOf 3 → ¬ Hit n i from fun i x y => hmk.out i x (by simp [firstOf] at y; omega))
     clear hmk
     go_wp2
     go_roundw
     case rel => exact ⟨3, by omega, by go_num, uh Z, uh M3⟩
     case measure => simp [intOf]
  ·
   have Z := hide (hrz.later ((Below.refl _ _).alloc (Nat.le_refl _) (Obj.cells #[.int .i64 16, .int .i64 16, .int .i64 8, .func (.func 120) #[] #[], .func (.func 121) #[] #[]] 103)))
   have TW := hide ((uh TL) _ (uh Z).bel)
   have MS := hide (show ∀ k, 1 ≤ k → k < 16 → ¬ Hit n k from fun k x y => hms.out k x (by simpa [firstOf] using y))
   clear hrz hms
   go_wp2_with (refine wpList_index_at rfl 104 _ _ rfl formsA 3 _ rfl rfl ix_3 ?_)
   go_loop [6] (fun v6 => ∃ k : Nat, 16 ≤ k ∧ k ≤ 17 ∧ v6 = .int .i64 k ∧ Hid (∀ i, 1 ≤ i → i < k → ¬ Hit n i)) (fun v6 => 17 - (intOf v6).toNat)
   case atStart => exact ⟨16, by omega, by omega, rfl, uh MS⟩
   case round =>
    clear MS
    obtain ⟨k, hk1, hk2, rfl, hmk⟩ := hrel
    by_cases hk : k ≤ 16
    ·
     have hcell := (uh TW).2 k (by omega)
     obtain ⟨bk, hbk⟩ : ∃ b, baseAt k = b := ⟨_, rfl⟩
     have hbb := base_bd ⟨k, by omega⟩
     simp only at hbb
     rw [hbk] at hcell hbb
     have HIT := hide (show (bk ≤ n ∧ n - bk < 8) → Hit n k from fun h => by unfold Hit; rw [hbk, cnt_3 k (by omega)]; exact h)
     have MIS := hide (show ¬ (bk ≤ n ∧ n - bk < 8) → ∀ i, 1 ≤ i → i < k + 1 → ¬ Hit n i from fun h i x y => by
      by_cases e : i = k
      · subst e; unfold Hit; rw [hbk, cnt_3 i (by omega)]; exact h
      · exact hmk.out i x (by omega))
     have DK := hide (show Hit n k → getK k (n - bk) = dI n from fun h => by rw [dI_hit (by omega) (by omega) h, hbk])
     clear hbk hmk
     by_cases hA : bk ≤ n
     ·
      by_cases hB : n - bk < 8
      ·
       have hh := uh HIT ⟨hA, hB⟩
       have hok := okD_hit (by omega) (by omega) hh
       have hdk := uh DK hh
       rw [getK_num k (by omega)] at hdk
       have HD := hide hdk
       have HOK := hide hok
       have GC := hide (fun w => getNumber_any (n - bk) w)
       clear hh hok hdk HIT MIS DK
       unfold Is.v zO at GC
       simp only at GC
       go_wp2_with fail
       refine (uh GC _).mono ?_
       rintro e w1 ⟨rfl, hb1⟩
       have Z1 := hide ((uh Z).later hb1)
       have ZL : ∀ o, Rz w (w1.alloc o) [0, 0, 0, 0, 0, 0, 0, 0] := fun o => (uh Z1).later ((Below.refl _ _).alloc (Nat.le_refl _) o)
       have c0 : ∀ o, (w1.alloc o).cell? ⟨w.heap.size, 0, none⟩ = some (.int .i64 0) := fun o => (ZL o).row.cell (i := 0) (by omega)
       have f0 : ∀ o, (w1.alloc o).frozen? ⟨w.heap.size, 0, none⟩ = false := fun o => (ZL o).row.frozen 0
       have c1 : ∀ o, (w1.alloc o).cell? ⟨w.heap.size, 1, none⟩ = some (.int .i64 0) := fun o => (ZL o).row.cell (i := 1) (by omega)
       have f1 : ∀ o, (w1.alloc o).frozen? ⟨w.heap.size, 1, none⟩ = false := fun o => (ZL o).row.frozen 1
       have c2 : ∀ o, (w1.alloc o).cell? ⟨w.heap.size, 2, none⟩ = some (.int .i64 0) := fun o => (ZL o).row.cell (i := 2) (by omega)
       have f2 : ∀ o, (w1.alloc o).frozen? ⟨w.heap.size, 2, none⟩ = false := fun o => (ZL o).row.frozen 2
       have c3 : ∀ o, (w1.alloc o).cell? ⟨w.heap.size, 3, none⟩ = some (.int .i64 0) := fun o => (ZL o).row.cell (i := 3) (by omega)
       have f3 : ∀ o, (w1.alloc o).frozen? ⟨w.heap.size, 3, none⟩ = false := fun o => (ZL o).row.frozen 3
       have c4 : ∀ o, (w1.alloc o).cell? ⟨w.heap.size, 4, none⟩ = some (.int .i64 0) := fun o => (ZL o).row.cell (i := 4) (by omega)
       have f4 : ∀ o, (w1.alloc o).frozen? ⟨w.heap.size, 4, none⟩ = false := fun o => (ZL o).row.frozen 4
       have c5 : ∀ o, (w1.alloc o).cell? ⟨w.heap.size, 5, none⟩ = some (.int .i64 0) := fun o => (ZL o).row.cell (i := 5) (by omega)
       have f5 : ∀ o, (w1.alloc o).frozen? ⟨w.heap.size, 5, none⟩ = false := fun o => (ZL o).row.frozen 5
       have c6 : ∀ o, (w1.alloc o).cell? ⟨w.heap.size, 6, none⟩ = some (.int .i64 0) := fun o => (ZL o).row.cell (i := 6) (by omega)
       have f6 : ∀ o, (w1.alloc o).frozen? ⟨w.heap.size, 6, none⟩ = false := fun o => (ZL o).row.frozen 6
       have c7 : ∀ o, (w1.alloc o).cell? ⟨w.heap.size, 7, none⟩ = some (.int .i64 0) := fun o => (ZL o).row.cell (i := 7) (by omega)
       have f7 : ∀ o, (w1.alloc o).frozen? ⟨w.heap.size, 7, none⟩ = false := fun o => (ZL o).row.frozen 7
       have ZZ := hide ZL
       clear ZL hb1 Z1 GC hcell
       go_wp2
       refine bodyPost_ret (results_row2Q (P := Tryz.prog) rfl _ _ w.heap.size 48 (cs8 [(k : Int), 0, 0, 0, 0, 0, 0, (n - bk)]) (0, 0) _ rfl (row8_heap ((uh ZZ _).put ((k : Int)) (0) (0) (0) (0) (0) (0) ((n - bk))).row) Tryz.underlying48 rfl (by kernel_rfl)) rfl ?_
       exact ⟨by rw [← uh HD, uh HOK]; rfl, ((uh ZZ _).put ((k : Int)) (0) (0) (0) (0) (0) (0) ((n - bk))).bel⟩
      ·
       have M2 := hide (uh MIS (fun h => hB h.2))
       clear HIT MIS DK
       go_wp2
       go_round
       case rel => exact ⟨k + 1, by omega, by omega, by go_num, uh M2⟩
       case measure => simp [intOf]; omega
     ·
      have M2 := hide (uh MIS (fun h => hA h.1))
      clear HIT MIS DK
      go_wp2
      go_round
      case rel => exact ⟨k + 1, by omega, by omega, by go_num, uh M2⟩
      case measure => simp [intOf]; omega
    ·
     have M3 := hide (show ∀ i, 1 ≤ i → i < firstOf 4 → ¬ Hit n i from fun i x y => hmk.out i x (by simp [firstOf] at y; omega))
     clear hmk
     go_wp2
     go_roundw
     case rel => exact ⟨4, by omega, by go_num, uh Z, uh M3⟩
     case measure => simp [intOf]
  ·
   have Z := hide (hrz.later ((Below.refl _ _).alloc (Nat.le_refl _) (Obj.cells #[.int .i64 17, .int .i64 21, .int .i64 256, .func (.func 122) #[] #[], .func (.func 123) #[] #[]] 103)))
   have TW := hide ((uh TL) _ (uh Z).bel)
   have MS := hide (show ∀ k, 1 ≤ k → k < 17 → ¬ Hit n k from fun k x y => hms.out k x (by simpa [firstOf] using y))
   clear hrz hms
   go_wp2_with (refine wpList_index_at rfl 104 _ _ rfl formsA 4 _ rfl rfl ix_4 ?_)
   go_loop [6] (fun v6 => ∃ k : Nat, 17 ≤ k ∧ k ≤ 22 ∧ v6 = .int .i64 k ∧ Hid (∀ i, 1 ≤ i → i < k → ¬ Hit n i)) (fun v6 => 22 - (intOf v6).toNat)
   case atStart => exact ⟨17, by omega, by omega, rfl, uh MS⟩
   case round =>
    clear MS
    obtain ⟨k, hk1, hk2, rfl, hmk⟩ := hrel
    by_cases hk : k ≤ 21
    ·
     have hcell := (uh TW).2 k (by omega)
     obtain ⟨bk, hbk⟩ : ∃ b, baseAt k = b := ⟨_, rfl⟩
     have hbb := base_bd ⟨k, by omega⟩
     simp only at hbb
     rw [hbk] at hcell hbb
     have HIT := hide (show (bk ≤ n ∧ n - bk < 256) → Hit n k from fun h => by unfold Hit; rw [hbk, cnt_4 k (by omega)]; exact h)
     have MIS := hide (show ¬ (bk ≤ n ∧ n - bk < 256) → ∀ i, 1 ≤ i → i < k + 1 → ¬ Hit n i from fun h i x y => by
      by_cases e : i = k
      · subst e; unfold Hit; rw [hbk, cnt_4 i (by omega)]; exact h
      · exact hmk.out i x (by omega))
     have DK := hide (show Hit n k → getK k (n - bk) = dI n from fun h => by rw [dI_hit (by omega) (by omega) h, hbk])
     clear hbk hmk
     by_cases hA : bk ≤ n
     ·
      by_cases hB : n - bk < 256
      ·
       have hh := uh HIT ⟨hA, hB⟩
       have hok := okD_hit (by omega) (by omega) hh
       have hdk := uh DK hh
       rw [getK_br k (by omega)] at hdk
       obtain ⟨gb, hgb⟩ : ∃ g, (if 127 < n - bk then n - bk - 256 else n - bk) = g := ⟨_, rfl⟩
       rw [hgb] at hdk
       have HD := hide hdk
       have HOK := hide hok
       have GC := hide (fun w => getBranch_any (n - bk) (by omega) w)
       rw [hgb] at GC
       clear hh hok hdk HIT MIS DK hgb
       unfold Is.v zO at GC
       simp only at GC
       go_wp2_with fail
       refine (uh GC _).mono ?_
       rintro e w1 ⟨rfl, hb1⟩
       have Z1 := hide ((uh Z).later hb1)
       have ZL : ∀ o, Rz w (w1.alloc o) [0, 0, 0, 0, 0, 0, 0, 0] := fun o => (uh Z1).later ((Below.refl _ _).alloc (Nat.le_refl _) o)
       have c0 : ∀ o, (w1.alloc o).cell? ⟨w.heap.size, 0, none⟩ = some (.int .i64 0) := fun o => (ZL o).row.cell (i := 0) (by omega)
       have f0 : ∀ o, (w1.alloc o).frozen? ⟨w.heap.size, 0, none⟩ = false := fun o => (ZL o).row.frozen 0
       have c1 : ∀ o, (w1.alloc o).cell? ⟨w.heap.size, 1, none⟩ = some (.int .i64 0) := fun o => (ZL o).row.cell (i := 1) (by omega)
       have f1 : ∀ o, (w1.alloc o).frozen? ⟨w.heap.size, 1, none⟩ = false := fun o => (ZL o).row.frozen 1
       have c2 : ∀ o, (w1.alloc o).cell? ⟨w.heap.size, 2, none⟩ = some (.int .i64 0) := fun o => (ZL o).row.cell (i := 2) (by omega)
       have f2 : ∀ o, (w1.alloc o).frozen? ⟨w.heap.size, 2, none⟩ = false := fun o => (ZL o).row.frozen 2
       have c3 : ∀ o, (w1.alloc o).cell? ⟨w.heap.size, 3, none⟩ = some (.int .i64 0) := fun o => (ZL o).row.cell (i := 3) (by omega)
       have f3 : ∀ o, (w1.alloc o).frozen? ⟨w.heap.size, 3, none⟩ = false := fun o => (ZL o).row.frozen 3
       have c4 : ∀ o, (w1.alloc o).cell? ⟨w.heap.size, 4, none⟩ = some (.int .i64 0) := fun o => (ZL o).row.cell (i := 4) (by omega)
       have f4 : ∀ o, (w1.alloc o).frozen? ⟨w.heap.size, 4, none⟩ = false := fun o => (ZL o).row.frozen 4
       have c5 : ∀ o, (w1.alloc o).cell? ⟨w.heap.size, 5, none⟩ = some (.int .i64 0) := fun o => (ZL o).row.cell (i := 5) (by omega)
       have f5 : ∀ o, (w1.alloc o).frozen? ⟨w.heap.size, 5, none⟩ = false := fun o => (ZL o).row.frozen 5
       have c6 : ∀ o, (w1.alloc o).cell? ⟨w.heap.size, 6, none⟩ = some (.int .i64 0) := fun o => (ZL o).row.cell (i := 6) (by omega)
       have f6 : ∀ o, (w1.alloc o).frozen? ⟨w.heap.size, 6, none⟩ = false := fun o => (ZL o).row.frozen 6
       have c7 : ∀ o, (w1.alloc o).cell? ⟨w.heap.size, 7, none⟩ = some (.int .i64 0) := fun o => (ZL o).row.cell (i := 7) (by omega)
       have f7 : ∀ o, (w1.alloc o).frozen? ⟨w.heap.size, 7, none⟩ = false := fun o => (ZL o).row.frozen 7
       have ZZ := hide ZL
       clear ZL hb1 Z1 GC hcell
       go_wp2
       refine bodyPost_ret (results_row2Q (P := Tryz.prog) rfl _ _ w.heap.size 48 (cs8 [(k : Int), 0, 0, 0, 0, 0, 0, gb]) (0, 0) _ rfl (row8_heap ((uh ZZ _).put ((k : Int)) (0) (0) (0) (0) (0) (0) (gb)).row) Tryz.underlying48 rfl (by kernel_rfl)) rfl ?_
       exact ⟨by rw [← uh HD, uh HOK]; rfl, ((uh ZZ _).put ((k : Int)) (0) (0) (0) (0) (0) (0) (gb)).bel⟩
      ·
       have M2 := hide (uh MIS (fun h => hB h.2))
       clear HIT MIS DK
       go_wp2
       go_round
       case rel => exact ⟨k + 1, by omega, by omega, by go_num, uh M2⟩
       case measure => simp [intOf]; omega
     ·
      have M2 := hide (uh MIS (fun h => hA h.1))
      clear HIT MIS DK
      go_wp2
      go_round
      case rel => exact ⟨k + 1, by omega, by omega, by go_num, uh M2⟩
      case measure => simp [intOf]; omega
    ·
     have M3 := hide (show ∀ i, 1 ≤ i → i < firstOf 5 → ¬ Hit n i from fun i x y => hmk.out i x (by simp [firstOf] at y; omega))
     clear hmk
     go_wp2
     go_roundw
     case rel => exact ⟨5, by omega, by go_num, uh Z, uh M3⟩
     case measure => simp [intOf]
  ·
   have Z := hide (hrz.later ((Below.refl _ _).alloc (Nat.le_refl _) (Obj.cells #[.int .i64 22, .int .i64 22, .int .i64 1, .func (.func 120) #[] #[], .func (.func 121) #[] #[]] 103)))
   have TW := hide ((uh TL) _ (uh Z).bel)
   have MS := hide (show ∀ k, 1 ≤ k → k < 22 → ¬ Hit n k from fun k x y => hms.out k x (by simpa [firstOf] using y))
   clear hrz hms
   go_wp2_with (refine wpList_index_at rfl 104 _ _ rfl formsA 5 _ rfl rfl ix_5 ?_)
   go_loop [6] (fun v6 => ∃ k : Nat, 22 ≤ k ∧ k ≤ 23 ∧ v6 = .int .i64 k ∧ Hid (∀ i, 1 ≤ i → i < k → ¬ Hit n i)) (fun v6 => 23 - (intOf v6).toNat)
   case atStart => exact ⟨22, by omega, by omega, rfl, uh MS⟩
   case round =>
    clear MS
    obtain ⟨k, hk1, hk2, rfl, hmk⟩ := hrel
    by_cases hk : k ≤ 22
    ·
     have hcell := (uh TW).2 k (by omega)
     obtain ⟨bk, hbk⟩ : ∃ b, baseAt k = b := ⟨_, rfl⟩
     have hbb := base_bd ⟨k, by omega⟩
     simp only at hbb
     rw [hbk] at hcell hbb
     have HIT := hide (show (bk ≤ n ∧ n - bk < 1) → Hit n k from fun h => by unfold Hit; rw [hbk, cnt_5 k (by omega)]; exact h)
     have MIS := hide (show ¬ (bk ≤ n ∧ n - bk < 1) → ∀ i, 1 ≤ i → i < k + 1 → ¬ Hit n i from fun h i x y => by
      by_cases e : i = k
      · subst e; unfold Hit; rw [hbk, cnt_5 i (by omega)]; exact h
      · exact hmk.out i x (by omega))
     have DK := hide (show Hit n k → getK k (n - bk) = dI n from fun h => by rw [dI_hit (by omega) (by omega) h, hbk])
     clear hbk hmk
     by_cases hA : bk ≤ n
     ·
      by_cases hB : n - bk < 1
      ·
       have hh := uh HIT ⟨hA, hB⟩
       have hok := okD_hit (by omega) (by omega) hh
       have hdk := uh DK hh
       rw [getK_num k (by omega)] at hdk
       have HD := hide hdk
       have HOK := hide hok
       have GC := hide (fun w => getNumber_any (n - bk) w)
       clear hh hok hdk HIT MIS DK
       unfold Is.v zO at GC
       simp only at GC
       go_wp2_with fail
       refine (uh GC _).mono ?_
       rintro e w1 ⟨rfl, hb1⟩
       have Z1 := hide ((uh Z).later hb1)
       have ZL : ∀ o, Rz w (w1.alloc o) [0, 0, 0, 0, 0, 0, 0, 0] := fun o => (uh Z1).later ((Below.refl _ _).alloc (Nat.le_refl _) o)
       have c0 : ∀ o, (w1.alloc o).cell? ⟨w.heap.size, 0, none⟩ = some (.int .i64 0) := fun o => (ZL o).row.cell (i := 0) (by omega)
       have f0 : ∀ o, (w1.alloc o).frozen? ⟨w.heap.size, 0, none⟩ = false := fun o => (ZL o).row.frozen 0
       have c1 : ∀ o, (w1.alloc o).cell? ⟨w.heap.size, 1, none⟩ = some (.int .i64 0) := fun o => (ZL o).row.cell (i := 1) (by omega)
       have f1 : ∀ o, (w1.alloc o).frozen? ⟨w.heap.size, 1, none⟩ = false := fun o => (ZL o).row.frozen 1
       have c2 : ∀ o, (w1.alloc o).cell? ⟨w.heap.size, 2, none⟩ = some (.int .i64 0) := fun o => (ZL o).row.cell (i := 2) (by omega)
       have f2 : ∀ o, (w1.alloc o).frozen? ⟨w.heap.size, 2, none⟩ = false := fun o => (ZL o).row.frozen 2
       have c3 : ∀ o, (w1.alloc o).cell? ⟨w.heap.size, 3, none⟩ = some (.int .i64 0) := fun o => (ZL o).row.cell (i := 3) (by omega)
       have f3 : ∀ o, (w1.alloc o).frozen? ⟨w.heap.size, 3, none⟩ = false := fun o => (ZL o).row.frozen 3
       have c4 : ∀ o, (w1.alloc o).cell? ⟨w.heap.size, 4, none⟩ = some (.int .i64 0) := fun o => (ZL o).row.cell (i := 4) (by omega)
       have f4 : ∀ o, (w1.alloc o).frozen? ⟨w.heap.size, 4, none⟩ = false := fun o => (ZL o).row.frozen 4
       have c5 : ∀ o, (w1.alloc o).cell? ⟨w.heap.size, 5, none⟩ = some (.int .i64 0) := fun o => (ZL o).row.cell (i := 5) (by omega)
       have f5 : ∀ o, (w1.alloc o).frozen? ⟨w.heap.size, 5, none⟩ = false := fun o => (ZL o).row.frozen 5
       have c6 : ∀ o, (w1.alloc o).cell? ⟨w.heap.size, 6, none⟩ = some (.int .i64 0) := fun o => (ZL o).row.cell (i := 6) (by omega)
       have f6 : ∀ o, (w1.alloc o).frozen? ⟨w.heap.size, 6, none⟩ = false := fun o => (ZL o).row.frozen 6
       have c7 : ∀ o, (w1.alloc o).cell? ⟨w.heap.size, 7, none⟩ = some (.int .i64 0) := fun o => (ZL o).row.cell (i := 7) (by omega)
       have f7 : ∀ o, (w1.alloc o).frozen? ⟨w.heap.size, 7, none⟩ = false := fun o => (ZL o).row.frozen 7
       have ZZ := hide ZL
       clear ZL hb1 Z1 GC hcell
       go_wp2
       refine bodyPost_ret (results_row2Q (P := Tryz.prog) rfl _ _ w.heap.size 48 (cs8 [(k : Int), 0, 0, 0, 0, 0, 0, (n - bk)]) (0, 0) _ rfl (row8_heap ((uh ZZ _).put ((k : Int)) (0) (0) (0) (0) (0) (0) ((n - bk))).row) Tryz.underlying48 rfl (by kernel_rfl)) rfl ?_
       exact ⟨by rw [← uh HD, uh HOK]; rfl, ((uh ZZ _).put ((k : Int)) (0) (0) (0) (0) (0) (0) ((n - bk))).bel⟩
      ·
       have M2 := hide (uh MIS (fun h => hB h.2))
       clear HIT MIS DK
       go_wp2
       go_round
       case rel => exact ⟨k + 1, by omega, by omega, by go_num, uh M2⟩
       case measure => simp [intOf]; omega
     ·
      have M2 := hide (uh MIS (fun h => hA h.1))
      clear HIT MIS DK
      go_wp2
      go_round
      case rel => exact ⟨k + 1, by omega, by omega, by go_num, uh M2⟩
      case measure => simp [intOf]; omega
    ·
     have M3 := hide (show ∀ i, 1 ≤ i → i < firstOf 6 → ¬ Hit n i from fun i x y => hmk.out i x (by simp [firstOf] at y; omega))
     clear hmk
     go_wp2
     go_roundw
     case rel => exact ⟨6, by omega, by go_num, uh Z, uh M3⟩
     case measure => simp [intOf]
  ·
   have Z := hide (hrz.later ((Below.refl _ _).alloc (Nat.le_refl _) (Obj.cells #[.int .i64 23, .int .i64 23, .int .i64 256, .func (.func 120) #[] #[], .func (.func 121) #[] #[]] 103)))
   have TW := hide ((uh TL) _ (uh Z).bel)
   have MS := hide (show ∀ k, 1 ≤ k → k < 23 → ¬ Hit n k from fun k x y => hms.out k x (by simpa [firstOf] using y))
   clear hrz hms
   go_wp2_with (refine wpList_index_at rfl 104 _ _ rfl formsA 6 _ rfl rfl ix_6 ?_)
   go_loop [6] (fun v6 => ∃ k : Nat, 23 ≤ k ∧ k ≤ 24 ∧ v6 = .int .i64 k ∧ Hid (∀ i, 1 ≤ i → i < k → ¬ Hit n i)) (fun v6 => 24 - (intOf v6).toNat)
   case atStart => exact ⟨23, by omega, by omega, rfl, uh MS⟩
   case round =>
    clear MS
    obtain ⟨k, hk1, hk2, rfl, hmk⟩ := hrel
    by_cases hk : k ≤ 23
    ·
     have hcell := (uh TW).2 k (by omega)
     obtain ⟨bk, hbk⟩ : ∃ b, baseAt k = b := ⟨_, rfl⟩
     have hbb := base_bd ⟨k, by omega⟩
     simp only at hbb
     rw [hbk] at hcell hbb
     have HIT := hide (show (bk ≤ n ∧ n - bk < 256) → Hit n k from fun h => by unfold Hit; rw [hbk, cnt_6 k (by omega)]; exact h)
     have MIS := hide (show ¬ (bk ≤ n ∧ n - bk < 256) → ∀ i, 1 ≤ i → i < k + 1 → ¬ Hit n i from fun h i x y => by
      by_cases e : i = k
      · subst e; unfold Hit; rw [hbk, cnt_6 i (by omega)]; exact h
      · exact hmk.out i x (by omega))
     have DK := hide (show Hit n k → getK k (n - bk) = dI n from fun h => by rw [dI_hit (by omega) (by omega) h, hbk])
     clear hbk hmk
     by_cases hA : bk ≤ n
     ·
      by_cases hB : n - bk < 256
      ·
       have hh := uh HIT ⟨hA, hB⟩
       have hok := okD_hit (by omega) (by omega) hh
       have hdk := uh DK hh
       rw [getK_num k (by omega)] at hdk
       have HD := hide hdk
       have HOK := hide hok
       have GC := hide (fun w => getNumber_any (n - bk) w)
       clear hh hok hdk HIT MIS DK
       unfold Is.v zO at GC
       simp only at GC
       go_wp2_with fail
       refine (uh GC _).mono ?_
       rintro e w1 ⟨rfl, hb1⟩
       have Z1 := hide ((uh Z).later hb1)
       have ZL : ∀ o, Rz w (w1.alloc o) [0, 0, 0, 0, 0, 0, 0, 0] := fun o => (uh Z1).later ((Below.refl _ _).alloc (Nat.le_refl _) o)
       have c0 : ∀ o, (w1.alloc o).cell? ⟨w.heap.size, 0, none⟩ = some (.int .i64 0) := fun o => (ZL o).row.cell (i := 0) (by omega)
       have f0 : ∀ o, (w1.alloc o).frozen? ⟨w.heap.size, 0, none⟩ = false := fun o => (ZL o).row.frozen 0
       have c1 : ∀ o, (w1.alloc o).cell? ⟨w.heap.size, 1, none⟩ = some (.int .i64 0) := fun o => (ZL o).row.cell (i := 1) (by omega)
       have f1 : ∀ o, (w1.alloc o).frozen? ⟨w.heap.size, 1, none⟩ = false := fun o => (ZL o).row.frozen 1
       have c2 : ∀ o, (w1.alloc o).cell? ⟨w.heap.size, 2, none⟩ = some (.int .i64 0) := fun o => (ZL o).row.cell (i := 2) (by omega)
       have f2 : ∀ o, (w1.alloc o).frozen? ⟨w.heap.size, 2, none⟩ = false := fun o => (ZL o).row.frozen 2
       have c3 : ∀ o, (w1.alloc o).cell? ⟨w.heap.size, 3, none⟩ = some (.int .i64 0) := fun o => (ZL o).row.cell (i := 3) (by omega)
       have f3 : ∀ o, (w1.alloc o).frozen? ⟨w.heap.size, 3, none⟩ = false := fun o => (ZL o).row.frozen 3
       have c4 : ∀ o, (w1.alloc o).cell? ⟨w.heap.size, 4, none⟩ = some (.int .i64 0) := fun o => (ZL o).row.cell (i := 4) (by omega)
       have f4 : ∀ o, (w1.alloc o).frozen? ⟨w.heap.size, 4, none⟩ = false := fun o => (ZL o).row.frozen 4
       have c5 : ∀ o, (w1.alloc o).cell? ⟨w.heap.size, 5, none⟩ = some (.int .i64 0) := fun o => (ZL o).row.cell (i := 5) (by omega)
       have f5 : ∀ o, (w1.alloc o).frozen? ⟨w.heap.size, 5, none⟩ = false := fun o => (ZL o).row.frozen 5
       have c6 : ∀ o, (w1.alloc o).cell? ⟨w.heap.size, 6, none⟩ = some (.int .i64 0) := fun o => (ZL o).row.cell (i := 6) (by omega)
       have f6 : ∀ o, (w1.alloc o).frozen? ⟨w.heap.size, 6, none⟩ = false := fun o => (ZL o).row.frozen 6
       have c7 : ∀ o, (w1.alloc o).cell? ⟨w.heap.size, 7, none⟩ = some (.int .i64 0) := fun o => (ZL o).row.cell (i := 7) (by omega)
       have f7 : ∀ o, (w1.alloc o).frozen? ⟨w.heap.size, 7, none⟩ = false := fun o => (ZL o).row.frozen 7
       have ZZ := hide ZL
       clear ZL hb1 Z1 GC hcell
       go_wp2
       refine bodyPost_ret (results_row2Q (P := Tryz.prog) rfl _ _ w.heap.size 48 (cs8 [(k : Int), 0, 0, 0, 0, 0, 0, (n - bk)]) (0, 0) _ rfl (row8_heap ((uh ZZ _).put ((k : Int)) (0) (0) (0) (0) (0) (0) ((n - bk))).row) Tryz.underlying48 rfl (by kernel_rfl)) rfl ?_
       exact ⟨by rw [← uh HD, uh HOK]; rfl, ((uh ZZ _).put ((k : Int)) (0) (0) (0) (0) (0) (0) ((n - bk))).bel⟩
      ·
       have M2 := hide (uh MIS (fun h => hB h.2))
       clear HIT MIS DK
       go_wp2
       go_round
       case rel => exact ⟨k + 1, by omega, by omega, by go_num, uh M2⟩
       case measure => simp [intOf]; omega
     ·
      have M2 := hide (uh MIS (fun h => hA h.1))
      clear HIT MIS DK
      go_wp2
      go_round
      case rel => exact ⟨k + 1, by omega, by omega, by go_num, uh M2⟩
      case measure => simp [intOf]; omega
    ·
     have M3 := hide (show ∀ i, 1 ≤ i → i < firstOf 7 → ¬ Hit n i from fun i x y => hmk.out i x (by simp [firstOf] at y; omega))
     clear hmk
     go_wp2
     go_roundw
     case rel => exact ⟨7, by omega, by go_num, uh Z, uh M3⟩
     case measure => simp [intOf]
  ·
   have hm : ∀ k, 1 ≤ k → k ≤ 23 → ¬ Hit n k := fun k x y => hms.out k x (by simp [firstOf]; omega)
   have HD := hide (dI_miss hm)
   have HOK := hide (okD_miss hm)
   have Z := hide hrz
   have zz := hrz
   have c0 : wr.cell? ⟨w.heap.size, 0, none⟩ = some (.int .i64 0) := zz.row.cell (i := 0) (by omega)
   have f0 := zz.row.frozen 0
   have c1 : wr.cell? ⟨w.heap.size, 1, none⟩ = some (.int .i64 0) := zz.row.cell (i := 1) (by omega)
   have f1 := zz.row.frozen 1
   have c2 : wr.cell? ⟨w.heap.size, 2, none⟩ = some (.int .i64 0) := zz.row.cell (i := 2) (by omega)
   have f2 := zz.row.frozen 2
   have c3 : wr.cell? ⟨w.heap.size, 3, none⟩ = some (.int .i64 0) := zz.row.cell (i := 3) (by omega)
   have f3 := zz.row.frozen 3
   have c4 : wr.cell? ⟨w.heap.size, 4, none⟩ = some (.int .i64 0) := zz.row.cell (i := 4) (by omega)
   have f4 := zz.row.frozen 4
   have c5 : wr.cell? ⟨w.heap.size, 5, none⟩ = some (.int .i64 0) := zz.row.cell (i := 5) (by omega)
   have f5 := zz.row.frozen 5
   have c6 : wr.cell? ⟨w.heap.size, 6, none⟩ = some (.int .i64 0) := zz.row.cell (i := 6) (by omega)
   have f6 := zz.row.frozen 6
   have c7 : wr.cell? ⟨w.heap.size, 7, none⟩ = some (.int .i64 0) := zz.row.cell (i := 7) (by omega)
   have f7 := zz.row.frozen 7
   clear zz hm hms hrz
   go_wp2
   refine bodyPost_ret (results_row2Q (P := Tryz.prog) rfl _ _ w.heap.size 48 (cs8 [0, 0, 0, 0, 0, 0, 0, 0]) (0, 0) _ rfl (row8_heap ((uh Z).put 0 0 0 0 0 0 0 0).row) Tryz.underlying48 rfl (by kernel_rfl)) rfl ?_
   exact ⟨by rw [uh HD, uh HOK]; rfl, ((uh Z).put 0 0 0 0 0 0 0 0).bel⟩
end Go.Proofs.YtboedaofbchdkaaGreatDoor
