/- Contracts over this seat's translation, laid together; conditions stand as hypotheses of each. -/
import Derived.Test.YtjpbjbnialehbaaGreatDoorBsI

namespace Go.Proofs.YtjpbjbnialehbaaGreatDoor
open Go.ChangeShapes Go.WideShapes Go.ChangeAt Go.RowKit
set_option linter.unusedVariables false
set_option linter.unusedSimpArgs false
def okD (n : Int) : Bool := !((dI n).op == 0)
theorem okD_hit {n : Int} {k : Nat} (h1 : 1 ≤ k) (h2 : k ≤ 23) (h : Hit n k) : okD n = true := by
  unfold okD
  rw [dI_hit h1 h2 h, getK_op]
  simp
  omega
theorem okD_miss {n : Int} (hm : ∀ k, 1 ≤ k → k ≤ 23 → ¬ Hit n k) : okD n = false := by
  unfold okD
  rw [dI_miss hm]
  rfl
theorem getK_two (k : Nat) (h : k ≤ 6) (f : Int) : getK k f = ⟨(k : Int), opdOf (f / 64), opdOf f, 0⟩ := by unfold getK; rw [if_pos h]
theorem getK_one (k : Nat) (h : 6 < k ∧ k ≤ 14) (f : Int) : getK k f = ⟨(k : Int), zO, opdOf f, 0⟩ := by unfold getK; rw [if_neg (by omega), if_pos h.2]
theorem getK_reg (k : Nat) (h : k = 15) (f : Int) : getK k f = ⟨(k : Int), zO, opdOf f, f / 64⟩ := by unfold getK; rw [if_neg (by omega), if_neg (by omega), if_pos h]
theorem getK_num (k : Nat) (h : k = 16 ∨ 21 < k) (f : Int) : getK k f = ⟨(k : Int), zO, zO, f⟩ := by unfold getK; rw [if_neg (by omega), if_neg (by omega), if_neg (by omega), if_neg (by omega)]
theorem cnt_0 (k : Nat) (h : 1 ≤ k ∧ k ≤ 6) : cntAt k = 4096 := by
  obtain rfl | rfl | rfl | rfl | rfl | rfl : k = 1 ∨ k = 2 ∨ k = 3 ∨ k = 4 ∨ k = 5 ∨ k = 6 := by omega
  · exact ct1
  · exact ct2
  · exact ct3
  · exact ct4
  · exact ct5
  · exact ct6
theorem cnt_1 (k : Nat) (h : 7 ≤ k ∧ k ≤ 14) : cntAt k = 64 := by
  obtain rfl | rfl | rfl | rfl | rfl | rfl | rfl | rfl : k = 7 ∨ k = 8 ∨ k = 9 ∨ k = 10 ∨ k = 11 ∨ k = 12 ∨ k = 13 ∨ k = 14 := by omega
  · exact ct7
  · exact ct8
  · exact ct9
  · exact ct10
  · exact ct11
  · exact ct12
  · exact ct13
  · exact ct14
theorem cnt_2 (k : Nat) (h : 15 ≤ k ∧ k ≤ 15) : cntAt k = 512 := by
  obtain rfl : k = 15 := by omega
  · exact ct15
theorem cnt_3 (k : Nat) (h : 16 ≤ k ∧ k ≤ 16) : cntAt k = 8 := by
  obtain rfl : k = 16 := by omega
  · exact ct16
theorem cnt_4 (k : Nat) (h : 17 ≤ k ∧ k ≤ 21) : cntAt k = 256 := by
  obtain rfl | rfl | rfl | rfl | rfl : k = 17 ∨ k = 18 ∨ k = 19 ∨ k = 20 ∨ k = 21 := by omega
  · exact ct17
  · exact ct18
  · exact ct19
  · exact ct20
  · exact ct21
theorem cnt_5 (k : Nat) (h : 22 ≤ k ∧ k ≤ 22) : cntAt k = 1 := by
  obtain rfl : k = 22 := by omega
  · exact ct22
theorem cnt_6 (k : Nat) (h : 23 ≤ k ∧ k ≤ 23) : cntAt k = 256 := by
  obtain rfl : k = 23 := by omega
  · exact ct23
set_option maxHeartbeats 16000000 in
set_option maxRecDepth 100000 in
theorem insI_any (n : Int) (hn : n ≤ 9223372036854775807) (w : World) (ht : Tab w) : Calls Tryz.prog 56 #[.int .i64 n] w fun e w' => e = .returned (.tuple #[(dI n).v, .bool (okD n)]) ∧ Below w.heap.size w w' := by
  have R0 := hide (rz_new w)
  have TL := hide (fun (w' : World) (hb : Below w.heap.size w w') => ht.later hb)
  clear ht
  go_enter Tryz.func56, Tryz.ntmps56
  go_wp2_with fail
  refine (forms_any _).mono ?_
  rintro e w0 ⟨rfl, hb⟩
  have R1 := hide ((unhide R0).later hb)
  clear hb R0
  go_wp2_with fail
  go_loopw [10] (fun v10 wr => ∃ j : Nat, j ≤ 7 ∧ v10 = .int .i64 j ∧ Rz w wr [0, 0, 0, 0, 0, 0, 0, 0] ∧ Hid (∀ k, 1 ≤ k → k < firstOf j → ¬ Hit n k)) (fun v10 _ => 7 - (intOf v10).toNat)
  case atStart => exact ⟨0, by omega, rfl, unhide R1, fun k a b => by simp [firstOf] at b; omega⟩
  case round =>
    clear R1
    obtain ⟨j, hj, rfl, hrz, hms⟩ := hrel
    obtain rfl | rfl | rfl | rfl | rfl | rfl | rfl | rfl : j = 0 ∨ j = 1 ∨ j = 2 ∨ j = 3 ∨ j = 4 ∨ j = 5 ∨ j = 6 ∨ j = 7 := by omega
    · have Z := hide (hrz.later ((Below.refl _ _).alloc (Nat.le_refl _) (Obj.cells #[.int .i64 1, .int .i64 6, .int .i64 4096, .func (.func 127) #[] #[], .func (.func 128) #[] #[]] 111)))
      have TW := hide ((unhide TL) _ (unhide Z).bel)
      have MS := hide (show ∀ k, 1 ≤ k → k < 1 → ¬ Hit n k from fun k x y => hms.out k x (by simpa [firstOf] using y))
      clear hrz hms
      go_wp2_with (refine wpList_index_at rfl 112 _ _ rfl formsA 0 _ rfl rfl ix_0 ?_)
      go_loop [6] (fun v6 => ∃ k : Nat, 1 ≤ k ∧ k ≤ 7 ∧ v6 = .int .i64 k ∧ Hid (∀ i, 1 ≤ i → i < k → ¬ Hit n i)) (fun v6 => 7 - (intOf v6).toNat)
      case atStart => exact ⟨1, by omega, by omega, rfl, unhide MS⟩
      case round =>
        clear MS
        obtain ⟨k, hk1, hk2, rfl, hmk⟩ := hrel
        by_cases hk : k ≤ 6
        · have hcell := (unhide TW).2 k (by omega)
          obtain ⟨bk, hbk⟩ : ∃ b, baseAt k = b := ⟨_, rfl⟩
          have hbb := base_bd ⟨k, by omega⟩
          simp only at hbb
          rw [hbk] at hcell hbb
          have HIT := hide (show (bk ≤ n ∧ n - bk < 4096) → Hit n k from fun h => by unfold Hit; rw [hbk, cnt_0 k (by omega)]; exact h)
          have MIS := hide (show ¬ (bk ≤ n ∧ n - bk < 4096) → ∀ i, 1 ≤ i → i < k + 1 → ¬ Hit n i from fun h i x y => by
            by_cases e : i = k
            · subst e; unfold Hit; rw [hbk, cnt_0 i (by omega)]; exact h
            · exact hmk.out i x (by omega))
          have DK := hide (show Hit n k → getK k (n - bk) = dI n from fun h => by rw [dI_hit (by omega) (by omega) h, hbk])
          clear hbk hmk
          by_cases hA : bk ≤ n
          · by_cases hB : n - bk < 4096
            · have hh := unhide HIT ⟨hA, hB⟩
              have hok := okD_hit (by omega) (by omega) hh
              have hdk := unhide DK hh
              rw [getK_two k (by omega)] at hdk
              have HD := hide hdk
              have HOK := hide hok
              have GC := hide (fun w => getTwo_any (n - bk) w)
              clear hh hok hdk HIT MIS DK
              unfold Is.v opdOf at GC
              simp only at GC
              go_wp2_with fail
              refine (unhide GC _).mono ?_
              rintro e w1 ⟨rfl, hb1⟩
              have Z1 := hide ((unhide Z).later hb1)
              have ZL : ∀ o, Rz w (w1.alloc o) [0, 0, 0, 0, 0, 0, 0, 0] := fun o => (unhide Z1).later ((Below.refl _ _).alloc (Nat.le_refl _) o)
              have c0 : ∀ o, (w1.alloc o).cell? ⟨w.heap.size, 0, none⟩ = some (.int .i64 0) := fun o => (ZL o).row.cell (i := 0) (by omega)
              have f0 : ∀ o, (w1.alloc o).frozen? ⟨w.heap.size, 0, none⟩ = false := fun o => (ZL o).row.frozen 0
              have c1 : ∀ o, (w1.alloc o).cell? ⟨w.heap.size, 1, none⟩ = some (.int .i64 0) := fun o => (ZL o).row.cell (i := 1) (by omega)
              have f1 : ∀ o, (w1.alloc o).frozen? ⟨w.heap.size, 1, none⟩ = false := fun o => (ZL o).row.frozen 1
              have c2 : ∀ o, (w1.alloc o).cell? ⟨w.heap.size, 2, none⟩ = some (.int .i64 0) := fun o => (ZL o).row.cell (i := 2) (by omega)
              have f2 : ∀ o, (w1.alloc o).frozen? ⟨w.heap.size, 2, none⟩ = false := fun o => (ZL o).row.frozen 2
              have c3 : ∀ o, (w1.alloc o).cell? ⟨w.heap.size, 3, none⟩ = some (.int .i64 0) := fun o => (ZL o).row.cell (i := 3) (by omega)
              have f3 : ∀ o, (w1.alloc o).frozen? ⟨w.heap.size, 3, none⟩ = false := fun o => (ZL o).row.frozen 3
              have c4 : ∀ o, (w1.alloc o).cell? ⟨w.heap.size, 4, none⟩ = some (.int .i64 0) := fun o => (ZL o).row.cell (i := 4) (by omega)
              have f4 : ∀ o, (w1.alloc o).frozen? ⟨w.heap.size, 4, none⟩ = false := fun o => (ZL o).row.frozen 4
              have c5 : ∀ o, (w1.alloc o).cell? ⟨w.heap.size, 5, none⟩ = some (.int .i64 0) := fun o => (ZL o).row.cell (i := 5) (by omega)
              have f5 : ∀ o, (w1.alloc o).frozen? ⟨w.heap.size, 5, none⟩ = false := fun o => (ZL o).row.frozen 5
              have c6 : ∀ o, (w1.alloc o).cell? ⟨w.heap.size, 6, none⟩ = some (.int .i64 0) := fun o => (ZL o).row.cell (i := 6) (by omega)
              have f6 : ∀ o, (w1.alloc o).frozen? ⟨w.heap.size, 6, none⟩ = false := fun o => (ZL o).row.frozen 6
              have c7 : ∀ o, (w1.alloc o).cell? ⟨w.heap.size, 7, none⟩ = some (.int .i64 0) := fun o => (ZL o).row.cell (i := 7) (by omega)
              have f7 : ∀ o, (w1.alloc o).frozen? ⟨w.heap.size, 7, none⟩ = false := fun o => (ZL o).row.frozen 7
              have ZZ := hide ZL
              clear ZL hb1 Z1 GC hcell
              go_wp2
              refine bodyPost_ret (results_row2Q (P := Tryz.prog) rfl _ _ w.heap.size 69 (cs8 [(k : Int), (n - bk) / 64 / 8 % 8, (n - bk) / 64 % 8, 0, (n - bk) / 8 % 8, (n - bk) % 8, 0, 0]) (0, 0) _ rfl (row8_heap ((unhide ZZ _).put ((k : Int)) ((n - bk) / 64 / 8 % 8) ((n - bk) / 64 % 8) (0) ((n - bk) / 8 % 8) ((n - bk) % 8) (0) (0)).row) Tryz.underlying69 rfl (by kernel_rfl)) rfl ?_
              exact ⟨by rw [← unhide HD, unhide HOK]; rfl, ((unhide ZZ _).put ((k : Int)) ((n - bk) / 64 / 8 % 8) ((n - bk) / 64 % 8) (0) ((n - bk) / 8 % 8) ((n - bk) % 8) (0) (0)).bel⟩
            · have M2 := hide (unhide MIS (fun h => hB h.2))
              clear HIT MIS DK
              go_wp2
              go_round
              case rel => exact ⟨k + 1, by omega, by omega, by go_num, unhide M2⟩
              case measure => simp [intOf]; omega
          · have M2 := hide (unhide MIS (fun h => hA h.1))
            clear HIT MIS DK
            go_wp2
            go_round
            case rel => exact ⟨k + 1, by omega, by omega, by go_num, unhide M2⟩
            case measure => simp [intOf]; omega
        · have M3 := hide (show ∀ i, 1 ≤ i → i < firstOf 1 → ¬ Hit n i from fun i x y => hmk.out i x (by simp [firstOf] at y; omega))
          clear hmk
          go_wp2
          go_roundw
          case rel => exact ⟨1, by omega, by go_num, unhide Z, unhide M3⟩
          case measure => simp [intOf]
    · have Z := hide (hrz.later ((Below.refl _ _).alloc (Nat.le_refl _) (Obj.cells #[.int .i64 7, .int .i64 14, .int .i64 64, .func (.func 129) #[] #[], .func (.func 130) #[] #[]] 111)))
      have TW := hide ((unhide TL) _ (unhide Z).bel)
      have MS := hide (show ∀ k, 1 ≤ k → k < 7 → ¬ Hit n k from fun k x y => hms.out k x (by simpa [firstOf] using y))
      clear hrz hms
      go_wp2_with (refine wpList_index_at rfl 112 _ _ rfl formsA 1 _ rfl rfl ix_1 ?_)
      go_loop [6] (fun v6 => ∃ k : Nat, 7 ≤ k ∧ k ≤ 15 ∧ v6 = .int .i64 k ∧ Hid (∀ i, 1 ≤ i → i < k → ¬ Hit n i)) (fun v6 => 15 - (intOf v6).toNat)
      case atStart => exact ⟨7, by omega, by omega, rfl, unhide MS⟩
      case round =>
        clear MS
        obtain ⟨k, hk1, hk2, rfl, hmk⟩ := hrel
        by_cases hk : k ≤ 14
        · have hcell := (unhide TW).2 k (by omega)
          obtain ⟨bk, hbk⟩ : ∃ b, baseAt k = b := ⟨_, rfl⟩
          have hbb := base_bd ⟨k, by omega⟩
          simp only at hbb
          rw [hbk] at hcell hbb
          have HIT := hide (show (bk ≤ n ∧ n - bk < 64) → Hit n k from fun h => by unfold Hit; rw [hbk, cnt_1 k (by omega)]; exact h)
          have MIS := hide (show ¬ (bk ≤ n ∧ n - bk < 64) → ∀ i, 1 ≤ i → i < k + 1 → ¬ Hit n i from fun h i x y => by
            by_cases e : i = k
            · subst e; unfold Hit; rw [hbk, cnt_1 i (by omega)]; exact h
            · exact hmk.out i x (by omega))
          have DK := hide (show Hit n k → getK k (n - bk) = dI n from fun h => by rw [dI_hit (by omega) (by omega) h, hbk])
          clear hbk hmk
          by_cases hA : bk ≤ n
          · by_cases hB : n - bk < 64
            · have hh := unhide HIT ⟨hA, hB⟩
              have hok := okD_hit (by omega) (by omega) hh
              have hdk := unhide DK hh
              rw [getK_one k (by omega)] at hdk
              have HD := hide hdk
              have HOK := hide hok
              have GC := hide (fun w => getOperand_any (n - bk) w)
              clear hh hok hdk HIT MIS DK
              unfold Is.v zO opdOf at GC
              simp only at GC
              go_wp2_with fail
              refine (unhide GC _).mono ?_
              rintro e w1 ⟨rfl, hb1⟩
              have Z1 := hide ((unhide Z).later hb1)
              have ZL : ∀ o, Rz w (w1.alloc o) [0, 0, 0, 0, 0, 0, 0, 0] := fun o => (unhide Z1).later ((Below.refl _ _).alloc (Nat.le_refl _) o)
              have c0 : ∀ o, (w1.alloc o).cell? ⟨w.heap.size, 0, none⟩ = some (.int .i64 0) := fun o => (ZL o).row.cell (i := 0) (by omega)
              have f0 : ∀ o, (w1.alloc o).frozen? ⟨w.heap.size, 0, none⟩ = false := fun o => (ZL o).row.frozen 0
              have c1 : ∀ o, (w1.alloc o).cell? ⟨w.heap.size, 1, none⟩ = some (.int .i64 0) := fun o => (ZL o).row.cell (i := 1) (by omega)
              have f1 : ∀ o, (w1.alloc o).frozen? ⟨w.heap.size, 1, none⟩ = false := fun o => (ZL o).row.frozen 1
              have c2 : ∀ o, (w1.alloc o).cell? ⟨w.heap.size, 2, none⟩ = some (.int .i64 0) := fun o => (ZL o).row.cell (i := 2) (by omega)
              have f2 : ∀ o, (w1.alloc o).frozen? ⟨w.heap.size, 2, none⟩ = false := fun o => (ZL o).row.frozen 2
              have c3 : ∀ o, (w1.alloc o).cell? ⟨w.heap.size, 3, none⟩ = some (.int .i64 0) := fun o => (ZL o).row.cell (i := 3) (by omega)
              have f3 : ∀ o, (w1.alloc o).frozen? ⟨w.heap.size, 3, none⟩ = false := fun o => (ZL o).row.frozen 3
              have c4 : ∀ o, (w1.alloc o).cell? ⟨w.heap.size, 4, none⟩ = some (.int .i64 0) := fun o => (ZL o).row.cell (i := 4) (by omega)
              have f4 : ∀ o, (w1.alloc o).frozen? ⟨w.heap.size, 4, none⟩ = false := fun o => (ZL o).row.frozen 4
              have c5 : ∀ o, (w1.alloc o).cell? ⟨w.heap.size, 5, none⟩ = some (.int .i64 0) := fun o => (ZL o).row.cell (i := 5) (by omega)
              have f5 : ∀ o, (w1.alloc o).frozen? ⟨w.heap.size, 5, none⟩ = false := fun o => (ZL o).row.frozen 5
              have c6 : ∀ o, (w1.alloc o).cell? ⟨w.heap.size, 6, none⟩ = some (.int .i64 0) := fun o => (ZL o).row.cell (i := 6) (by omega)
              have f6 : ∀ o, (w1.alloc o).frozen? ⟨w.heap.size, 6, none⟩ = false := fun o => (ZL o).row.frozen 6
              have c7 : ∀ o, (w1.alloc o).cell? ⟨w.heap.size, 7, none⟩ = some (.int .i64 0) := fun o => (ZL o).row.cell (i := 7) (by omega)
              have f7 : ∀ o, (w1.alloc o).frozen? ⟨w.heap.size, 7, none⟩ = false := fun o => (ZL o).row.frozen 7
              have ZZ := hide ZL
              clear ZL hb1 Z1 GC hcell
              go_wp2
              refine bodyPost_ret (results_row2Q (P := Tryz.prog) rfl _ _ w.heap.size 69 (cs8 [(k : Int), 0, 0, 0, (n - bk) / 8 % 8, (n - bk) % 8, 0, 0]) (0, 0) _ rfl (row8_heap ((unhide ZZ _).put ((k : Int)) (0) (0) (0) ((n - bk) / 8 % 8) ((n - bk) % 8) (0) (0)).row) Tryz.underlying69 rfl (by kernel_rfl)) rfl ?_
              exact ⟨by rw [← unhide HD, unhide HOK]; rfl, ((unhide ZZ _).put ((k : Int)) (0) (0) (0) ((n - bk) / 8 % 8) ((n - bk) % 8) (0) (0)).bel⟩
            · have M2 := hide (unhide MIS (fun h => hB h.2))
              clear HIT MIS DK
              go_wp2
              go_round
              case rel => exact ⟨k + 1, by omega, by omega, by go_num, unhide M2⟩
              case measure => simp [intOf]; omega
          · have M2 := hide (unhide MIS (fun h => hA h.1))
            clear HIT MIS DK
            go_wp2
            go_round
            case rel => exact ⟨k + 1, by omega, by omega, by go_num, unhide M2⟩
            case measure => simp [intOf]; omega
        · have M3 := hide (show ∀ i, 1 ≤ i → i < firstOf 2 → ¬ Hit n i from fun i x y => hmk.out i x (by simp [firstOf] at y; omega))
          clear hmk
          go_wp2
          go_roundw
          case rel => exact ⟨2, by omega, by go_num, unhide Z, unhide M3⟩
          case measure => simp [intOf]
    · have Z := hide (hrz.later ((Below.refl _ _).alloc (Nat.le_refl _) (Obj.cells #[.int .i64 15, .int .i64 15, .int .i64 512, .func (.func 131) #[] #[], .func (.func 132) #[] #[]] 111)))
      have TW := hide ((unhide TL) _ (unhide Z).bel)
      have MS := hide (show ∀ k, 1 ≤ k → k < 15 → ¬ Hit n k from fun k x y => hms.out k x (by simpa [firstOf] using y))
      clear hrz hms
      go_wp2_with (refine wpList_index_at rfl 112 _ _ rfl formsA 2 _ rfl rfl ix_2 ?_)
      go_loop [6] (fun v6 => ∃ k : Nat, 15 ≤ k ∧ k ≤ 16 ∧ v6 = .int .i64 k ∧ Hid (∀ i, 1 ≤ i → i < k → ¬ Hit n i)) (fun v6 => 16 - (intOf v6).toNat)
      case atStart => exact ⟨15, by omega, by omega, rfl, unhide MS⟩
      case round =>
        clear MS
        obtain ⟨k, hk1, hk2, rfl, hmk⟩ := hrel
        by_cases hk : k ≤ 15
        · have hcell := (unhide TW).2 k (by omega)
          obtain ⟨bk, hbk⟩ : ∃ b, baseAt k = b := ⟨_, rfl⟩
          have hbb := base_bd ⟨k, by omega⟩
          simp only at hbb
          rw [hbk] at hcell hbb
          have HIT := hide (show (bk ≤ n ∧ n - bk < 512) → Hit n k from fun h => by unfold Hit; rw [hbk, cnt_2 k (by omega)]; exact h)
          have MIS := hide (show ¬ (bk ≤ n ∧ n - bk < 512) → ∀ i, 1 ≤ i → i < k + 1 → ¬ Hit n i from fun h i x y => by
            by_cases e : i = k
            · subst e; unfold Hit; rw [hbk, cnt_2 i (by omega)]; exact h
            · exact hmk.out i x (by omega))
          have DK := hide (show Hit n k → getK k (n - bk) = dI n from fun h => by rw [dI_hit (by omega) (by omega) h, hbk])
          clear hbk hmk
          by_cases hA : bk ≤ n
          · by_cases hB : n - bk < 512
            · have hh := unhide HIT ⟨hA, hB⟩
              have hok := okD_hit (by omega) (by omega) hh
              have hdk := unhide DK hh
              rw [getK_reg k (by omega)] at hdk
              have HD := hide hdk
              have HOK := hide hok
              have GC := hide (fun w => getReg_any (n - bk) w)
              clear hh hok hdk HIT MIS DK
              unfold Is.v zO opdOf at GC
              simp only at GC
              go_wp2_with fail
              refine (unhide GC _).mono ?_
              rintro e w1 ⟨rfl, hb1⟩
              have Z1 := hide ((unhide Z).later hb1)
              have ZL : ∀ o, Rz w (w1.alloc o) [0, 0, 0, 0, 0, 0, 0, 0] := fun o => (unhide Z1).later ((Below.refl _ _).alloc (Nat.le_refl _) o)
              have c0 : ∀ o, (w1.alloc o).cell? ⟨w.heap.size, 0, none⟩ = some (.int .i64 0) := fun o => (ZL o).row.cell (i := 0) (by omega)
              have f0 : ∀ o, (w1.alloc o).frozen? ⟨w.heap.size, 0, none⟩ = false := fun o => (ZL o).row.frozen 0
              have c1 : ∀ o, (w1.alloc o).cell? ⟨w.heap.size, 1, none⟩ = some (.int .i64 0) := fun o => (ZL o).row.cell (i := 1) (by omega)
              have f1 : ∀ o, (w1.alloc o).frozen? ⟨w.heap.size, 1, none⟩ = false := fun o => (ZL o).row.frozen 1
              have c2 : ∀ o, (w1.alloc o).cell? ⟨w.heap.size, 2, none⟩ = some (.int .i64 0) := fun o => (ZL o).row.cell (i := 2) (by omega)
              have f2 : ∀ o, (w1.alloc o).frozen? ⟨w.heap.size, 2, none⟩ = false := fun o => (ZL o).row.frozen 2
              have c3 : ∀ o, (w1.alloc o).cell? ⟨w.heap.size, 3, none⟩ = some (.int .i64 0) := fun o => (ZL o).row.cell (i := 3) (by omega)
              have f3 : ∀ o, (w1.alloc o).frozen? ⟨w.heap.size, 3, none⟩ = false := fun o => (ZL o).row.frozen 3
              have c4 : ∀ o, (w1.alloc o).cell? ⟨w.heap.size, 4, none⟩ = some (.int .i64 0) := fun o => (ZL o).row.cell (i := 4) (by omega)
              have f4 : ∀ o, (w1.alloc o).frozen? ⟨w.heap.size, 4, none⟩ = false := fun o => (ZL o).row.frozen 4
              have c5 : ∀ o, (w1.alloc o).cell? ⟨w.heap.size, 5, none⟩ = some (.int .i64 0) := fun o => (ZL o).row.cell (i := 5) (by omega)
              have f5 : ∀ o, (w1.alloc o).frozen? ⟨w.heap.size, 5, none⟩ = false := fun o => (ZL o).row.frozen 5
              have c6 : ∀ o, (w1.alloc o).cell? ⟨w.heap.size, 6, none⟩ = some (.int .i64 0) := fun o => (ZL o).row.cell (i := 6) (by omega)
              have f6 : ∀ o, (w1.alloc o).frozen? ⟨w.heap.size, 6, none⟩ = false := fun o => (ZL o).row.frozen 6
              have c7 : ∀ o, (w1.alloc o).cell? ⟨w.heap.size, 7, none⟩ = some (.int .i64 0) := fun o => (ZL o).row.cell (i := 7) (by omega)
              have f7 : ∀ o, (w1.alloc o).frozen? ⟨w.heap.size, 7, none⟩ = false := fun o => (ZL o).row.frozen 7
              have ZZ := hide ZL
              clear ZL hb1 Z1 GC hcell
              go_wp2
              refine bodyPost_ret (results_row2Q (P := Tryz.prog) rfl _ _ w.heap.size 69 (cs8 [(k : Int), 0, 0, 0, (n - bk) / 8 % 8, (n - bk) % 8, 0, (n - bk) / 64]) (0, 0) _ rfl (row8_heap ((unhide ZZ _).put ((k : Int)) (0) (0) (0) ((n - bk) / 8 % 8) ((n - bk) % 8) (0) ((n - bk) / 64)).row) Tryz.underlying69 rfl (by kernel_rfl)) rfl ?_
              exact ⟨by rw [← unhide HD, unhide HOK]; rfl, ((unhide ZZ _).put ((k : Int)) (0) (0) (0) ((n - bk) / 8 % 8) ((n - bk) % 8) (0) ((n - bk) / 64)).bel⟩
            · have M2 := hide (unhide MIS (fun h => hB h.2))
              clear HIT MIS DK
              go_wp2
              go_round
              case rel => exact ⟨k + 1, by omega, by omega, by go_num, unhide M2⟩
              case measure => simp [intOf]; omega
          · have M2 := hide (unhide MIS (fun h => hA h.1))
            clear HIT MIS DK
            go_wp2
            go_round
            case rel => exact ⟨k + 1, by omega, by omega, by go_num, unhide M2⟩
            case measure => simp [intOf]; omega
        · have M3 := hide (show ∀ i, 1 ≤ i → i < firstOf 3 → ¬ Hit n i from fun i x y => hmk.out i x (by simp [firstOf] at y; omega))
          clear hmk
          go_wp2
          go_roundw
          case rel => exact ⟨3, by omega, by go_num, unhide Z, unhide M3⟩
          case measure => simp [intOf]
    · have Z := hide (hrz.later ((Below.refl _ _).alloc (Nat.le_refl _) (Obj.cells #[.int .i64 16, .int .i64 16, .int .i64 8, .func (.func 133) #[] #[], .func (.func 134) #[] #[]] 111)))
      have TW := hide ((unhide TL) _ (unhide Z).bel)
      have MS := hide (show ∀ k, 1 ≤ k → k < 16 → ¬ Hit n k from fun k x y => hms.out k x (by simpa [firstOf] using y))
      clear hrz hms
      go_wp2_with (refine wpList_index_at rfl 112 _ _ rfl formsA 3 _ rfl rfl ix_3 ?_)
      go_loop [6] (fun v6 => ∃ k : Nat, 16 ≤ k ∧ k ≤ 17 ∧ v6 = .int .i64 k ∧ Hid (∀ i, 1 ≤ i → i < k → ¬ Hit n i)) (fun v6 => 17 - (intOf v6).toNat)
      case atStart => exact ⟨16, by omega, by omega, rfl, unhide MS⟩
      case round =>
        clear MS
        obtain ⟨k, hk1, hk2, rfl, hmk⟩ := hrel
        by_cases hk : k ≤ 16
        · have hcell := (unhide TW).2 k (by omega)
          obtain ⟨bk, hbk⟩ : ∃ b, baseAt k = b := ⟨_, rfl⟩
          have hbb := base_bd ⟨k, by omega⟩
          simp only at hbb
          rw [hbk] at hcell hbb
          have HIT := hide (show (bk ≤ n ∧ n - bk < 8) → Hit n k from fun h => by unfold Hit; rw [hbk, cnt_3 k (by omega)]; exact h)
          have MIS := hide (show ¬ (bk ≤ n ∧ n - bk < 8) → ∀ i, 1 ≤ i → i < k + 1 → ¬ Hit n i from fun h i x y => by
            by_cases e : i = k
            · subst e; unfold Hit; rw [hbk, cnt_3 i (by omega)]; exact h
            · exact hmk.out i x (by omega))
          have DK := hide (show Hit n k → getK k (n - bk) = dI n from fun h => by rw [dI_hit (by omega) (by omega) h, hbk])
          clear hbk hmk
          by_cases hA : bk ≤ n
          · by_cases hB : n - bk < 8
            · have hh := unhide HIT ⟨hA, hB⟩
              have hok := okD_hit (by omega) (by omega) hh
              have hdk := unhide DK hh
              rw [getK_num k (by omega)] at hdk
              have HD := hide hdk
              have HOK := hide hok
              have GC := hide (fun w => getNumber_any (n - bk) w)
              clear hh hok hdk HIT MIS DK
              unfold Is.v zO at GC
              simp only at GC
              go_wp2_with fail
              refine (unhide GC _).mono ?_
              rintro e w1 ⟨rfl, hb1⟩
              have Z1 := hide ((unhide Z).later hb1)
              have ZL : ∀ o, Rz w (w1.alloc o) [0, 0, 0, 0, 0, 0, 0, 0] := fun o => (unhide Z1).later ((Below.refl _ _).alloc (Nat.le_refl _) o)
              have c0 : ∀ o, (w1.alloc o).cell? ⟨w.heap.size, 0, none⟩ = some (.int .i64 0) := fun o => (ZL o).row.cell (i := 0) (by omega)
              have f0 : ∀ o, (w1.alloc o).frozen? ⟨w.heap.size, 0, none⟩ = false := fun o => (ZL o).row.frozen 0
              have c1 : ∀ o, (w1.alloc o).cell? ⟨w.heap.size, 1, none⟩ = some (.int .i64 0) := fun o => (ZL o).row.cell (i := 1) (by omega)
              have f1 : ∀ o, (w1.alloc o).frozen? ⟨w.heap.size, 1, none⟩ = false := fun o => (ZL o).row.frozen 1
              have c2 : ∀ o, (w1.alloc o).cell? ⟨w.heap.size, 2, none⟩ = some (.int .i64 0) := fun o => (ZL o).row.cell (i := 2) (by omega)
              have f2 : ∀ o, (w1.alloc o).frozen? ⟨w.heap.size, 2, none⟩ = false := fun o => (ZL o).row.frozen 2
              have c3 : ∀ o, (w1.alloc o).cell? ⟨w.heap.size, 3, none⟩ = some (.int .i64 0) := fun o => (ZL o).row.cell (i := 3) (by omega)
              have f3 : ∀ o, (w1.alloc o).frozen? ⟨w.heap.size, 3, none⟩ = false := fun o => (ZL o).row.frozen 3
              have c4 : ∀ o, (w1.alloc o).cell? ⟨w.heap.size, 4, none⟩ = some (.int .i64 0) := fun o => (ZL o).row.cell (i := 4) (by omega)
              have f4 : ∀ o, (w1.alloc o).frozen? ⟨w.heap.size, 4, none⟩ = false := fun o => (ZL o).row.frozen 4
              have c5 : ∀ o, (w1.alloc o).cell? ⟨w.heap.size, 5, none⟩ = some (.int .i64 0) := fun o => (ZL o).row.cell (i := 5) (by omega)
              have f5 : ∀ o, (w1.alloc o).frozen? ⟨w.heap.size, 5, none⟩ = false := fun o => (ZL o).row.frozen 5
              have c6 : ∀ o, (w1.alloc o).cell? ⟨w.heap.size, 6, none⟩ = some (.int .i64 0) := fun o => (ZL o).row.cell (i := 6) (by omega)
              have f6 : ∀ o, (w1.alloc o).frozen? ⟨w.heap.size, 6, none⟩ = false := fun o => (ZL o).row.frozen 6
              have c7 : ∀ o, (w1.alloc o).cell? ⟨w.heap.size, 7, none⟩ = some (.int .i64 0) := fun o => (ZL o).row.cell (i := 7) (by omega)
              have f7 : ∀ o, (w1.alloc o).frozen? ⟨w.heap.size, 7, none⟩ = false := fun o => (ZL o).row.frozen 7
              have ZZ := hide ZL
              clear ZL hb1 Z1 GC hcell
              go_wp2
              refine bodyPost_ret (results_row2Q (P := Tryz.prog) rfl _ _ w.heap.size 69 (cs8 [(k : Int), 0, 0, 0, 0, 0, 0, (n - bk)]) (0, 0) _ rfl (row8_heap ((unhide ZZ _).put ((k : Int)) (0) (0) (0) (0) (0) (0) ((n - bk))).row) Tryz.underlying69 rfl (by kernel_rfl)) rfl ?_
              exact ⟨by rw [← unhide HD, unhide HOK]; rfl, ((unhide ZZ _).put ((k : Int)) (0) (0) (0) (0) (0) (0) ((n - bk))).bel⟩
            · have M2 := hide (unhide MIS (fun h => hB h.2))
              clear HIT MIS DK
              go_wp2
              go_round
              case rel => exact ⟨k + 1, by omega, by omega, by go_num, unhide M2⟩
              case measure => simp [intOf]; omega
          · have M2 := hide (unhide MIS (fun h => hA h.1))
            clear HIT MIS DK
            go_wp2
            go_round
            case rel => exact ⟨k + 1, by omega, by omega, by go_num, unhide M2⟩
            case measure => simp [intOf]; omega
        · have M3 := hide (show ∀ i, 1 ≤ i → i < firstOf 4 → ¬ Hit n i from fun i x y => hmk.out i x (by simp [firstOf] at y; omega))
          clear hmk
          go_wp2
          go_roundw
          case rel => exact ⟨4, by omega, by go_num, unhide Z, unhide M3⟩
          case measure => simp [intOf]
    · have Z := hide (hrz.later ((Below.refl _ _).alloc (Nat.le_refl _) (Obj.cells #[.int .i64 17, .int .i64 21, .int .i64 256, .func (.func 135) #[] #[], .func (.func 136) #[] #[]] 111)))
      have TW := hide ((unhide TL) _ (unhide Z).bel)
      have MS := hide (show ∀ k, 1 ≤ k → k < 17 → ¬ Hit n k from fun k x y => hms.out k x (by simpa [firstOf] using y))
      clear hrz hms
      go_wp2_with (refine wpList_index_at rfl 112 _ _ rfl formsA 4 _ rfl rfl ix_4 ?_)
      go_loop [6] (fun v6 => ∃ k : Nat, 17 ≤ k ∧ k ≤ 22 ∧ v6 = .int .i64 k ∧ Hid (∀ i, 1 ≤ i → i < k → ¬ Hit n i)) (fun v6 => 22 - (intOf v6).toNat)
      case atStart => exact ⟨17, by omega, by omega, rfl, unhide MS⟩
      case round =>
        clear MS
        obtain ⟨k, hk1, hk2, rfl, hmk⟩ := hrel
        by_cases hk : k ≤ 21
        · have hcell := (unhide TW).2 k (by omega)
          obtain ⟨bk, hbk⟩ : ∃ b, baseAt k = b := ⟨_, rfl⟩
          have hbb := base_bd ⟨k, by omega⟩
          simp only at hbb
          rw [hbk] at hcell hbb
          have HIT := hide (show (bk ≤ n ∧ n - bk < 256) → Hit n k from fun h => by unfold Hit; rw [hbk, cnt_4 k (by omega)]; exact h)
          have MIS := hide (show ¬ (bk ≤ n ∧ n - bk < 256) → ∀ i, 1 ≤ i → i < k + 1 → ¬ Hit n i from fun h i x y => by
            by_cases e : i = k
            · subst e; unfold Hit; rw [hbk, cnt_4 i (by omega)]; exact h
            · exact hmk.out i x (by omega))
          have DK := hide (show Hit n k → getK k (n - bk) = dI n from fun h => by rw [dI_hit (by omega) (by omega) h, hbk])
          clear hbk hmk
          by_cases hA : bk ≤ n
          · by_cases hB : n - bk < 256
            · have hh := unhide HIT ⟨hA, hB⟩
              have hok := okD_hit (by omega) (by omega) hh
              have hdk := unhide DK hh
              rw [getK_br k (by omega)] at hdk
              obtain ⟨gb, hgb⟩ : ∃ g, (if 127 < n - bk then n - bk - 256 else n - bk) = g := ⟨_, rfl⟩
              rw [hgb] at hdk
              have HD := hide hdk
              have HOK := hide hok
              have GC := hide (fun w => getBranch_any (n - bk) (by omega) w)
              rw [hgb] at GC
              clear hh hok hdk HIT MIS DK hgb
              unfold Is.v zO at GC
              simp only at GC
              go_wp2_with fail
              refine (unhide GC _).mono ?_
              rintro e w1 ⟨rfl, hb1⟩
              have Z1 := hide ((unhide Z).later hb1)
              have ZL : ∀ o, Rz w (w1.alloc o) [0, 0, 0, 0, 0, 0, 0, 0] := fun o => (unhide Z1).later ((Below.refl _ _).alloc (Nat.le_refl _) o)
              have c0 : ∀ o, (w1.alloc o).cell? ⟨w.heap.size, 0, none⟩ = some (.int .i64 0) := fun o => (ZL o).row.cell (i := 0) (by omega)
              have f0 : ∀ o, (w1.alloc o).frozen? ⟨w.heap.size, 0, none⟩ = false := fun o => (ZL o).row.frozen 0
              have c1 : ∀ o, (w1.alloc o).cell? ⟨w.heap.size, 1, none⟩ = some (.int .i64 0) := fun o => (ZL o).row.cell (i := 1) (by omega)
              have f1 : ∀ o, (w1.alloc o).frozen? ⟨w.heap.size, 1, none⟩ = false := fun o => (ZL o).row.frozen 1
              have c2 : ∀ o, (w1.alloc o).cell? ⟨w.heap.size, 2, none⟩ = some (.int .i64 0) := fun o => (ZL o).row.cell (i := 2) (by omega)
              have f2 : ∀ o, (w1.alloc o).frozen? ⟨w.heap.size, 2, none⟩ = false := fun o => (ZL o).row.frozen 2
              have c3 : ∀ o, (w1.alloc o).cell? ⟨w.heap.size, 3, none⟩ = some (.int .i64 0) := fun o => (ZL o).row.cell (i := 3) (by omega)
              have f3 : ∀ o, (w1.alloc o).frozen? ⟨w.heap.size, 3, none⟩ = false := fun o => (ZL o).row.frozen 3
              have c4 : ∀ o, (w1.alloc o).cell? ⟨w.heap.size, 4, none⟩ = some (.int .i64 0) := fun o => (ZL o).row.cell (i := 4) (by omega)
              have f4 : ∀ o, (w1.alloc o).frozen? ⟨w.heap.size, 4, none⟩ = false := fun o => (ZL o).row.frozen 4
              have c5 : ∀ o, (w1.alloc o).cell? ⟨w.heap.size, 5, none⟩ = some (.int .i64 0) := fun o => (ZL o).row.cell (i := 5) (by omega)
              have f5 : ∀ o, (w1.alloc o).frozen? ⟨w.heap.size, 5, none⟩ = false := fun o => (ZL o).row.frozen 5
              have c6 : ∀ o, (w1.alloc o).cell? ⟨w.heap.size, 6, none⟩ = some (.int .i64 0) := fun o => (ZL o).row.cell (i := 6) (by omega)
              have f6 : ∀ o, (w1.alloc o).frozen? ⟨w.heap.size, 6, none⟩ = false := fun o => (ZL o).row.frozen 6
              have c7 : ∀ o, (w1.alloc o).cell? ⟨w.heap.size, 7, none⟩ = some (.int .i64 0) := fun o => (ZL o).row.cell (i := 7) (by omega)
              have f7 : ∀ o, (w1.alloc o).frozen? ⟨w.heap.size, 7, none⟩ = false := fun o => (ZL o).row.frozen 7
              have ZZ := hide ZL
              clear ZL hb1 Z1 GC hcell
              go_wp2
              refine bodyPost_ret (results_row2Q (P := Tryz.prog) rfl _ _ w.heap.size 69 (cs8 [(k : Int), 0, 0, 0, 0, 0, 0, gb]) (0, 0) _ rfl (row8_heap ((unhide ZZ _).put ((k : Int)) (0) (0) (0) (0) (0) (0) (gb)).row) Tryz.underlying69 rfl (by kernel_rfl)) rfl ?_
              exact ⟨by rw [← unhide HD, unhide HOK]; rfl, ((unhide ZZ _).put ((k : Int)) (0) (0) (0) (0) (0) (0) (gb)).bel⟩
            · have M2 := hide (unhide MIS (fun h => hB h.2))
              clear HIT MIS DK
              go_wp2
              go_round
              case rel => exact ⟨k + 1, by omega, by omega, by go_num, unhide M2⟩
              case measure => simp [intOf]; omega
          · have M2 := hide (unhide MIS (fun h => hA h.1))
            clear HIT MIS DK
            go_wp2
            go_round
            case rel => exact ⟨k + 1, by omega, by omega, by go_num, unhide M2⟩
            case measure => simp [intOf]; omega
        · have M3 := hide (show ∀ i, 1 ≤ i → i < firstOf 5 → ¬ Hit n i from fun i x y => hmk.out i x (by simp [firstOf] at y; omega))
          clear hmk
          go_wp2
          go_roundw
          case rel => exact ⟨5, by omega, by go_num, unhide Z, unhide M3⟩
          case measure => simp [intOf]
    · have Z := hide (hrz.later ((Below.refl _ _).alloc (Nat.le_refl _) (Obj.cells #[.int .i64 22, .int .i64 22, .int .i64 1, .func (.func 133) #[] #[], .func (.func 134) #[] #[]] 111)))
      have TW := hide ((unhide TL) _ (unhide Z).bel)
      have MS := hide (show ∀ k, 1 ≤ k → k < 22 → ¬ Hit n k from fun k x y => hms.out k x (by simpa [firstOf] using y))
      clear hrz hms
      go_wp2_with (refine wpList_index_at rfl 112 _ _ rfl formsA 5 _ rfl rfl ix_5 ?_)
      go_loop [6] (fun v6 => ∃ k : Nat, 22 ≤ k ∧ k ≤ 23 ∧ v6 = .int .i64 k ∧ Hid (∀ i, 1 ≤ i → i < k → ¬ Hit n i)) (fun v6 => 23 - (intOf v6).toNat)
      case atStart => exact ⟨22, by omega, by omega, rfl, unhide MS⟩
      case round =>
        clear MS
        obtain ⟨k, hk1, hk2, rfl, hmk⟩ := hrel
        by_cases hk : k ≤ 22
        · have hcell := (unhide TW).2 k (by omega)
          obtain ⟨bk, hbk⟩ : ∃ b, baseAt k = b := ⟨_, rfl⟩
          have hbb := base_bd ⟨k, by omega⟩
          simp only at hbb
          rw [hbk] at hcell hbb
          have HIT := hide (show (bk ≤ n ∧ n - bk < 1) → Hit n k from fun h => by unfold Hit; rw [hbk, cnt_5 k (by omega)]; exact h)
          have MIS := hide (show ¬ (bk ≤ n ∧ n - bk < 1) → ∀ i, 1 ≤ i → i < k + 1 → ¬ Hit n i from fun h i x y => by
            by_cases e : i = k
            · subst e; unfold Hit; rw [hbk, cnt_5 i (by omega)]; exact h
            · exact hmk.out i x (by omega))
          have DK := hide (show Hit n k → getK k (n - bk) = dI n from fun h => by rw [dI_hit (by omega) (by omega) h, hbk])
          clear hbk hmk
          by_cases hA : bk ≤ n
          · by_cases hB : n - bk < 1
            · have hh := unhide HIT ⟨hA, hB⟩
              have hok := okD_hit (by omega) (by omega) hh
              have hdk := unhide DK hh
              rw [getK_num k (by omega)] at hdk
              have HD := hide hdk
              have HOK := hide hok
              have GC := hide (fun w => getNumber_any (n - bk) w)
              clear hh hok hdk HIT MIS DK
              unfold Is.v zO at GC
              simp only at GC
              go_wp2_with fail
              refine (unhide GC _).mono ?_
              rintro e w1 ⟨rfl, hb1⟩
              have Z1 := hide ((unhide Z).later hb1)
              have ZL : ∀ o, Rz w (w1.alloc o) [0, 0, 0, 0, 0, 0, 0, 0] := fun o => (unhide Z1).later ((Below.refl _ _).alloc (Nat.le_refl _) o)
              have c0 : ∀ o, (w1.alloc o).cell? ⟨w.heap.size, 0, none⟩ = some (.int .i64 0) := fun o => (ZL o).row.cell (i := 0) (by omega)
              have f0 : ∀ o, (w1.alloc o).frozen? ⟨w.heap.size, 0, none⟩ = false := fun o => (ZL o).row.frozen 0
              have c1 : ∀ o, (w1.alloc o).cell? ⟨w.heap.size, 1, none⟩ = some (.int .i64 0) := fun o => (ZL o).row.cell (i := 1) (by omega)
              have f1 : ∀ o, (w1.alloc o).frozen? ⟨w.heap.size, 1, none⟩ = false := fun o => (ZL o).row.frozen 1
              have c2 : ∀ o, (w1.alloc o).cell? ⟨w.heap.size, 2, none⟩ = some (.int .i64 0) := fun o => (ZL o).row.cell (i := 2) (by omega)
              have f2 : ∀ o, (w1.alloc o).frozen? ⟨w.heap.size, 2, none⟩ = false := fun o => (ZL o).row.frozen 2
              have c3 : ∀ o, (w1.alloc o).cell? ⟨w.heap.size, 3, none⟩ = some (.int .i64 0) := fun o => (ZL o).row.cell (i := 3) (by omega)
              have f3 : ∀ o, (w1.alloc o).frozen? ⟨w.heap.size, 3, none⟩ = false := fun o => (ZL o).row.frozen 3
              have c4 : ∀ o, (w1.alloc o).cell? ⟨w.heap.size, 4, none⟩ = some (.int .i64 0) := fun o => (ZL o).row.cell (i := 4) (by omega)
              have f4 : ∀ o, (w1.alloc o).frozen? ⟨w.heap.size, 4, none⟩ = false := fun o => (ZL o).row.frozen 4
              have c5 : ∀ o, (w1.alloc o).cell? ⟨w.heap.size, 5, none⟩ = some (.int .i64 0) := fun o => (ZL o).row.cell (i := 5) (by omega)
              have f5 : ∀ o, (w1.alloc o).frozen? ⟨w.heap.size, 5, none⟩ = false := fun o => (ZL o).row.frozen 5
              have c6 : ∀ o, (w1.alloc o).cell? ⟨w.heap.size, 6, none⟩ = some (.int .i64 0) := fun o => (ZL o).row.cell (i := 6) (by omega)
              have f6 : ∀ o, (w1.alloc o).frozen? ⟨w.heap.size, 6, none⟩ = false := fun o => (ZL o).row.frozen 6
              have c7 : ∀ o, (w1.alloc o).cell? ⟨w.heap.size, 7, none⟩ = some (.int .i64 0) := fun o => (ZL o).row.cell (i := 7) (by omega)
              have f7 : ∀ o, (w1.alloc o).frozen? ⟨w.heap.size, 7, none⟩ = false := fun o => (ZL o).row.frozen 7
              have ZZ := hide ZL
              clear ZL hb1 Z1 GC hcell
              go_wp2
              refine bodyPost_ret (results_row2Q (P := Tryz.prog) rfl _ _ w.heap.size 69 (cs8 [(k : Int), 0, 0, 0, 0, 0, 0, (n - bk)]) (0, 0) _ rfl (row8_heap ((unhide ZZ _).put ((k : Int)) (0) (0) (0) (0) (0) (0) ((n - bk))).row) Tryz.underlying69 rfl (by kernel_rfl)) rfl ?_
              exact ⟨by rw [← unhide HD, unhide HOK]; rfl, ((unhide ZZ _).put ((k : Int)) (0) (0) (0) (0) (0) (0) ((n - bk))).bel⟩
            · have M2 := hide (unhide MIS (fun h => hB h.2))
              clear HIT MIS DK
              go_wp2
              go_round
              case rel => exact ⟨k + 1, by omega, by omega, by go_num, unhide M2⟩
              case measure => simp [intOf]; omega
          · have M2 := hide (unhide MIS (fun h => hA h.1))
            clear HIT MIS DK
            go_wp2
            go_round
            case rel => exact ⟨k + 1, by omega, by omega, by go_num, unhide M2⟩
            case measure => simp [intOf]; omega
        · have M3 := hide (show ∀ i, 1 ≤ i → i < firstOf 6 → ¬ Hit n i from fun i x y => hmk.out i x (by simp [firstOf] at y; omega))
          clear hmk
          go_wp2
          go_roundw
          case rel => exact ⟨6, by omega, by go_num, unhide Z, unhide M3⟩
          case measure => simp [intOf]
    · have Z := hide (hrz.later ((Below.refl _ _).alloc (Nat.le_refl _) (Obj.cells #[.int .i64 23, .int .i64 23, .int .i64 256, .func (.func 133) #[] #[], .func (.func 134) #[] #[]] 111)))
      have TW := hide ((unhide TL) _ (unhide Z).bel)
      have MS := hide (show ∀ k, 1 ≤ k → k < 23 → ¬ Hit n k from fun k x y => hms.out k x (by simpa [firstOf] using y))
      clear hrz hms
      go_wp2_with (refine wpList_index_at rfl 112 _ _ rfl formsA 6 _ rfl rfl ix_6 ?_)
      go_loop [6] (fun v6 => ∃ k : Nat, 23 ≤ k ∧ k ≤ 24 ∧ v6 = .int .i64 k ∧ Hid (∀ i, 1 ≤ i → i < k → ¬ Hit n i)) (fun v6 => 24 - (intOf v6).toNat)
      case atStart => exact ⟨23, by omega, by omega, rfl, unhide MS⟩
      case round =>
        clear MS
        obtain ⟨k, hk1, hk2, rfl, hmk⟩ := hrel
        by_cases hk : k ≤ 23
        · have hcell := (unhide TW).2 k (by omega)
          obtain ⟨bk, hbk⟩ : ∃ b, baseAt k = b := ⟨_, rfl⟩
          have hbb := base_bd ⟨k, by omega⟩
          simp only at hbb
          rw [hbk] at hcell hbb
          have HIT := hide (show (bk ≤ n ∧ n - bk < 256) → Hit n k from fun h => by unfold Hit; rw [hbk, cnt_6 k (by omega)]; exact h)
          have MIS := hide (show ¬ (bk ≤ n ∧ n - bk < 256) → ∀ i, 1 ≤ i → i < k + 1 → ¬ Hit n i from fun h i x y => by
            by_cases e : i = k
            · subst e; unfold Hit; rw [hbk, cnt_6 i (by omega)]; exact h
            · exact hmk.out i x (by omega))
          have DK := hide (show Hit n k → getK k (n - bk) = dI n from fun h => by rw [dI_hit (by omega) (by omega) h, hbk])
          clear hbk hmk
          by_cases hA : bk ≤ n
          · by_cases hB : n - bk < 256
            · have hh := unhide HIT ⟨hA, hB⟩
              have hok := okD_hit (by omega) (by omega) hh
              have hdk := unhide DK hh
              rw [getK_num k (by omega)] at hdk
              have HD := hide hdk
              have HOK := hide hok
              have GC := hide (fun w => getNumber_any (n - bk) w)
              clear hh hok hdk HIT MIS DK
              unfold Is.v zO at GC
              simp only at GC
              go_wp2_with fail
              refine (unhide GC _).mono ?_
              rintro e w1 ⟨rfl, hb1⟩
              have Z1 := hide ((unhide Z).later hb1)
              have ZL : ∀ o, Rz w (w1.alloc o) [0, 0, 0, 0, 0, 0, 0, 0] := fun o => (unhide Z1).later ((Below.refl _ _).alloc (Nat.le_refl _) o)
              have c0 : ∀ o, (w1.alloc o).cell? ⟨w.heap.size, 0, none⟩ = some (.int .i64 0) := fun o => (ZL o).row.cell (i := 0) (by omega)
              have f0 : ∀ o, (w1.alloc o).frozen? ⟨w.heap.size, 0, none⟩ = false := fun o => (ZL o).row.frozen 0
              have c1 : ∀ o, (w1.alloc o).cell? ⟨w.heap.size, 1, none⟩ = some (.int .i64 0) := fun o => (ZL o).row.cell (i := 1) (by omega)
              have f1 : ∀ o, (w1.alloc o).frozen? ⟨w.heap.size, 1, none⟩ = false := fun o => (ZL o).row.frozen 1
              have c2 : ∀ o, (w1.alloc o).cell? ⟨w.heap.size, 2, none⟩ = some (.int .i64 0) := fun o => (ZL o).row.cell (i := 2) (by omega)
              have f2 : ∀ o, (w1.alloc o).frozen? ⟨w.heap.size, 2, none⟩ = false := fun o => (ZL o).row.frozen 2
              have c3 : ∀ o, (w1.alloc o).cell? ⟨w.heap.size, 3, none⟩ = some (.int .i64 0) := fun o => (ZL o).row.cell (i := 3) (by omega)
              have f3 : ∀ o, (w1.alloc o).frozen? ⟨w.heap.size, 3, none⟩ = false := fun o => (ZL o).row.frozen 3
              have c4 : ∀ o, (w1.alloc o).cell? ⟨w.heap.size, 4, none⟩ = some (.int .i64 0) := fun o => (ZL o).row.cell (i := 4) (by omega)
              have f4 : ∀ o, (w1.alloc o).frozen? ⟨w.heap.size, 4, none⟩ = false := fun o => (ZL o).row.frozen 4
              have c5 : ∀ o, (w1.alloc o).cell? ⟨w.heap.size, 5, none⟩ = some (.int .i64 0) := fun o => (ZL o).row.cell (i := 5) (by omega)
              have f5 : ∀ o, (w1.alloc o).frozen? ⟨w.heap.size, 5, none⟩ = false := fun o => (ZL o).row.frozen 5
              have c6 : ∀ o, (w1.alloc o).cell? ⟨w.heap.size, 6, none⟩ = some (.int .i64 0) := fun o => (ZL o).row.cell (i := 6) (by omega)
              have f6 : ∀ o, (w1.alloc o).frozen? ⟨w.heap.size, 6, none⟩ = false := fun o => (ZL o).row.frozen 6
              have c7 : ∀ o, (w1.alloc o).cell? ⟨w.heap.size, 7, none⟩ = some (.int .i64 0) := fun o => (ZL o).row.cell (i := 7) (by omega)
              have f7 : ∀ o, (w1.alloc o).frozen? ⟨w.heap.size, 7, none⟩ = false := fun o => (ZL o).row.frozen 7
              have ZZ := hide ZL
              clear ZL hb1 Z1 GC hcell
              go_wp2
              refine bodyPost_ret (results_row2Q (P := Tryz.prog) rfl _ _ w.heap.size 69 (cs8 [(k : Int), 0, 0, 0, 0, 0, 0, (n - bk)]) (0, 0) _ rfl (row8_heap ((unhide ZZ _).put ((k : Int)) (0) (0) (0) (0) (0) (0) ((n - bk))).row) Tryz.underlying69 rfl (by kernel_rfl)) rfl ?_
              exact ⟨by rw [← unhide HD, unhide HOK]; rfl, ((unhide ZZ _).put ((k : Int)) (0) (0) (0) (0) (0) (0) ((n - bk))).bel⟩
            · have M2 := hide (unhide MIS (fun h => hB h.2))
              clear HIT MIS DK
              go_wp2
              go_round
              case rel => exact ⟨k + 1, by omega, by omega, by go_num, unhide M2⟩
              case measure => simp [intOf]; omega
          · have M2 := hide (unhide MIS (fun h => hA h.1))
            clear HIT MIS DK
            go_wp2
            go_round
            case rel => exact ⟨k + 1, by omega, by omega, by go_num, unhide M2⟩
            case measure => simp [intOf]; omega
        · have M3 := hide (show ∀ i, 1 ≤ i → i < firstOf 7 → ¬ Hit n i from fun i x y => hmk.out i x (by simp [firstOf] at y; omega))
          clear hmk
          go_wp2
          go_roundw
          case rel => exact ⟨7, by omega, by go_num, unhide Z, unhide M3⟩
          case measure => simp [intOf]
    · have hm : ∀ k, 1 ≤ k → k ≤ 23 → ¬ Hit n k := fun k x y => hms.out k x (by simp [firstOf]; omega)
      have HD := hide (dI_miss hm)
      have HOK := hide (okD_miss hm)
      have Z := hide hrz
      have zz := hrz
      have c0 : wr.cell? ⟨w.heap.size, 0, none⟩ = some (.int .i64 0) := zz.row.cell (i := 0) (by omega)
      have f0 := zz.row.frozen 0
      have c1 : wr.cell? ⟨w.heap.size, 1, none⟩ = some (.int .i64 0) := zz.row.cell (i := 1) (by omega)
      have f1 := zz.row.frozen 1
      have c2 : wr.cell? ⟨w.heap.size, 2, none⟩ = some (.int .i64 0) := zz.row.cell (i := 2) (by omega)
      have f2 := zz.row.frozen 2
      have c3 : wr.cell? ⟨w.heap.size, 3, none⟩ = some (.int .i64 0) := zz.row.cell (i := 3) (by omega)
      have f3 := zz.row.frozen 3
      have c4 : wr.cell? ⟨w.heap.size, 4, none⟩ = some (.int .i64 0) := zz.row.cell (i := 4) (by omega)
      have f4 := zz.row.frozen 4
      have c5 : wr.cell? ⟨w.heap.size, 5, none⟩ = some (.int .i64 0) := zz.row.cell (i := 5) (by omega)
      have f5 := zz.row.frozen 5
      have c6 : wr.cell? ⟨w.heap.size, 6, none⟩ = some (.int .i64 0) := zz.row.cell (i := 6) (by omega)
      have f6 := zz.row.frozen 6
      have c7 : wr.cell? ⟨w.heap.size, 7, none⟩ = some (.int .i64 0) := zz.row.cell (i := 7) (by omega)
      have f7 := zz.row.frozen 7
      clear zz hm hms hrz
      go_wp2
      refine bodyPost_ret (results_row2Q (P := Tryz.prog) rfl _ _ w.heap.size 69 (cs8 [0, 0, 0, 0, 0, 0, 0, 0]) (0, 0) _ rfl (row8_heap ((unhide Z).put 0 0 0 0 0 0 0 0).row) Tryz.underlying69 rfl (by kernel_rfl)) rfl ?_
      exact ⟨by rw [unhide HD, unhide HOK]; rfl, ((unhide Z).put 0 0 0 0 0 0 0 0).bel⟩
end Go.Proofs.YtjpbjbnialehbaaGreatDoor

namespace Go.Proofs.YtjpbjbnialehbaaGreatDoor
open Go.ChangeShapes Go.WideShapes Go.ChangeAt Go.RowKit
set_option linter.unusedVariables false
set_option linter.unusedSimpArgs false
set_option maxHeartbeats 2000000 in
theorem decI_out (a : Option Addr) (len cap : Nat) (ns : List Int) (i : Int) (w : World) (hl : ns.length = len) (hm : len ≤ 1099511627776) (h : i < 0 ∨ (len : Int) ≤ i) :
    Calls Tryz.prog 46 #[.slice a len cap, .int .i64 i] w fun e w' => e = .returned (decV ns i) ∧ Below w.heap.size w w' := by
  have Z := hide (rz_new w)
  have HNO := hide (decOk_out (ns := ns) (i := i) (by unfold decIn; rw [inB_fQ _ _ _ (by omega)]; rfl))
  by_cases h1 : i < 0
  · go_enter Tryz.func46, Tryz.ntmps46
    go_wp2
    refine bodyPost_ret (results_row3 (P := Tryz.prog) rfl _ _ w.heap.size 69 (cs8 [0, 0, 0, 0, 0, 0, 0, 0]) (0, 0) _ rfl (row8_heap (unhide Z).row) Tryz.underlying69 rfl (by kernel_rfl)) rfl ?_
    exact ⟨congrArg Ending.returned (decV_no (unhide HNO)), (unhide Z).bel⟩
  · go_enter Tryz.func46, Tryz.ntmps46
    go_wp2
    refine bodyPost_ret (results_row3 (P := Tryz.prog) rfl _ _ w.heap.size 69 (cs8 [0, 0, 0, 0, 0, 0, 0, 0]) (0, 0) _ rfl (row8_heap (unhide Z).row) Tryz.underlying69 rfl (by kernel_rfl)) rfl ?_
    exact ⟨congrArg Ending.returned (decV_no (unhide HNO)), (unhide Z).bel⟩
set_option maxHeartbeats 2000000 in
set_option maxRecDepth 100000 in
theorem decI_none (b off len cap : Nat) (ns : List Int) (p : Nat) (n : Int) (w : World) (ht : Tab w) (hl : ns.length = len) (hm : len ≤ 1099511627776) (hb : b < w.heap.size) (hc : ∀ i, i < ns.length → w.cell? ⟨b, off + i, none⟩ = some (.int .i64 (nAt ns i)))
    (hp : p < len) (hn : nAt ns p = n) (hn2 : n ≤ 9223372036854775807) (op sm sr dm dr x : Int) (hD : dI n = ⟨op, ⟨sm, sr, 0⟩, ⟨dm, dr, 0⟩, x⟩) (hok : okD n = false) (hno : decOk ns (p : Int) = false) :
    Calls Tryz.prog 46 #[.slice (some ⟨b, off, none⟩) len cap, .int .i64 (p : Int)] w fun e w' => e = .returned (decV ns (p : Int)) ∧ Below w.heap.size w w' := by
  have Z0 := hide (rz_new w)
  have hc0 : ∀ o, (w.alloc o).cell? ⟨b, off + p, none⟩ = some (.int .i64 n) := fun o => by rw [← hn]; exact alloc_cell (hc p (by omega)) o
  have CL := hide (fun (w' : World) (hbel : Below w.heap.size w w') i (hi : i < len) => (hbel.cell (p := ⟨b, off + i, none⟩) hb).trans (hc i (by omega)))
  have IN := hide (fun (w' : World) (hbel : Below w.heap.size w w') => insI_any n hn2 w' (ht.later hbel))
  rw [hok] at IN
  have HNO := hide hno
  rw [hD] at IN
  have WO := hide (fun w => wordsI_anyQ ⟨op, ⟨sm, sr, 0⟩, ⟨dm, dr, 0⟩, x⟩ w)
  generalize hwd : Is.words ⟨op, ⟨sm, sr, 0⟩, ⟨dm, dr, 0⟩, x⟩ = wd at WO
  unfold Is.v at IN WO
  simp only at IN WO
  clear hD hc hok hno hn hwd
  go_enter Tryz.func46, Tryz.ntmps46
  go_wp2_with fail
  refine (unhide IN _ (unhide Z0).bel).mono ?_
  rintro e w1 ⟨rfl, hb1⟩
  have Z1 := hide ((unhide Z0).later hb1)
  have D1 := hide (dz_new (unhide Z1) [op, sm, sr, 0, dm, dr, 0, x])
  clear hb1 Z0 IN Z1
  go_wp2_with fail
  refine (unhide WO _).mono ?_
  rintro e w2 ⟨rfl, hb2⟩
  have D2 := hide ((unhide D1).later hb2)
  clear hb2 D1 WO
  have zz := (unhide D2).rz
  have c0 : w2.cell? ⟨w.heap.size, 0, none⟩ = some (.int .i64 0) := zz.row.cell (i := 0) (by omega)
  have f0 := zz.row.frozen 0
  have c1 : w2.cell? ⟨w.heap.size, 1, none⟩ = some (.int .i64 0) := zz.row.cell (i := 1) (by omega)
  have f1 := zz.row.frozen 1
  have c2 : w2.cell? ⟨w.heap.size, 2, none⟩ = some (.int .i64 0) := zz.row.cell (i := 2) (by omega)
  have f2 := zz.row.frozen 2
  have c3 : w2.cell? ⟨w.heap.size, 3, none⟩ = some (.int .i64 0) := zz.row.cell (i := 3) (by omega)
  have f3 := zz.row.frozen 3
  have c4 : w2.cell? ⟨w.heap.size, 4, none⟩ = some (.int .i64 0) := zz.row.cell (i := 4) (by omega)
  have f4 := zz.row.frozen 4
  have c5 : w2.cell? ⟨w.heap.size, 5, none⟩ = some (.int .i64 0) := zz.row.cell (i := 5) (by omega)
  have f5 := zz.row.frozen 5
  have c6 : w2.cell? ⟨w.heap.size, 6, none⟩ = some (.int .i64 0) := zz.row.cell (i := 6) (by omega)
  have f6 := zz.row.frozen 6
  have c7 : w2.cell? ⟨w.heap.size, 7, none⟩ = some (.int .i64 0) := zz.row.cell (i := 7) (by omega)
  have f7 := zz.row.frozen 7
  clear zz
  go_wp2
  refine bodyPost_ret (results_row3 (P := Tryz.prog) rfl _ _ w.heap.size 69 (cs8 [0, 0, 0, 0, 0, 0, 0, 0]) (0, 0) _ rfl (row8_heap (((unhide D2).rz).put (0) (0) (0) (0) (0) (0) (0) (0)).row) Tryz.underlying69 rfl (by kernel_rfl)) rfl ?_
  refine ⟨congrArg Ending.returned (decV_no (unhide HNO)), (((unhide D2).rz).put (0) (0) (0) (0) (0) (0) (0) (0)).bel⟩
set_option maxHeartbeats 2000000 in
set_option maxRecDepth 100000 in
theorem decI_short (b off len cap : Nat) (ns : List Int) (p : Nat) (n : Int) (w : World) (ht : Tab w) (hl : ns.length = len) (hm : len ≤ 1099511627776) (hb : b < w.heap.size) (hc : ∀ i, i < ns.length → w.cell? ⟨b, off + i, none⟩ = some (.int .i64 (nAt ns i)))
    (hp : p < len) (hn : nAt ns p = n) (hn2 : n ≤ 9223372036854775807) (op sm sr dm dr x : Int) (hD : dI n = ⟨op, ⟨sm, sr, 0⟩, ⟨dm, dr, 0⟩, x⟩) (hok : okD n = true) (hsh : (len : Int) - p < Is.words ⟨op, ⟨sm, sr, 0⟩, ⟨dm, dr, 0⟩, x⟩) (hno : decOk ns (p : Int) = false) :
    Calls Tryz.prog 46 #[.slice (some ⟨b, off, none⟩) len cap, .int .i64 (p : Int)] w fun e w' => e = .returned (decV ns (p : Int)) ∧ Below w.heap.size w w' := by
  have Z0 := hide (rz_new w)
  have hc0 : ∀ o, (w.alloc o).cell? ⟨b, off + p, none⟩ = some (.int .i64 n) := fun o => by rw [← hn]; exact alloc_cell (hc p (by omega)) o
  have CL := hide (fun (w' : World) (hbel : Below w.heap.size w w') i (hi : i < len) => (hbel.cell (p := ⟨b, off + i, none⟩) hb).trans (hc i (by omega)))
  have IN := hide (fun (w' : World) (hbel : Below w.heap.size w w') => insI_any n hn2 w' (ht.later hbel))
  rw [hok] at IN
  have HNO := hide hno
  rw [hD] at IN
  have WO := hide (fun w => wordsI_anyQ ⟨op, ⟨sm, sr, 0⟩, ⟨dm, dr, 0⟩, x⟩ w)
  generalize hwd : Is.words ⟨op, ⟨sm, sr, 0⟩, ⟨dm, dr, 0⟩, x⟩ = wd at WO
  unfold Is.v at IN WO
  simp only at IN WO
  rw [hwd] at hsh
  clear hD hc hok hno hn hwd
  go_enter Tryz.func46, Tryz.ntmps46
  go_wp2_with fail
  refine (unhide IN _ (unhide Z0).bel).mono ?_
  rintro e w1 ⟨rfl, hb1⟩
  have Z1 := hide ((unhide Z0).later hb1)
  have D1 := hide (dz_new (unhide Z1) [op, sm, sr, 0, dm, dr, 0, x])
  clear hb1 Z0 IN Z1
  go_wp2_with fail
  refine (unhide WO _).mono ?_
  rintro e w2 ⟨rfl, hb2⟩
  have D2 := hide ((unhide D1).later hb2)
  clear hb2 D1 WO
  have zz := (unhide D2).rz
  have c0 : w2.cell? ⟨w.heap.size, 0, none⟩ = some (.int .i64 0) := zz.row.cell (i := 0) (by omega)
  have f0 := zz.row.frozen 0
  have c1 : w2.cell? ⟨w.heap.size, 1, none⟩ = some (.int .i64 0) := zz.row.cell (i := 1) (by omega)
  have f1 := zz.row.frozen 1
  have c2 : w2.cell? ⟨w.heap.size, 2, none⟩ = some (.int .i64 0) := zz.row.cell (i := 2) (by omega)
  have f2 := zz.row.frozen 2
  have c3 : w2.cell? ⟨w.heap.size, 3, none⟩ = some (.int .i64 0) := zz.row.cell (i := 3) (by omega)
  have f3 := zz.row.frozen 3
  have c4 : w2.cell? ⟨w.heap.size, 4, none⟩ = some (.int .i64 0) := zz.row.cell (i := 4) (by omega)
  have f4 := zz.row.frozen 4
  have c5 : w2.cell? ⟨w.heap.size, 5, none⟩ = some (.int .i64 0) := zz.row.cell (i := 5) (by omega)
  have f5 := zz.row.frozen 5
  have c6 : w2.cell? ⟨w.heap.size, 6, none⟩ = some (.int .i64 0) := zz.row.cell (i := 6) (by omega)
  have f6 := zz.row.frozen 6
  have c7 : w2.cell? ⟨w.heap.size, 7, none⟩ = some (.int .i64 0) := zz.row.cell (i := 7) (by omega)
  have f7 := zz.row.frozen 7
  clear zz
  go_wp2
  refine bodyPost_ret (results_row3 (P := Tryz.prog) rfl _ _ w.heap.size 69 (cs8 [0, 0, 0, 0, 0, 0, 0, 0]) (0, 0) _ rfl (row8_heap (((unhide D2).rz).put (0) (0) (0) (0) (0) (0) (0) (0)).row) Tryz.underlying69 rfl (by kernel_rfl)) rfl ?_
  refine ⟨congrArg Ending.returned (decV_no (unhide HNO)), (((unhide D2).rz).put (0) (0) (0) (0) (0) (0) (0) (0)).bel⟩
set_option maxHeartbeats 4000000 in
set_option maxRecDepth 100000 in
theorem decI_in (b off len cap : Nat) (ns : List Int) (p : Nat) (n : Int) (w : World) (ht : Tab w) (hl : ns.length = len) (hm : len ≤ 1099511627776) (hb : b < w.heap.size) (hc : ∀ i, i < ns.length → w.cell? ⟨b, off + i, none⟩ = some (.int .i64 (nAt ns i)))
    (hp : p < len) (hn : nAt ns p = n) (hn2 : n ≤ 9223372036854775807) (op sm sr dm dr x : Int) (sX dX : Bool) (sv dv : Int) (hD : dI n = ⟨op, ⟨sm, sr, 0⟩, ⟨dm, dr, 0⟩, x⟩) (hok : okD n = true)
    (hsX : Od.hasX ⟨sm, sr, 0⟩ = sX) (hdX : Od.hasX ⟨dm, dr, 0⟩ = dX) (hsv : sv = if sX = true then nAt ns (p + 1) else 0) (hdv : dv = if dX = true then nAt ns (p + 1 + oneX sX) else 0)
    (hwn : Is.words ⟨op, ⟨sm, sr, 0⟩, ⟨dm, dr, 0⟩, x⟩ = 1 + (oneX sX + oneX dX : Nat)) (hfit : p + 1 + (oneX sX + oneX dX) ≤ len) (hX : decX ns (p : Int) = ⟨op, ⟨sm, sr, sv⟩, ⟨dm, dr, dv⟩, x⟩) (hN : (dOp (nAt ns (p : Int).toNat)).need = oneX sX + oneX dX) (hO : decOk ns (p : Int) = Is.ok ⟨op, ⟨sm, sr, sv⟩, ⟨dm, dr, dv⟩, x⟩) :
    Calls Tryz.prog 46 #[.slice (some ⟨b, off, none⟩) len cap, .int .i64 (p : Int)] w fun e w' => e = .returned (decV ns (p : Int)) ∧ Below w.heap.size w w' := by
  have Z0 := hide (rz_new w)
  have hc0 : ∀ o, (w.alloc o).cell? ⟨b, off + p, none⟩ = some (.int .i64 n) := fun o => by rw [← hn]; exact alloc_cell (hc p (by omega)) o
  have CL := hide (fun (w' : World) (hbel : Below w.heap.size w w') i (hi : i < len) => (hbel.cell (p := ⟨b, off + i, none⟩) hb).trans (hc i (by omega)))
  have IN := hide (fun (w' : World) (hbel : Below w.heap.size w w') => insI_any n hn2 w' (ht.later hbel))
  rw [hok] at IN
  rw [hD] at IN
  have WO := hide (fun w => wordsI_anyQ ⟨op, ⟨sm, sr, 0⟩, ⟨dm, dr, 0⟩, x⟩ w)
  generalize hwd : Is.words ⟨op, ⟨sm, sr, 0⟩, ⟨dm, dr, 0⟩, x⟩ = wd at WO
  unfold Is.v at IN WO
  simp only at IN WO
  rw [hwd] at hwn
  have hns : ¬ (len : Int) - p < wd := by omega
  have FS := hide (fun w => hasXI_anyQ ⟨sm, sr, 0⟩ w)
  have FD := hide (fun w => hasXI_anyQ ⟨dm, dr, 0⟩ w)
  rw [hsX] at FS
  rw [hdX] at FD
  unfold Od.v at FS FD
  simp only at FS FD
  have FO := hide (fun w => insOkI_any ⟨op, ⟨sm, sr, sv⟩, ⟨dm, dr, dv⟩, x⟩ w)
  unfold Is.v at FO
  simp only at FO
  have HSV := hide hsv
  have HDV := hide hdv
  have HX := hide hX
  have HNN := hide hN
  have HO := hide hO
  have HWN := hide hwn
  clear hD hc hok hn hwd hsX hdX hsv hdv hX hN hO hwn
  go_enter Tryz.func46, Tryz.ntmps46
  go_wp2_with fail
  refine (unhide IN _ (unhide Z0).bel).mono ?_
  rintro e w1 ⟨rfl, hb1⟩
  have Z1 := hide ((unhide Z0).later hb1)
  have D1 := hide (dz_new (unhide Z1) [op, sm, sr, 0, dm, dr, 0, x])
  clear hb1 Z0 IN Z1
  go_wp2_with fail
  refine (unhide WO _).mono ?_
  rintro e w2 ⟨rfl, hb2⟩
  have D2 := hide ((unhide D1).later hb2)
  clear hb2 D1 WO
  have dd := unhide D2
  have x0 : w2.cell? ⟨w1.heap.size, 0, none⟩ = some (.int .i64 (op)) := dd.row.cell (i := 0) (by omega)
  have g0 := dd.row.frozen 0
  have x1 : w2.cell? ⟨w1.heap.size, 1, none⟩ = some (.int .i64 (sm)) := dd.row.cell (i := 1) (by omega)
  have g1 := dd.row.frozen 1
  have x2 : w2.cell? ⟨w1.heap.size, 2, none⟩ = some (.int .i64 (sr)) := dd.row.cell (i := 2) (by omega)
  have g2 := dd.row.frozen 2
  have x3 : w2.cell? ⟨w1.heap.size, 3, none⟩ = some (.int .i64 (0)) := dd.row.cell (i := 3) (by omega)
  have g3 := dd.row.frozen 3
  have x4 : w2.cell? ⟨w1.heap.size, 4, none⟩ = some (.int .i64 (dm)) := dd.row.cell (i := 4) (by omega)
  have g4 := dd.row.frozen 4
  have x5 : w2.cell? ⟨w1.heap.size, 5, none⟩ = some (.int .i64 (dr)) := dd.row.cell (i := 5) (by omega)
  have g5 := dd.row.frozen 5
  have x6 : w2.cell? ⟨w1.heap.size, 6, none⟩ = some (.int .i64 (0)) := dd.row.cell (i := 6) (by omega)
  have g6 := dd.row.frozen 6
  have x7 : w2.cell? ⟨w1.heap.size, 7, none⟩ = some (.int .i64 (x)) := dd.row.cell (i := 7) (by omega)
  have g7 := dd.row.frozen 7
  clear dd
  go_wp2_with fail
  go_loopw [10, 48] (fun v10 v48 wr => ∃ j t : Nat, j ≤ 2 ∧ v48 = .int .i64 j ∧ v10 = .int .i64 t ∧ t = p + 1 + (if 1 ≤ j then oneX sX else 0) + (if 2 ≤ j then oneX dX else 0) ∧ Dz w wr w1.heap.size [op, sm, sr, (if 1 ≤ j then sv else 0), dm, dr, (if 2 ≤ j then dv else 0), x]) (fun _ v48 _ => 2 - (intOf v48).toNat)
  case atStart => exact ⟨0, p + 1, by omega, rfl, by go_num, by simp, by simpa using unhide D2⟩
  case round =>
    clear D2 x0 g0 x1 g1 x2 g2 x3 g3 x4 g4 x5 g5 x6 g6 x7 g7
    obtain ⟨j, t, hj, rfl, rfl, htt, hdz⟩ := hrel
    obtain rfl | rfl | rfl : j = 0 ∨ j = 1 ∨ j = 2 := by omega
    · simp only [if_pos, if_neg, Nat.le_refl, show ¬ (1 : Nat) ≤ 0 by omega, show ¬ (2 : Nat) ≤ 0 by omega, show ¬ (2 : Nat) ≤ 1 by omega, if_false, if_true, Nat.add_zero] at htt hdz
      have Dr := hide hdz
      have HTT := hide htt
      clear hdz htt
      have dd := unhide Dr
      have x0 : wr.cell? ⟨w1.heap.size, 0, none⟩ = some (.int .i64 (op)) := dd.row.cell (i := 0) (by omega)
      have g0 := dd.row.frozen 0
      have x1 : wr.cell? ⟨w1.heap.size, 1, none⟩ = some (.int .i64 (sm)) := dd.row.cell (i := 1) (by omega)
      have g1 := dd.row.frozen 1
      have x2 : wr.cell? ⟨w1.heap.size, 2, none⟩ = some (.int .i64 (sr)) := dd.row.cell (i := 2) (by omega)
      have g2 := dd.row.frozen 2
      have x3 : wr.cell? ⟨w1.heap.size, 3, none⟩ = some (.int .i64 (0)) := dd.row.cell (i := 3) (by omega)
      have g3 := dd.row.frozen 3
      have x4 : wr.cell? ⟨w1.heap.size, 4, none⟩ = some (.int .i64 (dm)) := dd.row.cell (i := 4) (by omega)
      have g4 := dd.row.frozen 4
      have x5 : wr.cell? ⟨w1.heap.size, 5, none⟩ = some (.int .i64 (dr)) := dd.row.cell (i := 5) (by omega)
      have g5 := dd.row.frozen 5
      have x6 : wr.cell? ⟨w1.heap.size, 6, none⟩ = some (.int .i64 (0)) := dd.row.cell (i := 6) (by omega)
      have g6 := dd.row.frozen 6
      have x7 : wr.cell? ⟨w1.heap.size, 7, none⟩ = some (.int .i64 (x)) := dd.row.cell (i := 7) (by omega)
      have g7 := dd.row.frozen 7
      clear dd
      go_wp2_with (refine wpList_index_at rfl 86 _ _ rfl #[.pointer (some ⟨w1.heap.size, 1, none⟩), .pointer (some ⟨w1.heap.size, 4, none⟩)] 0 (.pointer (some ⟨w1.heap.size, 1, none⟩)) rfl rfl (fun w => by kernel_rfl) ?_)
      refine (unhide FS _).mono ?_
      rintro e w3 ⟨rfl, hb3⟩
      have D3 := hide ((unhide Dr).later hb3)
      clear hb3 Dr x0 g0 x1 g1 x2 g2 x3 g3 x4 g4 x5 g5 x6 g6 x7 g7
      have HV := unhide HSV
      cases sX
      · simp only [Bool.false_eq_true, if_false] at HV
        have D4 := hide (show Dz w w3 w1.heap.size [op, sm, sr, sv, dm, dr, 0, x] by rw [HV]; exact unhide D3)
        clear HV
        go_wp2
        go_roundw
        case rel => exact ⟨1, t, by omega, by go_num, rfl, by have := unhide HTT; simp [oneX] at this ⊢; omega, by simpa using unhide D4⟩
        case measure => simp [intOf]
      · simp only [if_true] at HV
        have htl : t < len := by have := unhide HTT; simp [oneX] at hfit this; omega
        have hk := unhide CL w3 (unhide D3).rz.bel t htl
        have dd := unhide D3
        have x0 : w3.cell? ⟨w1.heap.size, 0, none⟩ = some (.int .i64 (op)) := dd.row.cell (i := 0) (by omega)
        have g0 := dd.row.frozen 0
        have x1 : w3.cell? ⟨w1.heap.size, 1, none⟩ = some (.int .i64 (sm)) := dd.row.cell (i := 1) (by omega)
        have g1 := dd.row.frozen 1
        have x2 : w3.cell? ⟨w1.heap.size, 2, none⟩ = some (.int .i64 (sr)) := dd.row.cell (i := 2) (by omega)
        have g2 := dd.row.frozen 2
        have x3 : w3.cell? ⟨w1.heap.size, 3, none⟩ = some (.int .i64 (0)) := dd.row.cell (i := 3) (by omega)
        have g3 := dd.row.frozen 3
        have x4 : w3.cell? ⟨w1.heap.size, 4, none⟩ = some (.int .i64 (dm)) := dd.row.cell (i := 4) (by omega)
        have g4 := dd.row.frozen 4
        have x5 : w3.cell? ⟨w1.heap.size, 5, none⟩ = some (.int .i64 (dr)) := dd.row.cell (i := 5) (by omega)
        have g5 := dd.row.frozen 5
        have x6 : w3.cell? ⟨w1.heap.size, 6, none⟩ = some (.int .i64 (0)) := dd.row.cell (i := 6) (by omega)
        have g6 := dd.row.frozen 6
        have x7 : w3.cell? ⟨w1.heap.size, 7, none⟩ = some (.int .i64 (x)) := dd.row.cell (i := 7) (by omega)
        have g7 := dd.row.frozen 7
        clear dd
        have D4 := hide (show Dz w (w3.setCell ⟨w1.heap.size, 3, none⟩ (.int .i64 (nAt ns t))) w1.heap.size [op, sm, sr, sv, dm, dr, 0, x] from by
          rw [HV, ← unhide HTT]
          exact (unhide D3).set 3 (nAt ns t) _ (fun j hj => by rcases j with _ | _ | _ | _ | _ | _ | _ | _ | j <;> first | rfl | omega))
        clear HV
        go_wp2
        go_roundw
        case rel => exact ⟨1, t + 1, by omega, by go_num, by go_num, by have := unhide HTT; simp [oneX] at this ⊢; omega, by simpa using unhide D4⟩
        case measure => simp [intOf]
    · simp only [if_pos, if_neg, Nat.le_refl, show ¬ (1 : Nat) ≤ 0 by omega, show ¬ (2 : Nat) ≤ 0 by omega, show ¬ (2 : Nat) ≤ 1 by omega, if_false, if_true, Nat.add_zero] at htt hdz
      have Dr := hide hdz
      have HTT := hide htt
      clear hdz htt
      have dd := unhide Dr
      have x0 : wr.cell? ⟨w1.heap.size, 0, none⟩ = some (.int .i64 (op)) := dd.row.cell (i := 0) (by omega)
      have g0 := dd.row.frozen 0
      have x1 : wr.cell? ⟨w1.heap.size, 1, none⟩ = some (.int .i64 (sm)) := dd.row.cell (i := 1) (by omega)
      have g1 := dd.row.frozen 1
      have x2 : wr.cell? ⟨w1.heap.size, 2, none⟩ = some (.int .i64 (sr)) := dd.row.cell (i := 2) (by omega)
      have g2 := dd.row.frozen 2
      have x3 : wr.cell? ⟨w1.heap.size, 3, none⟩ = some (.int .i64 (sv)) := dd.row.cell (i := 3) (by omega)
      have g3 := dd.row.frozen 3
      have x4 : wr.cell? ⟨w1.heap.size, 4, none⟩ = some (.int .i64 (dm)) := dd.row.cell (i := 4) (by omega)
      have g4 := dd.row.frozen 4
      have x5 : wr.cell? ⟨w1.heap.size, 5, none⟩ = some (.int .i64 (dr)) := dd.row.cell (i := 5) (by omega)
      have g5 := dd.row.frozen 5
      have x6 : wr.cell? ⟨w1.heap.size, 6, none⟩ = some (.int .i64 (0)) := dd.row.cell (i := 6) (by omega)
      have g6 := dd.row.frozen 6
      have x7 : wr.cell? ⟨w1.heap.size, 7, none⟩ = some (.int .i64 (x)) := dd.row.cell (i := 7) (by omega)
      have g7 := dd.row.frozen 7
      clear dd
      go_wp2_with (refine wpList_index_at rfl 86 _ _ rfl #[.pointer (some ⟨w1.heap.size, 1, none⟩), .pointer (some ⟨w1.heap.size, 4, none⟩)] 1 (.pointer (some ⟨w1.heap.size, 4, none⟩)) rfl rfl (fun w => by kernel_rfl) ?_)
      refine (unhide FD _).mono ?_
      rintro e w3 ⟨rfl, hb3⟩
      have D3 := hide ((unhide Dr).later hb3)
      clear hb3 Dr x0 g0 x1 g1 x2 g2 x3 g3 x4 g4 x5 g5 x6 g6 x7 g7
      have HV := unhide HDV
      cases dX
      · simp only [Bool.false_eq_true, if_false] at HV
        have D4 := hide (show Dz w w3 w1.heap.size [op, sm, sr, sv, dm, dr, dv, x] by rw [HV]; exact unhide D3)
        clear HV
        go_wp2
        go_roundw
        case rel => exact ⟨2, t, by omega, by go_num, rfl, by have := unhide HTT; simp [oneX] at this ⊢; omega, by simpa using unhide D4⟩
        case measure => simp [intOf]
      · simp only [if_true] at HV
        have htl : t < len := by have := unhide HTT; simp [oneX] at hfit this; omega
        have hk := unhide CL w3 (unhide D3).rz.bel t htl
        have dd := unhide D3
        have x0 : w3.cell? ⟨w1.heap.size, 0, none⟩ = some (.int .i64 (op)) := dd.row.cell (i := 0) (by omega)
        have g0 := dd.row.frozen 0
        have x1 : w3.cell? ⟨w1.heap.size, 1, none⟩ = some (.int .i64 (sm)) := dd.row.cell (i := 1) (by omega)
        have g1 := dd.row.frozen 1
        have x2 : w3.cell? ⟨w1.heap.size, 2, none⟩ = some (.int .i64 (sr)) := dd.row.cell (i := 2) (by omega)
        have g2 := dd.row.frozen 2
        have x3 : w3.cell? ⟨w1.heap.size, 3, none⟩ = some (.int .i64 (sv)) := dd.row.cell (i := 3) (by omega)
        have g3 := dd.row.frozen 3
        have x4 : w3.cell? ⟨w1.heap.size, 4, none⟩ = some (.int .i64 (dm)) := dd.row.cell (i := 4) (by omega)
        have g4 := dd.row.frozen 4
        have x5 : w3.cell? ⟨w1.heap.size, 5, none⟩ = some (.int .i64 (dr)) := dd.row.cell (i := 5) (by omega)
        have g5 := dd.row.frozen 5
        have x6 : w3.cell? ⟨w1.heap.size, 6, none⟩ = some (.int .i64 (0)) := dd.row.cell (i := 6) (by omega)
        have g6 := dd.row.frozen 6
        have x7 : w3.cell? ⟨w1.heap.size, 7, none⟩ = some (.int .i64 (x)) := dd.row.cell (i := 7) (by omega)
        have g7 := dd.row.frozen 7
        clear dd
        have D4 := hide (show Dz w (w3.setCell ⟨w1.heap.size, 6, none⟩ (.int .i64 (nAt ns t))) w1.heap.size [op, sm, sr, sv, dm, dr, dv, x] from by
          rw [HV, ← unhide HTT]
          exact (unhide D3).set 6 (nAt ns t) _ (fun j hj => by rcases j with _ | _ | _ | _ | _ | _ | _ | _ | j <;> first | rfl | omega))
        clear HV
        go_wp2
        go_roundw
        case rel => exact ⟨2, t + 1, by omega, by go_num, by go_num, by have := unhide HTT; simp [oneX] at this ⊢; omega, by simpa using unhide D4⟩
        case measure => simp [intOf]
    · simp only [show (1 : Nat) ≤ 2 by omega, Nat.le_refl, if_true] at htt hdz
      have Dr := hide hdz
      clear hdz
      have dd := unhide Dr
      have x0 : wr.cell? ⟨w1.heap.size, 0, none⟩ = some (.int .i64 (op)) := dd.row.cell (i := 0) (by omega)
      have g0 := dd.row.frozen 0
      have x1 : wr.cell? ⟨w1.heap.size, 1, none⟩ = some (.int .i64 (sm)) := dd.row.cell (i := 1) (by omega)
      have g1 := dd.row.frozen 1
      have x2 : wr.cell? ⟨w1.heap.size, 2, none⟩ = some (.int .i64 (sr)) := dd.row.cell (i := 2) (by omega)
      have g2 := dd.row.frozen 2
      have x3 : wr.cell? ⟨w1.heap.size, 3, none⟩ = some (.int .i64 (sv)) := dd.row.cell (i := 3) (by omega)
      have g3 := dd.row.frozen 3
      have x4 : wr.cell? ⟨w1.heap.size, 4, none⟩ = some (.int .i64 (dm)) := dd.row.cell (i := 4) (by omega)
      have g4 := dd.row.frozen 4
      have x5 : wr.cell? ⟨w1.heap.size, 5, none⟩ = some (.int .i64 (dr)) := dd.row.cell (i := 5) (by omega)
      have g5 := dd.row.frozen 5
      have x6 : wr.cell? ⟨w1.heap.size, 6, none⟩ = some (.int .i64 (dv)) := dd.row.cell (i := 6) (by omega)
      have g6 := dd.row.frozen 6
      have x7 : wr.cell? ⟨w1.heap.size, 7, none⟩ = some (.int .i64 (x)) := dd.row.cell (i := 7) (by omega)
      have g7 := dd.row.frozen 7
      clear dd
      go_wp2_with fail
      refine (unhide FO _).mono ?_
      rintro e w9 ⟨rfl, hb9⟩
      have D9 := hide ((unhide Dr).later hb9)
      clear hb9 Dr x0 g0 x1 g1 x2 g2 x3 g3 x4 g4 x5 g5 x6 g6 x7 g7 FO
      have zz := (unhide D9).rz
      have c0 : w9.cell? ⟨w.heap.size, 0, none⟩ = some (.int .i64 0) := zz.row.cell (i := 0) (by omega)
      have f0 := zz.row.frozen 0
      have c1 : w9.cell? ⟨w.heap.size, 1, none⟩ = some (.int .i64 0) := zz.row.cell (i := 1) (by omega)
      have f1 := zz.row.frozen 1
      have c2 : w9.cell? ⟨w.heap.size, 2, none⟩ = some (.int .i64 0) := zz.row.cell (i := 2) (by omega)
      have f2 := zz.row.frozen 2
      have c3 : w9.cell? ⟨w.heap.size, 3, none⟩ = some (.int .i64 0) := zz.row.cell (i := 3) (by omega)
      have f3 := zz.row.frozen 3
      have c4 : w9.cell? ⟨w.heap.size, 4, none⟩ = some (.int .i64 0) := zz.row.cell (i := 4) (by omega)
      have f4 := zz.row.frozen 4
      have c5 : w9.cell? ⟨w.heap.size, 5, none⟩ = some (.int .i64 0) := zz.row.cell (i := 5) (by omega)
      have f5 := zz.row.frozen 5
      have c6 : w9.cell? ⟨w.heap.size, 6, none⟩ = some (.int .i64 0) := zz.row.cell (i := 6) (by omega)
      have f6 := zz.row.frozen 6
      have c7 : w9.cell? ⟨w.heap.size, 7, none⟩ = some (.int .i64 0) := zz.row.cell (i := 7) (by omega)
      have f7 := zz.row.frozen 7
      clear zz
      have dd := unhide D9
      have x0 : w9.cell? ⟨w1.heap.size, 0, none⟩ = some (.int .i64 (op)) := dd.row.cell (i := 0) (by omega)
      have g0 := dd.row.frozen 0
      have x1 : w9.cell? ⟨w1.heap.size, 1, none⟩ = some (.int .i64 (sm)) := dd.row.cell (i := 1) (by omega)
      have g1 := dd.row.frozen 1
      have x2 : w9.cell? ⟨w1.heap.size, 2, none⟩ = some (.int .i64 (sr)) := dd.row.cell (i := 2) (by omega)
      have g2 := dd.row.frozen 2
      have x3 : w9.cell? ⟨w1.heap.size, 3, none⟩ = some (.int .i64 (sv)) := dd.row.cell (i := 3) (by omega)
      have g3 := dd.row.frozen 3
      have x4 : w9.cell? ⟨w1.heap.size, 4, none⟩ = some (.int .i64 (dm)) := dd.row.cell (i := 4) (by omega)
      have g4 := dd.row.frozen 4
      have x5 : w9.cell? ⟨w1.heap.size, 5, none⟩ = some (.int .i64 (dr)) := dd.row.cell (i := 5) (by omega)
      have g5 := dd.row.frozen 5
      have x6 : w9.cell? ⟨w1.heap.size, 6, none⟩ = some (.int .i64 (dv)) := dd.row.cell (i := 6) (by omega)
      have g6 := dd.row.frozen 6
      have x7 : w9.cell? ⟨w1.heap.size, 7, none⟩ = some (.int .i64 (x)) := dd.row.cell (i := 7) (by omega)
      have g7 := dd.row.frozen 7
      clear dd
      have HO' := unhide HO
      cases hok : Is.ok ⟨op, ⟨sm, sr, sv⟩, ⟨dm, dr, dv⟩, x⟩
      · rw [hok] at HO'
        have HNO := hide HO'
        clear HO'
        go_wp2
        refine bodyPost_ret (results_row3 (P := Tryz.prog) rfl _ _ w.heap.size 69 (cs8 [0, 0, 0, 0, 0, 0, 0, 0]) (0, 0) _ rfl (row8_heap (((unhide D9).rz).put (0) (0) (0) (0) (0) (0) (0) (0)).row) Tryz.underlying69 rfl (by kernel_rfl)) rfl ?_
        refine ⟨congrArg Ending.returned (decV_no (unhide HNO)), (((unhide D9).rz).put (0) (0) (0) (0) (0) (0) (0) (0)).bel⟩
      · rw [hok] at HO'
        have HYES := hide HO'
        clear HO'
        go_wp2
        refine bodyPost_ret (results_row3 (P := Tryz.prog) rfl _ _ w.heap.size 69 (cs8 [op, sm, sr, sv, dm, dr, dv, x]) (0, 0) _ rfl (row8_heap (((unhide D9).rz).put (op) (sm) (sr) (sv) (dm) (dr) (dv) (x)).row) Tryz.underlying69 rfl (by kernel_rfl)) rfl ?_
        refine ⟨congrArg Ending.returned (Eq.trans ?_ (decV_yes (unhide HYES))), (((unhide D9).rz).put (op) (sm) (sr) (sv) (dm) (dr) (dv) (x)).bel⟩
        rw [unhide HX, unhide HNN]
        refine congrArg (fun z : Int => Value.tuple #[_, Value.int .i64 z, Value.bool true]) ?_
        rw [unhide HWN]
end Go.Proofs.YtjpbjbnialehbaaGreatDoor
