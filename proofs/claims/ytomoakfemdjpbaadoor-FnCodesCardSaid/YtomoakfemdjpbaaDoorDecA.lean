/- Contracts of chapter 4's model (the instruction of a word), over a trial's translation; conditions stand as hypotheses of each. -/
import Derived.Test.YtomoakfemdjpbaaDoorBits
namespace Go.Proofs.YtomoakfemdjpbaaDoor
open Go.ChangeShapes Go.WideShapes Go.ChangeAt Go.RowKit
set_option linter.unusedVariables false

/-- The answer's block while it is looked for. -/
structure Rz (w wr : World) (l : List Int) : Prop where
  bel : Below w.heap.size w wr
  row : wr.rowIs w.heap.size 27 8 (c8 l)
theorem Rz.later {w wr w' : World} {l : List Int} (h : Rz w wr l) (hb : Below wr.heap.size wr w') : Rz w w' l := ⟨h.bel.trans (hb.mono h.bel.size), h.row.of_block (hb.block _ h.row.lt)⟩
theorem Rz.set {w wr : World} {l : List Int} (h : Rz w wr l) (k : Nat) (x : Int) (l' : List Int) (he : ∀ j, j < 8 → (if j = k then Value.int .i64 x else c8 l j) = c8 l' j) : Rz w (wr.setCell ⟨w.heap.size, k, none⟩ (.int .i64 x)) l' :=
  ⟨h.bel.setCell (Nat.le_refl _) _, row8_set h.row k x he⟩
theorem Rz.put {w wr : World} {y0 y1 y2 y3 y4 y5 y6 y7 : Int} (h : Rz w wr [y0, y1, y2, y3, y4, y5, y6, y7]) (x0 x1 x2 x3 x4 x5 x6 x7 : Int) : Rz w ((((((((wr.setCell ⟨w.heap.size, 0, none⟩ (.int .i64 x0)).setCell ⟨w.heap.size, 1, none⟩ (.int .i64 x1)).setCell ⟨w.heap.size, 2, none⟩ (.int .i64 x2)).setCell ⟨w.heap.size, 3, none⟩ (.int .i64 x3)).setCell ⟨w.heap.size, 4, none⟩ (.int .i64 x4)).setCell ⟨w.heap.size, 5, none⟩ (.int .i64 x5)).setCell ⟨w.heap.size, 6, none⟩ (.int .i64 x6)).setCell ⟨w.heap.size, 7, none⟩ (.int .i64 x7)) [x0, x1, x2, x3, x4, x5, x6, x7] :=
  ((((((((h.set 0 x0 [x0, y1, y2, y3, y4, y5, y6, y7] (fun j hj => by rcases j with _ | _ | _ | _ | _ | _ | _ | _ | j <;> first | rfl | omega)).set 1 x1 [x0, x1, y2, y3, y4, y5, y6, y7] (fun j hj => by rcases j with _ | _ | _ | _ | _ | _ | _ | _ | j <;> first | rfl | omega)).set 2 x2 [x0, x1, x2, y3, y4, y5, y6, y7] (fun j hj => by rcases j with _ | _ | _ | _ | _ | _ | _ | _ | j <;> first | rfl | omega)).set 3 x3 [x0, x1, x2, x3, y4, y5, y6, y7] (fun j hj => by rcases j with _ | _ | _ | _ | _ | _ | _ | _ | j <;> first | rfl | omega)).set 4 x4 [x0, x1, x2, x3, x4, y5, y6, y7] (fun j hj => by rcases j with _ | _ | _ | _ | _ | _ | _ | _ | j <;> first | rfl | omega)).set 5 x5 [x0, x1, x2, x3, x4, x5, y6, y7] (fun j hj => by rcases j with _ | _ | _ | _ | _ | _ | _ | _ | j <;> first | rfl | omega)).set 6 x6 [x0, x1, x2, x3, x4, x5, x6, y7] (fun j hj => by rcases j with _ | _ | _ | _ | _ | _ | _ | _ | j <;> first | rfl | omega)).set 7 x7 [x0, x1, x2, x3, x4, x5, x6, x7] (fun j hj => by rcases j with _ | _ | _ | _ | _ | _ | _ | _ | j <;> first | rfl | omega))
theorem rz_new (w : World) : Rz w (w.alloc (Obj.cells (cs8 [0, 0, 0, 0, 0, 0, 0, 0]) 27)) [0, 0, 0, 0, 0, 0, 0, 0] := ⟨(Below.refl _ _).alloc (Nat.le_refl _) _, row8 w _ 27⟩

def zO : Od := ⟨0, 0, 0⟩
/-- The first of so many Ops from lo on whose word is m; 0: none. -/
def findOp (m : Int) (lo : Nat) : Nat → Nat
  | 0 => 0
  | c + 1 => if baseAt lo = m then lo else findOp m (lo + 1) c
theorem find_hit (m : Int) : ∀ (c lo k : Nat), lo ≤ k → k < lo + c → (∀ j, lo ≤ j → j < k → baseAt j ≠ m) → baseAt k = m → findOp m lo c = k
  | 0, lo, k, h1, h2, _, _ => by omega
  | c + 1, lo, k, h1, h2, h3, h4 => by
    unfold findOp
    by_cases e : lo = k
    · subst e; rw [if_pos h4]
    · rw [if_neg (h3 lo (Nat.le_refl _) (by omega))]
      exact find_hit m c (lo + 1) k (by omega) (by omega) (fun j a b => h3 j (by omega) b) h4
theorem find_none (m : Int) : ∀ (c lo : Nat), (∀ j, lo ≤ j → j < lo + c → baseAt j ≠ m) → findOp m lo c = 0
  | 0, _, _ => rfl
  | c + 1, lo, h => by
    unfold findOp
    rw [if_neg (h lo (Nat.le_refl _) (by omega))]
    exact find_none m c (lo + 1) (fun j a b => h j (by omega) (by omega))
/-- The instruction of a word, without what it has behind. -/
def dOp (n : Int) : Is :=
  if n = 0 then ⟨22, zO, zO, 0⟩
  else if findOp (n / 4096 * 4096) 1 6 ≠ 0 then ⟨(findOp (n / 4096 * 4096) 1 6 : Nat), opdOf (n / 64), opdOf n, 0⟩
  else if findOp (n / 64 * 64) 7 8 ≠ 0 then ⟨(findOp (n / 64 * 64) 7 8 : Nat), zO, opdOf n, 0⟩
  else if n / 512 * 512 = 2048 then ⟨15, zO, opdOf n, n / 64 % 8⟩
  else if n / 8 * 8 = 128 then ⟨16, zO, zO, n % 8⟩
  else if n / 256 * 256 = 34816 then ⟨23, zO, zO, n % 256⟩
  else if findOp (n / 256 * 256) 17 5 ≠ 0 then ⟨(findOp (n / 256 * 256) 17 5 : Nat), zO, zO, if 127 < n % 256 then n % 256 - 256 else n % 256⟩
  else ⟨0, zO, zO, 0⟩
theorem l4Opd_int (x : Int) (h0 : 0 ≤ x) (h1 : x < 65536) (w : World) : Calls Tryd.prog 51 #[.int .i64 x] w fun e w' => e = .returned (opdOf x).v ∧ Below w.heap.size w w' := by
  obtain ⟨n, rfl⟩ := Int.eq_ofNat_of_zero_le h0
  exact l4Opd_any n (by omega) w

set_option maxHeartbeats 4000000 in
set_option maxRecDepth 100000 in
theorem l4Op_any (n : Nat) (hn : n < 65536) (w : World) : Calls Tryd.prog 34 #[.int .i64 (n : Int)] w fun e w' => e = .returned (dOp (n : Int)).v ∧ Below w.heap.size w w' := by
  have R0 := hide (rz_new w)
  by_cases h0 : n = 0
  · subst h0
    go_enter Tryd.func34, Tryd.ntmps34
    go_wp2
    refine bodyPost_ret (results_cell_row (P := Tryd.prog) rfl _ _ w.heap.size 27 (cs8 [22, 0, 0, 0, 0, 0, 0, 0]) (0, 0) _ rfl (row8_heap (row8 w [22, 0, 0, 0, 0, 0, 0, 0] 27)) Tryd.underlying27 rfl (by kernel_rfl)) rfl ?_
    exact ⟨rfl, (Below.refl _ _).alloc (Nat.le_refl _) _⟩
  have hne : ((n : Int) == 0) = false := beq_eq_false_iff_ne.2 (by omega)
  have hn0 : ¬ (n : Int) = 0 := by omega
  have HN0 := hide hn0
  clear h0 hn0
  have g1 : bits .and .i64 (n : Int) 61440 = (n : Int) / 4096 * 4096 := by rw [and_F000 n hn]; omega
  have g2 : bits .and .i64 (n : Int) 65472 = (n : Int) / 64 * 64 := by rw [and_FFC0 n hn]; omega
  have g3 : bits .and .i64 (n : Int) 65024 = (n : Int) / 512 * 512 := by rw [and_FE00 n hn]; omega
  have g4 : bits .and .i64 (n : Int) 65528 = (n : Int) / 8 * 8 := by rw [and_FFF8 n hn]; omega
  have g5 : bits .and .i64 (n : Int) 65280 = (n : Int) / 256 * 256 := by rw [and_FF00 n hn]; omega
  have g6 := and_7i n hn
  have g7 := and_FFi n hn
  have g8 := sh6_7 n hn
  obtain ⟨m1, hm1⟩ : ∃ m, (n : Int) / 4096 * 4096 = m := ⟨_, rfl⟩
  obtain ⟨m2, hm2⟩ : ∃ m, (n : Int) / 64 * 64 = m := ⟨_, rfl⟩
  obtain ⟨m3, hm3⟩ : ∃ m, (n : Int) / 512 * 512 = m := ⟨_, rfl⟩
  obtain ⟨m4, hm4⟩ : ∃ m, (n : Int) / 8 * 8 = m := ⟨_, rfl⟩
  obtain ⟨m5, hm5⟩ : ∃ m, (n : Int) / 256 * 256 = m := ⟨_, rfl⟩
  rw [hm1] at g1
  rw [hm2] at g2
  rw [hm3] at g3
  rw [hm4] at g4
  rw [hm5] at g5
  have M1 := hide hm1
  have M2 := hide hm2
  have M3 := hide hm3
  have M4 := hide hm4
  have M5 := hide hm5
  clear hm1 hm2 hm3 hm4 hm5
  go_enter Tryd.func34, Tryd.ntmps34
  go_wp2
  have RS := R0
  clear R0
  go_loopw [3] (fun i wr => ∃ k : Nat, 1 ≤ k ∧ k ≤ 7 ∧ i = .int .i64 (k : Int) ∧ Rz w wr [0, 0, 0, 0, 0, 0, 0, 0] ∧ Hid (∀ j, 1 ≤ j → j < k → baseAt j ≠ m1)) (fun i _ => 7 - (intOf i).toNat)
  case atStart => exact ⟨1, by omega, by omega, rfl, unhide RS, fun j _ _ => by omega⟩
  case round =>
    clear RS
    obtain ⟨k, hk1, hk7, rfl, hrz, hall⟩ := hrel
    by_cases hk : k ≤ 6
    · have Z := hide hrz
      clear hrz
      obtain ⟨bk, hbk⟩ : ∃ b, baseAt k = b := ⟨_, rfl⟩
      have HBK := hide hbk
      clear hbk
      go_wp2_with fail
      refine (base_any k (by omega) _).mono ?_
      rintro e w1 ⟨rfl, hb⟩
      rw [unhide HBK]
      have Z1 := hide ((unhide Z).later hb)
      clear Z hb
      by_cases hit : m1 = bk
      · have hq : (m1 == bk) = true := by simp [hit]
        have HF := hide (find_hit m1 6 1 k hk1 (by omega) hall.out ((unhide HBK).trans hit.symm))
        have HD := hide (show (⟨(k : Nat), opdOf ((n : Int) / 64), opdOf (n : Int), 0⟩ : Is) = dOp (n : Int) by unfold dOp; rw [if_neg (unhide HN0), unhide M1, unhide HF, if_pos (by omega)])
        clear hit hall
        go_wp2_with fail
        refine (l4Opd_int ((n : Int) / 64) (by omega) (by omega) _).mono ?_
        rintro e w2 ⟨rfl, hb⟩
        have Z2 := hide ((unhide Z1).later hb)
        clear hb
        go_wp2_with fail
        refine (l4Opd_int ((n : Int)) (by omega) (by omega) _).mono ?_
        rintro e w3 ⟨rfl, hb⟩
        have Z3 := hide ((unhide Z2).later hb)
        clear hb
        have zz := unhide Z3
        have c0 : w3.cell? ⟨w.heap.size, 0, none⟩ = some (.int .i64 0) := zz.row.cell (i := 0) (by omega)
        have f0 := zz.row.frozen 0
        have c1 : w3.cell? ⟨w.heap.size, 1, none⟩ = some (.int .i64 0) := zz.row.cell (i := 1) (by omega)
        have f1 := zz.row.frozen 1
        have c2 : w3.cell? ⟨w.heap.size, 2, none⟩ = some (.int .i64 0) := zz.row.cell (i := 2) (by omega)
        have f2 := zz.row.frozen 2
        have c3 : w3.cell? ⟨w.heap.size, 3, none⟩ = some (.int .i64 0) := zz.row.cell (i := 3) (by omega)
        have f3 := zz.row.frozen 3
        have c4 : w3.cell? ⟨w.heap.size, 4, none⟩ = some (.int .i64 0) := zz.row.cell (i := 4) (by omega)
        have f4 := zz.row.frozen 4
        have c5 : w3.cell? ⟨w.heap.size, 5, none⟩ = some (.int .i64 0) := zz.row.cell (i := 5) (by omega)
        have f5 := zz.row.frozen 5
        have c6 : w3.cell? ⟨w.heap.size, 6, none⟩ = some (.int .i64 0) := zz.row.cell (i := 6) (by omega)
        have f6 := zz.row.frozen 6
        have c7 : w3.cell? ⟨w.heap.size, 7, none⟩ = some (.int .i64 0) := zz.row.cell (i := 7) (by omega)
        have f7 := zz.row.frozen 7
        clear zz
        unfold opdOf Od.v
        simp only
        go_wp2
        refine bodyPost_ret (results_cell_row (P := Tryd.prog) rfl _ _ w.heap.size 27 (cs8 [(k : Int), (n : Int) / 64 / 8 % 8, (n : Int) / 64 % 8, 0, (n : Int) / 8 % 8, (n : Int) % 8, 0, 0]) (0, 0) _ rfl (row8_heap ((unhide Z3).put ((k : Int)) ((n : Int) / 64 / 8 % 8) ((n : Int) / 64 % 8) (0) ((n : Int) / 8 % 8) ((n : Int) % 8) (0) (0)).row) Tryd.underlying27 rfl (by kernel_rfl)) rfl ?_
        exact ⟨by rw [← unhide HD]; rfl, ((unhide Z3).put ((k : Int)) ((n : Int) / 64 / 8 % 8) ((n : Int) / 64 % 8) (0) ((n : Int) / 8 % 8) ((n : Int) % 8) (0) (0)).bel⟩
      · have hq : (m1 == bk) = false := beq_eq_false_iff_ne.2 hit
        have HA := hide (show ∀ j, 1 ≤ j → j < k + 1 → baseAt j ≠ m1 from fun j a b => by
          by_cases e : j = k
          · subst e; rw [unhide HBK]; exact fun e => hit e.symm
          · exact hall.out j a (by omega))
        clear hit hall
        go_wp2
        go_roundw
        case rel => exact ⟨k + 1, by omega, by omega, by go_num, unhide Z1, unhide HA⟩
        case measure => simp [intOf]; omega
    · have F1 := hide (find_none m1 6 1 (fun j a b => hall.out j a (by omega)))
      have RS := hide hrz
      clear hrz hall
      go_wp2
      go_loopw [4] (fun i wr => ∃ k : Nat, 7 ≤ k ∧ k ≤ 15 ∧ i = .int .i64 (k : Int) ∧ Rz w wr [0, 0, 0, 0, 0, 0, 0, 0] ∧ Hid (∀ j, 7 ≤ j → j < k → baseAt j ≠ m2)) (fun i _ => 15 - (intOf i).toNat)
      case atStart => exact ⟨7, by omega, by omega, rfl, unhide RS, fun j _ _ => by omega⟩
      case round =>
        clear RS
        obtain ⟨k, hk1, hk7, rfl, hrz, hall⟩ := hrel
        by_cases hk : k ≤ 14
        · have Z := hide hrz
          clear hrz
          obtain ⟨bk, hbk⟩ : ∃ b, baseAt k = b := ⟨_, rfl⟩
          have HBK := hide hbk
          clear hbk
          go_wp2_with fail
          refine (base_any k (by omega) _).mono ?_
          rintro e w1 ⟨rfl, hb⟩
          rw [unhide HBK]
          have Z1 := hide ((unhide Z).later hb)
          clear Z hb
          by_cases hit : m2 = bk
          · have hq : (m2 == bk) = true := by simp [hit]
            have HF := hide (find_hit m2 8 7 k hk1 (by omega) hall.out ((unhide HBK).trans hit.symm))
            have HD := hide (show (⟨(k : Nat), zO, opdOf (n : Int), 0⟩ : Is) = dOp (n : Int) by unfold dOp; rw [if_neg (unhide HN0), unhide M1, unhide F1, if_neg (by simp), unhide M2, unhide HF, if_pos (by omega)])
            clear hit hall
            go_wp2_with fail
            refine (l4Opd_int ((n : Int)) (by omega) (by omega) _).mono ?_
            rintro e w3 ⟨rfl, hb⟩
            have Z3 := hide ((unhide Z1).later hb)
            clear hb
            have zz := unhide Z3
            have c0 : w3.cell? ⟨w.heap.size, 0, none⟩ = some (.int .i64 0) := zz.row.cell (i := 0) (by omega)
            have f0 := zz.row.frozen 0
            have c1 : w3.cell? ⟨w.heap.size, 1, none⟩ = some (.int .i64 0) := zz.row.cell (i := 1) (by omega)
            have f1 := zz.row.frozen 1
            have c2 : w3.cell? ⟨w.heap.size, 2, none⟩ = some (.int .i64 0) := zz.row.cell (i := 2) (by omega)
            have f2 := zz.row.frozen 2
            have c3 : w3.cell? ⟨w.heap.size, 3, none⟩ = some (.int .i64 0) := zz.row.cell (i := 3) (by omega)
            have f3 := zz.row.frozen 3
            have c4 : w3.cell? ⟨w.heap.size, 4, none⟩ = some (.int .i64 0) := zz.row.cell (i := 4) (by omega)
            have f4 := zz.row.frozen 4
            have c5 : w3.cell? ⟨w.heap.size, 5, none⟩ = some (.int .i64 0) := zz.row.cell (i := 5) (by omega)
            have f5 := zz.row.frozen 5
            have c6 : w3.cell? ⟨w.heap.size, 6, none⟩ = some (.int .i64 0) := zz.row.cell (i := 6) (by omega)
            have f6 := zz.row.frozen 6
            have c7 : w3.cell? ⟨w.heap.size, 7, none⟩ = some (.int .i64 0) := zz.row.cell (i := 7) (by omega)
            have f7 := zz.row.frozen 7
            clear zz
            unfold opdOf Od.v
            simp only
            go_wp2
            refine bodyPost_ret (results_cell_row (P := Tryd.prog) rfl _ _ w.heap.size 27 (cs8 [(k : Int), 0, 0, 0, (n : Int) / 8 % 8, (n : Int) % 8, 0, 0]) (0, 0) _ rfl (row8_heap ((unhide Z3).put ((k : Int)) (0) (0) (0) ((n : Int) / 8 % 8) ((n : Int) % 8) (0) (0)).row) Tryd.underlying27 rfl (by kernel_rfl)) rfl ?_
            exact ⟨by rw [← unhide HD]; rfl, ((unhide Z3).put ((k : Int)) (0) (0) (0) ((n : Int) / 8 % 8) ((n : Int) % 8) (0) (0)).bel⟩
          · have hq : (m2 == bk) = false := beq_eq_false_iff_ne.2 hit
            have HA := hide (show ∀ j, 7 ≤ j → j < k + 1 → baseAt j ≠ m2 from fun j a b => by
              by_cases e : j = k
              · subst e; rw [unhide HBK]; exact fun e => hit e.symm
              · exact hall.out j a (by omega))
            clear hit hall
            go_wp2
            go_roundw
            case rel => exact ⟨k + 1, by omega, by omega, by go_num, unhide Z1, unhide HA⟩
            case measure => simp [intOf]; omega
        · have F7 := hide (find_none m2 8 7 (fun j a b => hall.out j a (by omega)))
          have RS := hide hrz
          clear hrz hall
          by_cases h3 : m3 = 2048
          · have hq : (m3 == 2048) = true := by simp [h3]
            have HD := hide (show (⟨15, zO, opdOf (n : Int), (n : Int) / 64 % 8⟩ : Is) = dOp (n : Int) by unfold dOp; rw [if_neg (unhide HN0), unhide M1, unhide F1, if_neg (by simp), unhide M2, unhide F7, if_neg (by simp), unhide M3, if_pos h3])
            clear h3
            go_wp2_with fail
            refine (l4Opd_int ((n : Int)) (by omega) (by omega) _).mono ?_
            rintro e w3 ⟨rfl, hb⟩
            have Z3 := hide ((unhide RS).later hb)
            clear hb
            have zz := unhide Z3
            have c0 : w3.cell? ⟨w.heap.size, 0, none⟩ = some (.int .i64 0) := zz.row.cell (i := 0) (by omega)
            have f0 := zz.row.frozen 0
            have c1 : w3.cell? ⟨w.heap.size, 1, none⟩ = some (.int .i64 0) := zz.row.cell (i := 1) (by omega)
            have f1 := zz.row.frozen 1
            have c2 : w3.cell? ⟨w.heap.size, 2, none⟩ = some (.int .i64 0) := zz.row.cell (i := 2) (by omega)
            have f2 := zz.row.frozen 2
            have c3 : w3.cell? ⟨w.heap.size, 3, none⟩ = some (.int .i64 0) := zz.row.cell (i := 3) (by omega)
            have f3 := zz.row.frozen 3
            have c4 : w3.cell? ⟨w.heap.size, 4, none⟩ = some (.int .i64 0) := zz.row.cell (i := 4) (by omega)
            have f4 := zz.row.frozen 4
            have c5 : w3.cell? ⟨w.heap.size, 5, none⟩ = some (.int .i64 0) := zz.row.cell (i := 5) (by omega)
            have f5 := zz.row.frozen 5
            have c6 : w3.cell? ⟨w.heap.size, 6, none⟩ = some (.int .i64 0) := zz.row.cell (i := 6) (by omega)
            have f6 := zz.row.frozen 6
            have c7 : w3.cell? ⟨w.heap.size, 7, none⟩ = some (.int .i64 0) := zz.row.cell (i := 7) (by omega)
            have f7 := zz.row.frozen 7
            clear zz
            unfold opdOf Od.v
            simp only
            go_wp2
            refine bodyPost_ret (results_cell_row (P := Tryd.prog) rfl _ _ w.heap.size 27 (cs8 [15, 0, 0, 0, (n : Int) / 8 % 8, (n : Int) % 8, 0, (n : Int) / 64 % 8]) (0, 0) _ rfl (row8_heap ((unhide Z3).put (15) (0) (0) (0) ((n : Int) / 8 % 8) ((n : Int) % 8) (0) ((n : Int) / 64 % 8)).row) Tryd.underlying27 rfl (by kernel_rfl)) rfl ?_
            exact ⟨by rw [← unhide HD]; rfl, ((unhide Z3).put (15) (0) (0) (0) ((n : Int) / 8 % 8) ((n : Int) % 8) (0) ((n : Int) / 64 % 8)).bel⟩
          · have hq3 : (m3 == 2048) = false := beq_eq_false_iff_ne.2 h3
            have H3 := hide h3
            clear h3
            by_cases h4 : m4 = 128
            · have hq : (m4 == 128) = true := by simp [h4]
              have HD := hide (show (⟨16, zO, zO, (n : Int) % 8⟩ : Is) = dOp (n : Int) by unfold dOp; rw [if_neg (unhide HN0), unhide M1, unhide F1, if_neg (by simp), unhide M2, unhide F7, if_neg (by simp), unhide M3, if_neg (unhide H3), unhide M4, if_pos h4])
              clear h4
              have zz := unhide RS
              have c0 : wr.cell? ⟨w.heap.size, 0, none⟩ = some (.int .i64 0) := zz.row.cell (i := 0) (by omega)
              have f0 := zz.row.frozen 0
              have c1 : wr.cell? ⟨w.heap.size, 1, none⟩ = some (.int .i64 0) := zz.row.cell (i := 1) (by omega)
              have f1 := zz.row.frozen 1
              have c2 : wr.cell? ⟨w.heap.size, 2, none⟩ = some (.int .i64 0) := zz.row.cell (i := 2) (by omega)
              have f2 := zz.row.frozen 2
              have c3 : wr.cell? ⟨w.heap.size, 3, none⟩ = some (.int .i64 0) := zz.row.cell (i := 3) (by omega)
              have f3 := zz.row.frozen 3
              have c4 : wr.cell? ⟨w.heap.size, 4, none⟩ = some (.int .i64 0) := zz.row.cell (i := 4) (by omega)
              have f4 := zz.row.frozen 4
              have c5 : wr.cell? ⟨w.heap.size, 5, none⟩ = some (.int .i64 0) := zz.row.cell (i := 5) (by omega)
              have f5 := zz.row.frozen 5
              have c6 : wr.cell? ⟨w.heap.size, 6, none⟩ = some (.int .i64 0) := zz.row.cell (i := 6) (by omega)
              have f6 := zz.row.frozen 6
              have c7 : wr.cell? ⟨w.heap.size, 7, none⟩ = some (.int .i64 0) := zz.row.cell (i := 7) (by omega)
              have f7 := zz.row.frozen 7
              clear zz
              go_wp2
              refine bodyPost_ret (results_cell_row (P := Tryd.prog) rfl _ _ w.heap.size 27 (cs8 [16, 0, 0, 0, 0, 0, 0, (n : Int) % 8]) (0, 0) _ rfl (row8_heap ((unhide RS).put (16) (0) (0) (0) (0) (0) (0) ((n : Int) % 8)).row) Tryd.underlying27 rfl (by kernel_rfl)) rfl ?_
              exact ⟨by rw [← unhide HD]; rfl, ((unhide RS).put (16) (0) (0) (0) (0) (0) (0) ((n : Int) % 8)).bel⟩
            · have hq4 : (m4 == 128) = false := beq_eq_false_iff_ne.2 h4
              have H4 := hide h4
              clear h4
              by_cases h5 : m5 = 34816
              · have hq : (m5 == 34816) = true := by simp [h5]
                have HD := hide (show (⟨23, zO, zO, (n : Int) % 256⟩ : Is) = dOp (n : Int) by unfold dOp; rw [if_neg (unhide HN0), unhide M1, unhide F1, if_neg (by simp), unhide M2, unhide F7, if_neg (by simp), unhide M3, if_neg (unhide H3), unhide M4, if_neg (unhide H4), unhide M5, if_pos h5])
                clear h5
                have zz := unhide RS
                have c0 : wr.cell? ⟨w.heap.size, 0, none⟩ = some (.int .i64 0) := zz.row.cell (i := 0) (by omega)
                have f0 := zz.row.frozen 0
                have c1 : wr.cell? ⟨w.heap.size, 1, none⟩ = some (.int .i64 0) := zz.row.cell (i := 1) (by omega)
                have f1 := zz.row.frozen 1
                have c2 : wr.cell? ⟨w.heap.size, 2, none⟩ = some (.int .i64 0) := zz.row.cell (i := 2) (by omega)
                have f2 := zz.row.frozen 2
                have c3 : wr.cell? ⟨w.heap.size, 3, none⟩ = some (.int .i64 0) := zz.row.cell (i := 3) (by omega)
                have f3 := zz.row.frozen 3
                have c4 : wr.cell? ⟨w.heap.size, 4, none⟩ = some (.int .i64 0) := zz.row.cell (i := 4) (by omega)
                have f4 := zz.row.frozen 4
                have c5 : wr.cell? ⟨w.heap.size, 5, none⟩ = some (.int .i64 0) := zz.row.cell (i := 5) (by omega)
                have f5 := zz.row.frozen 5
                have c6 : wr.cell? ⟨w.heap.size, 6, none⟩ = some (.int .i64 0) := zz.row.cell (i := 6) (by omega)
                have f6 := zz.row.frozen 6
                have c7 : wr.cell? ⟨w.heap.size, 7, none⟩ = some (.int .i64 0) := zz.row.cell (i := 7) (by omega)
                have f7 := zz.row.frozen 7
                clear zz
                go_wp2
                refine bodyPost_ret (results_cell_row (P := Tryd.prog) rfl _ _ w.heap.size 27 (cs8 [23, 0, 0, 0, 0, 0, 0, (n : Int) % 256]) (0, 0) _ rfl (row8_heap ((unhide RS).put (23) (0) (0) (0) (0) (0) (0) ((n : Int) % 256)).row) Tryd.underlying27 rfl (by kernel_rfl)) rfl ?_
                exact ⟨by rw [← unhide HD]; rfl, ((unhide RS).put (23) (0) (0) (0) (0) (0) (0) ((n : Int) % 256)).bel⟩
              · have hq5 : (m5 == 34816) = false := beq_eq_false_iff_ne.2 h5
                have H5 := hide h5
                clear h5
                go_wp2
                go_loopw [5] (fun i wr => ∃ k : Nat, 17 ≤ k ∧ k ≤ 22 ∧ i = .int .i64 (k : Int) ∧ Rz w wr [0, 0, 0, 0, 0, 0, 0, 0] ∧ Hid (∀ j, 17 ≤ j → j < k → baseAt j ≠ m5)) (fun i _ => 22 - (intOf i).toNat)
                case atStart => exact ⟨17, by omega, by omega, rfl, unhide RS, fun j _ _ => by omega⟩
                case round =>
                  clear RS
                  obtain ⟨k, hk1, hk7, rfl, hrz, hall⟩ := hrel
                  by_cases hk : k ≤ 21
                  · have Z := hide hrz
                    clear hrz
                    obtain ⟨bk, hbk⟩ : ∃ b, baseAt k = b := ⟨_, rfl⟩
                    have HBK := hide hbk
                    clear hbk
                    go_wp2_with fail
                    refine (base_any k (by omega) _).mono ?_
                    rintro e w1 ⟨rfl, hb⟩
                    rw [unhide HBK]
                    have Z1 := hide ((unhide Z).later hb)
                    clear Z hb
                    by_cases hit : m5 = bk
                    · have hq : (m5 == bk) = true := by simp [hit]
                      have HF := hide (find_hit m5 5 17 k hk1 (by omega) hall.out ((unhide HBK).trans hit.symm))
                      have hk0 : k ≠ 0 := by omega
                      have HD2 := hide (fun (x : Int) (hx : (if 127 < (n : Int) % 256 then (n : Int) % 256 - 256 else (n : Int) % 256) = x) => show (⟨(k : Nat), zO, zO, x⟩ : Is) = dOp (n : Int) by unfold dOp; rw [if_neg (unhide HN0), unhide M1, unhide F1, if_neg (by simp), unhide M2, unhide F7, if_neg (by simp), unhide M3, if_neg (unhide H3), unhide M4, if_neg (unhide H4), unhide M5, if_neg (unhide H5), unhide HF, if_pos hk0, hx])
                      clear hk0
                      clear hit hall
                      have ZL : ∀ o, Rz w (w1.alloc o) [0, 0, 0, 0, 0, 0, 0, 0] := fun o => (unhide Z1).later ((Below.refl _ _).alloc (Nat.le_refl _) o)
                      have c0 : ∀ o, (w1.alloc o).cell? ⟨w.heap.size, 0, none⟩ = some (.int .i64 0) := fun o => (ZL o).row.cell (i := 0) (by omega)
                      have f0 : ∀ o, (w1.alloc o).frozen? ⟨w.heap.size, 0, none⟩ = false := fun o => (ZL o).row.frozen 0
                      have c1 : ∀ o, (w1.alloc o).cell? ⟨w.heap.size, 1, none⟩ = some (.int .i64 0) := fun o => (ZL o).row.cell (i := 1) (by omega)
                      have f1 : ∀ o, (w1.alloc o).frozen? ⟨w.heap.size, 1, none⟩ = false := fun o => (ZL o).row.frozen 1
                      have c2 : ∀ o, (w1.alloc o).cell? ⟨w.heap.size, 2, none⟩ = some (.int .i64 0) := fun o => (ZL o).row.cell (i := 2) (by omega)
                      have f2 : ∀ o, (w1.alloc o).frozen? ⟨w.heap.size, 2, none⟩ = false := fun o => (ZL o).row.frozen 2
                      have c3 : ∀ o, (w1.alloc o).cell? ⟨w.heap.size, 3, none⟩ = some (.int .i64 0) := fun o => (ZL o).row.cell (i := 3) (by omega)
                      have f3 : ∀ o, (w1.alloc o).frozen? ⟨w.heap.size, 3, none⟩ = false := fun o => (ZL o).row.frozen 3
                      have c4 : ∀ o, (w1.alloc o).cell? ⟨w.heap.size, 4, none⟩ = some (.int .i64 0) := fun o => (ZL o).row.cell (i := 4) (by omega)
                      have f4 : ∀ o, (w1.alloc o).frozen? ⟨w.heap.size, 4, none⟩ = false := fun o => (ZL o).row.frozen 4
                      have c5 : ∀ o, (w1.alloc o).cell? ⟨w.heap.size, 5, none⟩ = some (.int .i64 0) := fun o => (ZL o).row.cell (i := 5) (by omega)
                      have f5 : ∀ o, (w1.alloc o).frozen? ⟨w.heap.size, 5, none⟩ = false := fun o => (ZL o).row.frozen 5
                      have c6 : ∀ o, (w1.alloc o).cell? ⟨w.heap.size, 6, none⟩ = some (.int .i64 0) := fun o => (ZL o).row.cell (i := 6) (by omega)
                      have f6 : ∀ o, (w1.alloc o).frozen? ⟨w.heap.size, 6, none⟩ = false := fun o => (ZL o).row.frozen 6
                      have c7 : ∀ o, (w1.alloc o).cell? ⟨w.heap.size, 7, none⟩ = some (.int .i64 0) := fun o => (ZL o).row.cell (i := 7) (by omega)
                      have f7 : ∀ o, (w1.alloc o).frozen? ⟨w.heap.size, 7, none⟩ = false := fun o => (ZL o).row.frozen 7
                      have ZZ := hide ZL
                      clear ZL
                      by_cases hs : 127 < (n : Int) % 256
                      · have HD := hide (show (⟨(k : Nat), zO, zO, (n : Int) % 256 - 256⟩ : Is) = dOp (n : Int) from unhide HD2 _ (if_pos hs))
                        go_wp2
                        refine bodyPost_ret (results_cell_row (P := Tryd.prog) rfl _ _ w.heap.size 27 (cs8 [(k : Int), 0, 0, 0, 0, 0, 0, (n : Int) % 256 - 256]) (0, 0) _ rfl (row8_heap ((unhide ZZ _).put ((k : Int)) (0) (0) (0) (0) (0) (0) ((n : Int) % 256 - 256)).row) Tryd.underlying27 rfl (by kernel_rfl)) rfl ?_
                        exact ⟨by rw [← unhide HD]; rfl, ((unhide ZZ _).put ((k : Int)) (0) (0) (0) (0) (0) (0) ((n : Int) % 256 - 256)).bel⟩
                      · have HD := hide (show (⟨(k : Nat), zO, zO, (n : Int) % 256⟩ : Is) = dOp (n : Int) from unhide HD2 _ (if_neg hs))
                        go_wp2
                        refine bodyPost_ret (results_cell_row (P := Tryd.prog) rfl _ _ w.heap.size 27 (cs8 [(k : Int), 0, 0, 0, 0, 0, 0, (n : Int) % 256]) (0, 0) _ rfl (row8_heap ((unhide ZZ _).put ((k : Int)) (0) (0) (0) (0) (0) (0) ((n : Int) % 256)).row) Tryd.underlying27 rfl (by kernel_rfl)) rfl ?_
                        exact ⟨by rw [← unhide HD]; rfl, ((unhide ZZ _).put ((k : Int)) (0) (0) (0) (0) (0) (0) ((n : Int) % 256)).bel⟩
                    · have hq : (m5 == bk) = false := beq_eq_false_iff_ne.2 hit
                      have HA := hide (show ∀ j, 17 ≤ j → j < k + 1 → baseAt j ≠ m5 from fun j a b => by
                        by_cases e : j = k
                        · subst e; rw [unhide HBK]; exact fun e => hit e.symm
                        · exact hall.out j a (by omega))
                      clear hit hall
                      go_wp2
                      go_roundw
                      case rel => exact ⟨k + 1, by omega, by omega, by go_num, unhide Z1, unhide HA⟩
                      case measure => simp [intOf]; omega
                  · have F17 := hide (find_none m5 5 17 (fun j a b => hall.out j a (by omega)))
                    have RS := hide hrz
                    clear hrz hall
                    have HD := hide (show (⟨0, zO, zO, 0⟩ : Is) = dOp (n : Int) by unfold dOp; rw [if_neg (unhide HN0), unhide M1, unhide F1, if_neg (by simp), unhide M2, unhide F7, if_neg (by simp), unhide M3, if_neg (unhide H3), unhide M4, if_neg (unhide H4), unhide M5, if_neg (unhide H5), unhide F17, if_neg (by simp)])
                    have zz := unhide RS
                    have c0 : wr.cell? ⟨w.heap.size, 0, none⟩ = some (.int .i64 0) := zz.row.cell (i := 0) (by omega)
                    have f0 := zz.row.frozen 0
                    have c1 : wr.cell? ⟨w.heap.size, 1, none⟩ = some (.int .i64 0) := zz.row.cell (i := 1) (by omega)
                    have f1 := zz.row.frozen 1
                    have c2 : wr.cell? ⟨w.heap.size, 2, none⟩ = some (.int .i64 0) := zz.row.cell (i := 2) (by omega)
                    have f2 := zz.row.frozen 2
                    have c3 : wr.cell? ⟨w.heap.size, 3, none⟩ = some (.int .i64 0) := zz.row.cell (i := 3) (by omega)
                    have f3 := zz.row.frozen 3
                    have c4 : wr.cell? ⟨w.heap.size, 4, none⟩ = some (.int .i64 0) := zz.row.cell (i := 4) (by omega)
                    have f4 := zz.row.frozen 4
                    have c5 : wr.cell? ⟨w.heap.size, 5, none⟩ = some (.int .i64 0) := zz.row.cell (i := 5) (by omega)
                    have f5 := zz.row.frozen 5
                    have c6 : wr.cell? ⟨w.heap.size, 6, none⟩ = some (.int .i64 0) := zz.row.cell (i := 6) (by omega)
                    have f6 := zz.row.frozen 6
                    have c7 : wr.cell? ⟨w.heap.size, 7, none⟩ = some (.int .i64 0) := zz.row.cell (i := 7) (by omega)
                    have f7 := zz.row.frozen 7
                    clear zz
                    go_wp2
                    refine bodyPost_ret (results_cell_row (P := Tryd.prog) rfl _ _ w.heap.size 27 (cs8 [0, 0, 0, 0, 0, 0, 0, 0]) (0, 0) _ rfl (row8_heap ((unhide RS).put (0) (0) (0) (0) (0) (0) (0) (0)).row) Tryd.underlying27 rfl (by kernel_rfl)) rfl ?_
                    exact ⟨by rw [← unhide HD]; rfl, ((unhide RS).put (0) (0) (0) (0) (0) (0) (0) (0)).bel⟩
end Go.Proofs.YtomoakfemdjpbaaDoor
