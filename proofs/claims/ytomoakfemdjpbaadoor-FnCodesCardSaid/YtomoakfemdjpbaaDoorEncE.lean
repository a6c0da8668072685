/- The contract of the program's Encode, over this seat's translation; conditions stand as hypotheses of each. -/
import Derived.Test.YtomoakfemdjpbaaDoorEncD
namespace Go.Proofs.YtomoakfemdjpbaaDoor
open Go.ChangeShapes Go.WideShapes Go.ChangeAt Go.RowKit
set_option linter.unusedVariables false
set_option linter.unusedSimpArgs false

theorem zero_noX {o : Od} (h : o.zero = true) : o.hasX = false := by
  obtain ⟨h1, h2, h3⟩ := od_zero h
  unfold Od.hasX
  rw [h1, h2]
  rfl
def xOf (b : Bool) (x : Int) : List Int := if b = true then [x] else []
theorem xs_both (i : Is) (h : i.ok = true) : i.xs = xOf i.s.hasX i.s.x ++ xOf i.d.hasX i.d.x := by
  obtain ⟨h1, h2, h3, h4, h5, h6⟩ := is_ok h
  unfold Is.xs xOf
  congr 1
  · by_cases c : i.op ≤ 6
    · simp [c]
    · rw [zero_noX (h4 (by omega))]; simp
  · by_cases c : i.op ≤ 15
    · simp [c]
    · rw [zero_noX (h5 (by omega))]; simp
theorem encI_no (op sm sr sx dm dr dx n : Int) (w : World) (hok : Is.ok ⟨op, ⟨sm, sr, sx⟩, ⟨dm, dr, dx⟩, n⟩ = false) :
    Calls Tryd.prog 9 #[.agg #[.int .i64 op, .int .i64 sm, .int .i64 sr, .int .i64 sx, .int .i64 dm, .int .i64 dr, .int .i64 dx, .int .i64 n]] w fun e w' => ∃ v, e = .returned v ∧ v ≠ .slice none 0 0 ∧ OwnN w' w.heap.size v [] ∧ Below w.heap.size w w' := by
  have HB := hide (box_below w (Obj.cells #[.int .i64 op, .int .i64 sm, .int .i64 sr, .int .i64 sx, .int .i64 dm, .int .i64 dr, .int .i64 dx, .int .i64 n] 27))
  have HZ := hide (show (w.alloc (Obj.cells #[.int .i64 op, .int .i64 sm, .int .i64 sr, .int .i64 sx, .int .i64 dm, .int .i64 dr, .int .i64 dx, .int .i64 n] 27)).heap.size = w.heap.size + 1 by simp)
  go_enter Tryd.func9, Tryd.ntmps9
  go_wp2_with fail
  refine (insOkI_any ⟨op, ⟨sm, sr, sx⟩, ⟨dm, dr, dx⟩, n⟩ _).mono ?_
  rintro e w1 ⟨rfl, hb⟩
  rw [hok]
  rw [unhide HZ] at hb
  have s1 := hb.size
  rw [unhide HZ] at s1
  have B1 := hide (unhide HB _ hb)
  clear hb
  go_wp2
  go_ret
  exact ⟨.slice (some ⟨w1.heap.size, 0, none⟩) 0 0, rfl, by simp, (ownN_empty w1).base (by omega), (unhide B1).alloc (by omega) _⟩

set_option maxHeartbeats 4000000 in
theorem encI_yes (k : Nat) (sm sr sx dm dr dx n : Int) (w : World) (ht : Tab w) (hok : Is.ok ⟨(k : Int), ⟨sm, sr, sx⟩, ⟨dm, dr, dx⟩, n⟩ = true) :
    Calls Tryd.prog 9 #[.agg #[.int .i64 (k : Int), .int .i64 sm, .int .i64 sr, .int .i64 sx, .int .i64 dm, .int .i64 dr, .int .i64 dx, .int .i64 n]] w fun e w' => ∃ v, e = .returned v ∧ v ≠ .slice none 0 0 ∧ OwnN w' w.heap.size v (Is.code ⟨(k : Int), ⟨sm, sr, sx⟩, ⟨dm, dr, dx⟩, n⟩ :: Is.xs ⟨(k : Int), ⟨sm, sr, sx⟩, ⟨dm, dr, dx⟩, n⟩) ∧ Below w.heap.size w w' := by
  obtain ⟨i0, hi, hz0, hz1, hz2⟩ := info_parts info3
  have HB := hide (box_below w (Obj.cells #[.int .i64 (k : Int), .int .i64 sm, .int .i64 sr, .int .i64 sx, .int .i64 dm, .int .i64 dr, .int .i64 dx, .int .i64 n] 27))
  have HE := hide (show (w.alloc (Obj.cells #[.int .i64 (k : Int), .int .i64 sm, .int .i64 sr, .int .i64 sx, .int .i64 dm, .int .i64 dr, .int .i64 dx, .int .i64 n] 27)).heap.size = w.heap.size + 1 by simp)
  have HZ := hide (show w.heap.size + 1 ≤ (w.alloc (Obj.cells #[.int .i64 (k : Int), .int .i64 sm, .int .i64 sr, .int .i64 sx, .int .i64 dm, .int .i64 dr, .int .i64 dx, .int .i64 n] 27)).heap.size by simp)
  have HXS := hide (xs_both ⟨(k : Int), ⟨sm, sr, sx⟩, ⟨dm, dr, dx⟩, n⟩ hok)
  have FW := hide (fun (x : Sub (w.heap.size + 1) (w.alloc (Obj.cells #[.int .i64 (k : Int), .int .i64 sm, .int .i64 sr, .int .i64 sx, .int .i64 dm, .int .i64 dr, .int .i64 dx, .int .i64 n] 27))) => firstWord_any k sm sr sx dm dr dx n x.w (ht.later (box_below w _ x.w x.h)) hok)
  have FO := hide (fun (w : World) => insOkI_any ⟨(k : Int), ⟨sm, sr, sx⟩, ⟨dm, dr, dx⟩, n⟩ w)
  rw [hok] at FO
  have FS := hide (fun w => hasXI_any ⟨sm, sr, sx⟩ w)
  have FD := hide (fun w => hasXI_any ⟨dm, dr, dx⟩ w)
  simp only at HXS
  clear ht hok
  generalize Is.code ⟨(k : Int), ⟨sm, sr, sx⟩, ⟨dm, dr, dx⟩, n⟩ = c at FW ⊢
  generalize Is.xs ⟨(k : Int), ⟨sm, sr, sx⟩, ⟨dm, dr, dx⟩, n⟩ = xs at HXS ⊢
  generalize Od.hasX ⟨sm, sr, sx⟩ = sX at FS HXS
  generalize Od.hasX ⟨dm, dr, dx⟩ = dX at FD HXS
  unfold Is.v at FO
  unfold Od.v at FS FD
  simp only at FO FS FD
  have c0 : ∀ y : Sub (w.heap.size + 1) (w.alloc (Obj.cells #[.int .i64 (k : Int), .int .i64 sm, .int .i64 sr, .int .i64 sx, .int .i64 dm, .int .i64 dr, .int .i64 dx, .int .i64 n] 27)), y.w.cell? ⟨w.heap.size, 0, none⟩ = some (.int .i64 (k : Int)) := fun y => y.cells 0 _ rfl
  have C0 : ∀ (y : Sub (w.heap.size + 1) (w.alloc (Obj.cells #[.int .i64 (k : Int), .int .i64 sm, .int .i64 sr, .int .i64 sx, .int .i64 dm, .int .i64 dr, .int .i64 dx, .int .i64 n] 27))) o, (y.w.alloc o).cell? ⟨w.heap.size, 0, none⟩ = some (.int .i64 (k : Int)) := fun y o => alloc_cell (c0 y) o
  have c1 : ∀ y : Sub (w.heap.size + 1) (w.alloc (Obj.cells #[.int .i64 (k : Int), .int .i64 sm, .int .i64 sr, .int .i64 sx, .int .i64 dm, .int .i64 dr, .int .i64 dx, .int .i64 n] 27)), y.w.cell? ⟨w.heap.size, 1, none⟩ = some (.int .i64 sm) := fun y => y.cells 1 _ rfl
  have C1 : ∀ (y : Sub (w.heap.size + 1) (w.alloc (Obj.cells #[.int .i64 (k : Int), .int .i64 sm, .int .i64 sr, .int .i64 sx, .int .i64 dm, .int .i64 dr, .int .i64 dx, .int .i64 n] 27))) o, (y.w.alloc o).cell? ⟨w.heap.size, 1, none⟩ = some (.int .i64 sm) := fun y o => alloc_cell (c1 y) o
  have c2 : ∀ y : Sub (w.heap.size + 1) (w.alloc (Obj.cells #[.int .i64 (k : Int), .int .i64 sm, .int .i64 sr, .int .i64 sx, .int .i64 dm, .int .i64 dr, .int .i64 dx, .int .i64 n] 27)), y.w.cell? ⟨w.heap.size, 2, none⟩ = some (.int .i64 sr) := fun y => y.cells 2 _ rfl
  have C2 : ∀ (y : Sub (w.heap.size + 1) (w.alloc (Obj.cells #[.int .i64 (k : Int), .int .i64 sm, .int .i64 sr, .int .i64 sx, .int .i64 dm, .int .i64 dr, .int .i64 dx, .int .i64 n] 27))) o, (y.w.alloc o).cell? ⟨w.heap.size, 2, none⟩ = some (.int .i64 sr) := fun y o => alloc_cell (c2 y) o
  have c3 : ∀ y : Sub (w.heap.size + 1) (w.alloc (Obj.cells #[.int .i64 (k : Int), .int .i64 sm, .int .i64 sr, .int .i64 sx, .int .i64 dm, .int .i64 dr, .int .i64 dx, .int .i64 n] 27)), y.w.cell? ⟨w.heap.size, 3, none⟩ = some (.int .i64 sx) := fun y => y.cells 3 _ rfl
  have C3 : ∀ (y : Sub (w.heap.size + 1) (w.alloc (Obj.cells #[.int .i64 (k : Int), .int .i64 sm, .int .i64 sr, .int .i64 sx, .int .i64 dm, .int .i64 dr, .int .i64 dx, .int .i64 n] 27))) o, (y.w.alloc o).cell? ⟨w.heap.size, 3, none⟩ = some (.int .i64 sx) := fun y o => alloc_cell (c3 y) o
  have c4 : ∀ y : Sub (w.heap.size + 1) (w.alloc (Obj.cells #[.int .i64 (k : Int), .int .i64 sm, .int .i64 sr, .int .i64 sx, .int .i64 dm, .int .i64 dr, .int .i64 dx, .int .i64 n] 27)), y.w.cell? ⟨w.heap.size, 4, none⟩ = some (.int .i64 dm) := fun y => y.cells 4 _ rfl
  have C4 : ∀ (y : Sub (w.heap.size + 1) (w.alloc (Obj.cells #[.int .i64 (k : Int), .int .i64 sm, .int .i64 sr, .int .i64 sx, .int .i64 dm, .int .i64 dr, .int .i64 dx, .int .i64 n] 27))) o, (y.w.alloc o).cell? ⟨w.heap.size, 4, none⟩ = some (.int .i64 dm) := fun y o => alloc_cell (c4 y) o
  have c5 : ∀ y : Sub (w.heap.size + 1) (w.alloc (Obj.cells #[.int .i64 (k : Int), .int .i64 sm, .int .i64 sr, .int .i64 sx, .int .i64 dm, .int .i64 dr, .int .i64 dx, .int .i64 n] 27)), y.w.cell? ⟨w.heap.size, 5, none⟩ = some (.int .i64 dr) := fun y => y.cells 5 _ rfl
  have C5 : ∀ (y : Sub (w.heap.size + 1) (w.alloc (Obj.cells #[.int .i64 (k : Int), .int .i64 sm, .int .i64 sr, .int .i64 sx, .int .i64 dm, .int .i64 dr, .int .i64 dx, .int .i64 n] 27))) o, (y.w.alloc o).cell? ⟨w.heap.size, 5, none⟩ = some (.int .i64 dr) := fun y o => alloc_cell (c5 y) o
  have c6 : ∀ y : Sub (w.heap.size + 1) (w.alloc (Obj.cells #[.int .i64 (k : Int), .int .i64 sm, .int .i64 sr, .int .i64 sx, .int .i64 dm, .int .i64 dr, .int .i64 dx, .int .i64 n] 27)), y.w.cell? ⟨w.heap.size, 6, none⟩ = some (.int .i64 dx) := fun y => y.cells 6 _ rfl
  have C6 : ∀ (y : Sub (w.heap.size + 1) (w.alloc (Obj.cells #[.int .i64 (k : Int), .int .i64 sm, .int .i64 sr, .int .i64 sx, .int .i64 dm, .int .i64 dr, .int .i64 dx, .int .i64 n] 27))) o, (y.w.alloc o).cell? ⟨w.heap.size, 6, none⟩ = some (.int .i64 dx) := fun y o => alloc_cell (c6 y) o
  have c7 : ∀ y : Sub (w.heap.size + 1) (w.alloc (Obj.cells #[.int .i64 (k : Int), .int .i64 sm, .int .i64 sr, .int .i64 sx, .int .i64 dm, .int .i64 dr, .int .i64 dx, .int .i64 n] 27)), y.w.cell? ⟨w.heap.size, 7, none⟩ = some (.int .i64 n) := fun y => y.cells 7 _ rfl
  have C7 : ∀ (y : Sub (w.heap.size + 1) (w.alloc (Obj.cells #[.int .i64 (k : Int), .int .i64 sm, .int .i64 sr, .int .i64 sx, .int .i64 dm, .int .i64 dr, .int .i64 dx, .int .i64 n] 27))) o, (y.w.alloc o).cell? ⟨w.heap.size, 7, none⟩ = some (.int .i64 n) := fun y o => alloc_cell (c7 y) o
  go_enter Tryd.func9, Tryd.ntmps9
  go_wp2_with fail
  refine (Sub.call (x := Sub.top w (Obj.cells #[.int .i64 (k : Int), .int .i64 sm, .int .i64 sr, .int .i64 sx, .int .i64 dm, .int .i64 dr, .int .i64 dx, .int .i64 n] 27)) (unhide HZ) (unhide FO _)).mono ?_
  rintro e _ ⟨rfl, y1, rfl⟩
  go_wp2_with fail
  refine (Sub.call (unhide HZ) (unhide FW y1)).mono ?_
  rintro e _ ⟨rfl, y2, rfl⟩
  have sz2 := y2.h.size
  rw [unhide HE] at sz2
  have O0 := hide ((own_one y2.w c).base sz2)
  have Bz := hide (y2.h.alloc (by omega) (Obj.cells #[.int .i64 c] 3))
  clear FO FW
  go_wp2_with fail
  go_loopw [3, 18] (fun l v18 wr => ∃ j : Nat, j ≤ 2 ∧ v18 = .int .i64 j ∧ l ≠ .slice none 0 0 ∧ OwnN wr (w.heap.size + 1) l (c :: ((if 1 ≤ j then xOf sX sx else []) ++ (if 2 ≤ j then xOf dX dx else []))) ∧ Below (w.heap.size + 1) (w.alloc (Obj.cells #[.int .i64 (k : Int), .int .i64 sm, .int .i64 sr, .int .i64 sx, .int .i64 dm, .int .i64 dr, .int .i64 dx, .int .i64 n] 27)) wr) (fun _ v18 _ => 2 - (intOf v18).toNat)
  case atStart => exact ⟨0, by omega, rfl, by simp, by simpa using unhide O0, unhide Bz⟩
  case round =>
    clear O0 Bz sz2
    obtain ⟨j, hj, rfl, hne, hown, hbel⟩ := hrel
    obtain rfl | rfl | rfl : j = 0 ∨ j = 1 ∨ j = 2 := by omega
    · have hL : ∃ L : List Int, L = [c] ∧ L.length ≤ 2 := ⟨_, rfl, by simp⟩
      obtain ⟨L, hLe, hLl⟩ := hL
      have hown' : OwnN wr (w.heap.size + 1) u3 L := by rw [hLe]; simpa using hown
      clear hown
      have szr := hbel.size
      rw [unhide HE] at szr
      have BN := hide (hbel.alloc (by omega) (Obj.cells #[.int .i64 sm, .int .i64 sr, .int .i64 sx] 25))
      have HEr := hide (show (wr.alloc (Obj.cells #[.int .i64 sm, .int .i64 sr, .int .i64 sx] 25)).heap.size = wr.heap.size + 1 by simp)
      have O1 := hide (show OwnN (wr.alloc (Obj.cells #[.int .i64 sm, .int .i64 sr, .int .i64 sx] 25)) (w.heap.size + 1) u3 L from World.ownsRow.alloc hown' (Obj.cells #[.int .i64 sm, .int .i64 sr, .int .i64 sx] 25))
      have CX := hide (box_cells wr #[.int .i64 sm, .int .i64 sr, .int .i64 sx] 25)
      have HLE := hide hLe
      clear hown' hLe
      go_wp2_with (refine wpList_index_at rfl 52 _ _ rfl #[.int .i64 sm, .int .i64 sr, .int .i64 sx, .int .i64 dm, .int .i64 dr, .int .i64 dx] 0 (.agg #[.int .i64 sm, .int .i64 sr, .int .i64 sx]) rfl rfl (fun w => by kernel_rfl) ?_)
      refine (unhide FS _).mono ?_
      rintro e w2 ⟨rfl, hb2⟩
      have O2 := hide ((unhide O1).later hb2)
      have B2 := hide ((unhide BN).trans (hb2.mono (by rw [unhide HEr]; omega)))
      have s2 := hb2.size
      rw [unhide HEr] at hb2 s2
      have cx := unhide CX w2 hb2 2 _ rfl
      have CX2 : ∀ o, (w2.alloc o).cell? ⟨wr.heap.size, 2, none⟩ = some (.int .i64 sx) := fun o => alloc_cell cx o
      clear hb2 O1 BN CX
      cases sX
      · go_wp2
        go_roundw
        case rel => exact ⟨1, by omega, by go_num, hne, by rw [unhide HLE] at O2; simpa [xOf] using unhide O2, unhide B2⟩
        case measure => simp [intOf]
      · have K1 := hide (cell_one_new w2 (Value.int .i64 sx) 3)
        go_wp2_with (at_builtin; go_must (refine wpList_append_own _ rfl (.tmp 23) (.tmp 26) 29 rfl (w.heap.size + 1) 3 i0 (.int .i64 0) 1 8 Tryd.underlying29 hi hz0 hz1 hz2 rfl (by decide) u3 L.length (cellsN L) rfl (World.ownsRow.alloc (unhide O2) _) ⟨w2.heap.size, 0, none⟩ 1 1 (cellsN [sx]) rfl rfl (unhide K1) (cellsN_one _) (by unfold maxLen; omega) (by omega) (by simp; omega) ?_; intro v8 w8 hown hgrow hnil))
        have B8 := hide (box_app (unhide B2) (unhide HE) _ hgrow (unhide O2) (Nat.le_refl _))
        have HN : v8 ≠ .slice none 0 0 := fun e => by have := hnil.1 e; omega
        have O8 := hide (show OwnN w8 (w.heap.size + 1) v8 (L ++ [sx]) by unfold OwnN; rw [cellsN_append, List.length_append]; exact hown)
        clear hown hgrow hnil K1 O2 B2
        go_wp2
        go_roundw
        case rel => exact ⟨1, by omega, by go_num, HN, by rw [unhide HLE] at O8; simpa [xOf] using unhide O8, unhide B8⟩
        case measure => simp [intOf]
    · have hL : ∃ L : List Int, L = (c :: xOf sX sx) ∧ L.length ≤ 2 := ⟨_, rfl, by cases sX <;> simp [xOf]⟩
      obtain ⟨L, hLe, hLl⟩ := hL
      have hown' : OwnN wr (w.heap.size + 1) u3 L := by rw [hLe]; simpa using hown
      clear hown
      have szr := hbel.size
      rw [unhide HE] at szr
      have BN := hide (hbel.alloc (by omega) (Obj.cells #[.int .i64 dm, .int .i64 dr, .int .i64 dx] 25))
      have HEr := hide (show (wr.alloc (Obj.cells #[.int .i64 dm, .int .i64 dr, .int .i64 dx] 25)).heap.size = wr.heap.size + 1 by simp)
      have O1 := hide (show OwnN (wr.alloc (Obj.cells #[.int .i64 dm, .int .i64 dr, .int .i64 dx] 25)) (w.heap.size + 1) u3 L from World.ownsRow.alloc hown' (Obj.cells #[.int .i64 dm, .int .i64 dr, .int .i64 dx] 25))
      have CX := hide (box_cells wr #[.int .i64 dm, .int .i64 dr, .int .i64 dx] 25)
      have HLE := hide hLe
      clear hown' hLe
      go_wp2_with (refine wpList_index_at rfl 52 _ _ rfl #[.int .i64 sm, .int .i64 sr, .int .i64 sx, .int .i64 dm, .int .i64 dr, .int .i64 dx] 1 (.agg #[.int .i64 dm, .int .i64 dr, .int .i64 dx]) rfl rfl (fun w => by kernel_rfl) ?_)
      refine (unhide FD _).mono ?_
      rintro e w2 ⟨rfl, hb2⟩
      have O2 := hide ((unhide O1).later hb2)
      have B2 := hide ((unhide BN).trans (hb2.mono (by rw [unhide HEr]; omega)))
      have s2 := hb2.size
      rw [unhide HEr] at hb2 s2
      have cx := unhide CX w2 hb2 2 _ rfl
      have CX2 : ∀ o, (w2.alloc o).cell? ⟨wr.heap.size, 2, none⟩ = some (.int .i64 dx) := fun o => alloc_cell cx o
      clear hb2 O1 BN CX
      cases dX
      · go_wp2
        go_roundw
        case rel => exact ⟨2, by omega, by go_num, hne, by rw [unhide HLE] at O2; simpa [xOf] using unhide O2, unhide B2⟩
        case measure => simp [intOf]
      · have K1 := hide (cell_one_new w2 (Value.int .i64 dx) 3)
        go_wp2_with (at_builtin; go_must (refine wpList_append_own _ rfl (.tmp 23) (.tmp 26) 29 rfl (w.heap.size + 1) 3 i0 (.int .i64 0) 1 8 Tryd.underlying29 hi hz0 hz1 hz2 rfl (by decide) u3 L.length (cellsN L) rfl (World.ownsRow.alloc (unhide O2) _) ⟨w2.heap.size, 0, none⟩ 1 1 (cellsN [dx]) rfl rfl (unhide K1) (cellsN_one _) (by unfold maxLen; omega) (by omega) (by simp; omega) ?_; intro v8 w8 hown hgrow hnil))
        have B8 := hide (box_app (unhide B2) (unhide HE) _ hgrow (unhide O2) (Nat.le_refl _))
        have HN : v8 ≠ .slice none 0 0 := fun e => by have := hnil.1 e; omega
        have O8 := hide (show OwnN w8 (w.heap.size + 1) v8 (L ++ [dx]) by unfold OwnN; rw [cellsN_append, List.length_append]; exact hown)
        clear hown hgrow hnil K1 O2 B2
        go_wp2
        go_roundw
        case rel => exact ⟨2, by omega, by go_num, HN, by rw [unhide HLE] at O8; simpa [xOf] using unhide O8, unhide B8⟩
        case measure => simp [intOf]
    · go_wp2
      go_ret
      exact ⟨u3, rfl, hne, by rw [unhide HXS]; exact OwnN.base (by simpa using hown) (by omega), unhide HB _ hbel⟩

theorem encI_any (i : Is) (w : World) (ht : Tab w) : Calls Tryd.prog 9 #[i.v] w fun e w' => ∃ v, e = .returned v ∧ v ≠ .slice none 0 0 ∧ OwnN w' w.heap.size v i.enc ∧ Below w.heap.size w w' := by
  obtain ⟨op, ⟨sm, sr, sx⟩, ⟨dm, dr, dx⟩, n⟩ := i
  cases hok : Is.ok ⟨op, ⟨sm, sr, sx⟩, ⟨dm, dr, dx⟩, n⟩
  · unfold Is.enc
    rw [hok]
    exact encI_no op sm sr sx dm dr dx n w hok
  · have h := (is_ok hok).1
    simp only at h
    obtain ⟨k, rfl⟩ := Int.eq_ofNat_of_zero_le (show 0 ≤ op by omega)
    unfold Is.enc
    rw [if_pos hok]
    exact encI_yes k sm sr sx dm dr dx n w ht hok
end Go.Proofs.YtomoakfemdjpbaaDoor
