/- The laws' copies and comparisons of lists of tokens; over this seat's translation; conditions stand as hypotheses of each. -/
import Derived.Test.YthgbpofcfmnpdaaDoorLiA
namespace Go.Proofs.YthgbpofcfmnpdaaDoor
open Go.ChangeShapes Go.WideShapes Go.ChangeAt Go.RowKit
set_option linter.unusedVariables false
set_option maxRecDepth 8000

theorem infoT : (Tryd.prog.info? 31).map (fun i => (i.zero, i.size, i.bytes)) = some (some (.agg #[.int .i64 0, .int .i64 0, .string ⟨#[]⟩]), 3, 32) := by kernel_rfl
theorem made_cells (n : Nat) : (madeCells #[.int .i64 0, .int .i64 0, .string ⟨#[]⟩] (n * 3)).toList = cellsT (List.replicate n T0) := by
  apply List.ext_getElem?
  intro j
  have hl : (cellsT (List.replicate n T0)).length = n * 3 := by rw [cellsT_len, List.length_replicate]
  by_cases hj : j < n * 3
  · have hT : ∀ i, i < n → tAt (List.replicate n T0) i = T0 := fun i hi => by
      unfold tAt
      rw [List.getD_eq_getElem?_getD, List.getElem?_replicate, if_pos hi]
      rfl
    have hg := cellsT_get (List.replicate n T0) (j / 3) (by rw [List.length_replicate]; omega)
    rw [hT (j / 3) (by omega)] at hg
    have hm : (madeCells #[.int .i64 0, .int .i64 0, .string ⟨#[]⟩] (n * 3)).toList[j]? = some ((#[Value.int .i64 0, .int .i64 0, .string ⟨#[]⟩] : Array Value)[j % 3]!) := by
      simp [madeCells, hj]
    rw [hm]
    have h3 : j % 3 = 0 ∨ j % 3 = 1 ∨ j % 3 = 2 := by omega
    rcases h3 with h | h | h
    · have e : j = j / 3 * 3 := by omega
      rw [h]; conv => rhs; rw [e]
      rw [hg.1]; rfl
    · have e : j = j / 3 * 3 + 1 := by omega
      rw [h]; conv => rhs; rw [e]
      rw [hg.2.1]; rfl
    · have e : j = j / 3 * 3 + 2 := by omega
      rw [h]; conv => rhs; rw [e]
      rw [hg.2.2]; rfl
  · rw [List.getElem?_eq_none (by rw [Array.length_toList, size_madeCells]; omega), List.getElem?_eq_none (by omega)]
theorem fill_step (ts : List Tk) (k n : Nat) (hn : ts.length = n) (hk : k < n) : (ts.take k ++ List.replicate (n - k) T0).set k (tAt ts k) = ts.take (k + 1) ++ List.replicate (n - (k + 1)) T0 := by
  have e1 : (ts.take k).length = k := by rw [List.length_take]; omega
  have e2 : n - k = (n - (k + 1)) + 1 := by omega
  rw [List.set_append_right _ _ (by omega), e1, Nat.sub_self, e2, List.replicate_succ, List.set_cons_zero]
  rw [show ts.take (k + 1) = ts.take k ++ [ts[k]'(by omega)] from List.take_succ_eq_append_getElem (by omega)]
  unfold tAt
  rw [List.getD_eq_getElem?_getD, List.getElem?_eq_getElem (by omega), List.append_assoc]
  rfl
set_option maxHeartbeats 1000000 in
theorem eqTok_same (t : Tk) (w : World) : Calls Tryd.prog 71 #[t.v, t.v] w fun e w' => e = .returned (.bool true) ∧ Below w.heap.size w w' := by
  obtain ⟨k, n, s⟩ := t
  unfold Tk.v Tk.cs
  simp only
  have hB : ∀ o1 o2, Below w.heap.size w ((w.alloc o1).alloc o2) := fun o1 o2 => ((Below.refl _ _).alloc (Nat.le_refl _) _).alloc (by simp) _
  have HB := hide hB
  clear hB
  go_enter Tryd.func71, Tryd.ntmps71
  go_wp2
  go_ret
  exact ⟨rfl, unhide HB _ _⟩
set_option maxHeartbeats 1000000 in
theorem eqTokS_same (a b : Option Addr) (len c1 c2 : Nat) (ts : List Tk) (w : World) (hl : ts.length = len) (hm : len ≤ 1048576) (h1 : RdT w a ts) (h2 : RdT w b ts) :
    Calls Tryd.prog 25 #[.slice a len c1, .slice b len c2] w fun e w' => e = .returned (.bool true) ∧ Below w.heap.size w w' := by
  go_enter Tryd.func25, Tryd.ntmps25
  go_wp2
  go_loopw [5] (fun i wr => ∃ (k : Nat) (y : Sub w.heap.size w), k ≤ len ∧ i = .int .i64 k ∧ wr = y.w) (fun i _ => len - (intOf i).toNat)
  case atStart => exact ⟨0, ⟨w, Below.refl _ _⟩, Nat.zero_le _, rfl, rfl⟩
  case round =>
    obtain ⟨k, x, hk, rfl, rfl⟩ := hrel
    by_cases hlt : k < len
    · rcases h1 with h0 | ⟨p, po, rfl, hp, hpc⟩
      · rw [h0] at hl; simp at hl; omega
      rcases h2 with h0 | ⟨q, qo, rfl, hq, hqc⟩
      · rw [h0] at hl; simp at hl; omega
      obtain ⟨e0, e1, e2⟩ := hpc k (by omega)
      obtain ⟨g0, g1, g2⟩ := hqc k (by omega)
      have d0 : ∀ y : Sub w.heap.size w, y.w.cell? ⟨p, po + k * 3, none⟩ = _ := fun y => (y.h.cell (p := ⟨p, _, none⟩) hp).trans e0
      have d1 : ∀ y : Sub w.heap.size w, y.w.cell? ⟨p, po + k * 3 + 1, none⟩ = _ := fun y => (y.h.cell (p := ⟨p, _, none⟩) hp).trans e1
      have d2 : ∀ y : Sub w.heap.size w, y.w.cell? ⟨p, po + k * 3 + 2, none⟩ = _ := fun y => (y.h.cell (p := ⟨p, _, none⟩) hp).trans e2
      have f0 : ∀ y : Sub w.heap.size w, y.w.cell? ⟨q, qo + k * 3, none⟩ = _ := fun y => (y.h.cell (p := ⟨q, _, none⟩) hq).trans g0
      have f1 : ∀ y : Sub w.heap.size w, y.w.cell? ⟨q, qo + k * 3 + 1, none⟩ = _ := fun y => (y.h.cell (p := ⟨q, _, none⟩) hq).trans g1
      have f2 : ∀ y : Sub w.heap.size w, y.w.cell? ⟨q, qo + k * 3 + 2, none⟩ = _ := fun y => (y.h.cell (p := ⟨q, _, none⟩) hq).trans g2
      have HE := hide (fun w => eqTok_same (tAt ts k) w)
      have ne := Sub.ne w.heap.size w
      have HZ := hide (Nat.le_refl w.heap.size)
      unfold Tk.v Tk.cs at HE
      generalize (tAt ts k).s = ss at *
      generalize (tAt ts k).k = kk at *
      generalize (tAt ts k).n = nn at *
      clear e0 e1 e2 g0 g1 g2 hpc hqc
      go_wp2_with fail
      refine wp_region_sub x (by kernel_rfl) (by kernel_rfl) ?_
      repeat (go_big_quiet_step (first | (go_at_call 71; exact Sub.call (unhide HZ) (unhide HE _))))
      refine wpQuiet_nil ?_
      intro y
      go_wp2
      go_roundw
      case rel => exact ⟨k + 1, y, by omega, by go_num, rfl⟩
      case measure => simp [intOf]; omega
    · go_wp2
      go_ret
      exact ⟨rfl, x.h⟩

set_option maxHeartbeats 1000000 in
theorem sameToks_same (a b : Option Addr) (len c1 c2 : Nat) (ts : List Tk) (w : World) (hl : ts.length = len) (hm : len ≤ 1048576) (h1 : RdT w a ts) (h2 : RdT w b ts) :
    Calls Tryd.prog 16 #[.slice a len c1, .slice b len c2] w fun e w' => e = .returned (.bool true) ∧ Below w.heap.size w w' := by
  go_enter Tryd.func16, Tryd.ntmps16
  go_wp2
  go_loopw [5] (fun i wr => ∃ (k : Nat) (y : Sub w.heap.size w), k ≤ len ∧ i = .int .i64 k ∧ wr = y.w) (fun i _ => len - (intOf i).toNat)
  case atStart => exact ⟨0, ⟨w, Below.refl _ _⟩, Nat.zero_le _, rfl, rfl⟩
  case round =>
    obtain ⟨k, x, hk, rfl, rfl⟩ := hrel
    by_cases hlt : k < len
    · rcases h1 with h0 | ⟨p, po, rfl, hp, hpc⟩
      · rw [h0] at hl; simp at hl; omega
      rcases h2 with h0 | ⟨q, qo, rfl, hq, hqc⟩
      · rw [h0] at hl; simp at hl; omega
      obtain ⟨e0, e1, e2⟩ := hpc k (by omega)
      obtain ⟨g0, g1, g2⟩ := hqc k (by omega)
      have d0 : ∀ y : Sub w.heap.size w, y.w.cell? ⟨p, po + k * 3, none⟩ = _ := fun y => (y.h.cell (p := ⟨p, _, none⟩) hp).trans e0
      have d1 : ∀ y : Sub w.heap.size w, y.w.cell? ⟨p, po + k * 3 + 1, none⟩ = _ := fun y => (y.h.cell (p := ⟨p, _, none⟩) hp).trans e1
      have d2 : ∀ y : Sub w.heap.size w, y.w.cell? ⟨p, po + k * 3 + 2, none⟩ = _ := fun y => (y.h.cell (p := ⟨p, _, none⟩) hp).trans e2
      have f0 : ∀ y : Sub w.heap.size w, y.w.cell? ⟨q, qo + k * 3, none⟩ = _ := fun y => (y.h.cell (p := ⟨q, _, none⟩) hq).trans g0
      have f1 : ∀ y : Sub w.heap.size w, y.w.cell? ⟨q, qo + k * 3 + 1, none⟩ = _ := fun y => (y.h.cell (p := ⟨q, _, none⟩) hq).trans g1
      have f2 : ∀ y : Sub w.heap.size w, y.w.cell? ⟨q, qo + k * 3 + 2, none⟩ = _ := fun y => (y.h.cell (p := ⟨q, _, none⟩) hq).trans g2
      have ne := Sub.ne w.heap.size w
      generalize (tAt ts k).s = ss at *
      generalize (tAt ts k).k = kk at *
      generalize (tAt ts k).n = nn at *
      clear e0 e1 e2 g0 g1 g2 hpc hqc
      go_wp2_with fail
      refine wp_region_sub x (by kernel_rfl) (by kernel_rfl) ?_
      repeat (go_big_quiet_step (first | fail))
      refine wpQuiet_nil ?_
      intro y
      go_wp2
      go_roundw
      case rel => exact ⟨k + 1, y, by omega, by go_num, rfl⟩
      case measure => simp [intOf]; omega
    · go_wp2
      go_ret
      exact ⟨rfl, x.h⟩
end Go.Proofs.YthgbpofcfmnpdaaDoor
