/- The laws' copies and comparisons of lists of tokens; over this seat's translation; conditions stand as hypotheses of each. -/
import Derived.Test.YtemglcdglnjakaaLiA
namespace Go.Proofs.Ytemglcdglnjakaa
open Go.ChangeShapes Go.WideShapes Go.ChangeAt Go.RowKit
set_option linter.unusedVariables false
set_option maxRecDepth 8000

theorem infoT : (Try.prog.info? 45).map (fun i => (i.zero, i.size, i.bytes)) = some (some (.agg #[.int .i64 0, .int .i64 0, .string ⟨#[]⟩]), 3, 32) := by kernel_rfl
theorem made_cells (n : Nat) : (madeCells #[.int .i64 0, .int .i64 0, .string ⟨#[]⟩] (n * 3)).toList = cellsT (List.replicate n T0) := by
  apply List.ext_getElem?
  intro j
  have hl : (cellsT (List.replicate n T0)).length = n * 3 := by rw [cellsT_len, List.length_replicate]
  by_cases hj : j < n * 3
  · have hT : ∀ i, i < n → tAt (List.replicate n T0) i = T0 := fun i hi => by
      unfold tAt
      rw [List.getD_eq_getElem?_getD, List.getElem?_replicate, if_pos hi]
      rfl
    have hg := cellsT_get (List.replicate n T0) (j / 3) (by rw [List.length_replicate]; omega)
    rw [hT (j / 3) (by omega)] at hg
    have hm : (madeCells #[.int .i64 0, .int .i64 0, .string ⟨#[]⟩] (n * 3)).toList[j]? = some ((#[Value.int .i64 0, .int .i64 0, .string ⟨#[]⟩] : Array Value)[j % 3]!) := by
      simp [madeCells, hj]
    rw [hm]
    have h3 : j % 3 = 0 ∨ j % 3 = 1 ∨ j % 3 = 2 := by omega
    rcases h3 with h | h | h
    · have e : j = j / 3 * 3 := by omega
      rw [h]; conv => rhs; rw [e]
      rw [hg.1]; rfl
    · have e : j = j / 3 * 3 + 1 := by omega
      rw [h]; conv => rhs; rw [e]
      rw [hg.2.1]; rfl
    · have e : j = j / 3 * 3 + 2 := by omega
      rw [h]; conv => rhs; rw [e]
      rw [hg.2.2]; rfl
  · rw [List.getElem?_eq_none (by rw [Array.length_toList, size_madeCells]; omega), List.getElem?_eq_none (by omega)]
theorem fill_step (ts : List Tk) (k n : Nat) (hn : ts.length = n) (hk : k < n) : (ts.take k ++ List.replicate (n - k) T0).set k (tAt ts k) = ts.take (k + 1) ++ List.replicate (n - (k + 1)) T0 := by
  have e1 : (ts.take k).length = k := by rw [List.length_take]; omega
  have e2 : n - k = (n - (k + 1)) + 1 := by omega
  rw [List.set_append_right _ _ (by omega), e1, Nat.sub_self, e2, List.replicate_succ, List.set_cons_zero]
  rw [show ts.take (k + 1) = ts.take k ++ [ts[k]'(by omega)] from List.take_succ_eq_append_getElem (by omega)]
  unfold tAt
  rw [List.getD_eq_getElem?_getD, List.getElem?_eq_getElem (by omega), List.append_assoc]
  rfl
set_option maxHeartbeats 1000000 in
theorem toTokS_any (a : Option Addr) (len cap : Nat) (ts : List Tk) (w : World) (hl : ts.length = len) (hm : len ≤ 1048576) (hr : RdT w a ts) : Calls Try.prog 9 #[.slice a len cap] w fun e w' => ∃ v, e = .returned v ∧ OwnT w' w.heap.size v ts ∧ Below w.heap.size w w' := by
  obtain ⟨i0, hi, hz0, hz1, hz2⟩ := info_parts infoT
  obtain ⟨w1, hmk, hown, hgr⟩ := run_make_full (P := Try.prog) w w.heap.size 28 45 i0 _ 3 Try.underlying28 hi hz0 hz1 .i64 .i64 len (by rw [hz2]; omega) (by unfold maxLen; omega) (Nat.le_refl _)
  have O0 := hide (show OwnT w1 w.heap.size (.slice (some ⟨w.heap.size, 0, none⟩) len len) (ts.take 0 ++ List.replicate (len - 0) T0) by
    unfold OwnT
    have e : (ts.take 0 ++ List.replicate (len - 0) T0) = List.replicate len T0 := by simp
    rw [e, List.length_replicate, ← made_cells]
    exact hown)
  have B0 := hide ((Below.refl w.heap.size w).grown hgr (Nat.le_refl _) (fun k h => by cases h))
  clear hown hgr
  go_enter Try.func9, Try.ntmps9
  go_wp2
  clear hmk
  go_loopw [4] (fun i wr => ∃ k : Nat, k ≤ len ∧ i = .int .i64 k ∧ OwnT wr w.heap.size (.slice (some ⟨w.heap.size, 0, none⟩) len len) (ts.take k ++ List.replicate (len - k) T0) ∧ Below w.heap.size w wr) (fun i _ => len - (intOf i).toNat)
  case atStart => exact ⟨0, Nat.zero_le _, rfl, unhide O0, unhide B0⟩
  case round =>
    clear O0 B0
    obtain ⟨k, hk, rfl, ho, hb⟩ := hrel
    by_cases hlt : k < len
    · rcases hr with h0 | ⟨b, off, rfl, hbl, hc⟩
      · rw [h0] at hl; simp at hl; omega
      obtain ⟨c0, c1, c2⟩ := hc k (by omega)
      have d0 : wr.cell? ⟨b, off + k * 3, none⟩ = _ := (hb.cell (p := ⟨b, _, none⟩) hbl).trans c0
      have d1 : wr.cell? ⟨b, off + k * 3 + 1, none⟩ = _ := (hb.cell (p := ⟨b, _, none⟩) hbl).trans c1
      have d2 : wr.cell? ⟨b, off + k * 3 + 2, none⟩ = _ := (hb.cell (p := ⟨b, _, none⟩) hbl).trans c2
      have HT := hide (toTok_any (tAt ts k) wr)
      have FS := hide (fill_step ts k len hl hlt)
      have LN := hide (show k < (ts.take k ++ List.replicate (len - k) T0).length by rw [List.length_append, List.length_replicate, List.length_take]; omega)
      have ZB := hide hb.size
      clear c0 c1 c2 hc
      unfold Tk.v Tk.cs at HT
      have O1 := hide ho
      have B1 := hide hb
      generalize ts.take k ++ List.replicate (len - k) T0 = L at *
      have PT := hide (fun (w2 : World) (h : OwnT w2 w.heap.size (.slice (some ⟨w.heap.size, 0, none⟩) len len) L) => OwnT.put h k (unhide LN) (tAt ts k))
      rw [unhide FS] at PT
      generalize (tAt ts k).s = ss at d2 HT PT
      generalize (tAt ts k).k = kk at d0 HT PT
      generalize (tAt ts k).n = nn at d1 HT PT
      clear ho hb FS
      go_wp2_with fail
      refine (unhide HT).mono ?_
      rintro e w2 ⟨rfl, hb2⟩
      have O2 := hide ((unhide O1).later hb2)
      have B2 := hide ((unhide B1).trans (hb2.mono (unhide ZB)))
      have LL := hide (show L.length = len by rcases (unhide O1).form with ⟨e, _⟩ | ⟨g', c', e, _⟩; cases e; cases e; rfl)
      have own2 : w2.ownsRow w.heap.size 45 3 (.slice (some ⟨w.heap.size, 0, none⟩) len len) len (cellsT L) := by have := unhide O2; unfold OwnT at this; rw [unhide LL] at this; exact this
      have hkl : k < L.length := unhide LN
      have c0 := (World.ownsRow.cellAt own2 (k * 3) (by omega)).trans (cellsT_get L k hkl).1
      have c1 := (World.ownsRow.cellAt own2 (k * 3 + 1) (by omega)).trans (cellsT_get L k hkl).2.1
      have c2 := (World.ownsRow.cellAt own2 (k * 3 + 2) (by omega)).trans (cellsT_get L k hkl).2.2
      have f0 := World.ownsRow.frozenAt own2 (k * 3)
      have f1 := World.ownsRow.frozenAt own2 (k * 3 + 1)
      have f2 := World.ownsRow.frozenAt own2 (k * 3 + 2)
      have PP := hide (unhide PT w2 (unhide O2))
      clear own2 hb2 O1 B1 HT PT O2 hkl d0 d1 d2
      go_wp2
      go_roundw
      case rel => exact ⟨k + 1, by omega, by go_num, unhide PP, (((unhide B2).setCell (p := ⟨w.heap.size, _, none⟩) (Nat.le_refl _) _).setCell (p := ⟨w.heap.size, _, none⟩) (Nat.le_refl _) _).setCell (p := ⟨w.heap.size, _, none⟩) (Nat.le_refl _) _⟩
      case measure => simp [intOf]; omega
    · obtain rfl : k = len := by omega
      have E := hide (show ts.take k ++ List.replicate (k - k) T0 = ts by rw [← hl, List.take_length, Nat.sub_self]; simp)
      rw [unhide E] at ho
      have O1 := hide ho
      clear ho
      go_wp2
      go_ret
      exact ⟨_, rfl, unhide O1, hb⟩
set_option maxHeartbeats 1000000 in
theorem eqTok_same (t : Tk) (w : World) : Calls Try.prog 28 #[t.v, t.v] w fun e w' => e = .returned (.bool true) ∧ Below w.heap.size w w' := by
  obtain ⟨k, n, s⟩ := t
  unfold Tk.v Tk.cs
  simp only
  have hB : ∀ o1 o2, Below w.heap.size w ((w.alloc o1).alloc o2) := fun o1 o2 => ((Below.refl _ _).alloc (Nat.le_refl _) _).alloc (by simp) _
  have HB := hide hB
  clear hB
  go_enter Try.func28, Try.ntmps28
  go_wp2
  go_ret
  exact ⟨rfl, unhide HB _ _⟩
set_option maxHeartbeats 1000000 in
theorem eqTokS_same (a b : Option Addr) (len c1 c2 : Nat) (ts : List Tk) (w : World) (hl : ts.length = len) (hm : len ≤ 1048576) (h1 : RdT w a ts) (h2 : RdT w b ts) :
    Calls Try.prog 13 #[.slice a len c1, .slice b len c2] w fun e w' => e = .returned (.bool true) ∧ Below w.heap.size w w' := by
  go_enter Try.func13, Try.ntmps13
  go_wp2
  go_loopw [5] (fun i wr => ∃ (k : Nat) (y : Sub w.heap.size w), k ≤ len ∧ i = .int .i64 k ∧ wr = y.w) (fun i _ => len - (intOf i).toNat)
  case atStart => exact ⟨0, ⟨w, Below.refl _ _⟩, Nat.zero_le _, rfl, rfl⟩
  case round =>
    obtain ⟨k, x, hk, rfl, rfl⟩ := hrel
    by_cases hlt : k < len
    · rcases h1 with h0 | ⟨p, po, rfl, hp, hpc⟩
      · rw [h0] at hl; simp at hl; omega
      rcases h2 with h0 | ⟨q, qo, rfl, hq, hqc⟩
      · rw [h0] at hl; simp at hl; omega
      obtain ⟨e0, e1, e2⟩ := hpc k (by omega)
      obtain ⟨g0, g1, g2⟩ := hqc k (by omega)
      have d0 : ∀ y : Sub w.heap.size w, y.w.cell? ⟨p, po + k * 3, none⟩ = _ := fun y => (y.h.cell (p := ⟨p, _, none⟩) hp).trans e0
      have d1 : ∀ y : Sub w.heap.size w, y.w.cell? ⟨p, po + k * 3 + 1, none⟩ = _ := fun y => (y.h.cell (p := ⟨p, _, none⟩) hp).trans e1
      have d2 : ∀ y : Sub w.heap.size w, y.w.cell? ⟨p, po + k * 3 + 2, none⟩ = _ := fun y => (y.h.cell (p := ⟨p, _, none⟩) hp).trans e2
      have f0 : ∀ y : Sub w.heap.size w, y.w.cell? ⟨q, qo + k * 3, none⟩ = _ := fun y => (y.h.cell (p := ⟨q, _, none⟩) hq).trans g0
      have f1 : ∀ y : Sub w.heap.size w, y.w.cell? ⟨q, qo + k * 3 + 1, none⟩ = _ := fun y => (y.h.cell (p := ⟨q, _, none⟩) hq).trans g1
      have f2 : ∀ y : Sub w.heap.size w, y.w.cell? ⟨q, qo + k * 3 + 2, none⟩ = _ := fun y => (y.h.cell (p := ⟨q, _, none⟩) hq).trans g2
      have HE := hide (fun w => eqTok_same (tAt ts k) w)
      have ne := Sub.ne w.heap.size w
      have HZ := hide (Nat.le_refl w.heap.size)
      unfold Tk.v Tk.cs at HE
      generalize (tAt ts k).s = ss at *
      generalize (tAt ts k).k = kk at *
      generalize (tAt ts k).n = nn at *
      clear e0 e1 e2 g0 g1 g2 hpc hqc
      go_wp2_with fail
      refine wp_region_sub x (by kernel_rfl) (by kernel_rfl) ?_
      repeat (go_big_quiet_step (first | (go_at_call 28; exact Sub.call (unhide HZ) (unhide HE _))))
      refine wpQuiet_nil ?_
      intro y
      go_wp2
      go_roundw
      case rel => exact ⟨k + 1, y, by omega, by go_num, rfl⟩
      case measure => simp [intOf]; omega
    · go_wp2
      go_ret
      exact ⟨rfl, x.h⟩

end Go.Proofs.Ytemglcdglnjakaa
