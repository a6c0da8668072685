/- Contracts of the model's draws of letters and of words, over this seat's translation; that letters come back of their words; conditions stand as hypotheses of each. -/
import Derived.Test.YtcnlimpebnhikaaDoorGetH
namespace Go.Proofs.YtcnlimpebnhikaaDoor
open Go.ChangeShapes Go.WideShapes Go.ChangeAt Go.RowKit
set_option linter.unusedVariables false

/-- The twelve texts of the draw. -/
def txts : List ByteArray := [⟨#[]⟩, ⟨#[97]⟩, ⟨#[97, 98, 99]⟩, ⟨#[97, 98, 99, 100]⟩, ⟨#[115, 116, 97, 114, 116]⟩, ⟨#[114, 53, 48, 36, 46, 57]⟩, ⟨#[115, 101, 118, 101, 110, 55, 55]⟩, ⟨#[65]⟩, ⟨#[97, 32, 98]⟩, ⟨#[97, 98, 45]⟩, ⟨#[32, 97]⟩, ⟨#[122]⟩]
theorem txts_size : ∀ i : Fin 12, (txts.getD i.val ⟨#[]⟩).size ≤ 7 := by decide +kernel
theorem txts_cell (w : World) (j : Nat) (h : j < 12) : (w.alloc (.cells (txts.map Value.string).toArray 9)).cell? ⟨w.heap.size, j, none⟩ = some (.string (txts.getD j ⟨#[]⟩)) := by
  rw [World.cell?_alloc_at _ _ _ _ rfl, List.getElem?_toArray, List.getElem?_map]
  have : j < txts.length := h
  rw [List.getElem?_eq_getElem this, List.getD_eq_getElem?_getD, List.getElem?_eq_getElem this]
  rfl

set_option maxHeartbeats 400000 in
theorem str_any (cb : Nat) (a : Option Addr) (len cap : Nat) (xs : List UInt8) (w0 : World) (hc : Cur w0 cb a len cap xs) :
    Calls Tryd.prog 16 #[.pointer (some ⟨cb, 0, none⟩), .slice (some ⟨w0.heap.size, 0, none⟩) 12 12] (w0.alloc (.cells (txts.map Value.string).toArray 9)) fun e w' => ∃ s : ByteArray, s.size ≤ 7 ∧ e = .returned (.string s) ∧ Cur w' cb a len cap xs ∧ w0.grownBy w' (some cb) := by
  have hlt := hc.lt
  have HC := hide (hc.later ((Below.refl _ _).alloc (Nat.le_refl _) (.cells (txts.map Value.string).toArray 9)))
  have HT := hide (txts_cell w0)
  have HZ : w0.heap.size < (w0.alloc (.cells (txts.map Value.string).toArray 9)).heap.size := by simp
  have HG := hide (World.grownBy_alloc w0 (.cells (txts.map Value.string).toArray 9) (some cb))
  clear hc
  generalize w0.alloc (.cells (txts.map Value.string).toArray 9) = w at *
  go_enter Tryd.func16, Tryd.ntmps16
  go_wp2_with fail
  refine (below_any cb a len cap xs 12 w (by omega) (unhide HC)).mono ?_
  rintro e w1 ⟨x, hx0, hx1, rfl, hc1, hg1⟩
  obtain ⟨hx2, hx3⟩ := hx0 (by omega)
  obtain ⟨j, rfl⟩ := Int.eq_ofNat_of_zero_le hx2
  have hj : j < 12 := by omega
  have hcx : w1.cell? ⟨w0.heap.size, j, none⟩ = some (.string (txts.getD j ⟨#[]⟩)) := (World.cell?_of_block (w := w) (hg1.block w0.heap.size HZ (by simp; omega))).trans (unhide HT j hj)
  obtain ⟨s, hs⟩ : ∃ s, txts.getD j ⟨#[]⟩ = s := ⟨_, rfl⟩
  have hsz := txts_size ⟨j, hj⟩
  simp only at hsz
  rw [hs] at hcx hsz
  clear hx0 hx1 hs HT
  go_wp2
  go_ret
  exact ⟨s, hsz, rfl, hc1, grownBy_trans (unhide HG) hg1⟩

set_option maxHeartbeats 400000 in
theorem drawPut_any (a : Option Addr) (len cap : Nat) (xs : List UInt8) (w : World) (hl : xs.length = len) (hm : len ≤ 1048576) (hr : Rd w a xs) :
    Calls Tryd.prog 6 #[.slice a len cap] w fun e w' => ∃ s : ByteArray, s.size ≤ 7 ∧ e = .returned (.string s) ∧ Below w.heap.size w w' := by
  go_enter Tryd.func6, Tryd.ntmps6
  go_wp2_with fail
  refine (new_any a len cap xs w hl hm hr).mono ?_
  rintro e w1 ⟨rfl, hc1, hb1⟩
  have H := hide (str_any _ a len cap xs w1 hc1)
  clear hc1
  go_wp2_with fail
  refine (unhide H).mono ?_
  rintro e w5 ⟨t, ht, rfl, hc5, hg5⟩
  go_wp2
  go_ret
  exact ⟨t, ht, rfl, below_of_new hb1 hg5⟩

def drawnInts : List Int := [0, 29, 63999, 64000, -1, 65535]
theorem drawn_bd : ∀ i : Fin 6, -9223372036854775808 ≤ nAt drawnInts i.val ∧ nAt drawnInts i.val ≤ 9223372036854775807 := by decide +kernel
theorem radN_bds (xs : List UInt8) : Bds (rNs xs) := by
  intro i hi
  unfold rNs at hi ⊢
  split at hi
  · rename_i h
    rw [if_pos h]
    unfold radN radK at hi ⊢
    have hi2 : i < (xs.length + 2) / 3 := by simpa using hi
    have e : nAt (List.map (fun (j : Nat) => wordAt xs (3 * j)) (List.range ((xs.length + 2) / 3))) i = wordAt xs (3 * i) := by
      unfold nAt
      rw [List.getD_eq_getElem?_getD, List.getElem?_map, List.getElem?_range hi2]
      rfl
    rw [e, ← preAt_3]
    have := preAt_bd xs (3 * i) 3 (by omega)
    omega
  · simp at hi

theorem own_lit3 (w : World) : OwnN (w.alloc (.cells #[.int .i64 1, .int .i64 2, .int .i64 3] 3)) w.heap.size (.slice (some ⟨w.heap.size, 0, none⟩) 3 3) [1, 2, 3] :=
  ⟨rfl, .inr ⟨w.heap.size, 3, _, rfl, Nat.le_refl _, Array.getElem?_push_size, Nat.le_refl _, by unfold maxLen; omega, rfl, rfl⟩⟩

set_option maxHeartbeats 1000000 in
theorem drawGet_any (a : Option Addr) (len cap : Nat) (xs : List UInt8) (w : World) (hl : xs.length = len) (hm : len ≤ 1048576) (hr : Rd w a xs) :
    Calls Tryd.prog 9 #[.slice a len cap] w fun e w' => ∃ (v : Value) (ns : List Int), e = .returned v ∧ ns.length ≤ 3 ∧ Bds ns ∧ OwnN w' w.heap.size v ns ∧ Below w.heap.size w w' := by
  obtain ⟨i0, hi, hz0, hz1, hz2⟩ := info_parts info3
  go_enter Tryd.func9, Tryd.ntmps9
  go_wp2_with fail
  refine (new_any a len cap xs w hl hm hr).mono ?_
  rintro e w1 ⟨rfl, hc1, hb1⟩
  have s1 := hc1.lt
  go_wp2_with fail
  refine (drawPut_any a len cap xs w1 hl hm (hr.later hb1)).mono ?_
  rintro e w2 ⟨s, hs, rfl, hb2⟩
  have s2 := hb2.size
  have B2 := hb1.trans (hb2.mono hb1.size)
  have hc2 := hc1.later hb2
  clear hc1 hb1 hb2
  go_wp2_with fail
  refine (putRadS s w2 (by omega)).mono ?_
  rintro e w3 ⟨v, rfl, own3, hb3⟩
  have s3 := hb3.size
  have B3 := B2.trans (hb3.mono B2.size)
  have hc3 := hc2.later hb3
  have hln := rNs_len s.data.toList
  have hbds := hide (radN_bds s.data.toList)
  generalize rNs s.data.toList = ns at *
  clear hc2 hb3 B2
  generalize rOk s.data.toList = okk
  go_wp2_with fail
  refine (below_any _ a len cap xs 5 w3 (by omega) hc3).mono ?_
  rintro e w4 ⟨x, hx0, hx1, rfl, hc4, hg4⟩
  have s4 := hg4.size
  obtain ⟨hx2, hx3⟩ := hx0 (by omega)
  have own4 : OwnN w4 w2.heap.size v ns := own3.past hg4 (fun e => by have := (own3.lt e).1; omega)
  have B4 := below_of_new B3 hg4
  clear hx0 hx1 hc3 own3 B3 hg4
  by_cases h0 : x = 0
  · subst h0
    have HI := hide (int_any _ a len cap xs (some ⟨w4.heap.size, 0, none⟩) 6 6 drawnInts (w4.alloc (.cells (drawnInts.map (Value.int .i64)).toArray 3)) (hc4.later ((Below.refl _ _).alloc (Nat.le_refl _) _)) (RdN_lit w4 drawnInts) (fun ad e => by cases e; exact fun h => by simp at h; omega) rfl (by omega) (by omega))
    have HO := hide own4
    have HB := hide B4
    clear own4 B4 hc4
    go_wp2_with fail
    refine (unhide HI).mono ?_
    rintro e w5 ⟨j, hj, rfl, hc5, hg5⟩
    have hbj := drawn_bd ⟨j, hj⟩
    simp only at hbj
    have s5 := hg5.size
    simp only [World.size_alloc] at s5
    have O5 := hide (show OwnN w5 w2.heap.size v ns from ((unhide HO).later ((Below.refl _ _).alloc (Nat.le_refl _) _)).past hg5 (fun e => by have := ((unhide HO).lt e).1; omega))
    have B5 := hide (below_of_new ((unhide HB).alloc (unhide HB).size _) hg5)
    obtain ⟨n, hn⟩ : ∃ n, nAt drawnInts j = n := ⟨_, rfl⟩
    rw [hn] at hbj ⊢
    have K1 := hide (cell_one_new w5 (Value.int .i64 n) 3)
    clear HI HO HB hc5 hg5 hn
    go_wp2_with (at_builtin; go_must (refine wpList_append_own _ rfl (.tmp 18) (.tmp 22) 25 rfl w2.heap.size 3 i0 (.int .i64 0) 1 8 Tryd.underlying25 hi hz0 hz1 hz2 rfl (by decide) v ns.length (cellsN ns) rfl ((unhide O5).alloc _) ⟨w5.heap.size, 0, none⟩ 1 1 (cellsN [n]) rfl rfl (unhide K1) (cellsN_one _) (by unfold maxLen; omega) (by omega) (by simp; omega) ?_; intro v6 w6 hown6 hgrow6 _))
    have o6 : OwnN w6 w.heap.size v6 (ns ++ [n]) := by
      have : OwnN w6 w2.heap.size v6 (ns ++ [n]) := by unfold OwnN; rw [cellsN_append, List.length_append]; exact hown6
      exact this.base (by omega)
    have b6 : Below w.heap.size w w6 := ((unhide B5).alloc (unhide B5).size _).grown hgrow6 (by simp; omega) (fun k h => by have := ((unhide O5).lt h).1; omega)
    go_ret
    refine ⟨v6, ns ++ [n], rfl, by simp; omega, fun i hi => ?_, o6, b6⟩
    by_cases e : i < ns.length
    · have := unhide hbds i e
      unfold nAt at this ⊢
      rw [List.getD_eq_getElem?_getD] at this ⊢
      rw [List.getElem?_append_left e]
      exact this
    · have e2 : i = ns.length := by simp at hi; omega
      unfold nAt
      rw [List.getD_eq_getElem?_getD, e2]
      simp
      exact hbj
  · have hq0 : (x == 0) = false := beq_eq_false_iff_ne.2 h0
    by_cases h1 : x = 1
    · have hq1 : (x == 1) = true := by simp [h1]
      have HB := hide B4
      clear h0 h1 own4 B4 hc4
      go_wp2
      go_ret
      exact ⟨_, [1, 2, 3], rfl, by simp, (by intro i hi; have : i = 0 ∨ i = 1 ∨ i = 2 := by simp at hi; omega
                                             rcases this with rfl | rfl | rfl <;> simp [nAt]), (own_lit3 w4).base (by omega), (unhide HB).alloc (unhide HB).size _⟩
    · have hq1 : (x == 1) = false := beq_eq_false_iff_ne.2 h1
      have HB := hide B4
      have HO := hide own4
      clear h0 h1 own4 B4 hc4
      go_wp2
      go_ret
      exact ⟨v, ns, rfl, by omega, unhide hbds, (unhide HO).base (by omega), unhide HB⟩
end Go.Proofs.YtcnlimpebnhikaaDoor
