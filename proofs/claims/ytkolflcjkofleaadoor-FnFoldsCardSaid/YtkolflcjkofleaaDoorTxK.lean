/- Contracts over this seat's translation, laid together; conditions stand as hypotheses of each. -/
import Derived.Test.YtkolflcjkofleaaDoorTxA
import Derived.Test.YtkolflcjkofleaaDoorTxB
import Derived.Test.YtkolflcjkofleaaDoorTxG
import Derived.Test.YtkolflcjkofleaaDoorTxH
import Derived.SliceStrings

namespace Go.Proofs.YtkolflcjkofleaaDoor
open Go.ChangeShapes Go.WideShapes Go.ChangeAt Go.RowKit
set_option linter.unusedVariables false
set_option maxRecDepth 8000
set_option linter.unusedSimpArgs false

set_option maxHeartbeats 1000000 in
theorem atL_any (a : Option Addr) (len cap i : Nat) (xs : List UInt8) (w : World) (hl : xs.length = len) (hm : len ≤ 1048576) (hi : i ≤ 1048576) (hr : Rd w a xs) : Calls Tryd.prog 13 #[.slice a len cap, .int .i64 (i : Nat)] w fun r w' => (∃ n : Nat, n ≤ 255 ∧ r = .returned (.int .i64 (n : Nat))) ∧ w' = w := by
  by_cases h : i < len
  · rcases hr with rfl | ⟨b, off, rfl, hb, hc⟩
    · simp at hl; omega
    have hcx := hc i (by omega)
    have h1 : (i : Int) < (len : Int) := by omega
    have h2 : ¬ ((len : Int) ≤ (i : Int)) := by omega
    obtain ⟨n, hn, hn2⟩ : ∃ n : Nat, bAt xs i = (n : Int) ∧ n ≤ 255 := by
      unfold bAt
      exact ⟨_, rfl, by have := (xs.getD i 0).toNat_lt; omega⟩
    rw [hn] at hcx
    clear hc
    go_enter Tryd.func13, Tryd.ntmps13
    go_wp2
    (first | go_ret2 | go_ret | skip)
    exact ⟨⟨n, hn2, by first | rfl | (congr 2; omega)⟩, rfl⟩
  · have h1 : ¬ ((i : Int) < (len : Int)) := by omega
    have h2 : (len : Int) ≤ (i : Int) := by omega
    go_enter Tryd.func13, Tryd.ntmps13
    go_wp2
    (first | go_ret2 | go_ret | skip)
    have e : (((i * 31 + len * 7) % 256 : Nat) : Int) = ((i : Int) * 31 + (len : Int) * 7) % 256 := by omega
    exact ⟨⟨(i * 31 + len * 7) % 256, by omega, by rw [e]; rfl⟩, rfl⟩
theorem foldA_ok (e : Ex) : okF 6 false (foldA e) = okF 6 false e := by
  unfold foldA
  split
  · rename_i h; rw [h]; exact fold_ok 6 e h
  · rfl
theorem foldA_twice (e : Ex) : foldA (foldA e) = foldA e := by
  by_cases h : okF 6 false e = true
  · have e1 : foldA e = foldX e := by unfold foldA; rw [if_pos h]
    rw [e1]
    unfold foldA
    rw [if_pos (fold_ok 6 e h)]
    exact fold_twice h
  · have e1 : foldA e = e := by unfold foldA; rw [if_neg h]
    rw [e1, e1]
theorem foldA_worth (bs : List Int) (L : List ByteArray) (vs : List Int) (e : Ex) {v : Int} (h : worthA bs L vs e = some v) : worthA bs L vs (foldA e) = some v := by
  unfold worthA at h ⊢
  by_cases ho : okF 6 false e = true
  · rw [if_pos ho] at h
    have e1 : foldA e = foldX e := by unfold foldA; rw [if_pos ho]
    rw [e1, if_pos (fold_ok 6 e ho)]
    exact fold_worth (seW_in bs) (glW_in L vs) 6 e v ho h
  · rw [if_neg ho] at h
    cases h
theorem known_worth (bs : List Int) (L : List ByteArray) (vs : List Int) (e : Ex) {n v : Int} (hk : knownA e = some n) (hw : worthA bs L vs e = some v) : v = n := by
  unfold knownA at hk
  by_cases h : okF 6 false e = true ∧ (foldX e).k = 1
  · rw [if_pos h] at hk
    unfold worthA at hw
    rw [if_pos h.1] at hw
    have hw2 := fold_worth (seW_in bs) (glW_in L vs) 6 e v h.1 hw
    obtain ⟨m, _, e1⟩ := ok_k1 (fold_ok 6 e h.1) h.2
    rw [e1] at hw2 hk
    rw [worth_num] at hw2
    cases hk
    cases hw2
    rfl
  · rw [if_neg h] at hk
    cases hk
theorem foldA_sz (e : Ex) (h : e.sz ≤ 1000) : (foldA e).sz ≤ 1000 := by
  unfold foldA
  split
  · rename_i ho
    have : ∀ (d : Nat) (x : Ex), okF d false x = true → x.sz ≤ (2 ^ d - 1) * 8 := by
      intro d
      induction d with
      | zero => intro x h; cases h
      | succ d ih =>
        intro x h
        have hE : (E0 : ByteArray).size = 0 := rfl
        have hp : 2 ^ (d + 1) = 2 * 2 ^ d := by rw [Nat.pow_succ]; omega
        have h1 : 1 ≤ 2 ^ d := Nat.one_le_two_pow
        rcases ok_sev h with ⟨n, hn, rfl⟩ | ⟨s, hs, rfl⟩ | rfl | ⟨n, hn, rfl⟩ | ⟨s, hs, rfl⟩ | ⟨a, ha, rfl⟩ | ⟨k, a, b, hk, ha, hb, rfl⟩
        · rw [sz_leaf, hE]; omega
        · rw [sz_leaf]; have := name_szF hs; omega
        · rw [sz_leaf, hE]; omega
        · rw [sz_leaf, hE]; omega
        · rw [sz_leaf]; have := name_szF hs; omega
        · rw [show E0 = (⟨#[]⟩ : ByteArray) from rfl, sz_one]; have := ih a ha; omega
        · rw [show E0 = (⟨#[]⟩ : ByteArray) from rfl, sz_two]; have := ih a ha; have := ih b hb; omega
    have h2 := this 6 (foldX e) (fold_ok 6 e ho)
    have : (2 ^ 6 - 1) * 8 = 504 := by decide
    omega
  · exact h
theorem rdu_lit (w : World) : RdU (w.alloc (.cells #[.string ⟨#[103]⟩, .string ⟨#[104]⟩] 9)) (some ⟨w.heap.size, 0, none⟩) [⟨#[103]⟩, ⟨#[104]⟩] := by
  have h : (w.alloc (.cells #[.string ⟨#[103]⟩, .string ⟨#[104]⟩] 9)).heap[w.heap.size]? = some (.cells #[.string ⟨#[103]⟩, .string ⟨#[104]⟩] 9 (0, 0)) := Array.getElem?_push_size
  refine .inr ⟨w.heap.size, 0, rfl, (Array.getElem?_eq_some_iff.1 h).1, fun i hi => ?_⟩
  have hi : i < 2 := hi
  have : i = 0 ∨ i = 1 := by omega
  rcases this with rfl | rfl
  · exact Lib.cell_of_heap h _
  · exact Lib.cell_of_heap h _
end Go.Proofs.YtkolflcjkofleaaDoor

namespace Go.Proofs.YtkolflcjkofleaaDoor
open Go.ChangeShapes Go.WideShapes Go.ChangeAt Go.RowKit
set_option linter.unusedVariables false
set_option maxRecDepth 8000

/-- What is known of a list of texts that came in. -/
structure IsU (W : World) (a : Option Addr) (len : Nat) (L : List ByteArray) : Prop where
  hlen : L.length = len
  max : len ≤ 9223372036854775807
  each : ∀ i, i < len → (tAtS L i).size ≤ 9223372036854775807
  rd : RdU W a L
section
variable {H : Type} {enc : TypeId × Value → H} {W : World} {b0 base : Nat} {spare : TypeId → Bool} {held : Bool}
theorem open_strs {r : Reach} {v : Value} {d : DataW H} {p : List MemPlace} (hv : Value.okWide Tryd.prog W r b0 31 v) (h : DataW.Trod enc Tryd.prog W base spare held 31 v d p) : ∃ a len cap L, v = .slice a len cap ∧ IsU W a len L := by
  obtain ⟨a, len, cap, rfl⟩ := okWide_slice Tryd.underlying31 hv
  obtain ⟨fuel, hf⟩ := h
  rcases open_strings Tryd.underlying31 Tryd.underlying9 (by kernel_rfl) hf with ⟨hcs, _⟩ | ⟨x, l, c, ss, hcs, _, hl, hm, hz, _, hcell, hsz⟩
  · simp [Value.cells] at hcs
    obtain ⟨rfl, rfl, rfl⟩ := hcs
    exact ⟨none, 0, 0, [], rfl, rfl, by omega, fun i hi => by omega, .inl rfl⟩
  · simp [Value.cells] at hcs
    obtain ⟨rfl, rfl, rfl⟩ := hcs
    have hlz : len ≤ ss.length := by rw [hz]; split <;> omega
    have hL : (ss.take len).length = len := by simp; omega
    have hat : ∀ i, i < len → tAtS (ss.take len) i = ss.getD i ByteArray.empty := fun i hi => by
      unfold tAtS
      rw [List.getD_eq_getElem?_getD, List.getElem?_take_of_lt hi, List.getElem?_eq_getElem (by omega), List.getD_eq_getElem?_getD, List.getElem?_eq_getElem (by omega)]
      rfl
    have hmem : ∀ i, i < len → (ss.getD i ByteArray.empty).size ≤ maxLen := fun i hi => by
      rw [List.getD_eq_getElem?_getD, List.getElem?_eq_getElem (by omega)]
      exact hsz _ (List.getElem_mem _)
    refine ⟨some x, len, cap, ss.take len, rfl, hL, by unfold maxLen at hm; omega, fun i hi => by rw [hat i hi]; have := hmem i hi; unfold maxLen at this; omega, ?_⟩
    by_cases h0 : len = 0
    · subst h0; exact .inl (by simp)
    · right
      obtain ⟨b, off, spot⟩ := x
      have h00 := hcell 0 (by omega)
      have hspot : spot = none := by simpa [Addr.add] using World.cell?_spot h00
      subst hspot
      have hadd : ∀ j, (⟨b, off, none⟩ : Addr).add j = ⟨b, off + j, none⟩ := fun j => by
        unfold Addr.add
        by_cases hj : j = 0
        · subst hj; simp
        · simp [hj]
      refine ⟨b, off, rfl, World.block_lt_of_cell? W _ h00, fun i hi => ?_⟩
      rw [hL] at hi
      rw [hat i hi]
      have h3 := hcell i (by omega)
      rw [hadd] at h3
      exact h3
theorem open_exs {r : Reach} {v : Value} {d : DataW H} {p : List MemPlace} (hv : Value.okWide Tryd.prog W r b0 42 v) (h : DataW.Trod enc Tryd.prog W base spare held 42 v d p) : ∃ (e : Ex) (b : Option Addr) (cap : Nat), v = .slice b e.l.length cap ∧ RdX W 0 e b ∧ Fit e := by
  obtain ⟨a0, len, cap, rfl⟩ := okWide_slice Tryd.underlying42 hv
  obtain ⟨fuel, hf⟩ := h
  have hc : Tryd.prog.cellsOf 44 = 4 := by kernel_rfl
  rcases DataW.trod_slice Tryd.underlying42 hf with ⟨hcs, _⟩ | ⟨a, l0, c0, elems, rest, q, hq, hcs, _, hb, hl, hm, hel, hx, _, _⟩
  · simp [Value.cells] at hcs
    obtain ⟨rfl, rfl, rfl⟩ := hcs
    exact ⟨⟨0, 0, E0, []⟩, none, 0, rfl, (RdX_eq _ _ _ _).2 (.inl rfl), (Fit_eq _).2 ⟨by decide, by simp, fun i hi => by simp at hi⟩⟩
  · simp [Value.cells] at hcs
    obtain ⟨rfl, rfl, rfl⟩ := hcs
    have each : ∀ i, i < len → ∃ t : Ex, (W.cell? (a.add (i * 4)) = some (.int .i64 t.k) ∧ W.cell? (a.add (i * 4 + 1)) = some (.int .i64 t.n) ∧ W.cell? (a.add (i * 4 + 2)) = some (.string t.s) ∧ ∃ c cap, W.cell? (a.add (i * 4 + 3)) = some (.slice c t.l.length cap) ∧ RdX W 0 t c) ∧ Fit t := fun i hi => by
      have h4 := hx i hi
      rw [List.getElem?_eq_getElem (by omega), Option.bind_eq_some_iff] at h4
      obtain ⟨cs', p1, p2⟩ := h4
      rw [hc] at p1
      obtain ⟨_, hlen', hcell⟩ := World.cells?_some p1
      obtain ⟨t, c, cap', hcs', hrd, hft⟩ := trod_ex _ cs' _ p2
      refine ⟨t, ⟨?_, ?_, ?_, c, cap', ?_, hrd⟩, hft⟩
      · have e := hcell 0 (by omega); rw [_root_.Go.Deep.add_add, hcs'] at e; simpa using e
      · have e := hcell 1 (by omega); rw [_root_.Go.Deep.add_add, hcs'] at e; simpa using e
      · have e := hcell 2 (by omega); rw [_root_.Go.Deep.add_add, hcs'] at e; simpa using e
      · have e := hcell 3 (by omega); rw [_root_.Go.Deep.add_add, hcs'] at e; simpa using e
    obtain ⟨T, hT⟩ := @_root_.Go.Deep.choose_lt Ex ⟨X0⟩ _ _ each
    have hL : ((List.range len).map T).length = len := by simp
    have hat : ∀ i, i < len → xAt ((List.range len).map T) i = T i := fun i hi => by
      unfold xAt
      rw [List.getD_eq_getElem?_getD, List.getElem?_map, List.getElem?_range hi]
      rfl
    refine ⟨⟨0, 0, E0, (List.range len).map T⟩, some a, cap, by simp [hL], (RdX_eq _ _ _ _).2 ?_, (Fit_eq _).2 ⟨show E0.size ≤ 9223372036854775807 by decide, ?_, fun i hi => ?_⟩⟩
    · by_cases h0 : len = 0
      · subst h0; exact .inl rfl
      · right
        obtain ⟨b, off, spot⟩ := a
        have h00 := (hT 0 (by omega)).1.1
        have hspot : spot = none := by simpa [Addr.add] using World.cell?_spot h00
        subst hspot
        have hadd : ∀ j, (⟨b, off, none⟩ : Addr).add j = ⟨b, off + j, none⟩ := fun j => by
          unfold Addr.add
          by_cases hj : j = 0
          · subst hj; simp
          · simp [hj]
        refine ⟨b, off, rfl, Nat.zero_le _, World.block_lt_of_cell? W _ h00, fun i hi => ?_⟩
        have hi : i < len := by simpa using hi
        show OneX W 0 b (off + i * 4) (xAt ((List.range len).map T) i)
        rw [hat i hi]
        have h3 := (hT i hi).1
        rw [hadd, hadd, hadd, hadd] at h3
        exact h3
    · show ((List.range len).map T).length ≤ _
      rw [hL]; unfold maxLen at hm; omega
    · have hi : i < len := by simpa using hi
      show Fit (xAt ((List.range len).map T) i)
      rw [hat i hi]
      exact (hT i hi).2
end
end Go.Proofs.YtkolflcjkofleaaDoor

namespace Go.Proofs.YtkolflcjkofleaaDoor
open Go.ChangeShapes Go.WideShapes Go.ChangeAt Go.RowKit
set_option linter.unusedVariables false
set_option maxRecDepth 8000

theorem rdn_of_row {w : World} {a : Option Addr} {len cap : Nat} {zs : List Int} (h : IsRow .i64 w a len cap zs) : ∃ xs : List Int, xs.length = len ∧ len ≤ 9223372036854775807 ∧ RdN w a xs := by
  rcases h with ⟨rfl, rfl, rfl, rfl⟩ | ⟨x, rfl, hl, hm, hz, hc, hw⟩
  · exact ⟨[], rfl, by omega, .inl rfl⟩
  · have hL : (zs.take len).length = len := by simp; omega
    refine ⟨zs.take len, hL, by unfold maxLen at hm; omega, ?_⟩
    by_cases h0 : len = 0
    · subst h0; exact .inl (by simp)
    · right
      obtain ⟨b, off, spot⟩ := x
      have h00 := hc 0 (by omega)
      have hspot : spot = none := by simpa [Addr.add] using World.cell?_spot h00
      subst hspot
      have hadd : ∀ j, (⟨b, off, none⟩ : Addr).add j = ⟨b, off + j, none⟩ := fun j => by
        unfold Addr.add
        by_cases hj : j = 0
        · subst hj; simp
        · simp [hj]
      refine ⟨b, off, rfl, World.block_lt_of_cell? w _ h00, fun i hi => ?_⟩
      rw [hL] at hi
      have h3 := hc i (by omega)
      rw [hadd] at h3
      rw [h3]
      unfold nAt
      rw [List.getD_eq_getElem?_getD, List.getD_eq_getElem?_getD, List.getElem?_take_of_lt hi]
theorem rdu_of_own {w : World} {B g cap : Nat} {L : List ByteArray} (h : OwnS w B (.slice (some ⟨g, 0, none⟩) L.length cap) L) : RdU w (some ⟨g, 0, none⟩) L := by
  by_cases h0 : L = []
  · exact .inl h0
  · refine .inr ⟨g, 0, rfl, (World.ownsRow.lt h g rfl).2, fun i hi => ?_⟩
    have := h.cells i hi
    rw [Nat.zero_add]
    exact this
theorem own_n {w : World} {B g n cap : Nat} {xs : List Int} (h : OwnN w B (.slice (some ⟨g, 0, none⟩) n cap) xs) : g < w.heap.size ∧ ∀ i, i < xs.length → w.cell? ⟨g, i, none⟩ = some (.int .i64 (nAt xs i)) := by
  refine ⟨(h.lt (g := g) rfl).2, fun i hi => ?_⟩
  rcases h.rd1 with rfl | ⟨b, off, e, hb, hc⟩
  · simp at hi
  · cases e
    have := hc i hi
    rw [Nat.zero_add] at this
    exact this
theorem ev_of {w : World} {B1 B2 B3 gb gn gv n1 c1 c2 n3 c3 : Nat} {bs vs : List Int} {L : List ByteArray} (h1 : OwnN w B1 (.slice (some ⟨gb, 0, none⟩) n1 c1) bs) (h2 : OwnS w B2 (.slice (some ⟨gn, 0, none⟩) L.length c2) L) (h3 : OwnN w B3 (.slice (some ⟨gv, 0, none⟩) n3 c3) vs) : Ev w gb gn gv bs L vs :=
  ⟨(own_n h1).2, h2.cells, (own_n h3).2, (own_n h1).1, (World.ownsRow.lt h2 gn rfl).2, (own_n h3).1⟩
theorem OwnS.later {w w' : World} {B g n cap : Nat} {L : List ByteArray} (h : OwnS w B (.slice (some ⟨g, 0, none⟩) n cap) L) (hb : Below w.heap.size w w') : OwnS w' B (.slice (some ⟨g, 0, none⟩) n cap) L := by
  obtain ⟨h1, h2⟩ := h
  refine ⟨h1, ?_⟩
  rcases h2 with h2 | ⟨g', cap', cur, e, q1, q2, q3⟩
  · exact .inl h2
  · cases e
    exact .inr ⟨g, cap, cur, rfl, q1, (hb.block _ (Array.getElem?_eq_some_iff.1 q2).1).trans q2, q3⟩
end Go.Proofs.YtkolflcjkofleaaDoor
