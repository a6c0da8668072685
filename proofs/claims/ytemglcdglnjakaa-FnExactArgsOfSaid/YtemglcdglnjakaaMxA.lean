/- Tokens copied; the place of a text; Subst by the program; over this seat's translation; conditions stand as hypotheses of each. -/
import Derived.Test.YtemglcdglnjakaaLwF
import Derived.Test.YtemglcdglnjakaaErrT
import Derived.Test.YtemglcdglnjakaaRxO
import Derived.Test.YtemglcdglnjakaaSubT
namespace Go.Proofs.Ytemglcdglnjakaa
open Go.ChangeShapes Go.WideShapes Go.ChangeAt Go.RowKit
set_option linter.unusedVariables false
set_option maxRecDepth 8000
set_option linter.unusedSimpArgs false

theorem cloT_any (s : ByteArray) (w : World) (hlim : s.size ≤ 1099511627776) : Calls Try.prog 31 #[.string s] w fun e w' => e = .returned (.string s) ∧ Below w.heap.size w w' := by
  have H := hide (clone_any s w (by omega))
  go_enter Try.func31, Try.ntmps31
  go_wp2_with fail
  refine (unhide H).mono ?_
  rintro e w1 ⟨rfl, hb1⟩
  go_wp2
  go_ret
  exact ⟨rfl, hb1⟩
theorem setCell_idR {w : World} {g o : Nat} {v : Value} {cs : Array Value} {t : TypeId} (hh : w.heap[g]? = some (.cells cs t (0, 0))) (h : w.cell? ⟨g, o, none⟩ = some v) : w.setCell ⟨g, o, none⟩ v = w := by
  rw [Lib.cell_of_heap hh] at h
  have he : (w.setCell ⟨g, o, none⟩ v).heap = w.heap := by
    apply Array.ext_getElem?
    intro i
    by_cases hi : i = g
    · subst hi
      rw [heap_setCell_same w i o cs t v hh, hh]
      congr 2
      apply Array.ext_getElem?
      intro j
      by_cases hj : j = o
      · subst hj
        have hl := (Array.getElem?_eq_some_iff.1 h).1
        rw [h]
        simp [hl]
      · exact Array.getElem?_setIfInBounds_ne (Ne.symm hj)
    · exact heap_setCell_other w ⟨g, o, none⟩ i v hi
  unfold World.setCell at he ⊢
  cases w
  simp only at he ⊢
  rw [he]
set_option maxHeartbeats 400000 in
theorem idxI_big (L : List ByteArray) (s : ByteArray) (a : Option Addr) (g n cap : Nat) (w : World) (hn : L.length = n) (hm : n ≤ 2000000) (ha : n = 0 ∨ a = some ⟨g, 0, none⟩) (hr : RdS w g L) : Calls Try.prog 32 #[.slice a n cap, .string s] w fun e w' => e = .returned (.int .i64 (atV L s)) ∧ w' = w := by
  obtain ⟨v, hv⟩ : ∃ v, atV L s = v := ⟨_, rfl⟩
  have HIT := hide (fun k (hk : k < n) hm he => (atV_hit (L := L) (s := s) (k := k) (by omega) hm he).symm.trans hv)
  have MISS := hide (fun (h : ∀ k, k < n → eqS (L.getD k E0) s = false) => (atV_no (L := L) (s := s) (hasS_miss (fun k hk => h k (by omega)))).symm.trans hv)
  have RD := hide (fun j (hj : j < n) => hr j (by omega))
  rw [hv]
  clear hv hr
  go_enter Try.func32, Try.ntmps32
  go_wp2
  go_loop [8] (fun i => ∃ k : Nat, i = .int .i64 k ∧ k ≤ n ∧ Hid (∀ j, j < k → eqS (L.getD j E0) s = false)) (fun i => n - (intOf i).toNat)
  case atStart => exact ⟨0, rfl, by omega, fun j hj => by omega⟩
  case round =>
    obtain ⟨k, rfl, hk, hd⟩ := hrel
    by_cases hlt : k < n
    · obtain rfl := ha.resolve_left (by omega)
      have hc := unhide RD k hlt
      have H1 := hide (unhide HIT k hlt hd.out)
      have H2 := hide (show eqS (L.getD k E0) s = false → ∀ j, j < k + 1 → eqS (L.getD j E0) s = false from fun h j hj => by
        by_cases e : j = k
        · subst e; exact h
        · exact hd.out j (by omega))
      generalize L.getD k E0 = T at hc H1 H2
      clear hd
      have hsy : (s.toList == T.toList) = (T.toList == s.toList) := by
        rw [Bool.eq_iff_iff, beq_iff_eq, beq_iff_eq]
        exact eq_comm
      cases hq : (T.toList == s.toList)
      · have E := hide (unhide H2 hq)
        rw [hq] at hsy
        clear H1 H2 hq
        go_wp2
        go_round
        case rel => exact ⟨k + 1, by go_num, by omega, unhide E⟩
        case measure => simp [intOf]; omega
      · have E := hide (unhide H1 hq)
        rw [hq] at hsy
        clear H1 H2 hq
        go_wp2
        go_ret
        exact ⟨by rw [← unhide E]; rfl, rfl⟩
    · have E := hide (unhide MISS (fun j hj => hd.out j (by omega)))
      clear hd
      go_wp2
      go_ret
      exact ⟨by rw [← unhide E]; rfl, rfl⟩
set_option maxHeartbeats 4000000 in
theorem copT_any (ts : List Tk) (la : Option Addr) (lc : Nat) (w : World) (hl : ts.length ≤ 1099511627776) (hz : ∀ i, i < ts.length → (tAt ts i).s.size ≤ 1099511627776) (h1 : RdT w la ts) : Calls Try.prog 26 #[.slice la ts.length lc] w fun r w' => ∃ v, r = .returned v ∧ OwnT w' w.heap.size v ts ∧ Below w.heap.size w w' := by
  obtain ⟨len, hlen⟩ : ∃ len, ts.length = len := ⟨_, rfl⟩
  have FN := hide (show ts.take len = ts by rw [← hlen, List.take_length])
  have HZ := hide hz
  have O0 := hide (show OwnT w w.heap.size (.slice none 0 0) (ts.take 0) from ⟨rfl, .inl ⟨rfl, rfl⟩⟩)
  rw [hlen] at hl ⊢
  clear hz
  go_enter Try.func26, Try.ntmps26
  go_wp2
  go_loopw [3, 8] (fun v i wr => ∃ k : Nat, k ≤ len ∧ i = .int .i64 k ∧ OwnT wr w.heap.size v (ts.take k) ∧ Below w.heap.size w wr) (fun _ i _ => len - (intOf i).toNat)
  case atStart => exact ⟨0, Nat.zero_le _, rfl, unhide O0, Below.refl _ _⟩
  case round =>
    clear O0
    obtain ⟨k, hk, rfl, ho, hb⟩ := hrel
    by_cases hlt : k < len
    · rcases h1 with h0 | ⟨g, off, rfl, hbl, hc⟩
      · rw [h0] at hlen; simp at hlen; omega
      obtain ⟨c0, c1, c2⟩ := hc k (by omega)
      have d0 : wr.cell? ⟨g, off + k * 3, none⟩ = _ := (hb.cell (p := ⟨g, _, none⟩) hbl).trans c0
      have d1 : wr.cell? ⟨g, off + k * 3 + 1, none⟩ = _ := (hb.cell (p := ⟨g, _, none⟩) hbl).trans c1
      have d2 : wr.cell? ⟨g, off + k * 3 + 2, none⟩ = _ := (hb.cell (p := ⟨g, _, none⟩) hbl).trans c2
      have SB := hide (show ts.take (k + 1) = ts.take k ++ [tAt ts k] by
        rw [List.take_succ_eq_append_getElem (by omega)]
        unfold tAt
        rw [List.getD_eq_getElem?_getD, List.getElem?_eq_getElem (by omega)]
        rfl)
      have HL := hide (show (ts.take k).length = k by rw [List.length_take]; omega)
      have hz := unhide HZ k (by omega)
      clear c0 c1 c2 hc FN
      generalize hA : ts.take k = acc at *
      generalize tAt ts k = t at *
      obtain ⟨kk, nn, ss⟩ := t
      simp only at d0 d1 d2 hz
      have L1 := hide (show (acc.length + [(⟨kk, nn, ss⟩ : Tk)].length) * 32 ≤ 140737488355328 by have := unhide HL; simp; omega)
      have R0 := hide (heap_alloc_new wr (.cells #[.int .i64 kk, .int .i64 nn, .string ss] 45))
      have B0 := hide (below_new wr (.cells #[.int .i64 kk, .int .i64 nn, .string ss] 45))
      have CL := hide (cloT_any ss (wr.alloc (.cells #[.int .i64 kk, .int .i64 nn, .string ss] 45)) hz)
      have HB := hide hb
      have HO := hide ho
      clear hA HL ho hb hz
      go_wp2_with fail
      refine (unhide CL).mono ?_
      rintro e w1 ⟨rfl, hb1⟩
      have R1 := (hb1.block wr.heap.size (by simp)).trans (unhide R0)
      have c0 := Lib.cell_of_heap R1 0
      have c1 := Lib.cell_of_heap R1 1
      have c2 := Lib.cell_of_heap R1 2
      have f2 := Lib.frozen_of_heap R1 2
      have id2 := setCell_idR R1 c2
      have hb3 := (unhide B0).trans (hb1.mono (unhide B0).size)
      have B1 := hide ((unhide HB).trans (hb3.mono (unhide HB).size))
      have O1 := (unhide HO).later hb3
      have R2 := hide (rdt_one w1 ⟨kk, nn, ss⟩)
      have O2 := hide (O1.later (below_new w1 (.cells #[.int .i64 kk, .int .i64 nn, .string ss] 45)))
      have B2 := hide ((unhide B1).trans ((below_new w1 (.cells #[.int .i64 kk, .int .i64 nn, .string ss] 45)).mono (unhide B1).size))
      have S2 := hide (unhide B2).size
      unfold Tk.cs at R2
      have HO2 := hide (fun g hg => (O1.lt (g := g) hg).1)
      clear O1 hb1 hb3 R1 CL HB HO B0 R0 d0 d1 d2
      go_wp2_with (first | (at_builtin; go_loud (erw [id2]); go_must (refine appTs rfl _ _ rfl rfl (unhide O2) (some ⟨w1.heap.size, 0, none⟩) 1 rfl (unhide R2) (.inr ⟨_, _, rfl⟩) (unhide L1) (unhide S2) ?_; intro v3 w3 ho3 hg3; have O3 := hide ho3; have G3 := hide hg3; clear ho3 hg3)))
      have B3 := hide ((unhide B2).grown (unhide G3) (unhide S2) (unhide HO2))
      rw [← unhide SB] at O3
      clear G3 O2 B2 R2
      go_wp2
      go_roundw
      case rel => exact ⟨k + 1, by omega, by go_num, unhide O3, unhide B3⟩
      case measure => simp [intOf]; omega
    · obtain rfl : k = len := by omega
      rw [unhide FN] at ho
      have O1 := hide ho
      clear ho
      go_wp2
      go_ret
      exact ⟨_, rfl, unhide O1, hb⟩
end Go.Proofs.Ytemglcdglnjakaa
