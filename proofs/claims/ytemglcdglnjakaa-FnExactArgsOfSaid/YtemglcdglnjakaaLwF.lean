/- Subst by the model; over this seat's translation; conditions stand as hypotheses of each. -/
import Derived.Test.YtemglcdglnjakaaLwE
namespace Go.Proofs.Ytemglcdglnjakaa
open Go.ChangeShapes Go.WideShapes Go.ChangeAt Go.RowKit
set_option linter.unusedVariables false
set_option maxRecDepth 8000
set_option linter.unusedSimpArgs false

theorem rdt_one (w : World) (t : Tk) : RdT (w.alloc (.cells t.cs 45)) (some ⟨w.heap.size, 0, none⟩) [t] := by
  refine .inr ⟨w.heap.size, 0, rfl, by simp, fun i hi => ?_⟩
  have hi : i < 1 := hi
  obtain rfl : i = 0 := by omega
  have h : (w.alloc (.cells t.cs 45)).heap[w.heap.size]? = some (.cells t.cs 45 (0, 0)) := Array.getElem?_push_size
  exact ⟨Lib.cell_of_heap h 0, Lib.cell_of_heap h 1, Lib.cell_of_heap h 2⟩
theorem RdS.later {w w' : World} {g : Nat} {L : List ByteArray} (h : RdS w g L) (hb : Below w.heap.size w w') : RdS w' g L := fun j hj => by
  have h1 := h j hj
  exact (hb.cell (p := ⟨g, j, none⟩) (World.block_lt_of_cell? w _ h1)).trans h1
theorem rAt_out {ps : List (List Tk)} {m : Nat} (h : ¬ m < ps.length) : rAt ps m = [] := by
  unfold rAt
  rw [List.getD_eq_getElem?_getD, List.getElem?_eq_none (by omega)]
  rfl
set_option maxHeartbeats 8000000 in
theorem subS (ts : List Tk) (L : List ByteArray) (ps : List (List Tk)) (la aa : Option Addr) (lc pg pc ac : Nat) (w : World) (hl : ts.length ≤ 1048576) (hp : L.length ≤ 2000000) (hs : ∀ i, i < ps.length → (rAt ps i).length ≤ 1048576) (hn : ps.length ≤ 1048576) (h1 : RdT w la ts) (h2 : RdS w pg L) (h3 : RdR true w aa ps) : Calls Try.prog 8 #[.slice la ts.length lc, .slice (some ⟨pg, 0, none⟩) L.length pc, .slice aa ps.length ac] w fun r w' => ∃ v, r = .returned v ∧ OwnT w' w.heap.size v (sbA L ps ts) ∧ Below w.heap.size w w' := by
  have AT := hide (fun (s : ByteArray) (wr : World) (hb : Below w.heap.size w wr) => at_big L s pg L.length pc wr rfl hp (h2.later hb))
  have LB := hide (sbA_len L ps ts 1048576 (by omega) hs)
  have HS := hide hs
  have RR := hide h3
  clear h2 h3 hs
  obtain ⟨len, hlen⟩ : ∃ len, ts.length = len := ⟨_, rfl⟩
  have FN := hide (show ts.take len = ts by rw [← hlen, List.take_length])
  rw [hlen] at hl ⊢
  generalize L.length = np at *
  have O0 := hide (show OwnT (w.alloc (.cells #[] 45)) w.heap.size (.slice (some ⟨w.heap.size, 0, none⟩) 0 0) (sbA L ps (ts.take 0)) from World.ownsRow_lit w #[] 0 (Nat.le_refl _) (by decide) rfl)
  have B0 := hide (below_new w (.cells #[] 45))
  go_enter Try.func8, Try.ntmps8
  go_wp2
  go_loopw [7, 8] (fun v i wr => ∃ k : Nat, k ≤ len ∧ i = .int .i64 k ∧ OwnT wr w.heap.size v (sbA L ps (ts.take k)) ∧ Below w.heap.size w wr) (fun _ i _ => len - (intOf i).toNat)
  case atStart => exact ⟨0, Nat.zero_le _, rfl, unhide O0, unhide B0⟩
  case round =>
    clear O0 B0
    obtain ⟨k, hk, rfl, ho, hb⟩ := hrel
    by_cases hlt : k < len
    · rcases h1 with h0 | ⟨g, off, rfl, hbl, hc⟩
      · rw [h0] at hlen; simp at hlen; omega
      obtain ⟨c0, c1, c2⟩ := hc k (by omega)
      have d0 : wr.cell? ⟨g, off + k * 3, none⟩ = _ := (hb.cell (p := ⟨g, _, none⟩) hbl).trans c0
      have d1 : wr.cell? ⟨g, off + k * 3 + 1, none⟩ = _ := (hb.cell (p := ⟨g, _, none⟩) hbl).trans c1
      have d2 : wr.cell? ⟨g, off + k * 3 + 2, none⟩ = _ := (hb.cell (p := ⟨g, _, none⟩) hbl).trans c2
      have SB0 := hide (sbA_take L ps ts k (by omega))
      have hle := unhide LB k (by omega)
      have HL := hide (show (sbA L ps (ts.take k)).length ≤ 1099511627776 by omega)
      clear c0 c1 c2 hc hle LB FN
      generalize hA : sbA L ps (ts.take k) = acc at *
      generalize tAt ts k = t at *
      obtain ⟨kk, nn, ss⟩ := t
      simp only at d0 d1 d2
      have L1 := hide (show (acc.length + [(⟨kk, nn, ss⟩ : Tk)].length) * 32 ≤ 140737488355328 by have := unhide HL; simp; omega)
      by_cases h1k : kk = 1
      · subst h1k
        have AT1 := hide (unhide AT ss wr hb)
        by_cases hneg : atV L ss < 0
        · have SB := hide (show sbA L ps (ts.take (k + 1)) = acc ++ [⟨1, nn, ss⟩] by rw [unhide SB0]; unfold sbT; rw [if_pos rfl, if_pos hneg])
          clear SB0 HL
          generalize atV L ss = kv at *
          have R2 := hide (rdt_one wr ⟨1, nn, ss⟩)
          have O2 := hide (ho.later (below_new wr (.cells #[.int .i64 1, .int .i64 nn, .string ss] 45)))
          have B2 := hide (hb.trans ((below_new wr (.cells #[.int .i64 1, .int .i64 nn, .string ss] 45)).mono hb.size))
          have S2 := hide (unhide B2).size
          unfold Tk.cs at R2
          have HO := hide (fun g hg => (ho.lt (g := g) hg).1)
          clear ho
          go_wp2_with (first | (go_at_call 24; refine (unhide AT1).mono ?_; rintro r w' ⟨rfl, hw'⟩; rw [hw']; clear hw' w') | (at_builtin; go_must (refine appTs rfl _ _ rfl rfl (unhide O2) (some ⟨wr.heap.size, 0, none⟩) 1 rfl (unhide R2) (.inr ⟨_, _, rfl⟩) (unhide L1) (unhide S2) ?_; intro v3 w3 ho3 hg3; have O3 := hide ho3; have G3 := hide hg3; clear ho3 hg3)))
          have B3 := hide ((unhide B2).grown (unhide G3) (unhide S2) (unhide HO))
          rw [← unhide SB] at O3
          clear G3 O2 B2 R2
          go_wp2
          go_roundw
          case rel => exact ⟨k + 1, by omega, by go_num, unhide O3, unhide B3⟩
          case measure => simp [intOf]; omega
        · obtain ⟨m, hm⟩ : ∃ m : Nat, atV L ss = m := ⟨(atV L ss).toNat, by omega⟩
          have SB := hide (show sbA L ps (ts.take (k + 1)) = acc ++ rAt ps m by rw [unhide SB0]; unfold sbT; rw [if_pos rfl, if_neg hneg, hm]; rfl)
          rw [hm] at AT1
          clear SB0 hm hneg L1
          have hd : ¬ ((m : Nat) : Int) < 0 := by omega
          by_cases hin : m < ps.length
          · have hin2 : ((m : Nat) : Int) < (ps.length : Int) := by omega
            obtain ⟨ag, aoff, rfl, hag, hac⟩ := (unhide RR).resolve_left (fun e => by rw [e] at hin; simp at hin)
            obtain ⟨b, cp, e0, e1, e2⟩ := hac m hin
            have z0 : wr.cell? ⟨ag, aoff + m, none⟩ = _ := (hb.cell (p := ⟨ag, _, none⟩) hag).trans e0
            have R1 := hide (e1.later hb)
            have N1 := hide (e2 rfl).2
            have L2 := hide (show (acc.length + (rAt ps m).length) * 32 ≤ 140737488355328 by have := unhide HL; have := unhide HS m hin; omega)
            have S1 := hide hb.size
            have O1 := hide ho
            have HO := hide (fun g hg => (ho.lt (g := g) hg).1)
            clear ho e0 e1 e2 hac HL HS
            go_wp2_with (first | (go_at_call 24; refine (unhide AT1).mono ?_; rintro r w' ⟨rfl, hw'⟩; rw [hw']; clear hw' w') | (at_builtin; go_must (refine appTs rfl _ _ rfl rfl (unhide O1) b cp rfl (unhide R1) (unhide N1) (unhide L2) (unhide S1) ?_; intro v3 w3 ho3 hg3; have O3 := hide ho3; have G3 := hide hg3; clear ho3 hg3)))
            have B3 := hide (hb.grown (unhide G3) (unhide S1) (unhide HO))
            rw [← unhide SB] at O3
            clear G3 O1 R1
            go_wp2
            go_roundw
            case rel => exact ⟨k + 1, by omega, by go_num, unhide O3, unhide B3⟩
            case measure => simp [intOf]; omega
          · have hin2 : ¬ ((m : Nat) : Int) < (ps.length : Int) := by omega
            rw [rAt_out hin, List.append_nil] at SB
            have O3 := hide ho
            rw [← unhide SB] at O3
            have B3 := hide hb
            clear ho SB
            go_wp2_with (go_at_call 24; refine (unhide AT1).mono ?_; rintro r w' ⟨rfl, hw'⟩; rw [hw']; clear hw' w')
            go_wp2
            go_roundw
            case rel => exact ⟨k + 1, by omega, by go_num, unhide O3, unhide B3⟩
            case measure => simp [intOf]; omega
      · have SB := hide (show sbA L ps (ts.take (k + 1)) = acc ++ [⟨kk, nn, ss⟩] by rw [unhide SB0]; unfold sbT; rw [if_neg h1k])
        clear SB0 HL AT
        have R2 := hide (rdt_one wr ⟨kk, nn, ss⟩)
        have O2 := hide (ho.later (below_new wr (.cells #[.int .i64 kk, .int .i64 nn, .string ss] 45)))
        have B2 := hide (hb.trans ((below_new wr (.cells #[.int .i64 kk, .int .i64 nn, .string ss] 45)).mono hb.size))
        have S2 := hide (unhide B2).size
        unfold Tk.cs at R2
        have HO := hide (fun g hg => (ho.lt (g := g) hg).1)
        clear ho
        go_wp2_with (first | (at_builtin; go_must (refine appTs rfl _ _ rfl rfl (unhide O2) (some ⟨wr.heap.size, 0, none⟩) 1 rfl (unhide R2) (.inr ⟨_, _, rfl⟩) (unhide L1) (unhide S2) ?_; intro v3 w3 ho3 hg3; have O3 := hide ho3; have G3 := hide hg3; clear ho3 hg3)))
        have B3 := hide ((unhide B2).grown (unhide G3) (unhide S2) (unhide HO))
        rw [← unhide SB] at O3
        clear G3 O2 B2 R2
        go_wp2
        go_roundw
        case rel => exact ⟨k + 1, by omega, by go_num, unhide O3, unhide B3⟩
        case measure => simp [intOf]; omega
    · obtain rfl : k = len := by omega
      rw [unhide FN] at ho
      have O1 := hide ho
      clear ho
      go_wp2
      go_ret
      exact ⟨_, rfl, unhide O1, hb⟩
end Go.Proofs.Ytemglcdglnjakaa
