/- Names replaced by the program; Subst by the program; over this seat's translation; conditions stand as hypotheses of each. -/
import Derived.Test.YtemglcdglnjakaaMxA
namespace Go.Proofs.Ytemglcdglnjakaa
open Go.ChangeShapes Go.WideShapes Go.ChangeAt Go.RowKit
set_option linter.unusedVariables false
set_option maxRecDepth 8000
set_option linter.unusedSimpArgs false

set_option maxHeartbeats 8000000 in
theorem filT_any (ts : List Tk) (L : List ByteArray) (ps : List (List Tk)) (la pa aa : Option Addr) (lc pg pc ac : Nat) (w : World) (hl : ts.length ≤ 1048576) (hp : L.length ≤ 2000000) (hs : ∀ i, i < ps.length → (rAt ps i).length ≤ 1048576) (hn : ps.length ≤ 1048576) (h1 : RdT w la ts) (ha : L.length = 0 ∨ pa = some ⟨pg, 0, none⟩) (h2 : RdS w pg L) (h3 : RdR true w aa ps) : Calls Try.prog 27 #[.slice la ts.length lc, .slice pa L.length pc, .slice aa ps.length ac] w fun r w' => ∃ v, r = .returned v ∧ OwnT w' w.heap.size v (sbA L ps ts) ∧ Below w.heap.size w w' := by
  have AT := hide (fun (s : ByteArray) (wr : World) (hb : Below w.heap.size w wr) => idxI_big L s pa pg L.length pc wr rfl hp ha (h2.later hb))
  have LB := hide (sbA_len L ps ts 1048576 (by omega) hs)
  have HS := hide hs
  have RR := hide h3
  clear h2 h3 hs ha
  obtain ⟨len, hlen⟩ : ∃ len, ts.length = len := ⟨_, rfl⟩
  have FN := hide (show ts.take len = ts by rw [← hlen, List.take_length])
  rw [hlen] at hl ⊢
  generalize L.length = np at *
  obtain ⟨i0, hi, hz0, hz1, hz2⟩ := info_parts infoT
  obtain ⟨w1, hmk, hown, hgr⟩ := run_make_own (P := Try.prog) (w := w) w.heap.size 28 45 i0 _ 3 Try.underlying28 hi hz0 hz1 .i64 .i64 len (by rw [hz2]; omega) (by unfold maxLen; omega) (Nat.le_refl _)
  have O0 := hide (show OwnT w1 w.heap.size (.slice (some ⟨w.heap.size, 0, none⟩) 0 len) (sbA L ps (ts.take 0)) from hown)
  have B0 := hide ((Below.refl w.heap.size w).grown hgr (Nat.le_refl _) (fun k h => by cases h))
  clear hown hgr hi hz0 hz1 hz2
  go_enter Try.func27, Try.ntmps27
  go_wp2
  clear hmk
  go_loopw [7, 16] (fun v i wr => ∃ k : Nat, k ≤ len ∧ i = .int .i64 k ∧ OwnT wr w.heap.size v (sbA L ps (ts.take k)) ∧ Below w.heap.size w wr) (fun _ i _ => len - (intOf i).toNat)
  case atStart => exact ⟨0, Nat.zero_le _, rfl, unhide O0, unhide B0⟩
  case round =>
    clear O0 B0
    obtain ⟨k, hk, rfl, ho, hb⟩ := hrel
    by_cases hlt : k < len
    · rcases h1 with h0 | ⟨g, off, rfl, hbl, hc⟩
      · rw [h0] at hlen; simp at hlen; omega
      obtain ⟨c0, c1, c2⟩ := hc k (by omega)
      have d0 : wr.cell? ⟨g, off + k * 3, none⟩ = _ := (hb.cell (p := ⟨g, _, none⟩) hbl).trans c0
      have d1 : wr.cell? ⟨g, off + k * 3 + 1, none⟩ = _ := (hb.cell (p := ⟨g, _, none⟩) hbl).trans c1
      have d2 : wr.cell? ⟨g, off + k * 3 + 2, none⟩ = _ := (hb.cell (p := ⟨g, _, none⟩) hbl).trans c2
      have SB0 := hide (sbA_take L ps ts k (by omega))
      have hle := unhide LB k (by omega)
      have HL := hide (show (sbA L ps (ts.take k)).length ≤ 1099511627776 by omega)
      clear c0 c1 c2 hc hle LB FN
      generalize hA : sbA L ps (ts.take k) = acc at *
      generalize tAt ts k = t at *
      obtain ⟨kk, nn, ss⟩ := t
      simp only at d0 d1 d2
      have L1 := hide (show (acc.length + [(⟨kk, nn, ss⟩ : Tk)].length) * 32 ≤ 140737488355328 by have := unhide HL; simp; omega)
      by_cases h1k : kk = 1
      · subst h1k
        have AT1 := hide (unhide AT ss (wr.alloc (Obj.cells #[.int .i64 1, .int .i64 nn, .string ss] 45)) (hb.trans ((below_new wr (Obj.cells #[.int .i64 1, .int .i64 nn, .string ss] 45)).mono hb.size)))
        by_cases hneg : atV L ss < 0
        · have SB := hide (show sbA L ps (ts.take (k + 1)) = acc ++ [⟨1, nn, ss⟩] by rw [unhide SB0]; unfold sbT; rw [if_pos rfl, if_pos hneg])
          clear SB0 HL
          generalize atV L ss = kv at *
          have R2 := hide (show RdT ((wr.alloc (Obj.cells #[.int .i64 1, .int .i64 nn, .string ss] 45)).alloc (Obj.cells (⟨1, nn, ss⟩ : Tk).cs 45)) (some ⟨wr.heap.size + 1, 0, none⟩) [⟨1, nn, ss⟩] by have h := rdt_one (wr.alloc (Obj.cells #[.int .i64 1, .int .i64 nn, .string ss] 45)) ⟨1, nn, ss⟩; rwa [World.size_alloc] at h)
          have O2 := hide (ho.later ((below_new wr (Obj.cells #[.int .i64 1, .int .i64 nn, .string ss] 45)).trans ((below_new (wr.alloc (Obj.cells #[.int .i64 1, .int .i64 nn, .string ss] 45)) (Obj.cells #[.int .i64 1, .int .i64 nn, .string ss] 45)).mono (Nat.le_of_lt (by simp)))))
          have B2 := hide (hb.trans (((below_new wr (Obj.cells #[.int .i64 1, .int .i64 nn, .string ss] 45)).trans ((below_new (wr.alloc (Obj.cells #[.int .i64 1, .int .i64 nn, .string ss] 45)) (Obj.cells #[.int .i64 1, .int .i64 nn, .string ss] 45)).mono (Nat.le_of_lt (by simp)))).mono hb.size))
          have S2 := hide (unhide B2).size
          unfold Tk.cs at R2
          have HO := hide (fun g hg => (ho.lt (g := g) hg).1)
          clear ho
          go_wp2_with (first | (go_at_call 32; refine (unhide AT1).mono ?_; rintro r w' ⟨rfl, hw'⟩; rw [hw']; clear hw' w') | (at_builtin; go_must (refine appTs rfl _ _ rfl rfl (unhide O2) (some ⟨wr.heap.size + 1, 0, none⟩) 1 rfl (unhide R2) (.inr ⟨_, _, rfl⟩) (unhide L1) (unhide S2) ?_; intro v3 w3 ho3 hg3; have O3 := hide ho3; have G3 := hide hg3; clear ho3 hg3)))
          have B3 := hide ((unhide B2).grown (unhide G3) (unhide S2) (unhide HO))
          rw [← unhide SB] at O3
          clear G3 O2 B2 R2
          go_wp2
          go_roundw
          case rel => exact ⟨k + 1, by omega, by go_num, unhide O3, unhide B3⟩
          case measure => simp [intOf]; omega
        · obtain ⟨m, hm⟩ : ∃ m : Nat, atV L ss = m := ⟨(atV L ss).toNat, by omega⟩
          have SB := hide (show sbA L ps (ts.take (k + 1)) = acc ++ rAt ps m by rw [unhide SB0]; unfold sbT; rw [if_pos rfl, if_neg hneg, hm]; rfl)
          rw [hm] at AT1
          clear SB0 hm hneg L1
          have hd : ¬ ((m : Nat) : Int) < 0 := by omega
          have hbw := below_new wr (Obj.cells #[.int .i64 1, .int .i64 nn, .string ss] 45)
          by_cases hin : m < ps.length
          · have hin2 : ((m : Nat) : Int) < (ps.length : Int) := by omega
            obtain ⟨ag, aoff, rfl, hag, hac⟩ := (unhide RR).resolve_left (fun e => by rw [e] at hin; simp at hin)
            obtain ⟨b, cp, e0, e1, e2⟩ := hac m hin
            have hb2 := hb.trans (hbw.mono hb.size)
            have z0 : (wr.alloc (Obj.cells #[.int .i64 1, .int .i64 nn, .string ss] 45)).cell? ⟨ag, aoff + m, none⟩ = _ := (hb2.cell (p := ⟨ag, _, none⟩) hag).trans e0
            have R1 := hide (e1.later hb2)
            have N1 := hide (e2 rfl).2
            have L1 := hide (show (acc.length + (rAt ps m).length) * 32 ≤ 140737488355328 by have := unhide HL; have := unhide HS m hin; omega)
            have S2 := hide hb2.size
            have O2 := hide (ho.later hbw)
            have HO := hide (fun g hg => (ho.lt (g := g) hg).1)
            have HB2 := hide hb2
            clear ho e0 e1 e2 hac HL HS hb2 hbw
            go_wp2_with (first | (go_at_call 32; refine (unhide AT1).mono ?_; rintro r w' ⟨rfl, hw'⟩; rw [hw']; clear hw' w') | (at_builtin; go_must (refine appTs rfl _ _ rfl rfl (unhide O2) b cp rfl (unhide R1) (unhide N1) (unhide L1) (unhide S2) ?_; intro v3 w3 ho3 hg3; have O3 := hide ho3; have G3 := hide hg3; clear ho3 hg3)))
            have B3 := hide ((unhide HB2).grown (unhide G3) (unhide S2) (unhide HO))
            rw [← unhide SB] at O3
            clear G3 O2 R1
            go_wp2
            go_roundw
            case rel => exact ⟨k + 1, by omega, by go_num, unhide O3, unhide B3⟩
            case measure => simp [intOf]; omega
          · have hin2 : ¬ ((m : Nat) : Int) < (ps.length : Int) := by omega
            rw [rAt_out hin, List.append_nil] at SB
            have O3 := hide (ho.later hbw)
            rw [← unhide SB] at O3
            have B3 := hide (hb.trans (hbw.mono hb.size))
            clear ho SB hbw
            go_wp2_with ((go_at_call 32; refine (unhide AT1).mono ?_; rintro r w' ⟨rfl, hw'⟩; rw [hw']; clear hw' w'))
            go_wp2
            go_roundw
            case rel => exact ⟨k + 1, by omega, by go_num, unhide O3, unhide B3⟩
            case measure => simp [intOf]; omega
      · have SB := hide (show sbA L ps (ts.take (k + 1)) = acc ++ [⟨kk, nn, ss⟩] by rw [unhide SB0]; unfold sbT; rw [if_neg h1k])
        clear SB0 HL AT
        have R2 := hide (show RdT ((wr.alloc (Obj.cells #[.int .i64 kk, .int .i64 nn, .string ss] 45)).alloc (Obj.cells (⟨kk, nn, ss⟩ : Tk).cs 45)) (some ⟨wr.heap.size + 1, 0, none⟩) [⟨kk, nn, ss⟩] by have h := rdt_one (wr.alloc (Obj.cells #[.int .i64 kk, .int .i64 nn, .string ss] 45)) ⟨kk, nn, ss⟩; rwa [World.size_alloc] at h)
        have O2 := hide (ho.later ((below_new wr (Obj.cells #[.int .i64 kk, .int .i64 nn, .string ss] 45)).trans ((below_new (wr.alloc (Obj.cells #[.int .i64 kk, .int .i64 nn, .string ss] 45)) (Obj.cells #[.int .i64 kk, .int .i64 nn, .string ss] 45)).mono (Nat.le_of_lt (by simp)))))
        have B2 := hide (hb.trans (((below_new wr (Obj.cells #[.int .i64 kk, .int .i64 nn, .string ss] 45)).trans ((below_new (wr.alloc (Obj.cells #[.int .i64 kk, .int .i64 nn, .string ss] 45)) (Obj.cells #[.int .i64 kk, .int .i64 nn, .string ss] 45)).mono (Nat.le_of_lt (by simp)))).mono hb.size))
        have S2 := hide (unhide B2).size
        unfold Tk.cs at R2
        have HO := hide (fun g hg => (ho.lt (g := g) hg).1)
        clear ho
        go_wp2_with (first  | (at_builtin; go_must (refine appTs rfl _ _ rfl rfl (unhide O2) (some ⟨wr.heap.size + 1, 0, none⟩) 1 rfl (unhide R2) (.inr ⟨_, _, rfl⟩) (unhide L1) (unhide S2) ?_; intro v3 w3 ho3 hg3; have O3 := hide ho3; have G3 := hide hg3; clear ho3 hg3)))
        have B3 := hide ((unhide B2).grown (unhide G3) (unhide S2) (unhide HO))
        rw [← unhide SB] at O3
        clear G3 O2 B2 R2
        go_wp2
        go_roundw
        case rel => exact ⟨k + 1, by omega, by go_num, unhide O3, unhide B3⟩
        case measure => simp [intOf]; omega
    · obtain rfl : k = len := by omega
      rw [unhide FN] at ho
      have O1 := hide ho
      clear ho
      go_wp2
      go_ret
      exact ⟨_, rfl, unhide O1, hb⟩
theorem tAt_mem {ts : List Tk} {i : Nat} (h : i < ts.length) : tAt ts i ∈ ts := by
  unfold tAt
  rw [List.getD_eq_getElem?_getD, List.getElem?_eq_getElem h]
  exact List.getElem_mem h
theorem mem_tAt {ts : List Tk} {t : Tk} (h : t ∈ ts) : ∃ i, i < ts.length ∧ tAt ts i = t := by
  obtain ⟨i, hi, e⟩ := List.getElem_of_mem h
  refine ⟨i, hi, ?_⟩
  unfold tAt
  rw [List.getD_eq_getElem?_getD, List.getElem?_eq_getElem hi]
  exact e
theorem sbA_each (L : List ByteArray) (ps : List (List Tk)) (ts : List Tk) (M : Nat) (z1 : ∀ i, i < ts.length → (tAt ts i).s.size ≤ M) (z2 : ∀ i, i < ps.length → ∀ j, j < (rAt ps i).length → (tAt (rAt ps i) j).s.size ≤ M) : ∀ i, i < (sbA L ps ts).length → (tAt (sbA L ps ts) i).s.size ≤ M := by
  intro i hi
  have hm := tAt_mem hi
  generalize tAt (sbA L ps ts) i = t at *
  unfold sbA at hm
  obtain ⟨l, hl, ht⟩ := List.mem_flatten.1 hm
  obtain ⟨u, hu, rfl⟩ := List.mem_map.1 hl
  have h1 : u.s.size ≤ M := by
    obtain ⟨j, hj, rfl⟩ := mem_tAt hu
    exact z1 j hj
  unfold sbT at ht
  split at ht
  · split at ht
    · rw [List.mem_singleton.1 ht]; exact h1
    · obtain ⟨j, hj, rfl⟩ := mem_tAt ht
      by_cases hi : (atV L u.s).toNat < ps.length
      · exact z2 _ hi j hj
      · rw [rAt_out hi] at hj; simp at hj
  · rw [List.mem_singleton.1 ht]; exact h1
set_option maxHeartbeats 2000000 in
theorem subI (ts : List Tk) (L : List ByteArray) (ps : List (List Tk)) (z1 : ∀ i, i < ts.length → (tAt ts i).s.size ≤ 1048576) (z2 : ∀ i, i < ps.length → ∀ j, j < (rAt ps i).length → (tAt (rAt ps i) j).s.size ≤ 1048576) (la aa : Option Addr) (lc pg pc ac : Nat) (w : World) (hl : ts.length ≤ 1048576) (hp : L.length ≤ 2000000) (hs : ∀ i, i < ps.length → (rAt ps i).length ≤ 1048576) (hn : ps.length ≤ 1048576) (h1 : RdT w la ts) (h2 : RdS w pg L) (h3 : RdR true w aa ps) : Calls Try.prog 12 #[.slice la ts.length lc, .slice (some ⟨pg, 0, none⟩) L.length pc, .slice aa ps.length ac] w fun r w' => ∃ v, r = .returned v ∧ OwnT w' w.heap.size v (sbA L ps ts) ∧ Below w.heap.size w w' := by
  have F := hide (filT_any ts L ps la (some ⟨pg, 0, none⟩) aa lc pg pc ac w hl hp hs hn h1 (.inr rfl) h2 h3)
  have hO := sbA_len L ps ts 1048576 (by omega) hs ts.length (Nat.le_refl _)
  rw [List.take_length] at hO
  have hO2 : (sbA L ps ts).length ≤ 1099511627776 := by omega
  have hE := sbA_each L ps ts 1048576 z1 z2
  generalize sbA L ps ts = O at *
  have C := hide (fun (a : Option Addr) (c : Nat) (wr : World) h => copT_any O a c wr hO2 (fun i hi => Nat.le_trans (hE i hi) (by decide)) h)
  clear h1 h2 h3 hs hE z1 z2
  go_enter Try.func12, Try.ntmps12
  go_wp2_with fail
  refine (unhide F).mono ?_
  rintro e w1 ⟨v1, rfl, ho1, hb1⟩
  obtain ⟨a1, c1, rfl, hr1⟩ := ho1.rd
  have C1 := hide (unhide C a1 c1 w1 hr1)
  have B1 := hide hb1
  clear ho1 hb1 hr1 F C
  go_wp2_with fail
  refine (unhide C1).mono ?_
  rintro e w2 ⟨v2, rfl, ho2, hb2⟩
  have O2 := hide (ho2.base (unhide B1).size)
  have B2 := hide ((unhide B1).trans (hb2.mono (unhide B1).size))
  clear ho2 hb2 C1
  go_wp2
  go_ret
  exact ⟨_, rfl, unhide O2, unhide B2⟩
theorem szL_at1 : ∀ (ts : List Tk) (k : Nat), k < ts.length → (tAt ts k).s.size ≤ szL ts
  | [], k, h => by simp at h
  | t :: r, 0, h => by simp [szL, tAt]
  | t :: r, k + 1, h => by
    have := szL_at1 r k (by simpa using h)
    have e : tAt (t :: r) (k + 1) = tAt r k := rfl
    rw [e]
    simp only [szL]
    omega
end Go.Proofs.Ytemglcdglnjakaa
