/- What the model's Lex answers; over this seat's translation; conditions stand as hypotheses of each. -/
import Derived.Test.YthgbpofcfmnpdaaDoorLxC
import Derived.Test.YthgbpofcfmnpdaaDoorLiB
import Derived.Test.YthgbpofcfmnpdaaDoorLiE
namespace Go.Proofs.YthgbpofcfmnpdaaDoor
open Go.ChangeShapes Go.WideShapes Go.ChangeAt Go.RowKit
set_option linter.unusedVariables false
set_option maxRecDepth 8000

theorem cell_new (W : World) (cs : Array Value) (t : TypeId) : ∀ j u, cs.toList[j]? = some u → (W.alloc (.cells cs t)).cell? ((⟨W.heap.size, 0, none⟩ : Addr).add j) = some u := by
  intro j u hu
  have h : (W.alloc (.cells cs t)).cell? ⟨W.heap.size, j, none⟩ = some u := by rw [World.cell?_alloc_at _ _ _ _ rfl]; simpa using hu
  unfold Addr.add
  by_cases h0 : j = 0
  · subst h0; simpa using h
  · simpa [h0] using h
theorem ownT_empty (w : World) (B : Nat) (hB : B ≤ w.heap.size) : OwnT (w.alloc (Obj.cells #[] 31)) B (.slice (some ⟨w.heap.size, 0, none⟩) 0 0) [] :=
  World.ownsRow_lit w #[] 0 hB (by decide) rfl
theorem ownT_none (w : World) (B : Nat) : OwnT w B (.slice none 0 0) [] := ⟨rfl, .inl ⟨rfl, rfl⟩⟩
theorem ownT_app {w' : World} {B : Nat} {v : Value} {ts : List Tk} {t : Tk} (h : w'.ownsRow B 31 3 v (ts.length + 1) (cellsT ts ++ [.int .i64 t.k, .int .i64 t.n, .string t.s])) : OwnT w' B v (ts ++ [t]) := by
  unfold OwnT
  rw [List.length_append, cellsT_app]
  exact h
theorem newT_one (k n : Int) (x : ByteArray) : ∀ u ∈ [Value.int .i64 k, .int .i64 n, .string x], u.oneCell' = true := by
  intro u hu
  simp only [List.mem_cons, List.not_mem_nil, or_false] at hu
  rcases hu with rfl | rfl | rfl <;> rfl
set_option maxHeartbeats 4000000 in
theorem lexS_any (s : ByteArray) (w : World) (hz : s.size ≤ 1048576) : Calls Tryd.prog 14 #[.string s] w fun e w' => ∃ v, e = .returned (.tuple #[v, .bool (lexR s 0 []).2]) ∧ OwnT w' w.heap.size v (lexR s 0 []).1 ∧ Below w.heap.size w w' := by
  obtain ⟨i0, hi, hz0, hz1, hz2⟩ := info_parts infoT
  obtain ⟨R, hR⟩ : ∃ R, lexR s 0 [] = R := ⟨_, rfl⟩
  have HR := hide hR
  rw [hR]
  clear hR
  have hl := size_len s
  have O0 := hide (ownT_empty w w.heap.size (Nat.le_refl _))
  have B0 := hide (below_new w (.cells #[] 31))
  go_enter Tryd.func14, Tryd.ntmps14
  go_wp2
  go_loopw [4, 5] (fun o i wr => ∃ (k : Nat) (acc : List Tk) (a : Option Addr) (cap : Nat), k ≤ s.size ∧ i = .int .i64 k ∧ o = .slice a acc.length cap ∧ acc.length ≤ 800 ∧ OwnT wr w.heap.size (.slice a acc.length cap) acc ∧ Below w.heap.size w wr ∧ Hid (lexR s k acc = R)) (fun _ i _ => s.size - (intOf i).toNat)
  case atStart => exact ⟨0, [], _, _, Nat.zero_le _, rfl, rfl, by simp, unhide O0, unhide B0, unhide HR⟩
  case round =>
    clear O0 B0 HR
    obtain ⟨k, acc, a, cap, hk, rfl, rfl, h8, ho, hb, hd⟩ := hrel
    have OW := hide ho
    have HB := hide hb
    clear ho hb
    by_cases hlt : k < s.size
    · have he := sAt s k hlt
      have hbd := bAt_bd s.data.toList k
      by_cases h59 : bAt s.data.toList k = 59
      · have E := hide ((lexR_semi hlt h59).symm.trans hd.out)
        rw [h59] at he
        clear hd h59 hbd
        go_wp2
        go_ret2
        exact ⟨_, by rw [← unhide E]; rfl, by rw [← unhide E]; exact unhide OW, unhide HB⟩
      · cases hbl : blB (bAt s.data.toList k)
        · have EB := hide (fun h => (lexR_bad hlt h59 hbl h).symm.trans hd.out)
          have EN := hide (fun h3 h4 => (lexR_next hlt h59 hbl h3 h4).symm.trans hd.out)
          have BL := hide hbl
          have h32 : (bAt s.data.toList k == 32) = false := beq_eq_false_iff_ne.2 fun e => by rw [e] at hbl; exact absurd hbl (by decide)
          have h9 : (bAt s.data.toList k == 9) = false := beq_eq_false_iff_ne.2 fun e => by rw [e] at hbl; exact absurd hbl (by decide)
          have EE := hide (oneE_bd s k hlt)
          have O1 := hide (oneS_any s k wr hz hlt)
          have TS := hide (fun w => tokS_any (oneT badS s k) w)
          have XS := hide (show (oneT badS s k).s.size ≤ 1099511627776 by
            unfold oneT
            have hx := extract_size s k (oneE s k)
            split
            · unfold wordT; split <;> (show (s.extract k (oneE s k)).size ≤ _; omega)
            · split
              · unfold numT
                split
                · show (0 : Nat) ≤ _; omega
                · show (0 : Nat) ≤ _; omega
              · split <;> (show (s.extract k (oneE s k)).size ≤ _; omega))
          generalize oneE s k = E at *
          generalize bAt s.data.toList k = c at *
          generalize hT : oneT badS s k = T at *
          have TV := hide (fun w => unhide TS w (unhide XS))
          generalize T.ok = q at *
          obtain ⟨tk, tn, tx⟩ := T
          have B2 := hide (fun W => below_new W (.cells (Tk.cs ⟨tk, tn, tx⟩) 31))
          have R2 := hide (fun W => heap_alloc_new W (.cells (Tk.cs ⟨tk, tn, tx⟩) 31))
          unfold Tk.v Tk.cs at *
          simp only at O1 TV B2 R2
          obtain ⟨b1, b2⟩ := unhide EE
          clear TS XS hT hd hbl EE
          go_wp2_with fail
          refine (unhide O1).mono ?_
          rintro e w1 ⟨rfl, hb1⟩
          have OW1 := hide ((unhide OW).later hb1)
          have HB1 := hide ((unhide HB).trans (hb1.mono (unhide HB).size))
          clear hb1 OW HB O1
          go_wp2_with fail
          refine (unhide TV _).mono ?_
          rintro e w3 ⟨rfl, hb3⟩
          have R3 := hide ((hb3.block _ (by simp)).trans (unhide R2 w1))
          have OW3 := hide (((unhide OW1).later (unhide B2 w1)).later hb3)
          have HB3 := hide (((unhide HB1).trans ((unhide B2 w1).mono (unhide HB1).size)).trans (hb3.mono (Nat.le_trans (unhide HB1).size (unhide B2 w1).size)))
          have hs3 := (unhide HB3).size
          clear hb3 OW1 HB1 TV B2 R2
          generalize w1.heap.size = g1 at *
          cases q
          · have E1 := hide (unhide EB (.inl rfl))
            have O4 := hide (ownT_empty w3 w.heap.size hs3)
            have B4 := hide ((unhide HB3).alloc hs3 (.cells #[] 31))
            clear EB EN
            go_wp2
            go_ret2
            exact ⟨_, by rw [← unhide E1]; rfl, by rw [← unhide E1]; exact unhide O4, unhide B4⟩
          · by_cases h800 : acc.length = 800
            · have E1 := hide (unhide EB (.inr h800))
              have O4 := hide (ownT_empty w3 w.heap.size hs3)
              have B4 := hide ((unhide HB3).alloc hs3 (.cells #[] 31))
              have h8e : ((acc.length : Int) == 800) = true := by simp [h800]
              clear EB EN
              go_wp2
              go_ret2
              exact ⟨_, by rw [← unhide E1]; rfl, by rw [← unhide E1]; exact unhide O4, unhide B4⟩
            · have E1 := hide (unhide EN rfl h800)
              have h8e : ((acc.length : Int) == 800) = false := beq_eq_false_iff_ne.2 (by omega)
              have c0 := (tri_cells (t := ⟨tk, tn, tx⟩) (unhide R3)).1
              have c1 := (tri_cells (t := ⟨tk, tn, tx⟩) (unhide R3)).2.1
              have c2 := (tri_cells (t := ⟨tk, tn, tx⟩) (unhide R3)).2.2
              simp only at c0 c1 c2
              have K1 := hide (cell_new w3 #[.int .i64 tk, .int .i64 tn, .string tx] 31)
              clear EB EN R3
              go_wp2_with (at_builtin; go_must (refine wpList_append_own _ rfl (.tmp 46) (.tmp 48) 24 rfl w.heap.size 31 i0 (.agg #[.int .i64 0, .int .i64 0, .string ⟨#[]⟩]) 3 32 Tryd.underlying24 hi hz0 hz1 hz2 rfl (by decide) (.slice a acc.length cap) acc.length (cellsT acc) rfl (World.ownsRow.alloc (unhide OW3) _) ⟨w3.heap.size, 0, none⟩ 1 1 [.int .i64 tk, .int .i64 tn, .string tx] rfl rfl (unhide K1) (newT_one _ _ _) (by unfold maxLen; omega) (by omega) (by simp; omega) ?_; intro v5 w5 hown5 hgrow5 _; have OW5 := hide (ownT_app (t := ⟨tk, tn, tx⟩) hown5); obtain ⟨a5, c5, hv5, _⟩ := (unhide OW5).rd; have HB5 := hide (((unhide HB3).alloc hs3 (.cells #[.int .i64 tk, .int .i64 tn, .string tx] 31)).grown hgrow5 (by simp; omega) (fun g hg => ((unhide OW3).lt hg).1)); clear hown5 hgrow5; subst hv5))
              go_roundw
              case rel => exact ⟨E, acc ++ [Tk.mk tk tn tx], a5, c5, b2, by go_num, by rw [List.length_append]; rfl, by rw [List.length_append]; simp; omega, unhide OW5, unhide HB5, unhide E1⟩
              case measure => simp [intOf]; omega
        · have EL := hide ((lexR_blank hlt h59 hbl).symm.trans hd.out)
          clear hd
          by_cases h32 : bAt s.data.toList k = 32
          · rw [h32] at he
            clear hbl hbd h59 h32
            go_wp2
            go_roundw
            case rel => exact ⟨k + 1, acc, a, cap, by omega, by go_num, rfl, h8, unhide OW, unhide HB, unhide EL⟩
            case measure => simp [intOf]; omega
          · have h9 : bAt s.data.toList k = 9 := by
              unfold blB at hbl
              rw [Bool.or_eq_true, beq_iff_eq, beq_iff_eq] at hbl
              exact hbl.elim (fun e => absurd e h32) id
            rw [h9] at he
            clear hbl hbd h59 h32 h9
            go_wp2
            go_roundw
            case rel => exact ⟨k + 1, acc, a, cap, by omega, by go_num, rfl, h8, unhide OW, unhide HB, unhide EL⟩
            case measure => simp [intOf]; omega
    · have E := hide ((lexR_end hlt).symm.trans hd.out)
      clear hd
      go_wp2
      go_ret2
      exact ⟨_, by rw [← unhide E]; rfl, by rw [← unhide E]; exact unhide OW, unhide HB⟩
end Go.Proofs.YthgbpofcfmnpdaaDoor
