/- Contracts over this seat's translation, laid together; conditions stand as hypotheses of each. -/
import Derived.Test.YthgbpofcfmnpdaaDoorTxA
import Derived.Test.YthgbpofcfmnpdaaDoorTxB
import Derived.ScopeJumps
import Derived.WalkMore
import Derived.LaidMore
import Derived.Test.YthgbpofcfmnpdaaDoorProg
import Derived.Deep.Slices
import Derived.Lib.SmallJoins

namespace Go.Proofs.YthgbpofcfmnpdaaDoor
open Go.ChangeShapes Go.WideShapes Go.ChangeAt Go.RowKit
set_option linter.unusedVariables false
set_option maxRecDepth 8000

theorem cell_new (W : World) (cs : Array Value) (t : TypeId) : ∀ j u, cs.toList[j]? = some u → (W.alloc (.cells cs t)).cell? ((⟨W.heap.size, 0, none⟩ : Addr).add j) = some u := by
  intro j u hu
  have h : (W.alloc (.cells cs t)).cell? ⟨W.heap.size, j, none⟩ = some u := by rw [World.cell?_alloc_at _ _ _ _ rfl]; simpa using hu
  unfold Addr.add
  by_cases h0 : j = 0
  · subst h0; simpa using h
  · simpa [h0] using h
theorem ownT_empty (w : World) (B : Nat) (hB : B ≤ w.heap.size) : OwnT (w.alloc (Obj.cells #[] 31)) B (.slice (some ⟨w.heap.size, 0, none⟩) 0 0) [] :=
  World.ownsRow_lit w #[] 0 hB (by decide) rfl
theorem ownT_none (w : World) (B : Nat) : OwnT w B (.slice none 0 0) [] := ⟨rfl, .inl ⟨rfl, rfl⟩⟩
theorem ownT_app {w' : World} {B : Nat} {v : Value} {ts : List Tk} {t : Tk} (h : w'.ownsRow B 31 3 v (ts.length + 1) (cellsT ts ++ [.int .i64 t.k, .int .i64 t.n, .string t.s])) : OwnT w' B v (ts ++ [t]) := by
  unfold OwnT
  rw [List.length_append, cellsT_app]
  exact h
theorem newT_one (k n : Int) (x : ByteArray) : ∀ u ∈ [Value.int .i64 k, .int .i64 n, .string x], u.oneCell' = true := by
  intro u hu
  simp only [List.mem_cons, List.not_mem_nil, or_false] at hu
  rcases hu with rfl | rfl | rfl <;> rfl
set_option maxHeartbeats 4000000 in
theorem lexS_any (s : ByteArray) (w : World) (hz : s.size ≤ 1048576) : Calls Tryd.prog 14 #[.string s] w fun e w' => ∃ v, e = .returned (.tuple #[v, .bool (lexR s 0 []).2]) ∧ OwnT w' w.heap.size v (lexR s 0 []).1 ∧ Below w.heap.size w w' := by
  obtain ⟨i0, hi, hz0, hz1, hz2⟩ := info_parts infoT
  obtain ⟨R, hR⟩ : ∃ R, lexR s 0 [] = R := ⟨_, rfl⟩
  have HR := hide hR
  rw [hR]
  clear hR
  have hl := size_len s
  have O0 := hide (ownT_empty w w.heap.size (Nat.le_refl _))
  have B0 := hide (below_new w (.cells #[] 31))
  go_enter Tryd.func14, Tryd.ntmps14
  go_wp2
  go_loopw [4, 5] (fun o i wr => ∃ (k : Nat) (acc : List Tk) (a : Option Addr) (cap : Nat), k ≤ s.size ∧ i = .int .i64 k ∧ o = .slice a acc.length cap ∧ acc.length ≤ 800 ∧ OwnT wr w.heap.size (.slice a acc.length cap) acc ∧ Below w.heap.size w wr ∧ Hid (lexR s k acc = R)) (fun _ i _ => s.size - (intOf i).toNat)
  case atStart => exact ⟨0, [], _, _, Nat.zero_le _, rfl, rfl, by simp, unhide O0, unhide B0, unhide HR⟩
  case round =>
    clear O0 B0 HR
    obtain ⟨k, acc, a, cap, hk, rfl, rfl, h8, ho, hb, hd⟩ := hrel
    have OW := hide ho
    have HB := hide hb
    clear ho hb
    by_cases hlt : k < s.size
    · have he := sAt s k hlt
      have hbd := bAt_bd s.data.toList k
      by_cases h59 : bAt s.data.toList k = 59
      · have E := hide ((lexR_semi hlt h59).symm.trans hd.out)
        rw [h59] at he
        clear hd h59 hbd
        go_wp2
        go_ret2
        exact ⟨_, by rw [← unhide E]; rfl, by rw [← unhide E]; exact unhide OW, unhide HB⟩
      · cases hbl : blB (bAt s.data.toList k)
        · have EB := hide (fun h => (lexR_bad hlt h59 hbl h).symm.trans hd.out)
          have EN := hide (fun h3 h4 => (lexR_next hlt h59 hbl h3 h4).symm.trans hd.out)
          have BL := hide hbl
          have h32 : (bAt s.data.toList k == 32) = false := beq_eq_false_iff_ne.2 fun e => by rw [e] at hbl; exact absurd hbl (by decide)
          have h9 : (bAt s.data.toList k == 9) = false := beq_eq_false_iff_ne.2 fun e => by rw [e] at hbl; exact absurd hbl (by decide)
          have EE := hide (oneE_bd s k hlt)
          have O1 := hide (oneS_any s k wr hz hlt)
          have TS := hide (fun w => tokS_any (oneT badS s k) w)
          have XS := hide (show (oneT badS s k).s.size ≤ 1099511627776 by
            unfold oneT
            have hx := extract_size s k (oneE s k)
            split
            · unfold wordT; split <;> (show (s.extract k (oneE s k)).size ≤ _; omega)
            · split
              · unfold numT
                split
                · show (0 : Nat) ≤ _; omega
                · show (0 : Nat) ≤ _; omega
              · split <;> (show (s.extract k (oneE s k)).size ≤ _; omega))
          generalize oneE s k = E at *
          generalize bAt s.data.toList k = c at *
          generalize hT : oneT badS s k = T at *
          have TV := hide (fun w => unhide TS w (unhide XS))
          generalize T.ok = q at *
          obtain ⟨tk, tn, tx⟩ := T
          have B2 := hide (fun W => below_new W (.cells (Tk.cs ⟨tk, tn, tx⟩) 31))
          have R2 := hide (fun W => heap_alloc_new W (.cells (Tk.cs ⟨tk, tn, tx⟩) 31))
          unfold Tk.v Tk.cs at *
          simp only at O1 TV B2 R2
          obtain ⟨b1, b2⟩ := unhide EE
          clear TS XS hT hd hbl EE
          go_wp2_with fail
          refine (unhide O1).mono ?_
          rintro e w1 ⟨rfl, hb1⟩
          have OW1 := hide ((unhide OW).later hb1)
          have HB1 := hide ((unhide HB).trans (hb1.mono (unhide HB).size))
          clear hb1 OW HB O1
          go_wp2_with fail
          refine (unhide TV _).mono ?_
          rintro e w3 ⟨rfl, hb3⟩
          have R3 := hide ((hb3.block _ (by simp)).trans (unhide R2 w1))
          have OW3 := hide (((unhide OW1).later (unhide B2 w1)).later hb3)
          have HB3 := hide (((unhide HB1).trans ((unhide B2 w1).mono (unhide HB1).size)).trans (hb3.mono (Nat.le_trans (unhide HB1).size (unhide B2 w1).size)))
          have hs3 := (unhide HB3).size
          clear hb3 OW1 HB1 TV B2 R2
          generalize w1.heap.size = g1 at *
          cases q
          · have E1 := hide (unhide EB (.inl rfl))
            have O4 := hide (ownT_empty w3 w.heap.size hs3)
            have B4 := hide ((unhide HB3).alloc hs3 (.cells #[] 31))
            clear EB EN
            go_wp2
            go_ret2
            exact ⟨_, by rw [← unhide E1]; rfl, by rw [← unhide E1]; exact unhide O4, unhide B4⟩
          · by_cases h800 : acc.length = 800
            · have E1 := hide (unhide EB (.inr h800))
              have O4 := hide (ownT_empty w3 w.heap.size hs3)
              have B4 := hide ((unhide HB3).alloc hs3 (.cells #[] 31))
              have h8e : ((acc.length : Int) == 800) = true := by simp [h800]
              clear EB EN
              go_wp2
              go_ret2
              exact ⟨_, by rw [← unhide E1]; rfl, by rw [← unhide E1]; exact unhide O4, unhide B4⟩
            · have E1 := hide (unhide EN rfl h800)
              have h8e : ((acc.length : Int) == 800) = false := beq_eq_false_iff_ne.2 (by omega)
              have c0 := (tri_cells (t := ⟨tk, tn, tx⟩) (unhide R3)).1
              have c1 := (tri_cells (t := ⟨tk, tn, tx⟩) (unhide R3)).2.1
              have c2 := (tri_cells (t := ⟨tk, tn, tx⟩) (unhide R3)).2.2
              simp only at c0 c1 c2
              have K1 := hide (cell_new w3 #[.int .i64 tk, .int .i64 tn, .string tx] 31)
              clear EB EN R3
              go_wp2_with (at_builtin; go_must (refine wpList_append_own _ rfl (.tmp 46) (.tmp 48) 24 rfl w.heap.size 31 i0 (.agg #[.int .i64 0, .int .i64 0, .string ⟨#[]⟩]) 3 32 Tryd.underlying24 hi hz0 hz1 hz2 rfl (by decide) (.slice a acc.length cap) acc.length (cellsT acc) rfl (World.ownsRow.alloc (unhide OW3) _) ⟨w3.heap.size, 0, none⟩ 1 1 [.int .i64 tk, .int .i64 tn, .string tx] rfl rfl (unhide K1) (newT_one _ _ _) (by unfold maxLen; omega) (by omega) (by simp; omega) ?_; intro v5 w5 hown5 hgrow5 _; have OW5 := hide (ownT_app (t := ⟨tk, tn, tx⟩) hown5); obtain ⟨a5, c5, hv5, _⟩ := (unhide OW5).rd; have HB5 := hide (((unhide HB3).alloc hs3 (.cells #[.int .i64 tk, .int .i64 tn, .string tx] 31)).grown hgrow5 (by simp; omega) (fun g hg => ((unhide OW3).lt hg).1)); clear hown5 hgrow5; subst hv5))
              go_roundw
              case rel => exact ⟨E, acc ++ [Tk.mk tk tn tx], a5, c5, b2, by go_num, by rw [List.length_append]; rfl, by rw [List.length_append]; simp; omega, unhide OW5, unhide HB5, unhide E1⟩
              case measure => simp [intOf]; omega
        · have EL := hide ((lexR_blank hlt h59 hbl).symm.trans hd.out)
          clear hd
          by_cases h32 : bAt s.data.toList k = 32
          · rw [h32] at he
            clear hbl hbd h59 h32
            go_wp2
            go_roundw
            case rel => exact ⟨k + 1, acc, a, cap, by omega, by go_num, rfl, h8, unhide OW, unhide HB, unhide EL⟩
            case measure => simp [intOf]; omega
          · have h9 : bAt s.data.toList k = 9 := by
              unfold blB at hbl
              rw [Bool.or_eq_true, beq_iff_eq, beq_iff_eq] at hbl
              exact hbl.elim (fun e => absurd e h32) id
            rw [h9] at he
            clear hbl hbd h59 h32 h9
            go_wp2
            go_roundw
            case rel => exact ⟨k + 1, acc, a, cap, by omega, by go_num, rfl, h8, unhide OW, unhide HB, unhide EL⟩
            case measure => simp [intOf]; omega
    · have E := hide ((lexR_end hlt).symm.trans hd.out)
      clear hd
      go_wp2
      go_ret2
      exact ⟨_, by rw [← unhide E]; rfl, by rw [← unhide E]; exact unhide OW, unhide HB⟩
end Go.Proofs.YthgbpofcfmnpdaaDoor

namespace Go.Proofs.YthgbpofcfmnpdaaDoor
open Go.ChangeShapes Go.WideShapes Go.ChangeAt Go.RowKit
set_option linter.unusedVariables false
set_option maxRecDepth 8000

/-- What the program's reading leans on: its tables, the library's table and sentinels. -/
structure Env (w : World) : Prop where
  tab : TabK w
  db : w.cell? ⟨8, 7, none⟩ = some (.int .u8 3)
  es : ∃ t p, w.cell? ⟨5, 0, none⟩ = some (.iface t p)
  er : ∃ t p, w.cell? ⟨6, 0, none⟩ = some (.iface t p)
theorem Env.later {w w' : World} (h : Env w) (hb : Below w.heap.size w w') : Env w' := by
  obtain ⟨h1, h2, ⟨t, p, h3⟩, ⟨t', p', h4⟩⟩ := h
  exact ⟨h1.next hb, (hb.cell (p := ⟨8, 7, none⟩) (World.block_lt_of_cell? w _ h2)).trans h2, ⟨t, p, (hb.cell (p := ⟨5, 0, none⟩) (World.block_lt_of_cell? w _ h3)).trans h3⟩, ⟨t', p', (hb.cell (p := ⟨6, 0, none⟩) (World.block_lt_of_cell? w _ h4)).trans h4⟩⟩
theorem cloneI_any (s : ByteArray) (w : World) (hlim : s.size ≤ 1099511627776) : Calls Tryd.prog 44 #[.string s] w fun e w' => e = .returned (.string s) ∧ Below w.heap.size w w' := by
  have H := hide (clone_any s w (by omega))
  go_enter Tryd.func44, Tryd.ntmps44
  go_wp2_with fail
  refine (unhide H).mono ?_
  rintro e w1 ⟨rfl, hb1⟩
  go_wp2
  go_ret
  exact ⟨rfl, hb1⟩
set_option maxHeartbeats 1000000 in
theorem wordI_any (x : ByteArray) (w : World) (ht : TabK w) : Calls Tryd.prog 42 #[.string x] w fun e w' => e = .returned (wordT x).v ∧ Below w.heap.size w w' := by
  have WT := hide (wordT_v x)
  have B0 := hide (below_new w (.cells T0c 31))
  have R0 := hide (heap_alloc_new w (.cells T0c 31))
  have HK := hide (keptI_any x (w.alloc (.cells T0c 31)) (ht.next (unhide B0)))
  unfold T0c at B0 R0 HK
  generalize keptB x = q at *
  clear ht
  cases q
  · have W1 := hide ((unhide WT).2 rfl)
    rw [unhide W1]
    unfold Tk.v Tk.cs
    simp only
    clear WT
    go_enter Tryd.func42, Tryd.ntmps42
    go_wp2_with (first | (go_at_call 61; refine (unhide HK).mono ?_; rintro e w' ⟨rfl, hw'⟩; rw [hw']; clear hw' w') | (refine wpList_store_row rfl 31 _ _ rfl w.heap.size #[.int .i64 1, .int .i64 0, .string x] rfl rfl 31 _ (unhide R0) szK rfl (tk_one _ _ _) ?_))
    refine bodyPost_ret (results_cell_row (P := Tryd.prog) rfl _ _ w.heap.size 31 #[.int .i64 1, .int .i64 0, .string x] (0, 0) _ rfl (setRow_heap _ _ _ _ _ _ (unhide R0)) Tryd.underlying31 rfl szK) rfl ?_
    exact ⟨rfl, below_row (unhide B0)⟩
  · have W1 := hide ((unhide WT).1 rfl)
    rw [unhide W1]
    unfold Tk.v Tk.cs
    simp only
    clear WT
    go_enter Tryd.func42, Tryd.ntmps42
    go_wp2_with (first | (go_at_call 61; refine (unhide HK).mono ?_; rintro e w' ⟨rfl, hw'⟩; rw [hw']; clear hw' w') | (refine wpList_store_row rfl 31 _ _ rfl w.heap.size #[.int .i64 5, .int .i64 0, .string x] rfl rfl 31 _ (unhide R0) szK rfl (tk_one _ _ _) ?_))
    refine bodyPost_ret (results_cell_row (P := Tryd.prog) rfl _ _ w.heap.size 31 #[.int .i64 5, .int .i64 0, .string x] (0, 0) _ rfl (setRow_heap _ _ _ _ _ _ (unhide R0)) Tryd.underlying31 rfl szK) rfl ?_
    exact ⟨rfl, below_row (unhide B0)⟩
theorem num_dec (x : ByteArray) : (∃ m, m < 65536 ∧ x = strOf (octD m)) ∨ ∀ m, m < 65536 → x ≠ strOf (octD m) := by
  cases h : numV x with
  | some m => exact .inl ⟨m, numV_bd h⟩
  | none => exact .inr fun m hm e => by rw [numV_yes hm e] at h; cases h
set_option maxHeartbeats 1000000 in
theorem numI_any (x : ByteArray) (w : World) (hx : x.size ≤ 1099511627776) (he : Env w) : Calls Tryd.prog 43 #[.string x] w fun e w' => e = .returned (numT badI x).v ∧ Below w.heap.size w w' := by
  have B0 := hide (below_new w (.cells T0c 31))
  have R0 := hide (heap_alloc_new w (.cells T0c 31))
  have Z0 := hide (show w.heap.size ≤ (w.alloc (.cells T0c 31)).heap.size by simp)
  obtain ⟨_, db, ⟨t1, p1, e1⟩, ⟨t2, p2, e2⟩⟩ := he.later (unhide B0)
  rcases num_dec x with ⟨m, hm, hxm⟩ | hno
  · have PO := hide (poI_yes m hm t1 t2 p1 p2 _ e1 e2 db)
    have ET := hide (numT_some (bad := badI) hm hxm)
    rw [← hxm] at PO
    unfold T0c at B0 R0 Z0 PO
    generalize numT badI x = T at *
    clear hxm e1 e2 db
    go_enter Tryd.func43, Tryd.ntmps43
    go_wp2_with fail
    generalize w.alloc (Obj.cells #[.int .i64 0, .int .i64 0, .string ⟨#[]⟩] 31) = W at *
    refine (unhide PO).mono ?_
    rintro e w1 ⟨rfl, hb1⟩
    have R1 := hide ((hb1.block _ (Array.getElem?_eq_some_iff.1 (unhide R0)).1).trans (unhide R0))
    have B1 := hide ((unhide B0).trans (hb1.mono (unhide Z0)))
    clear hb1 PO R0
    go_wp2_with (first | (refine wpList_store_row rfl 31 _ _ rfl w.heap.size #[.int .i64 2, .int .i64 m, .string ⟨#[]⟩] rfl rfl 31 _ (unhide R1) szK rfl (tk_one _ _ _) ?_))
    refine bodyPost_ret (results_cell_row (P := Tryd.prog) rfl _ _ w.heap.size 31 #[.int .i64 2, .int .i64 m, .string ⟨#[]⟩] (0, 0) _ rfl (setRow_heap _ _ _ _ _ _ (unhide R1)) Tryd.underlying31 rfl szK) rfl ?_
    exact ⟨by rw [unhide ET]; rfl, below_row (unhide B1)⟩
  · have PO := hide (poI_no x hno hx t1 t2 p1 p2 _ e1 e2 db)
    have ET := hide (numT_none (bad := badI) hno)
    unfold T0c at B0 R0 Z0 PO
    generalize numT badI x = T at *
    clear hno e1 e2 db
    go_enter Tryd.func43, Tryd.ntmps43
    go_wp2_with fail
    generalize w.alloc (Obj.cells #[.int .i64 0, .int .i64 0, .string ⟨#[]⟩] 31) = W at *
    refine (unhide PO).mono ?_
    rintro e w1 ⟨rfl, hb1⟩
    have R1 := hide ((hb1.block _ (Array.getElem?_eq_some_iff.1 (unhide R0)).1).trans (unhide R0))
    have B1 := hide ((unhide B0).trans (hb1.mono (unhide Z0)))
    clear hb1 PO R0
    go_wp2_with (first | (refine wpList_store_row rfl 31 _ _ rfl w.heap.size #[.int .i64 0, .int .i64 0, .string ⟨#[]⟩] rfl rfl 31 _ (unhide R1) szK rfl (tk_one _ _ _) ?_))
    refine bodyPost_ret (results_cell_row (P := Tryd.prog) rfl _ _ w.heap.size 31 #[.int .i64 0, .int .i64 0, .string ⟨#[]⟩] (0, 0) _ rfl (setRow_heap _ _ _ _ _ _ (unhide R1)) Tryd.underlying31 rfl szK) rfl ?_
    exact ⟨by rw [unhide ET]; rfl, below_row (unhide B1)⟩
end Go.Proofs.YthgbpofcfmnpdaaDoor

namespace Go.Proofs.YthgbpofcfmnpdaaDoor
open Go.ChangeShapes Go.WideShapes Go.ChangeAt Go.RowKit
set_option linter.unusedVariables false
set_option maxRecDepth 8000

/-- As Q; by a goto to label l: J l. -/
def jumps (J : Nat → Act → World → Prop) (Q : Exit → Act → World → Prop) : Exit → Act → World → Prop
  | .goto l, a, w => J l a w
  | e, a, w => Q e a w
theorem jumps_mono {J J' : Nat → Act → World → Prop} {Q : Exit → Act → World → Prop} (h : ∀ l a w, J l a w → J' l a w) : ∀ e a w, jumps J Q e a w → jumps J' Q e a w := by
  intro e a w hq
  cases e with
  | goto l => exact h l a w hq
  | normal => exact hq
  | exit id => exact hq
  | ret => exact hq
  | panic ch => exact hq
  | outgrown => exact hq
section
variable {P : Program} {a : Act} {w : World} {Q : Exit → Act → World → Prop}
theorem wp_scope_many {c : Code} (z : Nat) (J : Nat → Act → World → Prop) (μ : Nat → Act → World → Nat)
    (passz : ∀ a w, J z a w → ∃ rest, findLabel c z = some (.seq .skip rest) ∧ rest.wp P (jumps (fun l' a' w' => J l' a' w' ∧ μ l' a' w' < μ z a w) Q) a w)
    (pass : (∀ M a w rest, findLabel c z = some (.seq .skip rest) → J z a w → μ z a w ≤ M → rest.wp P (jumps (fun l' a' w' => J l' a' w' ∧ μ l' a' w' < M) Q) a w) →
      ∀ l a w, l ≠ z → J l a w → ∃ rest, findLabel c l = some (.seq .skip rest) ∧ rest.wp P (jumps (fun l' a' w' => J l' a' w' ∧ μ l' a' w' < μ l a w) Q) a w)
    (first : (∀ l a w rest, findLabel c l = some (.seq .skip rest) → J l a w → rest.wp P (jumps J Q) a w) → c.wp P (jumps J Q) a w) : (Code.scope c).wp P Q a w := by
  have fallz : ∀ M a w rest, findLabel c z = some (.seq .skip rest) → J z a w → μ z a w ≤ M → rest.wp P (jumps (fun l' a' w' => J l' a' w' ∧ μ l' a' w' < M) Q) a w := by
    intro M a w rest hf hJ hM
    obtain ⟨rest', hf', h⟩ := passz a w hJ
    rw [hf] at hf'
    cases hf'
    exact wp_mono h (jumps_mono fun l a w ⟨h1, h2⟩ => ⟨h1, Nat.lt_of_lt_of_le h2 hM⟩)
  have all : ∀ l a w, J l a w → ∃ rest, findLabel c l = some (.seq .skip rest) ∧ rest.wp P (jumps (fun l' a' w' => J l' a' w' ∧ μ l' a' w' < μ l a w) Q) a w := by
    intro l a w hJ
    by_cases hl : l = z
    · subst hl; exact passz a w hJ
    · exact pass fallz l a w hl hJ
  have first' := first fun l a w rest hf hJ => by
    obtain ⟨rest', hf', h⟩ := all l a w hJ
    rw [hf] at hf'
    cases hf'
    exact wp_mono h (jumps_mono fun l a w h => h.1)
  intro b k cs
  have key : ∀ n l a w rest, μ l a w = n → J l a w → findLabel c l = some rest → ∃ e a' w', Q e a' w' ∧ Arrives P (lone (b.at a (.code rest :: .inScope c :: k)) cs w) b k cs e a' w' := by
    intro n
    induction n using Nat.strongRecOn with
    | _ n ih =>
      intro l a w rest hn hJ hf
      obtain ⟨rest', hf', hp⟩ := all l a w hJ
      rw [hf] at hf'
      cases hf'
      have hp2 : (Code.seq .skip rest').wp P (jumps (fun l' a' w' => J l' a' w' ∧ μ l' a' w' < μ l a w) Q) a w := wp_seq (wp_skip (by exact hp))
      obtain ⟨e, a₁, w₁, hq, harr⟩ := hp2 b (.inScope c :: k) cs
      cases e with
      | normal => exact ⟨.normal, a₁, w₁, hq, Steps.trans harr (.one step_inScope)⟩
      | exit id => exact ⟨.exit id, a₁, w₁, hq, fun k' hk => harr k' (by simp [exitTo, hk])⟩
      | goto l' =>
        obtain ⟨hJ', hlt⟩ := hq
        obtain ⟨rest2, hf2, _⟩ := all l' a₁ w₁ hJ'
        obtain ⟨e₂, a₂, w₂, hq₂, harr₂⟩ := ih _ (by omega) l' a₁ w₁ _ rfl hJ' hf2
        exact ⟨e₂, a₂, w₂, hq₂, .of_steps (harr _ (by simp [gotoIn, hf2])) harr₂⟩
      | ret => exact ⟨_, a₁, w₁, hq, harr⟩
      | panic ch => exact ⟨_, a₁, w₁, hq, harr⟩
      | outgrown => exact ⟨_, a₁, w₁, hq, harr⟩
  obtain ⟨e, a₁, w₁, hq, harr⟩ := first' b (.inScope c :: k) cs
  cases e with
  | normal => exact ⟨.normal, a₁, w₁, hq, .head step_scope (Steps.trans harr (.one step_inScope))⟩
  | exit id => exact ⟨.exit id, a₁, w₁, hq, fun k' hk => .head step_scope (harr k' (by simp [exitTo, hk]))⟩
  | goto l' =>
    obtain ⟨rest2, hf2, _⟩ := all l' a₁ w₁ hq
    obtain ⟨e₂, a₂, w₂, hq₂, harr₂⟩ := key _ l' a₁ w₁ _ rfl hq hf2
    exact ⟨e₂, a₂, w₂, hq₂, .of_steps (.head step_scope (harr _ (by simp [gotoIn, hf2]))) harr₂⟩
  | ret => exact ⟨_, a₁, w₁, hq, .of_steps (.one step_scope) harr⟩
  | panic ch => exact ⟨_, a₁, w₁, hq, .of_steps (.one step_scope) harr⟩
  | outgrown => exact ⟨_, a₁, w₁, hq, .of_steps (.one step_scope) harr⟩
end
end Go.Proofs.YthgbpofcfmnpdaaDoor

namespace Go.Proofs.YthgbpofcfmnpdaaDoor
open Go.ChangeShapes Go.WideShapes Go.ChangeAt Go.RowKit
set_option linter.unusedVariables false
set_option maxRecDepth 8000
set_option linter.unusedSimpArgs false

/-- The world while the program's Lex goes on: its box holds t, its list acc. -/
structure Lk (w wr : World) (t : Tk) (sa : Option Addr) (cap : Nat) (acc : List Tk) : Prop where
  bel : Below w.heap.size w wr
  box : wr.heap[w.heap.size]? = some (.cells t.cs 31 (0, 0))
  own : OwnT wr (w.heap.size + 1) (.slice sa acc.length cap) acc
  n8 : acc.length ≤ 800
section
variable {w wr w' : World} {t t' : Tk} {sa : Option Addr} {cap : Nat} {acc : List Tk}
theorem Lk.lt (h : Lk w wr t sa cap acc) : w.heap.size < wr.heap.size := (Array.getElem?_eq_some_iff.1 h.box).1
theorem Lk.later (h : Lk w wr t sa cap acc) (hb : Below wr.heap.size wr w') : Lk w w' t sa cap acc :=
  ⟨h.bel.trans (hb.mono (by have := h.lt; omega)), (hb.block _ h.lt).trans h.box, h.own.later hb, h.n8⟩
theorem Lk.put (h : Lk w wr t sa cap acc) (t' : Tk) : Lk w (wr.setRow w.heap.size t'.cs) t' sa cap acc :=
  ⟨below_row h.bel, setRow_heap _ _ _ _ _ _ h.box, h.own.keep fun g hg hl => setRow_other _ _ _ _ (fun e => by have := (h.own.lt hg).1; omega), h.n8⟩
theorem Lk.cells (h : Lk w wr t sa cap acc) : wr.cell? ⟨w.heap.size, 0, none⟩ = some (.int .i64 t.k) ∧ wr.cell? ⟨w.heap.size, 1, none⟩ = some (.int .i64 t.n) ∧ wr.cell? ⟨w.heap.size, 2, none⟩ = some (.string t.s) := tri_cells h.box
theorem Lk.frz (h : Lk w wr t sa cap acc) (j : Nat) : wr.frozen? ⟨w.heap.size, j, none⟩ = false := by simp [World.frozen?, h.box]
theorem Lk.set2 (h : Lk w wr t sa cap acc) : Lk w (wr.setCell ⟨w.heap.size, 2, none⟩ (.string t.s)) t sa cap acc := by
  refine ⟨h.bel.setCell (p := ⟨w.heap.size, 2, none⟩) (Nat.le_refl _) _, ?_, h.own.keep fun g hg hl => Below.heap_setCell _ _ _ _ (fun e => by have := (h.own.lt hg).1; have e' : g = w.heap.size := e; omega), h.n8⟩
  rw [heap_setCell_same wr w.heap.size 2 t.cs 31 (.string t.s) h.box]
  rfl
theorem Lk.app {w5 : World} {a5 : Option Addr} {c5 : Nat} {o : Obj} (h : Lk w wr t sa cap acc) (hg : (wr.alloc o).grownBy w5 (Value.slice sa acc.length cap).ownBlock) (ho : OwnT w5 (w.heap.size + 1) (.slice a5 (acc ++ [t]).length c5) (acc ++ [t])) (h8 : acc.length < 800) : Lk w w5 t a5 c5 (acc ++ [t]) := by
  have hl := h.lt
  refine ⟨(h.bel.alloc (by omega) o).grown hg (by simp; omega) (fun g e => by have := (h.own.lt e).1; omega), ?_, ho, by rw [List.length_append]; simp; omega⟩
  rw [hg.block _ (by simp; omega) (fun e => by have := (h.own.lt e.symm).1; omega), Below.heap_alloc wr o _ hl]
  exact h.box
end
set_option maxHeartbeats 1000000 in
theorem markI_any (x : ByteArray) (w : World) : Calls Tryd.prog 40 #[.string x] w fun e w' => e = .returned (Tk.v ⟨4, 0, x⟩) ∧ Below w.heap.size w w' := by
  have B0 := hide (below_new w (.cells T0c 31))
  have R0 := hide (heap_alloc_new w (.cells T0c 31))
  unfold T0c at B0 R0
  unfold Tk.v Tk.cs
  simp only
  go_enter Tryd.func40, Tryd.ntmps40
  go_wp2_with (first | (refine wpList_store_row rfl 31 _ _ rfl w.heap.size #[.int .i64 4, .int .i64 0, .string x] rfl rfl 31 _ (unhide R0) szK rfl (tk_one _ _ _) ?_))
  refine bodyPost_ret (results_cell_row (P := Tryd.prog) rfl _ _ w.heap.size 31 #[.int .i64 4, .int .i64 0, .string x] (0, 0) _ rfl (setRow_heap _ _ _ _ _ _ (unhide R0)) Tryd.underlying31 rfl szK) rfl ?_
  exact ⟨rfl, below_row (unhide B0)⟩
theorem lk_new (w : World) : Lk w (w.alloc (.cells (Tk.cs ⟨0, 0, ⟨#[]⟩⟩) 31)) ⟨0, 0, ⟨#[]⟩⟩ none 0 [] :=
  ⟨below_new w _, heap_alloc_new w _, ownT_none _ _, by simp⟩
/-- What is known at the token that begins at f. -/
structure Pend (s : ByteArray) (R : List Tk × Bool) (f : Nat) (acc : List Tk) : Prop where
  lt : f < s.size
  semi : bAt s.data.toList f ≠ 59
  bl : blB (bAt s.data.toList f) = false
  rest : lexR s f acc = R
/-- What holds at each label. -/
def St (s : ByteArray) (R : List Tk × Bool) (l k f : Nat) (acc : List Tk) (t : Tk) : Prop :=
  (l = 0 ∧ k ≤ s.size ∧ lexR s k acc = R) ∨
  (l = 1 ∧ Pend s R f acc ∧ f < k ∧ k ≤ s.size ∧ runN ldB s.data.toList k = oneE s f ∧ oneT badI s f = wordT (s.extract f (oneE s f))) ∨
  (l = 2 ∧ Pend s R f acc ∧ f < k ∧ k ≤ s.size ∧ runN dgB s.data.toList k = oneE s f ∧ oneT badI s f = numT badI (s.extract f (oneE s f))) ∨
  (l = 3 ∧ Pend s R f acc ∧ f < k ∧ k ≤ s.size ∧ runN ldB s.data.toList k = oneE s f ∧ oneT badI s f = ⟨3, 0, s.extract f (oneE s f)⟩) ∨
  (l = 4 ∧ Pend s R f acc ∧ f < k ∧ k ≤ s.size ∧ k = oneE s f ∧ t = oneT badI s f)
theorem St.at0 {s R k f acc t} (h : St s R 0 k f acc t) : k ≤ s.size ∧ lexR s k acc = R := by
  rcases h with ⟨_, h⟩ | ⟨h, _⟩ | ⟨h, _⟩ | ⟨h, _⟩ | ⟨h, _⟩
  · exact h
  all_goals omega
theorem St.at1 {s R k f acc t} (h : St s R 1 k f acc t) : Pend s R f acc ∧ f < k ∧ k ≤ s.size ∧ runN ldB s.data.toList k = oneE s f ∧ oneT badI s f = wordT (s.extract f (oneE s f)) := by
  rcases h with ⟨h, _⟩ | ⟨_, h⟩ | ⟨h, _⟩ | ⟨h, _⟩ | ⟨h, _⟩
  · omega
  · exact h
  all_goals omega
theorem St.at2 {s R k f acc t} (h : St s R 2 k f acc t) : Pend s R f acc ∧ f < k ∧ k ≤ s.size ∧ runN dgB s.data.toList k = oneE s f ∧ oneT badI s f = numT badI (s.extract f (oneE s f)) := by
  rcases h with ⟨h, _⟩ | ⟨h, _⟩ | ⟨_, h⟩ | ⟨h, _⟩ | ⟨h, _⟩
  · omega
  · omega
  · exact h
  all_goals omega
theorem St.at3 {s R k f acc t} (h : St s R 3 k f acc t) : Pend s R f acc ∧ f < k ∧ k ≤ s.size ∧ runN ldB s.data.toList k = oneE s f ∧ oneT badI s f = ⟨3, 0, s.extract f (oneE s f)⟩ := by
  rcases h with ⟨h, _⟩ | ⟨h, _⟩ | ⟨h, _⟩ | ⟨_, h⟩ | ⟨h, _⟩
  · omega
  · omega
  · omega
  · exact h
  · omega
theorem St.at4 {s R k f acc t} (h : St s R 4 k f acc t) : Pend s R f acc ∧ f < k ∧ k ≤ s.size ∧ k = oneE s f ∧ t = oneT badI s f := by
  rcases h with ⟨h, _⟩ | ⟨h, _⟩ | ⟨h, _⟩ | ⟨h, _⟩ | ⟨_, h⟩
  · omega
  · omega
  · omega
  · omega
  · exact h
theorem St.to0 {s R k f acc t} (h : k ≤ s.size) (h1 : lexR s k acc = R) : St s R 0 k f acc t := .inl ⟨rfl, h, h1⟩
theorem St.to1 {s R k f acc t} (h : Pend s R f acc ∧ f < k ∧ k ≤ s.size ∧ runN ldB s.data.toList k = oneE s f ∧ oneT badI s f = wordT (s.extract f (oneE s f))) : St s R 1 k f acc t := .inr (.inl ⟨rfl, h⟩)
theorem St.to2 {s R k f acc t} (h : Pend s R f acc ∧ f < k ∧ k ≤ s.size ∧ runN dgB s.data.toList k = oneE s f ∧ oneT badI s f = numT badI (s.extract f (oneE s f))) : St s R 2 k f acc t := .inr (.inr (.inl ⟨rfl, h⟩))
theorem St.to3 {s R k f acc t} (h : Pend s R f acc ∧ f < k ∧ k ≤ s.size ∧ runN ldB s.data.toList k = oneE s f ∧ oneT badI s f = ⟨3, 0, s.extract f (oneE s f)⟩) : St s R 3 k f acc t := .inr (.inr (.inr (.inl ⟨rfl, h⟩)))
theorem St.to4 {s R k f acc t} (h : Pend s R f acc ∧ f < k ∧ k ≤ s.size ∧ k = oneE s f ∧ t = oneT badI s f) : St s R 4 k f acc t := .inr (.inr (.inr (.inr ⟨rfl, h⟩)))
theorem St.low {s R l k f acc t} (h : St s R l k f acc t) (h4 : l ≠ 4) : l = 0 ∨ l = 1 ∨ l = 2 ∨ l = 3 := by
  rcases h with ⟨h, _⟩ | ⟨h, _⟩ | ⟨h, _⟩ | ⟨h, _⟩ | ⟨h, _⟩ <;> omega
/-- The frame at each label. -/
def fx (s : ByteArray) (w : World) (v4 v6 v7 : Value) (u : Nat → Value) : Act := { tmps := #[.string s, undef, .slice none 0 0, .bool false, v4, .pointer (some ⟨w.heap.size, 0, none⟩), v6, v7, u 8, u 9, u 10, u 11, u 12, u 13, u 14, u 15, u 16, u 17, u 18, u 19, u 20, u 21, u 22, u 23, u 24, u 25, u 26, u 27, u 28, u 29, u 30, u 31, u 32, u 33, u 34, u 35, u 36, u 37, u 38, u 39, u 40, u 41, u 42, u 43, u 44, u 45, u 46, u 47, u 48, u 49, u 50, u 51, u 52, u 53, u 54, u 55, u 56, u 57, u 58, u 59, u 60, u 61, u 62, u 63, u 64, u 65, u 66, u 67, u 68, u 69, u 70, u 71, u 72, u 73, u 74, u 75, u 76, u 77, u 78, u 79, u 80, u 81, u 82, u 83, u 84, u 85, u 86, u 87, u 88, u 89, u 90, u 91, u 92, u 93, u 94, u 95, u 96, u 97, u 98, u 99, u 100, u 101, u 102, u 103, u 104, u 105, u 106, u 107, u 108, u 109, u 110, u 111, u 112, u 113, u 114, u 115, u 116, u 117, u 118, u 119, u 120, u 121], defers := [] }
def Jx (s : ByteArray) (w : World) (R : List Tk × Bool) (l : Nat) (a' : Act) (w' : World) : Prop :=
  ∃ (u : Nat → Value) (k f : Nat) (t : Tk) (sa : Option Addr) (cap : Nat) (acc : List Tk), a' = fx s w (.slice sa acc.length cap) (.int .i64 f) (.int .i64 k) u ∧ Lk w w' t sa cap acc ∧ St s R l k f acc t
theorem jx_in {s : ByteArray} {w wr : World} {R : List Tk × Bool} {l : Nat} {v4 v6 v7 u8 u9 u10 u11 u12 u13 u14 u15 u16 u17 u18 u19 u20 u21 u22 u23 u24 u25 u26 u27 u28 u29 u30 u31 u32 u33 u34 u35 u36 u37 u38 u39 u40 u41 u42 u43 u44 u45 u46 u47 u48 u49 u50 u51 u52 u53 u54 u55 u56 u57 u58 u59 u60 u61 u62 u63 u64 u65 u66 u67 u68 u69 u70 u71 u72 u73 u74 u75 u76 u77 u78 u79 u80 u81 u82 u83 u84 u85 u86 u87 u88 u89 u90 u91 u92 u93 u94 u95 u96 u97 u98 u99 u100 u101 u102 u103 u104 u105 u106 u107 u108 u109 u110 u111 u112 u113 u114 u115 u116 u117 u118 u119 u120 u121 : Value} (k f : Nat) (t : Tk) (sa : Option Addr) (cap : Nat) (acc : List Tk) (h4 : v4 = .slice sa acc.length cap) (h6 : v6 = .int .i64 f) (h7 : v7 = .int .i64 k) (lk : Lk w wr t sa cap acc) (st : St s R l k f acc t) : Jx s w R l { tmps := #[.string s, undef, .slice none 0 0, .bool false, v4, .pointer (some ⟨w.heap.size, 0, none⟩), v6, v7, u8, u9, u10, u11, u12, u13, u14, u15, u16, u17, u18, u19, u20, u21, u22, u23, u24, u25, u26, u27, u28, u29, u30, u31, u32, u33, u34, u35, u36, u37, u38, u39, u40, u41, u42, u43, u44, u45, u46, u47, u48, u49, u50, u51, u52, u53, u54, u55, u56, u57, u58, u59, u60, u61, u62, u63, u64, u65, u66, u67, u68, u69, u70, u71, u72, u73, u74, u75, u76, u77, u78, u79, u80, u81, u82, u83, u84, u85, u86, u87, u88, u89, u90, u91, u92, u93, u94, u95, u96, u97, u98, u99, u100, u101, u102, u103, u104, u105, u106, u107, u108, u109, u110, u111, u112, u113, u114, u115, u116, u117, u118, u119, u120, u121], defers := [] } wr := by
  subst h4 h6 h7
  exact ⟨fun i => (#[u8, u9, u10, u11, u12, u13, u14, u15, u16, u17, u18, u19, u20, u21, u22, u23, u24, u25, u26, u27, u28, u29, u30, u31, u32, u33, u34, u35, u36, u37, u38, u39, u40, u41, u42, u43, u44, u45, u46, u47, u48, u49, u50, u51, u52, u53, u54, u55, u56, u57, u58, u59, u60, u61, u62, u63, u64, u65, u66, u67, u68, u69, u70, u71, u72, u73, u74, u75, u76, u77, u78, u79, u80, u81, u82, u83, u84, u85, u86, u87, u88, u89, u90, u91, u92, u93, u94, u95, u96, u97, u98, u99, u100, u101, u102, u103, u104, u105, u106, u107, u108, u109, u110, u111, u112, u113, u114, u115, u116, u117, u118, u119, u120, u121] : Array Value).getD (i - 8) undef, k, f, t, sa, cap, acc, rfl, lk, st⟩
theorem jx_out {s : ByteArray} {w : World} {R : List Tk × Bool} {l : Nat} {X : Act → World → Prop} (h : ∀ (u : Nat → Value) (k f : Nat) (t : Tk) (sa : Option Addr) (cap : Nat) (acc : List Tk) (wr : World), Lk w wr t sa cap acc → St s R l k f acc t → X (fx s w (.slice sa acc.length cap) (.int .i64 f) (.int .i64 k) u) wr) : ∀ a' wr, Jx s w R l a' wr → X a' wr := by
  rintro a' wr ⟨u, k, f, t, sa, cap, acc, rfl, lk, st⟩
  exact h u k f t sa cap acc wr lk st
def rk (l : Nat) : Nat := if l = 0 then 0 else if l = 4 then 1 else 2
def Mx (s : ByteArray) (l : Nat) (a : Act) (w : World) : Nat := 5 * (s.size - (intOf (a.tmps.getD 7 undef)).toNat) + rk l
set_option maxHeartbeats 8000000 in
theorem lexI_any (s : ByteArray) (w : World) (hz : s.size ≤ 1048576) (he : Env w) : Calls Tryd.prog 11 #[.string s] w fun e w' => ∃ v, e = .returned (.tuple #[v, .bool (lexR s 0 []).2]) ∧ OwnT w' w.heap.size v (lexR s 0 []).1 ∧ Below w.heap.size w w' := by
  obtain ⟨i0, hi, hz0, hz1, hz2⟩ := info_parts infoT
  obtain ⟨R, hR⟩ : ∃ R, lexR s 0 [] = R := ⟨_, rfl⟩
  have HR := hide hR
  rw [hR]
  clear hR
  have hl := size_len s
  have EV := hide (fun wr (h : Below w.heap.size w wr) => he.later h)
  clear he
  have L0 := hide (lk_new w)
  unfold Tk.cs at L0
  go_enter Tryd.func11, Tryd.ntmps11
  go_wp2
  refine wp_scope_many 4 (Jx s w R) (Mx s) ?z ?p ?f
  case f =>
    intro fall
    go_wp2
    go_step3
    rename_i K hK
    refine hK _ _ (fall 0 _ _ _ rfl ?_)
    exact jx_in 0 0 _ none 0 [] rfl rfl rfl (unhide L0) (St.to0 (Nat.zero_le _) (unhide HR))
  case z =>
    clear L0 HR
    refine jx_out ?_
    intro u k f t sa cap acc wr lk st
    unfold fx
    obtain ⟨pd, hfk, hks, rfl, rfl⟩ := st.at4
    refine ⟨_, rfl, ?_⟩
    have LK := hide lk
    have SAME := hide (oneT_same badI badS badI_ok badS_ok s f)
    have EB := hide (fun h => (lexR_bad pd.lt pd.semi pd.bl h).symm.trans pd.rest)
    have EN := hide (fun h3 h4 => (lexR_next pd.lt pd.semi pd.bl h3 h4).symm.trans pd.rest)
    have XS := hide (show (oneT badI s f).s.size ≤ 1099511627776 by
      unfold oneT
      have hx := extract_size s f (oneE s f)
      split
      · unfold wordT; split <;> (show (s.extract f (oneE s f)).size ≤ _; omega)
      · split
        · unfold numT
          split
          · show (0 : Nat) ≤ _; omega
          · show (0 : Nat) ≤ _; omega
        · split <;> (show (s.extract f (oneE s f)).size ≤ _; omega))
    have TV := hide (tokI_any (oneT badI s f) wr (unhide XS) (unhide EV wr lk.bel).tab)
    have CL := hide (fun W => cloneI_any (oneT badI s f).s W (unhide XS))
    have h8 := lk.n8
    rw [← (unhide SAME).1] at EB EN
    have TE := hide (unhide SAME).2
    rw [← (unhide SAME).1] at TE
    generalize oneE s f = k at *
    generalize oneT badS s f = TS at *
    generalize oneT badI s f = T at *
    generalize T.ok = q at *
    have CE := hide lk.cells
    obtain ⟨tk, tn, tx⟩ := T
    unfold Tk.v Tk.cs at TV
    simp only at TV CE CL
    obtain ⟨c0, c1, c2⟩ := unhide CE
    clear lk st pd XS SAME CE
    go_wp2_with fail
    refine (unhide TV).mono ?_
    rintro e w1 ⟨rfl, hb1⟩
    have LK1 := hide ((unhide LK).later hb1)
    have hs1 := (unhide LK1).lt
    clear hb1 LK TV c0 c1 c2
    cases q
    · have E1 := hide (unhide EB (.inl rfl))
      have B1 := hide (unhide LK1).bel
      clear EB EN TE CL
      go_wp2
      simp only [jumps]
      go_ret2
      exact ⟨_, by rw [← unhide E1]; rfl, by rw [← unhide E1]; exact ownT_none _ _, unhide B1⟩
    · by_cases h800 : acc.length = 800
      · have E1 := hide (unhide EB (.inr h800))
        have B1 := hide (unhide LK1).bel
        have h8e : ((acc.length : Int) == 800) = true := by simp [h800]
        clear EB EN TE CL h800
        go_wp2
        simp only [jumps]
        go_ret2
        exact ⟨_, by rw [← unhide E1]; rfl, by rw [← unhide E1]; exact ownT_none _ _, unhide B1⟩
      · have E1 := hide (unhide EN rfl h800)
        rw [← unhide TE rfl] at E1
        have h8e : ((acc.length : Int) == 800) = false := beq_eq_false_iff_ne.2 (by omega)
        have h8l : acc.length < 800 := by omega
        obtain ⟨c0, c1, c2⟩ := (unhide LK1).cells
        simp only at c0 c1 c2
        clear EB EN TE
        go_wp2_with fail
        refine (unhide CL _).mono ?_
        rintro e w2 ⟨rfl, hb2⟩
        have LK2 := hide ((unhide LK1).later hb2)
        clear c0 c1 c2
        obtain ⟨c0, c1, c2⟩ := (unhide LK2).cells
        simp only at c0 c1 c2
        have f2 := (unhide LK2).frz 2
        have LK3 := hide (unhide LK2).set2
        have hs3 := (unhide LK3).lt
        have OW3 := hide (unhide LK3).own
        have K1 := hide (cell_new (w2.setCell ⟨w.heap.size, 2, none⟩ (.string tx)) #[.int .i64 tk, .int .i64 tn, .string tx] 31)
        rw [show (w2.setCell ⟨w.heap.size, 2, none⟩ (.string tx)).heap.size = w2.heap.size by simp] at K1
        simp only at LK3 OW3 hs3
        clear hb2 LK1 LK2 CL
        go_wp2_with (at_builtin; go_must (refine wpList_append_own _ rfl (.tmp 118) (.tmp 120) 24 rfl (w.heap.size + 1) 31 i0 (.agg #[.int .i64 0, .int .i64 0, .string ⟨#[]⟩]) 3 32 Tryd.underlying24 hi hz0 hz1 hz2 rfl (by decide) (.slice sa acc.length cap) acc.length (cellsT acc) rfl (World.ownsRow.alloc (unhide OW3) _) ⟨w2.heap.size, 0, none⟩ 1 1 [.int .i64 tk, .int .i64 tn, .string tx] rfl rfl (unhide K1) (newT_one _ _ _) (by unfold maxLen; omega) (by omega) (by simp at hs3 ⊢; omega) ?_; intro v5 w5 hown5 hgrow5 _; have OW5 := hide (ownT_app (t := ⟨tk, tn, tx⟩) hown5); obtain ⟨a5, c5, hv5, _⟩ := (unhide OW5).rd; subst hv5; have LK5 := hide ((unhide LK3).app hgrow5 (unhide OW5) h8l); clear hown5 hgrow5))
        go_step3
        refine ⟨jx_in (k) (f) (⟨tk, tn, tx⟩) a5 c5 (acc ++ [Tk.mk tk tn tx]) (by first | rfl | (rw [List.length_append]; rfl)) (by first | rfl | go_num) (by first | rfl | go_num) (unhide LK5) (St.to0 hks (unhide E1)), ?_⟩
        (simp [Mx, rk, intOf, Act.put]) <;> omega
  case p =>
    clear L0 HR
    intro fall l a' wr hl4 hJ
    have FALL := hide fall
    clear fall
    have hl0 : l = 0 ∨ l = 1 ∨ l = 2 ∨ l = 3 := by
      obtain ⟨_, _, _, _, _, _, _, _, _, st⟩ := hJ
      exact st.low hl4
    clear hl4
    rcases hl0 with rfl | rfl | rfl | rfl <;> revert a' wr
    · refine jx_out ?_
      intro u k f t sa cap acc wr lk st
      unfold fx
      obtain ⟨hk, hr⟩ := st.at0
      refine ⟨_, rfl, ?_⟩
      have LK := hide lk
      have BX := hide lk.box
      clear lk st
      by_cases hlt : k < s.size
      · have he := sAt s k hlt
        have hbd := bAt_bd s.data.toList k
        have hkne : ((k : Int) == (s.size : Int)) = false := beq_eq_false_iff_ne.2 (by omega)
        by_cases h59 : bAt s.data.toList k = 59
        · have E := hide ((lexR_semi hlt h59).symm.trans hr)
          rw [h59] at he
          clear hr h59 hbd
          go_wp2
          simp only [jumps]
          go_ret2
          exact ⟨_, by rw [← unhide E]; rfl, by rw [← unhide E]; exact (unhide LK).own.base (by omega), (unhide LK).bel⟩
        · cases hbl : blB (bAt s.data.toList k)
          · have PD := hide (Pend.mk hlt h59 hbl hr)
            have h59b : (bAt s.data.toList k == 59) = false := beq_eq_false_iff_ne.2 h59
            clear hr
            cases h1 : smB (bAt s.data.toList k)
            · cases h2 : dgB (bAt s.data.toList k)
              · by_cases h46 : bAt s.data.toList k = 46
                · by_cases hk1 : k + 1 < s.size
                  · have he1 := sAt s (k + 1) hk1
                    have hbd1 := bAt_bd s.data.toList (k + 1)
                    cases h3 : smB (bAt s.data.toList (k + 1))
                    · obtain ⟨e1, e2⟩ := one_mk badI h1 h2 (fun _ _ => h3)
                      have S4 := hide (St.to4 (t := ⟨4, 0, s.extract k (k + 1)⟩) ⟨unhide PD, by omega, by omega, e1.symm, e2.symm⟩)
                      have MK := hide (fun W => markI_any (s.extract k (k + 1)) W)
                      unfold Tk.v Tk.cs at MK
                      simp only at MK
                      clear e1 e2
                      rw [h46] at he h1 h2 h59b hbl
                      generalize bAt s.data.toList (k + 1) = c1 at *
                      clear h46 hbd h59
                      go_wp2_with (first | (go_at_call 37; refine (blank_any _ _).mono ?_; rintro e w' ⟨rfl, hw'⟩; rw [hw']; clear hw' w') | (go_at_call 38; refine (smI_any _ _).mono ?_; rintro e w' ⟨rfl, hw'⟩; rw [hw']; clear hw' w') | (go_at_call 39; refine (dgI_any _ _).mono ?_; rintro e w' ⟨rfl, hw'⟩; rw [hw']; clear hw' w'))
                      refine (unhide MK _).mono ?_
                      rintro e w1 ⟨rfl, hb1⟩
                      have LK1 := hide ((unhide LK).later hb1)
                      have BX1 := hide (unhide LK1).box
                      have LK4 := hide ((unhide LK1).put ⟨4, 0, s.extract k (k + 1)⟩)
                      clear hb1 LK1 MK
                      go_wp2_with (first | (refine wpList_store_row rfl 31 _ _ rfl w.heap.size #[.int .i64 4, .int .i64 0, .string (s.extract k (k + 1))] rfl rfl 31 _ (unhide BX1) szK rfl (tk_one _ _ _) ?_))
                      go_step3
                      refine ⟨jx_in (k + 1) (k) (⟨4, 0, s.extract k (k + 1)⟩) sa cap (acc) (by first | rfl | (rw [List.length_append]; rfl)) (by first | rfl | go_num) (by first | rfl | go_num) (unhide LK4) (unhide S4), ?_⟩
                      (simp [Mx, rk, intOf, Act.put]) <;> omega
                    · obtain ⟨e1, e2⟩ := one_dot badI h1 h2 h46 hk1 h3
                      have S3 := hide (St.to3 (t := t) ⟨unhide PD, by omega, by omega, e1.symm, e2⟩)
                      rw [h46] at he h1 h2 h59b hbl
                      generalize bAt s.data.toList (k + 1) = c1 at *
                      clear h46 hbd h59 e1 e2
                      go_wp2_with (first | (go_at_call 37; refine (blank_any _ _).mono ?_; rintro e w' ⟨rfl, hw'⟩; rw [hw']; clear hw' w') | (go_at_call 38; refine (smI_any _ _).mono ?_; rintro e w' ⟨rfl, hw'⟩; rw [hw']; clear hw' w') | (go_at_call 39; refine (dgI_any _ _).mono ?_; rintro e w' ⟨rfl, hw'⟩; rw [hw']; clear hw' w'))
                      go_step3
                      refine ⟨jx_in (k + 1) (k) (t) sa cap (acc) (by first | rfl | (rw [List.length_append]; rfl)) (by first | rfl | go_num) (by first | rfl | go_num) (unhide LK) (unhide S3), ?_⟩
                      (simp [Mx, rk, intOf, Act.put]) <;> omega
                  · have hk1d : decide ((k : Int) + 1 < (s.size : Int)) = false := by simp; omega
                    obtain ⟨e1, e2⟩ := one_mk badI h1 h2 (fun _ h => absurd h hk1)
                    have S4 := hide (St.to4 (t := ⟨4, 0, s.extract k (k + 1)⟩) ⟨unhide PD, by omega, by omega, e1.symm, e2.symm⟩)
                    have MK := hide (fun W => markI_any (s.extract k (k + 1)) W)
                    unfold Tk.v Tk.cs at MK
                    simp only at MK
                    clear e1 e2
                    rw [h46] at he h1 h2 h59b hbl
                    clear h46 hbd h59
                    go_wp2_with (first | (go_at_call 37; refine (blank_any _ _).mono ?_; rintro e w' ⟨rfl, hw'⟩; rw [hw']; clear hw' w') | (go_at_call 38; refine (smI_any _ _).mono ?_; rintro e w' ⟨rfl, hw'⟩; rw [hw']; clear hw' w') | (go_at_call 39; refine (dgI_any _ _).mono ?_; rintro e w' ⟨rfl, hw'⟩; rw [hw']; clear hw' w'))
                    refine (unhide MK _).mono ?_
                    rintro e w1 ⟨rfl, hb1⟩
                    have LK1 := hide ((unhide LK).later hb1)
                    have BX1 := hide (unhide LK1).box
                    have LK4 := hide ((unhide LK1).put ⟨4, 0, s.extract k (k + 1)⟩)
                    clear hb1 LK1 MK
                    go_wp2_with (first | (refine wpList_store_row rfl 31 _ _ rfl w.heap.size #[.int .i64 4, .int .i64 0, .string (s.extract k (k + 1))] rfl rfl 31 _ (unhide BX1) szK rfl (tk_one _ _ _) ?_))
                    go_step3
                    refine ⟨jx_in (k + 1) (k) (⟨4, 0, s.extract k (k + 1)⟩) sa cap (acc) (by first | rfl | (rw [List.length_append]; rfl)) (by first | rfl | go_num) (by first | rfl | go_num) (unhide LK4) (unhide S4), ?_⟩
                    (simp [Mx, rk, intOf, Act.put]) <;> omega
                · have h46b : (bAt s.data.toList k == 46) = false := beq_eq_false_iff_ne.2 h46
                  obtain ⟨e1, e2⟩ := one_mk badI h1 h2 (fun h => absurd h h46)
                  have S4 := hide (St.to4 (t := ⟨4, 0, s.extract k (k + 1)⟩) ⟨unhide PD, by omega, by omega, e1.symm, e2.symm⟩)
                  have MK := hide (fun W => markI_any (s.extract k (k + 1)) W)
                  unfold Tk.v Tk.cs at MK
                  simp only at MK
                  clear e1 e2
                  generalize bAt s.data.toList k = c at *
                  clear h59 h46
                  go_wp2_with (first | (go_at_call 37; refine (blank_any _ _).mono ?_; rintro e w' ⟨rfl, hw'⟩; rw [hw']; clear hw' w') | (go_at_call 38; refine (smI_any _ _).mono ?_; rintro e w' ⟨rfl, hw'⟩; rw [hw']; clear hw' w') | (go_at_call 39; refine (dgI_any _ _).mono ?_; rintro e w' ⟨rfl, hw'⟩; rw [hw']; clear hw' w'))
                  refine (unhide MK _).mono ?_
                  rintro e w1 ⟨rfl, hb1⟩
                  have LK1 := hide ((unhide LK).later hb1)
                  have BX1 := hide (unhide LK1).box
                  have LK4 := hide ((unhide LK1).put ⟨4, 0, s.extract k (k + 1)⟩)
                  clear hb1 LK1 MK
                  go_wp2_with (first | (refine wpList_store_row rfl 31 _ _ rfl w.heap.size #[.int .i64 4, .int .i64 0, .string (s.extract k (k + 1))] rfl rfl 31 _ (unhide BX1) szK rfl (tk_one _ _ _) ?_))
                  go_step3
                  refine ⟨jx_in (k + 1) (k) (⟨4, 0, s.extract k (k + 1)⟩) sa cap (acc) (by first | rfl | (rw [List.length_append]; rfl)) (by first | rfl | go_num) (by first | rfl | go_num) (unhide LK4) (unhide S4), ?_⟩
                  (simp [Mx, rk, intOf, Act.put]) <;> omega
              · obtain ⟨e1, e2⟩ := one_dg badI h1 h2
                have S2 := hide (St.to2 (t := t) ⟨unhide PD, by omega, by omega, (runN_yes (by omega) h2).symm.trans e1.symm, e2⟩)
                generalize bAt s.data.toList k = c at *
                clear h59 e1 e2
                go_wp2_with (first | (go_at_call 37; refine (blank_any _ _).mono ?_; rintro e w' ⟨rfl, hw'⟩; rw [hw']; clear hw' w') | (go_at_call 38; refine (smI_any _ _).mono ?_; rintro e w' ⟨rfl, hw'⟩; rw [hw']; clear hw' w') | (go_at_call 39; refine (dgI_any _ _).mono ?_; rintro e w' ⟨rfl, hw'⟩; rw [hw']; clear hw' w'))
                go_step3
                refine ⟨jx_in (k + 1) (k) (t) sa cap (acc) (by first | rfl | (rw [List.length_append]; rfl)) (by first | rfl | go_num) (by first | rfl | go_num) (unhide LK) (unhide S2), ?_⟩
                (simp [Mx, rk, intOf, Act.put]) <;> omega
            · obtain ⟨e1, e2⟩ := one_sm badI h1
              have S1 := hide (St.to1 (t := t) ⟨unhide PD, by omega, by omega, (runN_yes (by omega) (ld_of_sm h1)).symm.trans e1.symm, e2⟩)
              generalize bAt s.data.toList k = c at *
              clear h59 e1 e2
              go_wp2_with (first | (go_at_call 37; refine (blank_any _ _).mono ?_; rintro e w' ⟨rfl, hw'⟩; rw [hw']; clear hw' w') | (go_at_call 38; refine (smI_any _ _).mono ?_; rintro e w' ⟨rfl, hw'⟩; rw [hw']; clear hw' w') | (go_at_call 39; refine (dgI_any _ _).mono ?_; rintro e w' ⟨rfl, hw'⟩; rw [hw']; clear hw' w'))
              go_step3
              refine ⟨jx_in (k + 1) (k) (t) sa cap (acc) (by first | rfl | (rw [List.length_append]; rfl)) (by first | rfl | go_num) (by first | rfl | go_num) (unhide LK) (unhide S1), ?_⟩
              (simp [Mx, rk, intOf, Act.put]) <;> omega
          · have S0 := hide (St.to0 (f := k) (t := t) (show k + 1 ≤ s.size by omega) ((lexR_blank hlt h59 hbl).symm.trans hr))
            have h59b : (bAt s.data.toList k == 59) = false := beq_eq_false_iff_ne.2 h59
            generalize bAt s.data.toList k = c at *
            clear hr h59
            go_wp2_with (first | (go_at_call 37; refine (blank_any _ _).mono ?_; rintro e w' ⟨rfl, hw'⟩; rw [hw']; clear hw' w') | (go_at_call 38; refine (smI_any _ _).mono ?_; rintro e w' ⟨rfl, hw'⟩; rw [hw']; clear hw' w') | (go_at_call 39; refine (dgI_any _ _).mono ?_; rintro e w' ⟨rfl, hw'⟩; rw [hw']; clear hw' w'))
            go_step3
            refine ⟨jx_in (k + 1) (k) (t) sa cap (acc) (by first | rfl | (rw [List.length_append]; rfl)) (by first | rfl | go_num) (by first | rfl | go_num) (unhide LK) (unhide S0), ?_⟩
            (simp [Mx, rk, intOf, Act.put]) <;> omega
      · have E := hide ((lexR_end hlt).symm.trans hr)
        obtain rfl : k = s.size := by omega
        clear hr hlt
        go_wp2
        simp only [jumps]
        go_ret2
        exact ⟨_, by rw [← unhide E]; rfl, by rw [← unhide E]; exact (unhide LK).own.base (by omega), (unhide LK).bel⟩
    · refine jx_out ?_
      intro u k f t sa cap acc wr lk st
      unfold fx
      obtain ⟨pd, hfk, hks, hrun, hT⟩ := st.at1
      refine ⟨_, rfl, ?_⟩
      have LK := hide lk
      clear lk st
      by_cases hlt : k < s.size
      · have he := sAt s k hlt
        have hbd := bAt_bd s.data.toList k
        cases hq : ldB (bAt s.data.toList k)
        · have hke : k = oneE s f := (runN_no (by omega) hq).symm.trans hrun
          generalize bAt s.data.toList k = c at *
          have S4 := hide (fun T (hT : T = oneT badI s f) => St.to4 (t := T) ⟨pd, hfk, hks, hke, hT⟩)
          rw [← hke] at hT
          have WO := hide (wordI_any (s.extract f k) wr (unhide EV wr (unhide LK).bel).tab)
          rw [← hT] at WO
          generalize oneT badI s f = T at *
          have S5 := hide (unhide S4 T rfl)
          obtain ⟨tk, tn, tx⟩ := T
          unfold Tk.v Tk.cs at WO
          simp only at WO
          clear S4 hT hke pd hrun
          go_wp2_with (first | (go_at_call 41; refine (ldI_any _ _).mono ?_; rintro e w' ⟨rfl, hw'⟩; rw [hw']; clear hw' w'))
          refine (unhide WO).mono ?_
          rintro e w1 ⟨rfl, hb1⟩
          have LK1 := hide ((unhide LK).later hb1)
          have BX1 := hide (unhide LK1).box
          have LK4 := hide ((unhide LK1).put ⟨tk, tn, tx⟩)
          clear hb1 LK1 WO
          go_wp2_with (first | (refine wpList_store_row rfl 31 _ _ rfl w.heap.size #[.int .i64 tk, .int .i64 tn, .string tx] rfl rfl 31 _ (unhide BX1) szK rfl (tk_one _ _ _) ?_))
          go_step3
          refine ⟨jx_in (k) (f) (⟨tk, tn, tx⟩) sa cap (acc) (by first | rfl | (rw [List.length_append]; rfl)) (by first | rfl | go_num) (by first | rfl | go_num) (unhide LK4) (unhide S5), ?_⟩
          (simp [Mx, rk, intOf, Act.put]) <;> omega
        · have SS := hide (St.to1 (t := t) ⟨pd, show f < k + 1 by omega, by omega, (runN_yes (by omega) hq).symm.trans hrun, hT⟩)
          generalize bAt s.data.toList k = c at *
          clear pd hrun hT
          go_wp2_with (first | (go_at_call 41; refine (ldI_any _ _).mono ?_; rintro e w' ⟨rfl, hw'⟩; rw [hw']; clear hw' w'))
          go_step3
          refine ⟨jx_in (k + 1) (f) (t) sa cap (acc) (by first | rfl | (rw [List.length_append]; rfl)) (by first | rfl | go_num) (by first | rfl | go_num) (unhide LK) (unhide SS), ?_⟩
          (simp [Mx, rk, intOf, Act.put]) <;> omega
      · have hke : k = oneE s f := (runN_end (by omega)).symm.trans hrun
        have S4 := hide (fun T (hT : T = oneT badI s f) => St.to4 (t := T) ⟨pd, hfk, hks, hke, hT⟩)
        rw [← hke] at hT
        have WO := hide (wordI_any (s.extract f k) wr (unhide EV wr (unhide LK).bel).tab)
        rw [← hT] at WO
        generalize oneT badI s f = T at *
        have S5 := hide (unhide S4 T rfl)
        obtain ⟨tk, tn, tx⟩ := T
        unfold Tk.v Tk.cs at WO
        simp only at WO
        clear S4 hT hke pd hrun
        go_wp2_with fail
        refine (unhide WO).mono ?_
        rintro e w1 ⟨rfl, hb1⟩
        have LK1 := hide ((unhide LK).later hb1)
        have BX1 := hide (unhide LK1).box
        have LK4 := hide ((unhide LK1).put ⟨tk, tn, tx⟩)
        clear hb1 LK1 WO
        go_wp2_with (first | (refine wpList_store_row rfl 31 _ _ rfl w.heap.size #[.int .i64 tk, .int .i64 tn, .string tx] rfl rfl 31 _ (unhide BX1) szK rfl (tk_one _ _ _) ?_))
        go_step3
        refine ⟨jx_in (k) (f) (⟨tk, tn, tx⟩) sa cap (acc) (by first | rfl | (rw [List.length_append]; rfl)) (by first | rfl | go_num) (by first | rfl | go_num) (unhide LK4) (unhide S5), ?_⟩
        (simp [Mx, rk, intOf, Act.put]) <;> omega
    · refine jx_out ?_
      intro u k f t sa cap acc wr lk st
      unfold fx
      obtain ⟨pd, hfk, hks, hrun, hT⟩ := st.at2
      refine ⟨_, rfl, ?_⟩
      have LK := hide lk
      clear lk st
      by_cases hlt : k < s.size
      · have he := sAt s k hlt
        have hbd := bAt_bd s.data.toList k
        cases hq : dgB (bAt s.data.toList k)
        · have hke : k = oneE s f := (runN_no (by omega) hq).symm.trans hrun
          generalize bAt s.data.toList k = c at *
          have S4 := hide (fun T (hT : T = oneT badI s f) => St.to4 (t := T) ⟨pd, hfk, hks, hke, hT⟩)
          rw [← hke] at hT
          have WO := hide (numI_any (s.extract f k) wr (by have := extract_size s f k; omega) (unhide EV wr (unhide LK).bel))
          rw [← hT] at WO
          generalize oneT badI s f = T at *
          have S5 := hide (unhide S4 T rfl)
          obtain ⟨tk, tn, tx⟩ := T
          unfold Tk.v Tk.cs at WO
          simp only at WO
          clear S4 hT hke pd hrun
          go_wp2_with (first | (go_at_call 39; refine (dgI_any _ _).mono ?_; rintro e w' ⟨rfl, hw'⟩; rw [hw']; clear hw' w'))
          refine (unhide WO).mono ?_
          rintro e w1 ⟨rfl, hb1⟩
          have LK1 := hide ((unhide LK).later hb1)
          have BX1 := hide (unhide LK1).box
          have LK4 := hide ((unhide LK1).put ⟨tk, tn, tx⟩)
          clear hb1 LK1 WO
          go_wp2_with (first | (refine wpList_store_row rfl 31 _ _ rfl w.heap.size #[.int .i64 tk, .int .i64 tn, .string tx] rfl rfl 31 _ (unhide BX1) szK rfl (tk_one _ _ _) ?_))
          go_step3
          refine ⟨jx_in (k) (f) (⟨tk, tn, tx⟩) sa cap (acc) (by first | rfl | (rw [List.length_append]; rfl)) (by first | rfl | go_num) (by first | rfl | go_num) (unhide LK4) (unhide S5), ?_⟩
          (simp [Mx, rk, intOf, Act.put]) <;> omega
        · have SS := hide (St.to2 (t := t) ⟨pd, show f < k + 1 by omega, by omega, (runN_yes (by omega) hq).symm.trans hrun, hT⟩)
          generalize bAt s.data.toList k = c at *
          clear pd hrun hT
          go_wp2_with (first | (go_at_call 39; refine (dgI_any _ _).mono ?_; rintro e w' ⟨rfl, hw'⟩; rw [hw']; clear hw' w'))
          go_step3
          refine ⟨jx_in (k + 1) (f) (t) sa cap (acc) (by first | rfl | (rw [List.length_append]; rfl)) (by first | rfl | go_num) (by first | rfl | go_num) (unhide LK) (unhide SS), ?_⟩
          (simp [Mx, rk, intOf, Act.put]) <;> omega
      · have hke : k = oneE s f := (runN_end (by omega)).symm.trans hrun
        have S4 := hide (fun T (hT : T = oneT badI s f) => St.to4 (t := T) ⟨pd, hfk, hks, hke, hT⟩)
        rw [← hke] at hT
        have WO := hide (numI_any (s.extract f k) wr (by have := extract_size s f k; omega) (unhide EV wr (unhide LK).bel))
        rw [← hT] at WO
        generalize oneT badI s f = T at *
        have S5 := hide (unhide S4 T rfl)
        obtain ⟨tk, tn, tx⟩ := T
        unfold Tk.v Tk.cs at WO
        simp only at WO
        clear S4 hT hke pd hrun
        go_wp2_with fail
        refine (unhide WO).mono ?_
        rintro e w1 ⟨rfl, hb1⟩
        have LK1 := hide ((unhide LK).later hb1)
        have BX1 := hide (unhide LK1).box
        have LK4 := hide ((unhide LK1).put ⟨tk, tn, tx⟩)
        clear hb1 LK1 WO
        go_wp2_with (first | (refine wpList_store_row rfl 31 _ _ rfl w.heap.size #[.int .i64 tk, .int .i64 tn, .string tx] rfl rfl 31 _ (unhide BX1) szK rfl (tk_one _ _ _) ?_))
        go_step3
        refine ⟨jx_in (k) (f) (⟨tk, tn, tx⟩) sa cap (acc) (by first | rfl | (rw [List.length_append]; rfl)) (by first | rfl | go_num) (by first | rfl | go_num) (unhide LK4) (unhide S5), ?_⟩
        (simp [Mx, rk, intOf, Act.put]) <;> omega
    · refine jx_out ?_
      intro u k f t sa cap acc wr lk st
      unfold fx
      obtain ⟨pd, hfk, hks, hrun, hT⟩ := st.at3
      refine ⟨_, rfl, ?_⟩
      have LK := hide lk
      have BX := hide lk.box
      clear lk st
      by_cases hlt : k < s.size
      · have he := sAt s k hlt
        have hbd := bAt_bd s.data.toList k
        cases hq : ldB (bAt s.data.toList k)
        · have hke : k = oneE s f := (runN_no (by omega) hq).symm.trans hrun
          generalize bAt s.data.toList k = c at *
          rw [← hke] at hT
          have S5 := hide (St.to4 (t := ⟨3, 0, s.extract f k⟩) ⟨pd, hfk, hks, hke, hT.symm⟩)
          have LK4 := hide ((unhide LK).put ⟨3, 0, s.extract f k⟩)
          clear hT hke pd hrun
          go_wp2_with (first | (go_at_call 41; refine (ldI_any _ _).mono ?_; rintro e w' ⟨rfl, hw'⟩; rw [hw']; clear hw' w') | (refine wpList_store_row rfl 31 _ _ rfl w.heap.size #[.int .i64 3, .int .i64 0, .string (s.extract f k)] rfl rfl 31 _ (unhide BX) szK rfl (tk_one _ _ _) ?_))
          go_step3
          rename_i K hK
          refine hK _ _ (unhide FALL _ _ _ _ rfl (jx_in k f ⟨3, 0, s.extract f k⟩ sa cap acc rfl rfl rfl (unhide LK4) (unhide S5)) ?_)
          (simp [Mx, rk, intOf, Act.put]) <;> omega
        · have SS := hide (St.to3 (t := t) ⟨pd, show f < k + 1 by omega, by omega, (runN_yes (by omega) hq).symm.trans hrun, hT⟩)
          generalize bAt s.data.toList k = c at *
          clear pd hrun hT
          go_wp2_with (first | (go_at_call 41; refine (ldI_any _ _).mono ?_; rintro e w' ⟨rfl, hw'⟩; rw [hw']; clear hw' w'))
          go_step3
          refine ⟨jx_in (k + 1) (f) (t) sa cap (acc) (by first | rfl | (rw [List.length_append]; rfl)) (by first | rfl | go_num) (by first | rfl | go_num) (unhide LK) (unhide SS), ?_⟩
          (simp [Mx, rk, intOf, Act.put]) <;> omega
      · have hke : k = oneE s f := (runN_end (by omega)).symm.trans hrun
        rw [← hke] at hT
        have S5 := hide (St.to4 (t := ⟨3, 0, s.extract f k⟩) ⟨pd, hfk, hks, hke, hT.symm⟩)
        have LK4 := hide ((unhide LK).put ⟨3, 0, s.extract f k⟩)
        clear hT hke pd hrun
        go_wp2_with (first | (refine wpList_store_row rfl 31 _ _ rfl w.heap.size #[.int .i64 3, .int .i64 0, .string (s.extract f k)] rfl rfl 31 _ (unhide BX) szK rfl (tk_one _ _ _) ?_))
        go_step3
        rename_i K hK
        refine hK _ _ (unhide FALL _ _ _ _ rfl (jx_in k f ⟨3, 0, s.extract f k⟩ sa cap acc rfl rfl rfl (unhide LK4) (unhide S5)) ?_)
        (simp [Mx, rk, intOf, Act.put]) <;> omega
end Go.Proofs.YthgbpofcfmnpdaaDoor

namespace Go.Proofs.YthgbpofcfmnpdaaDoor
open Go.ChangeShapes Go.WideShapes Go.ChangeAt Go.RowKit
set_option linter.unusedVariables false
set_option maxRecDepth 8000

def d10 (x : Nat) : UInt8 := UInt8.ofNat (48 + x)
/-- The digits to the base 10, ahead of t, by so many steps. -/
def decG : Nat → Nat → List UInt8 → List UInt8
  | 0, _, t => t
  | n + 1, m, t => if m = 0 then t else decG n (m / 10) (d10 (m % 10) :: t)
theorem decG_more : ∀ (n k m : Nat) (t : List UInt8), m ≤ n → m ≤ k → decG n m t = decG k m t := by
  intro n
  induction n with
  | zero =>
    intro k m t hn hk
    obtain rfl : m = 0 := by omega
    cases k with
    | zero => rfl
    | succ k => rfl
  | succ n ih =>
    intro k m t hn hk
    by_cases h0 : m = 0
    · subst h0
      cases k with
      | zero => rfl
      | succ k => rfl
    · cases k with
      | zero => omega
      | succ k =>
        simp only [decG]
        rw [ih k (m / 10) _ (by omega) (by omega)]
/-- The digits to the base 10, ahead of t. -/
def decA (m : Nat) (t : List UInt8) : List UInt8 := decG m m t
theorem decA_0 (t : List UInt8) : decA 0 t = t := rfl
theorem decA_s {m : Nat} (h : m ≠ 0) (t : List UInt8) : decA m t = decA (m / 10) (d10 (m % 10) :: t) := by
  obtain ⟨n, rfl⟩ : ∃ n, m = n + 1 := ⟨m - 1, by omega⟩
  unfold decA
  rw [decG, if_neg h]
  exact decG_more _ _ _ _ (by omega) (Nat.le_refl _)
/-- The marks' text. -/
def mkTx (k : Nat) : ByteArray := ⟨#[109]⟩ ++ strOf (decA k [])
theorem one_conv10 (W : World) (d : Nat) (hd : d < 10) (x : Int) (hx : x = 48 + (d : Int)) (b : Nat) (hb : b = W.heap.size) : (convert 22 9 (.slice (some ⟨b, 0, none⟩) 1 1)).run Tryd.prog (W.alloc (.cells #[.int .u8 x] 5)) = .ok (.string (strOf [d10 d])) (W.alloc (.cells #[.int .u8 x] 5)) := by
  subst hb
  exact run_convert_bytes_back (P := Tryd.prog) (W.alloc (.cells #[.int .u8 x] 5)) 22 9 5 ⟨W.heap.size, 0, none⟩ 1 [d10 d] Tryd.underlying22 Tryd.underlying5 Tryd.underlying9 (fun j hj => by
    obtain rfl : j = 0 := by simp at hj; omega
    have e : ((d10 d).toNat : Int) = x := by unfold d10; simp; omega
    simp only [List.getElem_cons_zero, e]
    simp [Addr.add])
set_option maxHeartbeats 1000000 in
theorem markTx_any (k : Nat) (hk0 : 0 < k) (hk : k ≤ 1048576) (w : World) : Calls Tryd.prog 72 #[.int .i64 k] w fun e w' => e = .returned (.string (mkTx k)) ∧ Below w.heap.size w w' := by
  unfold mkTx
  obtain ⟨T, hT⟩ : ∃ T, decA k [] = T := ⟨_, rfl⟩
  have HT := hide hT
  rw [hT]
  clear hT
  go_enter Tryd.func72, Tryd.ntmps72
  go_wp2
  go_loopw [0, 3] (fun i s wr => ∃ (m : Nat) (t : List UInt8), m + t.length ≤ 1048576 ∧ i = .int .i64 m ∧ s = .string (strOf t) ∧ Hid (decA m t = T) ∧ Below w.heap.size w wr) (fun i _ _ => (intOf i).toNat)
  case atStart => exact ⟨k, [], by simp; omega, rfl, rfl, unhide HT, Below.refl _ _⟩
  case round =>
    clear HT
    obtain ⟨m, t, hm, rfl, rfl, hd, hb⟩ := hrel
    by_cases h0 : m = 0
    · subst h0
      have E := hide ((decA_0 t).symm.trans hd.out)
      have hsz : (strOf t).size ≤ 1048576 := by rw [strOf_size]; omega
      clear hd
      rw [unhide E] at hsz ⊢
      go_wp2
      go_ret
      exact ⟨rfl, hb⟩
    · have E := hide ((decA_s h0 t).symm.trans hd.out)
      have hc := one_conv10 wr (m % 10) (by omega) (48 + (m : Int) % 10) (by omega)
      have hsz : (strOf t).size ≤ 1048576 := by rw [strOf_size]; omega
      have hsz1 := strOf_size [d10 (m % 10)]
      have hp : (0 : Int) < (m : Int) := by omega
      have AP := hide (strOf_append [d10 (m % 10)] t)
      clear hd
      go_wp2
      go_roundw
      case rel => exact ⟨m / 10, d10 (m % 10) :: t, by rw [List.length_cons]; omega, by go_num, by rw [unhide AP]; rfl, unhide E, hb.alloc hb.size _⟩
      case measure => simp [intOf]; omega

def mT (i : Nat) : Tk := ⟨((1 + 3 * i : Nat) : Int), ((2 + 3 * i : Nat) : Int), mkTx (3 + 3 * i)⟩
/-- What the marks leave. -/
def marksT (n : Nat) : List Tk := (List.range n).map mT
theorem marksT_len (n : Nat) : (marksT n).length = n := by simp [marksT]
theorem marksT_at (n i : Nat) (h : i < n) : tAt (marksT n) i = mT i := by
  unfold tAt marksT
  rw [List.getD_eq_getElem?_getD, List.getElem?_map, List.getElem?_range h]
  rfl
theorem mark_stepT (ts : List Tk) (k : Nat) (h : k < ts.length) : (marksT k ++ ts.drop k).set k (mT k) = marksT (k + 1) ++ ts.drop (k + 1) := by
  have e1 : marksT (k + 1) = marksT k ++ [mT k] := by simp [marksT, List.range_succ]
  rw [List.set_append_right _ _ (by rw [marksT_len]; omega), marksT_len, Nat.sub_self, List.drop_eq_getElem_cons h, List.set_cons_zero, e1, List.append_assoc]
  rfl
set_option maxHeartbeats 2000000 in
theorem markTokS_own (v : Value) (ts : List Tk) (B : Nat) (w : World) (hm : ts.length ≤ 800) (h : OwnT w B v ts) : Calls Tryd.prog 26 #[v, .int .i64 1] w fun e w' => e = .returned (.int .i64 ((1 + 3 * ts.length : Nat) : Int)) ∧ OwnT w' B v (marksT ts.length) ∧ w.grownBy w' v.ownBlock := by
  obtain ⟨n, hn⟩ : ∃ n, ts.length = n := ⟨_, rfl⟩
  obtain ⟨a, cap, rfl, _⟩ := h.rd
  rw [hn] at hm h ⊢
  have O0 := hide (show OwnT w B (.slice a n cap) (marksT 0 ++ ts.drop 0) from h)
  have FM := hide h.form
  have HB := hide (fun g hg => (h.lt (g := g) hg))
  clear h
  go_enter Tryd.func26, Tryd.ntmps26
  go_wp2
  go_loopw [1, 5] (fun kv i wr => ∃ k : Nat, k ≤ n ∧ i = .int .i64 k ∧ kv = .int .i64 ((1 + 3 * k : Nat) : Int) ∧ OwnT wr B (.slice a n cap) (marksT k ++ ts.drop k) ∧ w.grownBy wr (Value.slice a n cap).ownBlock) (fun _ i _ => n - (intOf i).toNat)
  case atStart => exact ⟨0, Nat.zero_le _, rfl, rfl, unhide O0, grownBy_below (Below.refl _ _)⟩
  case round =>
    clear O0
    obtain ⟨k, hk, rfl, rfl, ho, hg⟩ := hrel
    by_cases hlt : k < n
    · obtain ⟨g, e⟩ : ∃ g, a = some ⟨g, 0, none⟩ := by
        rcases unhide FM with ⟨e, h0⟩ | ⟨g, c, e, _⟩
        · rw [h0] at hn; simp at hn; omega
        · cases e; exact ⟨g, rfl⟩
      subst e
      have hL : (marksT k ++ ts.drop k).length = n := by rw [List.length_append, marksT_len, List.length_drop]; omega
      have hown : wr.ownsRow B 31 3 (.slice (some ⟨g, 0, none⟩) n cap) n (cellsT (marksT k ++ ts.drop k)) := by have := ho; unfold OwnT at this; rw [hL] at this; exact this
      have MS := hide (mark_stepT ts k (by omega))
      have MX := hide (fun W => markTx_any (3 + 3 * k) (by omega) (by omega) W)
      generalize marksT k ++ ts.drop k = L at *
      have hkl : k < L.length := by omega
      obtain ⟨q0, q1, q2⟩ := cellsT_get L k hkl
      have c0 := (World.ownsRow.cellAt hown (k * 3) (by omega)).trans q0
      have c1 := (World.ownsRow.cellAt hown (k * 3 + 1) (by omega)).trans q1
      have f0 := World.ownsRow.frozenAt hown (k * 3)
      have f1 := World.ownsRow.frozenAt hown (k * 3 + 1)
      have h1 := World.ownsRow.stored hown (k * 3) (.int .i64 ((1 + 3 * k : Nat) : Int))
      have h2 := World.ownsRow.stored h1.1 (k * 3 + 1) (.int .i64 ((2 + 3 * k : Nat) : Int))
      have C2 := hide (show ((wr.setCell ⟨g, k * 3, none⟩ (.int .i64 ((1 + 3 * k : Nat) : Int))).setCell ⟨g, k * 3 + 1, none⟩ (.int .i64 ((2 + 3 * k : Nat) : Int))).cell? ⟨g, k * 3 + 2, none⟩ = some (.string (tAt L k).s) by
        rw [World.ownsRow.cellAt h2.1 (k * 3 + 2) (by omega), List.getElem?_set_ne (by omega), List.getElem?_set_ne (by omega)]
        exact q2)
      have F2 := hide (World.ownsRow.frozenAt h2.1 (k * 3 + 2))
      have H2 := hide h2.1
      have G2 := hide (grownBy_trans hg (grownBy_trans h1.2 h2.2))
      have EN : ((1 + 3 * k : Nat) : Int) + 1 = ((2 + 3 * k : Nat) : Int) := by omega
      have EM : ((2 + 3 * k : Nat) : Int) + 1 = ((3 + 3 * k : Nat) : Int) := by omega
      have EP : ((3 + 3 * k : Nat) : Int) + 1 = ((1 + 3 * (k + 1) : Nat) : Int) := by omega
      have WL : (wr.setCell ⟨g, k * 3, none⟩ (.int .i64 ((1 + 3 * k : Nat) : Int))).heap.size = wr.heap.size := by simp
      have CS := hide (show ((((cellsT L).set (k * 3) (.int .i64 ((1 + 3 * k : Nat) : Int))).set (k * 3 + 1) (.int .i64 ((2 + 3 * k : Nat) : Int))).set (k * 3 + 2) (.string (mkTx (3 + 3 * k)))) = cellsT (marksT (k + 1) ++ ts.drop (k + 1)) by rw [← unhide MS]; exact cellsT_set L k hkl (mT k))
      have LN := hide (show (marksT (k + 1) ++ ts.drop (k + 1)).length = n by rw [List.length_append, marksT_len, List.length_drop]; omega)
      have GL := hide (World.ownsRow.lt h2.1 g rfl).2
      clear ho hown h1 h2 q0 q1 q2 hg
      generalize hA : ((1 + 3 * k : Nat) : Int) = A at *
      generalize hB2 : ((2 + 3 * k : Nat) : Int) = A2 at *
      generalize hC : ((3 + 3 * k : Nat) : Int) = A3 at *
      have bA : 0 ≤ A ∧ A ≤ 100000 := by omega
      have bA2 : 0 ≤ A2 ∧ A2 ≤ 100000 := by omega
      have bA3 : 0 ≤ A3 ∧ A3 ≤ 100000 := by omega
      clear WL
      go_wp2_with fail
      generalize (wr.setCell ⟨g, k * 3, none⟩ (.int .i64 A)).setCell ⟨g, k * 3 + 1, none⟩ (.int .i64 A2) = W2 at *
      refine (unhide MX _).mono ?_
      rintro e w3 ⟨rfl, hb3⟩
      have d2 := (hb3.cell (p := ⟨g, k * 3 + 2, none⟩) (unhide GL)).trans (unhide C2)
      have e2 := (hb3.frozen (p := ⟨g, k * 3 + 2, none⟩) (unhide GL)).trans (unhide F2)
      have H3 := World.ownsRow.kept (unhide H2) (grownBy_below (r := none) hb3) (.inr (by simp [Value.ownBlock]))
      have H4 := World.ownsRow.stored H3 (k * 3 + 2) (.string (mkTx (3 + 3 * k)))
      rw [unhide CS] at H4
      have G4 := hide (grownBy_trans (grownBy_trans (unhide G2) (grownBy_below hb3)) H4.2)
      have O4 := hide (show OwnT (w3.setCell ⟨g, k * 3 + 2, none⟩ (.string (mkTx (3 + 3 * k)))) B (.slice (some ⟨g, 0, none⟩) n cap) (marksT (k + 1) ++ ts.drop (k + 1)) by unfold OwnT; rw [unhide LN]; exact H4.1)
      generalize mkTx (3 + 3 * k) = X at *
      clear H3 H4 hb3 C2 F2 H2 G2 CS GL MX c0 c1 f0 f1
      go_wp2
      go_roundw
      case rel => exact ⟨k + 1, by omega, by go_num, by first | rfl | (rw [← EP]; rfl) | (congr 1; omega), unhide O4, unhide G4⟩
      case measure => simp [intOf]; omega
    · obtain rfl : k = n := by omega
      have E := hide (show marksT k ++ ts.drop k = marksT k by rw [← hn, List.drop_length, List.append_nil])
      rw [unhide E] at ho
      have O1 := hide ho
      have G1 := hide hg
      clear ho hg
      go_wp2
      go_ret
      exact ⟨rfl, unhide O1, unhide G1⟩

set_option maxHeartbeats 2000000 in
theorem heldTokS_rd (a : Option Addr) (n cap : Nat) (w : World) (hm : n ≤ 800) (h : RdT w a (marksT n)) : Calls Tryd.prog 27 #[.slice a n cap, .int .i64 1] w fun e w' => e = .returned (.int .i64 ((1 + 3 * n : Nat) : Int)) ∧ Below w.heap.size w w' := by
  go_enter Tryd.func27, Tryd.ntmps27
  go_wp2
  go_loopw [1, 5] (fun kv i wr => ∃ (k : Nat) (y : Sub w.heap.size w), k ≤ n ∧ i = .int .i64 k ∧ kv = .int .i64 ((1 + 3 * k : Nat) : Int) ∧ wr = y.w) (fun _ i _ => n - (intOf i).toNat)
  case atStart => exact ⟨0, ⟨w, Below.refl _ _⟩, Nat.zero_le _, rfl, rfl, rfl⟩
  case round =>
    obtain ⟨k, x, hk, rfl, rfl, rfl⟩ := hrel
    by_cases hlt : k < n
    · rcases h with h0 | ⟨p, po, rfl, hp, hpc⟩
      · have := marksT_len n; rw [h0] at this; simp at this; omega
      obtain ⟨e0, e1, e2⟩ := hpc k (by rw [marksT_len]; omega)
      rw [marksT_at n k hlt] at e0 e1 e2
      have d0 : ∀ y : Sub w.heap.size w, y.w.cell? ⟨p, po + k * 3, none⟩ = some (.int .i64 ((1 + 3 * k : Nat) : Int)) := fun y => (y.h.cell (p := ⟨p, _, none⟩) hp).trans e0
      have d1 : ∀ y : Sub w.heap.size w, y.w.cell? ⟨p, po + k * 3 + 1, none⟩ = some (.int .i64 ((2 + 3 * k : Nat) : Int)) := fun y => (y.h.cell (p := ⟨p, _, none⟩) hp).trans e1
      have d2 : ∀ y : Sub w.heap.size w, y.w.cell? ⟨p, po + k * 3 + 2, none⟩ = some (.string (mkTx (3 + 3 * k))) := fun y => (y.h.cell (p := ⟨p, _, none⟩) hp).trans e2
      have MX := hide (fun W => markTx_any (3 + 3 * k) (by omega) (by omega) W)
      have ne := Sub.ne w.heap.size w
      have HZ := hide (Nat.le_refl w.heap.size)
      have EN : ((1 + 3 * k : Nat) : Int) + 1 = ((2 + 3 * k : Nat) : Int) := by omega
      have EM : ((2 + 3 * k : Nat) : Int) + 1 = ((3 + 3 * k : Nat) : Int) := by omega
      have EP : ((3 + 3 * k : Nat) : Int) + 1 = ((1 + 3 * (k + 1) : Nat) : Int) := by omega
      generalize mkTx (3 + 3 * k) = X at *
      generalize hA : ((1 + 3 * k : Nat) : Int) = A at *
      generalize hB2 : ((2 + 3 * k : Nat) : Int) = A2 at *
      generalize hC : ((3 + 3 * k : Nat) : Int) = A3 at *
      have bA : 0 ≤ A ∧ A ≤ 100000 := by omega
      have bA2 : 0 ≤ A2 ∧ A2 ≤ 100000 := by omega
      have bA3 : 0 ≤ A3 ∧ A3 ≤ 100000 := by omega
      clear e0 e1 e2 hpc
      go_wp2_with fail
      refine wp_region_sub x (by kernel_rfl) (by kernel_rfl) ?_
      repeat (go_big_quiet_step (first | (go_at_call 72; exact Sub.call (unhide HZ) (unhide MX _))))
      refine wpQuiet_nil ?_
      intro y
      go_wp2
      go_roundw
      case rel => exact ⟨k + 1, y, by omega, by go_num, by first | rfl | (rw [← EP]; rfl) | (congr 1; omega), rfl⟩
      case measure => simp [intOf]; omega
    · obtain rfl : k = n := by omega
      go_wp2
      go_ret
      exact ⟨rfl, x.h⟩
end Go.Proofs.YthgbpofcfmnpdaaDoor

namespace Go.Proofs.YthgbpofcfmnpdaaDoor
open Go.ChangeShapes Go.WideShapes Go.ChangeAt Go.RowKit
set_option linter.unusedVariables false
set_option maxRecDepth 8000

theorem lexR_len (s : ByteArray) : ∀ (n k : Nat) (acc : List Tk), s.size - k ≤ n → acc.length ≤ 800 → (lexR s k acc).1.length ≤ 800 := by
  intro n
  induction n with
  | zero =>
    intro k acc hn h8
    rw [lexR_end (by omega)]
    exact h8
  | succ n ih =>
    intro k acc hn h8
    by_cases hlt : k < s.size
    · by_cases h59 : bAt s.data.toList k = 59
      · rw [lexR_semi hlt h59]; exact h8
      · cases hbl : blB (bAt s.data.toList k)
        · cases hok : (oneT badS s k).ok
          · rw [lexR_bad hlt h59 hbl (.inl hok)]; simp
          · by_cases h800 : acc.length = 800
            · rw [lexR_bad hlt h59 hbl (.inr h800)]; simp
            · rw [lexR_next hlt h59 hbl hok h800]
              have := oneE_bd s k hlt
              exact ih _ _ (by omega) (by rw [List.length_append]; simp; omega)
        · rw [lexR_blank hlt h59 hbl]
          exact ih _ _ (by omega) h8
    · rw [lexR_end hlt]; exact h8
theorem lex_len (s : ByteArray) : (lexR s 0 []).1.length ≤ 800 := lexR_len s s.size 0 [] (by omega) (by simp)
/-- A list stays while another, of later memory, is written. -/
theorem OwnT.apart {w w' : World} {B C : Nat} {v u : Value} {ts ms : List Tk} (h : OwnT w B v ts) (k : OwnT w C u ms) (hg : w.grownBy w' u.ownBlock) (hlt : ∀ g, v.ownBlock = some g → g < C) : OwnT w' B v ts :=
  h.keep fun g hv hl => hg.block g hl (fun e => by have := (k.lt e.symm).1; have := hlt g hv; omega)
theorem eqT_own (v u : Value) (ts : List Tk) (B C : Nat) (w : World) (hm : ts.length ≤ 800) (h : OwnT w B v ts) (k : OwnT w C u ts) : Calls Tryd.prog 25 #[v, u] w fun e w' => e = .returned (.bool true) ∧ Below w.heap.size w w' := by
  obtain ⟨a, c, rfl, r⟩ := h.rd
  obtain ⟨b, d, rfl, q⟩ := k.rd
  exact eqTokS_same a b ts.length c d ts w rfl (by omega) r q
theorem heldT_own (v : Value) (n B : Nat) (w : World) (hm : n ≤ 800) (h : OwnT w B v (marksT n)) : Calls Tryd.prog 27 #[v, .int .i64 1] w fun e w' => e = .returned (.int .i64 ((1 + 3 * n : Nat) : Int)) ∧ Below w.heap.size w w' := by
  obtain ⟨a, c, rfl, r⟩ := h.rd
  rw [marksT_len]
  exact heldTokS_rd a n c w hm r
theorem gES : Tryd.prog.globalNamed "strconv.ErrSyntax" = some 5 := by kernel_rfl
theorem gER : Tryd.prog.globalNamed "strconv.ErrRange" = some 6 := by kernel_rfl
theorem tES : (Tryd.prog.globals[5]?).map (·.type) = some 62 := by kernel_rfl
theorem tER : (Tryd.prog.globals[6]?).map (·.type) = some 62 := by kernel_rfl
theorem cellsES : Tryd.prog.cellsOf 177 = 1 := by kernel_rfl
theorem cellsSt : Tryd.prog.cellsOf 9 = 1 := by kernel_rfl
theorem star : "*" ++ "errors.errorString" = "*errors.errorString" := by decide
theorem rowES (u : TypeId) (h : Tryd.prog.typeName? 3 u = some "*errors.errorString") : u = 175 :=
  typeName_ptr_named (nm := "errors.errorString") (by rw [star]; kernel_rfl) (by kernel_rfl) (by decide) u (by rw [star]; exact h)
/-- The listed variables give what the program's reading leans on. -/
theorem env_of {W : World} (h : laidMetH Tryd.prog [("math/bits.deBruijn32tab", Rows.laid_math_bits_deBruijn32tab), ("math/bits.deBruijn64tab", Rows.laid_math_bits_deBruijn64tab), ("internal/strconv.uint64pow10", Rows.laid_internal_strconv_uint64pow10), ("strconv.ErrRange", Rows.laid_strconv_ErrRange), ("strconv.ErrSyntax", Rows.laid_strconv_ErrSyntax), ("loop.example/g00329/impl.opWords", Rows.laid_loop_example_g00329_impl_opWords), ("loop.example/g00329/impl.regWords", Rows.laid_loop_example_g00329_impl_regWords)] W) : Env W := by
  rw [MakeChecks.laidMetH_plain _ _ _ (by kernel_rfl)] at h
  have h3 := h.tail.tail.tail
  obtain ⟨a2, s2, hv2, -, -, -⟩ := laid_sentinel h3 gER tER Tryd.underlying62 rowES Tryd.underlying175 Tryd.underlying177 rfl rfl Tryd.underlying9 cellsES cellsSt
  obtain ⟨a1, s1, hv1, -, -, -⟩ := laid_sentinel h3.tail gES tES Tryd.underlying62 rowES Tryd.underlying175 Tryd.underlying177 rfl rfl Tryd.underlying9 cellsES cellsSt
  exact ⟨tabK_of h3.tail.tail, db_of h.tail, ⟨_, _, by have h0 := World.var?_cell gES hv1 0; simpa using h0⟩, ⟨_, _, by have h0 := World.var?_cell gER hv2 0; simpa using h0⟩⟩
end Go.Proofs.YthgbpofcfmnpdaaDoor

namespace Go.Proofs.YthgbpofcfmnpdaaDoor
open Go.ChangeShapes Go.WideShapes Go.ChangeAt Go.RowKit
set_option linter.unusedVariables false
set_option maxRecDepth 8000

theorem head_bAt {l : List UInt8} {k : Nat} {c : UInt8} {r : List UInt8} (h : l.drop k = c :: r) : k < l.length ∧ bAt l k = (c.toNat : Int) ∧ l.drop (k + 1) = r := by
  have hk : k < l.length := by
    by_cases hk : k < l.length
    · exact hk
    · rw [List.drop_eq_nil_of_le (by omega)] at h; cases h
  refine ⟨hk, ?_, ?_⟩
  · rw [drop_bAt hk] at h
    have e := (List.cons.inj h).1
    unfold bAt
    rw [e]
  · rw [drop_bAt hk] at h
    exact (List.cons.inj h).2
/-- What follows a token: nothing, or a blank. -/
def Gap (r : List UInt8) : Prop := r = [] ∨ ∃ q, r = 32 :: q
theorem runN_all {p : Int → Bool} {l x r : List UInt8} {k : Nat} (h : l.drop k = x ++ r) (hx : ∀ c ∈ x, p (c.toNat : Int) = true) (hr : Gap r) (h32 : p 32 = false) : runN p l k = k + x.length := by
  unfold runN
  rw [h, List.takeWhile_append_of_pos hx]
  have : r.takeWhile (fun c => p (c.toNat : Int)) = [] := by
    rcases hr with rfl | ⟨q, rfl⟩
    · rfl
    · rw [List.takeWhile_cons]
      have e : p ((32 : UInt8).toNat : Int) = false := h32
      rw [e]
      rfl
  rw [this, List.append_nil]
theorem ext_of {s : ByteArray} {x r : List UInt8} {k : Nat} (h : s.data.toList.drop k = x ++ r) : s.extract k (k + x.length) = strOf x := by
  apply bytes_inj
  rw [ByteArray.data_extract, Array.toList_extract, List.extract_eq_take_drop, h, strOf_list, Nat.add_sub_cancel_left, List.take_left]
/-- A name's form, opened. -/
theorem form_open {l : List UInt8} (h : formB l = true) : ∃ c r, l = c :: r ∧ smB (c.toNat : Int) = true ∧ (∀ x ∈ l, ldB (x.toNat : Int) = true) ∧ l.length ≤ 6 := by
  unfold formB at h
  rw [Bool.and_eq_true, inB_iff, List.all_eq_true] at h
  obtain ⟨h1, h2, h3⟩ := h
  match l, h2 with
  | c :: r, _ =>
    refine ⟨c, r, rfl, ?_, ?_, by omega⟩
    · have := h1 0 (List.mem_range.2 (by simp))
      unfold okAt at this
      rw [show decide (0 < 0) = false from rfl, Bool.false_and, Bool.or_false] at this
      exact this
    · intro x hx
      obtain ⟨i, hi, rfl⟩ := List.getElem_of_mem hx
      have := h1 i (List.mem_range.2 hi)
      unfold okAt bAt at this
      rw [List.getD_eq_getElem?_getD, List.getElem?_eq_getElem hi] at this
      simp only [Option.getD_some] at this
      unfold ldB
      rw [Bool.or_eq_true] at this ⊢
      rcases this with h | h
      · exact .inl h
      · rw [Bool.and_eq_true] at h; exact .inr h.2
theorem kept_form : ∀ x ∈ keptL, formB x.data.toList = true := by decide +kernel
theorem ld_32 : ldB 32 = false := by decide
theorem dg_32 : dgB 32 = false := by decide
theorem sm_bd {c : Int} (h : smB c = true) : 97 ≤ c ∧ c ≤ 122 := (inB_iff _ _ _).1 h
theorem dg_bd {c : Int} (h : dgB c = true) : 48 ≤ c ∧ c ≤ 57 := (inB_iff _ _ _).1 h
theorem bl_no {c : Int} (h : c ≠ 32) (h2 : c ≠ 9) : blB c = false := by unfold blB; rw [beq_eq_false_iff_ne.2 h, beq_eq_false_iff_ne.2 h2]; rfl
/-- How a token is read again. -/
def Again (s : ByteArray) (k : Nat) (t : Tk) : Prop := k < s.size ∧ bAt s.data.toList k ≠ 59 ∧ blB (bAt s.data.toList k) = false ∧ oneE s k = k + (tokL t).length ∧ oneT badS s k = t
theorem again_word {s : ByteArray} {k : Nat} {x : ByteArray} {r : List UInt8} {t : Tk} (hf : formB x.data.toList = true) (h : s.data.toList.drop k = x.data.toList ++ r) (hr : Gap r) (ht : tokL t = x.data.toList) (hw : wordT x = t) : Again s k t := by
  obtain ⟨c, q, e, hc, hall, _⟩ := form_open hf
  have h0 : s.data.toList.drop k = c :: (q ++ r) := by rw [h, e]; rfl
  obtain ⟨hk, hb, _⟩ := head_bAt h0
  have hs1 : smB (bAt s.data.toList k) = true := by rw [hb]; exact hc
  have hbd := sm_bd hs1
  obtain ⟨e1, e2⟩ := one_sm badS hs1
  have hrun := runN_all (p := ldB) h hall hr ld_32
  refine ⟨by rw [← size_len]; exact hk, by omega, bl_no (by omega) (by omega), ?_, ?_⟩
  · rw [e1, hrun, ht]
  · rw [e2, e1, hrun, ext_of h, strOf_of, hw]
theorem again_any {s : ByteArray} {k : Nat} {t : Tk} {r : List UInt8} (hok : t.ok = true) (h : s.data.toList.drop k = tokL t ++ r) (hr : Gap r) : Again s k t := by
  obtain ⟨tk, tn, tx⟩ := t
  have hok' := hok
  unfold Tk.ok at hok
  simp only at hok
  by_cases h2 : tk = 2
  · subst h2
    rw [if_pos (by decide), Bool.and_eq_true, inB_iff, decide_eq_true_eq] at hok
    obtain ⟨⟨n0, n1⟩, hz⟩ := hok
    obtain rfl := empty_of tx hz
    obtain ⟨m, rfl⟩ := Int.eq_ofNat_of_zero_le n0
    have hm : ((m : Int) % 65536).toNat = m := by omega
    have hT : tokL ⟨2, (m : Int), ⟨#[]⟩⟩ = octD m := by unfold tokL; rw [if_pos rfl]; simp only [hm]
    rw [hT] at h
    have hne := octD_ne m
    have hd := octD_dig m
    have hall : ∀ c ∈ octD m, dgB (c.toNat : Int) = true := fun c hc => inB_t _ _ _ (by have := (hd c hc).1; omega) (by have := (hd c hc).2; omega)
    match hl : octD m, hne with
    | c :: q, _ =>
      have h0 : s.data.toList.drop k = c :: (q ++ r) := by rw [h, hl]; rfl
      obtain ⟨hk, hb, _⟩ := head_bAt h0
      have hc := hd c (by rw [hl]; exact List.mem_cons_self)
      have hs1 : smB (bAt s.data.toList k) = false := by rw [hb]; exact inB_f _ _ _ (by omega)
      have hs2 : dgB (bAt s.data.toList k) = true := by rw [hb]; exact inB_t _ _ _ (by omega) (by omega)
      obtain ⟨e1, e2⟩ := one_dg badS hs1 hs2
      have hrun := runN_all (p := dgB) h hall hr dg_32
      refine ⟨by rw [← size_len]; exact hk, by omega, bl_no (by omega) (by omega), ?_, ?_⟩
      · rw [e1, hrun, hT]
      · rw [e2, e1, hrun, ext_of h, numT_some (by omega) rfl]
  · have h2b : (tk == 2) = false := beq_eq_false_iff_ne.2 h2
    rw [h2b, if_neg (by decide)] at hok
    have hT : tokL ⟨tk, tn, tx⟩ = tx.data.toList := by unfold tokL; rw [if_neg h2]
    rw [hT] at h
    by_cases hn : tn = 0
    · subst hn
      rw [if_neg (by decide)] at hok
      by_cases h1 : tk = 1
      · subst h1
        rw [if_pos (by decide)] at hok
        unfold nameB at hok
        rw [Bool.and_eq_true, Bool.not_eq_true'] at hok
        exact again_word hok.1 h hr hT ((wordT_v tx).2 hok.2)
      · have h1b : (tk == 1) = false := beq_eq_false_iff_ne.2 h1
        rw [h1b, if_neg (by decide)] at hok
        by_cases h3 : tk = 3
        · subst h3
          rw [if_pos (by decide)] at hok
          match hl : tx.data.toList with
          | [] => rw [hl] at hok; cases hok
          | c0 :: q =>
            rw [hl, dotB_cons, Bool.and_eq_true, beq_iff_eq] at hok
            obtain ⟨rfl, hf⟩ := hok
            obtain ⟨c, q2, e, hc, hall, _⟩ := form_open hf
            have h0 : s.data.toList.drop k = 46 :: (q ++ r) := by rw [h, hl]; rfl
            obtain ⟨hk, hb, hd1⟩ := head_bAt h0
            have h1' : s.data.toList.drop (k + 1) = c :: (q2 ++ r) := by rw [hd1, e]; rfl
            obtain ⟨hk1, hb1, _⟩ := head_bAt h1'
            have hb46 : bAt s.data.toList k = 46 := hb
            have s1 : smB (bAt s.data.toList k) = false := by rw [hb46]; decide
            have s2 : dgB (bAt s.data.toList k) = false := by rw [hb46]; decide
            have s3 : smB (bAt s.data.toList (k + 1)) = true := by rw [hb1]; exact hc
            have hl2 := size_len s
            obtain ⟨e1, e2⟩ := one_dot badS s1 s2 hb46 (by omega) s3
            have hrun := runN_all (p := ldB) hd1 hall hr ld_32
            have hend : oneE s k = k + tx.data.toList.length := by rw [e1, hrun, hl, List.length_cons]; omega
            refine ⟨by omega, by omega, bl_no (by omega) (by omega), ?_, ?_⟩
            · rw [hend, hT]
            · rw [e2, hend, ext_of h, strOf_of]
        · have h3b : (tk == 3) = false := beq_eq_false_iff_ne.2 h3
          rw [h3b, if_neg (by decide)] at hok
          by_cases h4 : tk = 4
          · subst h4
            rw [if_pos (by decide)] at hok
            match hl : tx.data.toList, hok with
            | [c], hok =>
              have hm : mkL.contains c = true := hok
              have h0 : s.data.toList.drop k = c :: r := by rw [h, hl]; rfl
              obtain ⟨hk, hb, hd1⟩ := head_bAt h0
              have fin : ∀ i : Fin 256, mkL.contains (UInt8.ofNat i.val) = true → smB (i.val : Int) = false ∧ dgB (i.val : Int) = false ∧ (i.val : Int) ≠ 59 ∧ blB (i.val : Int) = false := by decide +kernel
              have hf := fin ⟨c.toNat, c.toNat_lt⟩ (by show mkL.contains (UInt8.ofNat c.toNat) = true; rw [UInt8.ofNat_toNat]; exact hm)
              simp only at hf
              rw [← hb] at hf
              have hl2 := size_len s
              obtain ⟨e1, e2⟩ := one_mk badS hf.1 hf.2.1 (fun _ hk1 => by
                rcases hr with rfl | ⟨q, rfl⟩
                · have : s.data.toList.length ≤ k + 1 := by
                    have := congrArg List.length hd1
                    rw [List.length_drop] at this
                    simp at this
                    omega
                  omega
                · obtain ⟨_, hb1, _⟩ := head_bAt hd1
                  rw [hb1]; decide)
              refine ⟨by omega, hf.2.2.1, hf.2.2.2, ?_, ?_⟩
              · rw [e1, hT, hl]; rfl
              · have hx := ext_of h
                rw [hl] at hx
                have hx' : s.extract k (k + 1) = strOf [c] := hx
                rw [e2, hx', ← hl, strOf_of]
          · have h4b : (tk == 4) = false := beq_eq_false_iff_ne.2 h4
            rw [h4b, if_neg (by decide)] at hok
            by_cases h5 : tk = 5
            · subst h5
              rw [if_pos (by decide)] at hok
              have hin : tx ∈ keptL := hasS_iff.1 hok
              exact again_word (kept_form tx hin) h hr hT ((wordT_v tx).1 hok)
            · have h5b : (tk == 5) = false := beq_eq_false_iff_ne.2 h5
              rw [h5b, if_neg (by decide)] at hok
              cases hok
    · have hnb : (tn != 0) = true := by simp [hn]
      rw [hnb, if_pos (by decide)] at hok
      cases hok
end Go.Proofs.YthgbpofcfmnpdaaDoor

namespace Go.Proofs.YthgbpofcfmnpdaaDoor
open Go.ChangeShapes Go.WideShapes Go.ChangeAt Go.RowKit
set_option linter.unusedVariables false
set_option maxRecDepth 8000

def AllOk (ts : List Tk) : Prop := ∀ t ∈ ts, t.ok = true
theorem AllOk.at {ts : List Tk} (h : AllOk ts) {i : Nat} (hi : i < ts.length) : (tAt ts i).ok = true := by
  unfold tAt
  rw [List.getD_eq_getElem?_getD, List.getElem?_eq_getElem hi]
  exact h _ (List.getElem_mem _)
theorem AllOk.snoc {ts : List Tk} {t : Tk} (h : AllOk ts) (ht : t.ok = true) : AllOk (ts ++ [t]) := fun x hx => by
  rcases List.mem_append.1 hx with h1 | h1
  · exact h x h1
  · rw [List.mem_singleton] at h1; rw [h1]; exact ht
theorem kept_small : ∀ x ∈ keptL, x.size ≤ 7 := by decide +kernel
theorem ok_size {t : Tk} (h : t.ok = true) : t.s.size ≤ 7 := by
  obtain ⟨tk, tn, tx⟩ := t
  unfold Tk.ok at h
  simp only at h ⊢
  have hl := size_len tx
  split at h
  · rw [Bool.and_eq_true, decide_eq_true_eq] at h; omega
  · split at h
    · cases h
    · split at h
      · unfold nameB at h
        rw [Bool.and_eq_true] at h
        obtain ⟨_, _, _, _, _, h6⟩ := form_open h.1
        omega
      · split at h
        · match hx : tx.data.toList with
          | [] => rw [hx] at h; cases h
          | c0 :: q =>
            rw [hx, dotB_cons, Bool.and_eq_true] at h
            obtain ⟨_, _, _, _, _, h6⟩ := form_open h.2
            rw [hx, List.length_cons] at hl
            omega
        · split at h
          · match hx : tx.data.toList, h with
            | [c], _ => rw [hx] at hl; simp at hl; omega
          · split at h
            · exact kept_small tx (hasS_iff.1 h)
            · cases h
theorem ok_szL {ts : List Tk} (h : AllOk ts) : szL ts ≤ 7 * ts.length := by
  induction ts with
  | nil => simp [szL]
  | cons t r ih =>
    have h1 := ok_size (h t List.mem_cons_self)
    have h2 := ih (fun x hx => h x (List.mem_cons_of_mem _ hx))
    simp only [szL, List.length_cons]
    omega
/-- What Lex answers is right. -/
theorem lexR_ok (s : ByteArray) : ∀ (n k : Nat) (acc : List Tk), s.size - k ≤ n → AllOk acc → AllOk (lexR s k acc).1 := by
  intro n
  induction n with
  | zero =>
    intro k acc hn h8
    rw [lexR_end (by omega)]
    exact h8
  | succ n ih =>
    intro k acc hn h8
    by_cases hlt : k < s.size
    · by_cases h59 : bAt s.data.toList k = 59
      · rw [lexR_semi hlt h59]; exact h8
      · cases hbl : blB (bAt s.data.toList k)
        · cases hok : (oneT badS s k).ok
          · rw [lexR_bad hlt h59 hbl (.inl hok)]; intro x hx; cases hx
          · by_cases h800 : acc.length = 800
            · rw [lexR_bad hlt h59 hbl (.inr h800)]; intro x hx; cases hx
            · rw [lexR_next hlt h59 hbl hok h800]
              have := oneE_bd s k hlt
              exact ih _ _ (by omega) (h8.snoc hok)
        · rw [lexR_blank hlt h59 hbl]
          exact ih _ _ (by omega) h8
    · rw [lexR_end hlt]; exact h8
theorem lex_ok (s : ByteArray) : AllOk (lexR s 0 []).1 := lexR_ok s s.size 0 [] (by omega) (fun x hx => by cases hx)
theorem line_pre (ts : List Tk) (i : Nat) : ∀ d, ∃ r, lineT ts (i + d) = lineT ts i ++ r
  | 0 => ⟨[], by simp⟩
  | d + 1 => by
    obtain ⟨r, hr⟩ := line_pre ts i d
    refine ⟨r ++ (if i + d = 0 then [] else [32]) ++ tokL (tAt ts (i + d)), ?_⟩
    show lineT ts (i + d) ++ (if i + d = 0 then [] else [32]) ++ tokL (tAt ts (i + d)) = _
    rw [hr]
    simp [List.append_assoc]
theorem line_drop (ts : List Tk) (n i : Nat) (h : i < n) : (lineT ts n).drop (lineT ts i).length = (if i = 0 then [] else [32]) ++ (tokL (tAt ts i) ++ (lineT ts n).drop (lineT ts (i + 1)).length) := by
  obtain ⟨r, hr⟩ := line_pre ts (i + 1) (n - (i + 1))
  have e : i + 1 + (n - (i + 1)) = n := by omega
  rw [e] at hr
  have h1 : (lineT ts n).drop (lineT ts (i + 1)).length = r := by rw [hr, List.drop_left]
  rw [h1, hr]
  show (lineT ts i ++ (if i = 0 then [] else [32]) ++ tokL (tAt ts i) ++ r).drop (lineT ts i).length = _
  rw [List.append_assoc, List.append_assoc, List.drop_left]
theorem gap_at (ts : List Tk) (n i : Nat) (h : i ≤ n) (h0 : 0 < i) : Gap ((lineT ts n).drop (lineT ts i).length) := by
  by_cases e : i = n
  · subst e
    left
    rw [List.drop_length]
  · right
    rw [line_drop ts n i (by omega), if_neg (by omega)]
    exact ⟨_, rfl⟩
/-- The line of right tokens is read as these tokens. -/
theorem lex_from (ts : List Tk) (hok : AllOk ts) (h8 : ts.length ≤ 800) : ∀ d i, i + d = ts.length → lexR (strOf (lineOf ts)) (lineT ts i).length (ts.take i) = (ts, true) := by
  intro d
  induction d with
  | zero =>
    intro i hi
    obtain rfl : i = ts.length := by omega
    rw [List.take_length, lexR_end (by rw [strOf_size]; unfold lineOf; omega)]
  | succ d ih =>
    intro i hi
    have hlt : i < ts.length := by omega
    have hd := line_drop ts ts.length i hlt
    have hg := gap_at ts ts.length (i + 1) (by omega) (by omega)
    have hst : (strOf (lineOf ts)).data.toList = lineT ts ts.length := strOf_list _
    have step : ∀ k, (strOf (lineOf ts)).data.toList.drop k = tokL (tAt ts i) ++ (lineT ts ts.length).drop (lineT ts (i + 1)).length → k + (tokL (tAt ts i)).length = (lineT ts (i + 1)).length → lexR (strOf (lineOf ts)) k (ts.take i) = (ts, true) := by
      intro k hk hlen
      obtain ⟨a1, a2, a3, a4, a5⟩ := again_any (hok.at hlt) hk hg
      have hlen2 : (ts.take i).length = i := by rw [List.length_take]; omega
      rw [lexR_next a1 a2 a3 (by rw [a5]; exact hok.at hlt) (by omega), a4, a5, hlen]
      have et : ts.take i ++ [tAt ts i] = ts.take (i + 1) := by
        rw [List.take_succ_eq_append_getElem hlt]
        unfold tAt
        rw [List.getD_eq_getElem?_getD, List.getElem?_eq_getElem hlt]
        rfl
      rw [et]
      exact ih (i + 1) (by omega)
    have hsz : (lineT ts (i + 1)).length = (lineT ts i).length + (if i = 0 then ([] : List UInt8) else [32]).length + (tokL (tAt ts i)).length := by
      show (lineT ts i ++ (if i = 0 then [] else [32]) ++ tokL (tAt ts i)).length = _
      rw [List.length_append, List.length_append]
    by_cases h0 : i = 0
    · rw [if_pos h0, List.nil_append] at hd
      rw [if_pos h0] at hsz
      exact step _ (by rw [hst]; exact hd) (by rw [hsz]; simp)
    · rw [if_neg h0] at hd hsz
      have hd' : (lineT ts ts.length).drop (lineT ts i).length = 32 :: (tokL (tAt ts i) ++ (lineT ts ts.length).drop (lineT ts (i + 1)).length) := hd
      obtain ⟨hk, hb, hd1⟩ := head_bAt hd'
      have hb32 : bAt (strOf (lineOf ts)).data.toList (lineT ts i).length = 32 := by rw [hst]; exact hb
      have hls : (lineT ts i).length < (strOf (lineOf ts)).size := by rw [← size_len, hst]; exact hk
      rw [lexR_blank hls (by rw [hb32]; decide) (by rw [hb32]; decide)]
      exact step _ (by rw [hst]; exact hd1) (by rw [hsz]; simp)
theorem lex_line (ts : List Tk) (hok : AllOk ts) (h8 : ts.length ≤ 800) : lexR (strOf (lineOf ts)) 0 [] = (ts, true) := lex_from ts hok h8 ts.length 0 (by omega)
theorem line_small {ts : List Tk} (hok : AllOk ts) (h8 : ts.length ≤ 800) : (strOf (lineOf ts)).size ≤ 1048576 ∧ ts.length + szL ts ≤ 1048576 := by
  have h1 := lineT_len ts ts.length (Nat.le_refl _)
  rw [List.take_length] at h1
  have h2 := ok_szL hok
  rw [strOf_size]
  unfold lineOf
  omega
end Go.Proofs.YthgbpofcfmnpdaaDoor

namespace Go.Proofs.YthgbpofcfmnpdaaDoor
open Go.ChangeShapes Go.WideShapes Go.ChangeAt Go.RowKit
set_option linter.unusedVariables false
set_option maxRecDepth 8000

/-- A term. -/
structure Ex where
  k : Int
  n : Int
  s : ByteArray
  l : List Ex
theorem Ex.ind {p : Ex → Prop} (h : ∀ k n s l, (∀ e ∈ l, p e) → p ⟨k, n, s, l⟩) (e : Ex) : p e := by
  obtain ⟨k, n, s, l⟩ := e
  exact h k n s l (fun e he => Ex.ind h e)
/-- How much a term holds. -/
def Ex.sz : Ex → Nat
  | ⟨_, _, s, l⟩ => s.size + l.length + (l.map Ex.sz).sum
theorem Ex.sz_eq (k n : Int) (s : ByteArray) (l : List Ex) : (Ex.mk k n s l).sz = s.size + l.length + (l.map Ex.sz).sum := by rw [Ex.sz]
/-- How deep a term is. -/
def Ex.dp : Ex → Nat
  | ⟨_, _, _, l⟩ => 1 + (l.map Ex.dp).foldr max 0
theorem Ex.dp_lt (k n : Int) (s : ByteArray) (l : List Ex) (e : Ex) (h : e ∈ l) : e.dp < (Ex.mk k n s l).dp := by
  rw [Ex.dp]
  have : ∀ l : List Ex, e ∈ l → e.dp ≤ (l.map Ex.dp).foldr max 0 := by
    intro l
    induction l with
    | nil => intro h; cases h
    | cons a l ih =>
      intro h
      rw [List.map_cons, List.foldr_cons]
      rcases List.mem_cons.1 h with rfl | h
      · exact Nat.le_max_left _ _
      · exact Nat.le_trans (ih h) (Nat.le_max_right _ _)
  have := this l h
  omega
def X0 : Ex := ⟨0, 0, ⟨#[]⟩, []⟩
def xAt (l : List Ex) (i : Nat) : Ex := l.getD i X0
/-- The parts of a term lie at a: every block of them from B on. -/
def RdX (w : World) (B : Nat) : Ex → Option Addr → Prop
  | ⟨_, _, _, l⟩, a => l = [] ∨ ∃ b off, a = some ⟨b, off, none⟩ ∧ B ≤ b ∧ b < w.heap.size ∧ ∀ x ∈ l, ∀ i, l[i]? = some x → w.cell? ⟨b, off + i * 4, none⟩ = some (.int .i64 x.k) ∧ w.cell? ⟨b, off + i * 4 + 1, none⟩ = some (.int .i64 x.n) ∧ w.cell? ⟨b, off + i * 4 + 2, none⟩ = some (.string x.s) ∧ ∃ c cap, w.cell? ⟨b, off + i * 4 + 3, none⟩ = some (.slice c x.l.length cap) ∧ RdX w B x c
/-- One part, as it lies. -/
def OneX (w : World) (B b at_ : Nat) (x : Ex) : Prop := w.cell? ⟨b, at_, none⟩ = some (.int .i64 x.k) ∧ w.cell? ⟨b, at_ + 1, none⟩ = some (.int .i64 x.n) ∧ w.cell? ⟨b, at_ + 2, none⟩ = some (.string x.s) ∧ ∃ c cap, w.cell? ⟨b, at_ + 3, none⟩ = some (.slice c x.l.length cap) ∧ RdX w B x c
theorem xAt_get {l : List Ex} {i : Nat} (h : i < l.length) : xAt l i = l[i] := by
  unfold xAt
  rw [List.getD_eq_getElem?_getD, List.getElem?_eq_getElem h]
  rfl
theorem xAt_mem {l : List Ex} {i : Nat} (h : i < l.length) : xAt l i ∈ l := by rw [xAt_get h]; exact List.getElem_mem _
theorem RdX_eq (w : World) (B : Nat) (e : Ex) (a : Option Addr) : RdX w B e a ↔ (e.l = [] ∨ ∃ b off, a = some ⟨b, off, none⟩ ∧ B ≤ b ∧ b < w.heap.size ∧ ∀ i, i < e.l.length → OneX w B b (off + i * 4) (xAt e.l i)) := by
  obtain ⟨k, n, s, l⟩ := e
  rw [RdX]
  refine or_congr Iff.rfl (exists_congr fun b => exists_congr fun off => and_congr Iff.rfl (and_congr Iff.rfl (and_congr Iff.rfl ⟨fun h i hi => ?_, fun h x hx i hi => ?_⟩)))
  · exact h _ (xAt_mem hi) i (by rw [xAt_get hi]; exact List.getElem?_eq_getElem hi)
  · obtain ⟨hl, e⟩ := List.getElem?_eq_some_iff.1 hi
    have := h i hl
    rw [xAt_get hl, e] at this
    exact this
/-- What is kept of the blocks from B on keeps what is read there. -/
theorem RdX.keep {w w' : World} {B : Nat} (hs : w.heap.size ≤ w'.heap.size) (hc : ∀ b o v, B ≤ b → b < w.heap.size → w.cell? ⟨b, o, none⟩ = some v → w'.cell? ⟨b, o, none⟩ = some v) (e : Ex) : ∀ a, RdX w B e a → RdX w' B e a := by
  induction e using Ex.ind with
  | h k n s l ih =>
    intro a h
    rw [RdX_eq] at h ⊢
    rcases h with h | ⟨b, off, ha, h1, h2, h3⟩
    · exact .inl h
    · refine .inr ⟨b, off, ha, h1, Nat.lt_of_lt_of_le h2 hs, fun i hi => ?_⟩
      obtain ⟨c1, c2, c3, c, cap, c4, c5⟩ := h3 i hi
      exact ⟨hc _ _ _ h1 h2 c1, hc _ _ _ h1 h2 c2, hc _ _ _ h1 h2 c3, c, cap, hc _ _ _ h1 h2 c4, ih _ (xAt_mem hi) _ c5⟩
theorem RdX.later {w w' : World} {B : Nat} {e : Ex} {a : Option Addr} (h : RdX w B e a) (hb : Below w.heap.size w w') : RdX w' B e a :=
  RdX.keep hb.size (fun b o v _ hlt hc => (hb.cell (p := ⟨b, o, none⟩) hlt).trans hc) e a h
theorem RdX.lower {w : World} {B C : Nat} (hC : C ≤ B) (e : Ex) : ∀ a, RdX w B e a → RdX w C e a := by
  induction e using Ex.ind with
  | h k n s l ih =>
    intro a h
    rw [RdX_eq] at h ⊢
    rcases h with h | ⟨b, off, ha, h1, h2, h3⟩
    · exact .inl h
    · refine .inr ⟨b, off, ha, Nat.le_trans hC h1, h2, fun i hi => ?_⟩
      obtain ⟨c1, c2, c3, c, cap, c4, c5⟩ := h3 i hi
      exact ⟨c1, c2, c3, c, cap, c4, ih _ (xAt_mem hi) _ c5⟩
/-- What all parts hold. -/
def szX (l : List Ex) : Nat := (l.map Ex.sz).sum
theorem szX_take (l : List Ex) (k : Nat) (h : k < l.length) : szX (l.take (k + 1)) = szX (l.take k) + (xAt l k).sz := by
  unfold szX
  rw [List.take_succ_eq_append_getElem h, List.map_append, List.sum_append, xAt_get h]
  simp
theorem szX_le (l : List Ex) (k : Nat) : szX (l.take k) ≤ szX l := by
  induction l generalizing k with
  | nil => simp [szX]
  | cons a r ih =>
    cases k with
    | zero => simp [szX]
    | succ k =>
      have := ih k
      unfold szX at this ⊢
      simp only [List.take_succ_cons, List.map_cons, List.sum_cons]
      omega
theorem sz_is (e : Ex) : e.sz = e.s.size + e.l.length + szX e.l := by obtain ⟨k, n, s, l⟩ := e; exact Ex.sz_eq k n s l
/-- Every text and list within can be counted. -/
def Fit : Ex → Prop
  | ⟨_, _, s, l⟩ => s.size ≤ 9223372036854775807 ∧ l.length ≤ 9223372036854775807 ∧ ∀ x ∈ l, Fit x
theorem Fit_eq (e : Ex) : Fit e ↔ (e.s.size ≤ 9223372036854775807 ∧ e.l.length ≤ 9223372036854775807 ∧ ∀ i, i < e.l.length → Fit (xAt e.l i)) := by
  obtain ⟨k, n, s, l⟩ := e
  rw [Fit]
  refine and_congr Iff.rfl (and_congr Iff.rfl ⟨fun h i hi => h _ (xAt_mem hi), fun h x hx => ?_⟩)
  obtain ⟨i, hi, rfl⟩ := List.getElem_of_mem hx
  have := h i hi
  rw [xAt_get hi] at this
  exact this
end Go.Proofs.YthgbpofcfmnpdaaDoor

namespace Go.Proofs.YthgbpofcfmnpdaaDoor
open Go.ChangeShapes Go.WideShapes Go.ChangeAt Go.RowKit
set_option linter.unusedVariables false
set_option maxRecDepth 8000

/-- Is a term right, but for its parts? -/
def Ex.here (e : Ex) : Bool :=
  if ((e.k != 1 && (e.k != 11 && e.n != 0)) || (e.k != 2 && (e.k != 12 && !eqS e.s E0))) = true then false
  else if e.k = 1 then inB e.n 0 65535 && e.l.length == 0
  else if e.k = 2 ∨ e.k = 12 then nameB e.s && e.l.length == 0
  else if e.k = 3 then e.l.length == 0
  else if e.k = 4 then e.l.length == 1
  else if 5 ≤ e.k ∧ e.k ≤ 10 then e.l.length == 2
  else if e.k = 11 then inB e.n 0 9 && e.l.length == 0
  else false
/-- Is a term right, so deep at most? -/
def okF : Nat → Bool → Ex → Bool
  | 0, _, _ => false
  | d + 1, p, e => e.here && (!(p && (e.k == 11 || e.k == 12)) && e.l.all (okF d p))
def mkS (c : UInt8) : ByteArray := ⟨#[c]⟩
def mkT (c : UInt8) : Tk := ⟨4, 0, mkS c⟩
def sgnC (k : Int) : UInt8 := if k = 5 then 43 else if k = 6 then 45 else if k = 7 then 42 else if k = 8 then 47 else if k = 9 then 38 else 124
def sgnK (s : ByteArray) : Option Int :=
  if eqS (mkS 43) s = true then some 5 else if eqS (mkS 45) s = true then some 6 else if eqS (mkS 42) s = true then some 7
  else if eqS (mkS 47) s = true then some 8 else if eqS (mkS 38) s = true then some 9 else if eqS (mkS 124) s = true then some 10 else none
/-- The tokens of a plain term. -/
def toksF : Nat → Ex → List Tk
  | 0, _ => []
  | d + 1, e => if e.k = 1 then [⟨2, e.n, E0⟩] else if e.k = 2 then [⟨1, 0, e.s⟩] else if e.k = 3 then [mkT 46]
    else if e.k = 4 then mkT 45 :: toksF d (xAt e.l 0)
    else mkT 60 :: (toksF d (xAt e.l 0) ++ (mkT (sgnC e.k) :: (toksF d (xAt e.l 1) ++ [mkT 62])))
/-- Tokens read: a term and what is left. -/
def readF : Nat → List Tk → Option (Ex × List Tk)
  | 0, _ => none
  | _ + 1, [] => none
  | d + 1, t :: r =>
    if t.k = 2 then some (⟨1, t.n, E0, []⟩, r) else if t.k = 1 then some (⟨2, 0, t.s, []⟩, r)
    else if eqS t.s (mkS 46) = true then some (⟨3, 0, E0, []⟩, r)
    else if eqS t.s (mkS 45) = true then
      match readF d r with
      | none => none
      | some (a, q) => some (⟨4, 0, E0, [a]⟩, q)
    else if eqS t.s (mkS 60) = true then
      match readF d r with
      | none => none
      | some (a, []) => none
      | some (a, t1 :: q1) =>
        match readF d q1 with
        | none => none
        | some (b, []) => none
        | some (b, t2 :: q2) => if eqS t2.s (mkS 62) = true then (match sgnK t1.s with | none => none | some k => some (⟨k, 0, E0, [a, b]⟩, q2)) else none
    else none
theorem sgn_back {k : Int} (h : 5 ≤ k ∧ k ≤ 10) : sgnK (mkS (sgnC k)) = some k := by
  have : k = 5 ∨ k = 6 ∨ k = 7 ∨ k = 8 ∨ k = 9 ∨ k = 10 := by omega
  rcases this with rfl | rfl | rfl | rfl | rfl | rfl <;> decide +kernel
theorem sgnK_some {s : ByteArray} {k : Int} (h : sgnK s = some k) : (5 ≤ k ∧ k ≤ 10) ∧ s = mkS (sgnC k) := by
  unfold sgnK at h
  repeat' (split at h)
  all_goals first
    | (cases h; done)
    | (rename_i he; rw [eqS_iff] at he; cases h; exact ⟨by omega, he.symm⟩)
/-- The forms of a plain term. -/
theorem plain_cases {d : Nat} {e : Ex} (h : okF (d + 1) true e = true) : (∃ n : Int, (0 ≤ n ∧ n ≤ 65535) ∧ e = ⟨1, n, E0, []⟩) ∨ (∃ s, nameB s = true ∧ e = ⟨2, 0, s, []⟩) ∨ e = ⟨3, 0, E0, []⟩ ∨ (∃ a, okF d true a = true ∧ e = ⟨4, 0, E0, [a]⟩) ∨ (∃ k a b, (5 ≤ k ∧ k ≤ 10) ∧ okF d true a = true ∧ okF d true b = true ∧ e = ⟨k, 0, E0, [a, b]⟩) := by
  obtain ⟨k, n, s, l⟩ := e
  simp only [okF, Bool.and_eq_true, Bool.true_and, Bool.not_eq_true', Bool.or_eq_false_iff, beq_eq_false_iff_ne] at h
  obtain ⟨h1, ⟨h11, h12⟩, hall⟩ := h
  unfold Ex.here at h1
  simp only at h1
  split at h1
  · cases h1
  · rename_i hg
    have hg : ((k != 1 && (k != 11 && n != 0)) || (k != 2 && (k != 12 && !eqS s E0))) = false := by simpa using hg
    rw [Bool.or_eq_false_iff] at hg
    have hn : k ≠ 1 → n = 0 := fun hk => by have := hg.1; simpa [hk, h11] using this
    have hs : k ≠ 2 → s = E0 := fun hk => by
      have := hg.2
      have h3 : eqS s E0 = true := by simpa [hk, h12] using this
      exact (eqS_iff _ _).1 h3
    split at h1
    · rename_i e; subst e
      rw [Bool.and_eq_true, beq_iff_eq, List.length_eq_zero_iff] at h1
      obtain ⟨hi, rfl⟩ := h1
      exact .inl ⟨n, (inB_iff _ _ _).1 hi, by rw [hs (by decide)]⟩
    · rename_i k1
      split at h1
      · rename_i e
        obtain rfl : k = 2 := by rcases e with e | e; exact e; exact absurd e h12
        rw [Bool.and_eq_true, beq_iff_eq, List.length_eq_zero_iff] at h1
        obtain ⟨hi, rfl⟩ := h1
        exact .inr (.inl ⟨s, hi, by rw [hn (by decide)]⟩)
      · rename_i k2
        have k2 : k ≠ 2 := fun e => k2 (.inl e)
        obtain rfl := hn k1
        obtain rfl := hs k2
        split at h1
        · rename_i e; subst e
          rw [beq_iff_eq, List.length_eq_zero_iff] at h1
          subst h1
          exact .inr (.inr (.inl rfl))
        · split at h1
          · rename_i e; subst e
            rw [beq_iff_eq] at h1
            match l, h1 with
            | [a], _ => exact .inr (.inr (.inr (.inl ⟨a, by simpa using hall, rfl⟩)))
          · split at h1
            · rename_i e
              rw [beq_iff_eq] at h1
              match l, h1 with
              | [a, b], _ =>
                have : okF d true a = true ∧ okF d true b = true := by simpa using hall
                exact .inr (.inr (.inr (.inr ⟨k, a, b, e, this.1, this.2, rfl⟩)))
            · cases h1
theorem plain_num {d : Nat} {n : Int} (h : 0 ≤ n ∧ n ≤ 65535) : okF (d + 1) true ⟨1, n, E0, []⟩ = true := by
  have : inB n 0 65535 = true := (inB_iff _ _ _).2 h
  simp [okF, Ex.here, this, show eqS E0 E0 = true from (eqS_iff _ _).2 rfl]
theorem plain_sym {d : Nat} {s : ByteArray} (h : nameB s = true) : okF (d + 1) true ⟨2, 0, s, []⟩ = true := by
  simp [okF, Ex.here, h]
theorem plain_here (d : Nat) : okF (d + 1) true ⟨3, 0, E0, []⟩ = true := by
  simp [okF, Ex.here, show eqS E0 E0 = true from (eqS_iff _ _).2 rfl]
theorem plain_neg {d : Nat} {a : Ex} (h : okF d true a = true) : okF (d + 1) true ⟨4, 0, E0, [a]⟩ = true := by
  simp [okF, Ex.here, h, show eqS E0 E0 = true from (eqS_iff _ _).2 rfl]
theorem plain_two {d : Nat} {k : Int} {a b : Ex} (hk : 5 ≤ k ∧ k ≤ 10) (ha : okF d true a = true) (hb : okF d true b = true) : okF (d + 1) true ⟨k, 0, E0, [a, b]⟩ = true := by
  have : k = 5 ∨ k = 6 ∨ k = 7 ∨ k = 8 ∨ k = 9 ∨ k = 10 := by omega
  rcases this with rfl | rfl | rfl | rfl | rfl | rfl <;> simp [okF, Ex.here, ha, hb, show eqS E0 E0 = true from (eqS_iff _ _).2 rfl]
theorem toks_num (d : Nat) (n : Int) : toksF (d + 1) ⟨1, n, E0, []⟩ = [⟨2, n, E0⟩] := rfl
theorem toks_sym (d : Nat) (s : ByteArray) : toksF (d + 1) ⟨2, 0, s, []⟩ = [⟨1, 0, s⟩] := rfl
theorem toks_here (d : Nat) : toksF (d + 1) ⟨3, 0, E0, []⟩ = [mkT 46] := rfl
theorem toks_neg (d : Nat) (a : Ex) : toksF (d + 1) ⟨4, 0, E0, [a]⟩ = mkT 45 :: toksF d a := rfl
theorem toks_two (d : Nat) {k : Int} (hk : 5 ≤ k ∧ k ≤ 10) (a b : Ex) : toksF (d + 1) ⟨k, 0, E0, [a, b]⟩ = mkT 60 :: (toksF d a ++ (mkT (sgnC k) :: (toksF d b ++ [mkT 62]))) := by
  have : k = 5 ∨ k = 6 ∨ k = 7 ∨ k = 8 ∨ k = 9 ∨ k = 10 := by omega
  rcases this with rfl | rfl | rfl | rfl | rfl | rfl <;> rfl
/-- A plain term comes back of its tokens. -/
theorem read_toks : ∀ (d : Nat) (e : Ex) (r : List Tk), okF d true e = true → readF d (toksF d e ++ r) = some (e, r) := by
  intro d
  induction d with
  | zero => intro e r h; cases h
  | succ d ih =>
    intro e r h
    rcases plain_cases h with ⟨n, hn, rfl⟩ | ⟨s, hs, rfl⟩ | rfl | ⟨a, ha, rfl⟩ | ⟨k, a, b, hk, ha, hb, rfl⟩
    · rw [toks_num]; rfl
    · rw [toks_sym]; rfl
    · rw [toks_here, List.cons_append]
      simp only [readF]
      rw [if_neg (by decide +kernel), if_neg (by decide +kernel), if_pos (by decide +kernel)]
      rfl
    · rw [toks_neg, List.cons_append]
      simp only [readF]
      rw [if_neg (by decide +kernel), if_neg (by decide +kernel), if_neg (by decide +kernel), if_pos (by decide +kernel), ih a r ha]
    · rw [toks_two d hk, List.cons_append, List.append_assoc, List.cons_append, List.append_assoc]
      simp only [readF]
      rw [if_neg (by decide +kernel), if_neg (by decide +kernel), if_neg (by decide +kernel), if_neg (by decide +kernel), if_pos (by decide +kernel), ih a _ ha]
      simp only
      rw [ih b _ hb]
      simp only [List.cons_append, List.nil_append]
      rw [if_pos (by decide +kernel), show (mkT (sgnC k)).s = mkS (sgnC k) from rfl, sgn_back hk]
theorem mark_of {t : Tk} (h : t.ok = true) (h2 : t.k ≠ 2) (h1 : t.k ≠ 1) {c : UInt8} (hs : t.s = mkS c) (hc : smB (c.toNat : Int) = false) (hm : formB [] = false) : t = mkT c := by
  obtain ⟨k, n, s⟩ := t
  simp only at h2 h1 hs
  subst hs
  unfold Tk.ok at h
  simp only at h
  rw [if_neg (by simpa using h2)] at h
  split at h
  · cases h
  · rename_i hn
    have hn : n = 0 := by simpa using hn
    subst hn
    rw [if_neg (by simpa using h1)] at h
    split at h
    · have e : dotB [c] = true := h
      rw [dotB_cons, hm, Bool.and_false] at e
      cases e
    · split at h
      · rename_i e
        have e : k = 4 := by simpa using e
        rw [e]; rfl
      · split at h
        · have hk := kept_form _ (hasS_iff.1 h)
          obtain ⟨c0, r, e, h3, _⟩ := form_open hk
          have e2 : [c] = c0 :: r := e
          cases e2
          rw [hc] at h3; cases h3
        · cases h
theorem num_of {t : Tk} (h : t.ok = true) (h2 : t.k = 2) : (0 ≤ t.n ∧ t.n ≤ 65535) ∧ t = ⟨2, t.n, E0⟩ := by
  obtain ⟨k, n, s⟩ := t
  simp only at h2
  subst h2
  unfold Tk.ok at h
  simp only [beq_self_eq_true, if_true, Bool.and_eq_true, decide_eq_true_eq] at h
  refine ⟨(inB_iff _ _ _).1 h.1, ?_⟩
  have e : s = E0 := by
    have hl := size_len s
    rw [h.2, List.length_eq_zero_iff] at hl
    exact bytes_inj (by rw [hl]; rfl)
  rw [e]
theorem sym_of {t : Tk} (h : t.ok = true) (h1 : t.k = 1) : nameB t.s = true ∧ t = ⟨1, 0, t.s⟩ := by
  obtain ⟨k, n, s⟩ := t
  simp only at h1
  subst h1
  unfold Tk.ok at h
  simp only at h
  rw [if_neg (by decide)] at h
  split at h
  · cases h
  · rename_i hn
    have hn : n = 0 := by simpa using hn
    rw [if_pos (by decide)] at h
    exact ⟨h, by rw [hn]⟩
theorem name_one {c : UInt8} (hc : smB (c.toNat : Int) = false) : formB [c] = false := by
  cases h : formB [c] with
  | false => rfl
  | true =>
    obtain ⟨c0, r, e, h3, _⟩ := form_open h
    cases e
    rw [hc] at h3; cases h3
/-- A right token whose text is one sign that is no letter is that mark. -/
theorem one_mark {t : Tk} (h : t.ok = true) {c : UInt8} (hs : t.s = mkS c) (hc : smB (c.toNat : Int) = false) : t = mkT c := by
  by_cases h2 : t.k = 2
  · obtain ⟨_, e⟩ := num_of h h2
    rw [e] at hs
    have : (0 : Nat) = 1 := congrArg ByteArray.size hs
    cases this
  · by_cases h1 : t.k = 1
    · obtain ⟨hn, _⟩ := sym_of h h1
      rw [hs] at hn
      have e : nameB (mkS c) = (formB [c] && !keptB (mkS c)) := rfl
      rw [e, name_one hc] at hn
      cases hn
    · exact mark_of h h2 h1 hs hc (by decide)
theorem sgn_small {k : Int} (h : 5 ≤ k ∧ k ≤ 10) : smB ((sgnC k).toNat : Int) = false := by
  have : k = 5 ∨ k = 6 ∨ k = 7 ∨ k = 8 ∨ k = 9 ∨ k = 10 := by omega
  rcases this with rfl | rfl | rfl | rfl | rfl | rfl <;> decide
end Go.Proofs.YthgbpofcfmnpdaaDoor

namespace Go.Proofs.YthgbpofcfmnpdaaDoor
open Go.ChangeShapes Go.WideShapes Go.ChangeAt Go.RowKit
set_option linter.unusedVariables false
set_option maxRecDepth 8000

/-- A term's value, its parts lying at b. -/
def Ex.cs (e : Ex) (b : Option Addr) (cap : Nat) : Array Value := #[.int .i64 e.k, .int .i64 e.n, .string e.s, .slice b e.l.length cap]
section
variable {H : Type} {enc : TypeId × Value → H} {W : World} {b0 base : Nat} {spare : TypeId → Bool} {held : Bool}
theorem trod_four {P : Program} {t : TypeId} {f0 f1 f2 f3 : Field} {fuel : Nat} {cs : List Value} {x : DataW H × List MemPlace} (ht : P.underlying t = some (.struct #[f0, f1, f2, f3])) (h : DataW.trod enc P W base spare held fuel t cs = some x) :
    ∃ y0 y1 y2 y3 n, fuel = n + 1 ∧ cs.length = P.cellsOf t ∧ DataW.trod enc P W base spare held n f0.type ((cs.drop f0.offset).take (P.cellsOf f0.type)) = some y0 ∧ DataW.trod enc P W base spare held n f1.type ((cs.drop f1.offset).take (P.cellsOf f1.type)) = some y1 ∧ DataW.trod enc P W base spare held n f2.type ((cs.drop f2.offset).take (P.cellsOf f2.type)) = some y2 ∧ DataW.trod enc P W base spare held n f3.type ((cs.drop f3.offset).take (P.cellsOf f3.type)) = some y3 := by
  obtain ⟨xs, n, hf, rfl, hl, hlen, hfs⟩ := DataW.trod_struct ht h
  match xs, hlen with
  | [y0, y1, y2, y3], _ => exact ⟨y0, y1, y2, y3, n, hf, hl, by simpa using hfs 0 f0 rfl, by simpa using hfs 1 f1 rfl, by simpa using hfs 2 f2 rfl, by simpa using hfs 3 f3 rfl⟩
theorem trod_ex : ∀ (fuel : Nat) (cs : List Value) (x : DataW H × List MemPlace), DataW.trod enc Tryd.prog W base spare held fuel 47 cs = some x → ∃ (e : Ex) (b : Option Addr) (cap : Nat), cs = [.int .i64 e.k, .int .i64 e.n, .string e.s, .slice b e.l.length cap] ∧ RdX W 0 e b ∧ Fit e := by
  intro fuel
  induction fuel using Nat.strongRecOn with
  | ind fuel ih =>
    intro cs x h
    obtain ⟨y0, y1, y2, y3, n, hf, hl, h0, h1, h2, h3⟩ := trod_four Tryd.underlying47 h
    have hc : Tryd.prog.cellsOf 47 = 4 := by kernel_rfl
    have hc3 : Tryd.prog.cellsOf 3 = 1 := by kernel_rfl
    have hc9 : Tryd.prog.cellsOf 9 = 1 := by kernel_rfl
    have hcl : Tryd.prog.cellsOf 45 = 1 := by kernel_rfl
    rw [hc] at hl
    match cs, hl with
    | [c0, c1, c2, c3], _ =>
      obtain ⟨m, e0, _, w0⟩ := DataW.trod_int Tryd.underlying3 h0
      obtain ⟨r, e1, _, w1⟩ := DataW.trod_int Tryd.underlying3 h1
      obtain ⟨s, e2, _, w2⟩ := DataW.trod_string Tryd.underlying9 h2
      simp only [hc3, hc9] at e0 e1 e2
      simp at e0 e1 e2
      subst e0 e1 e2
      have hs9 : s.size ≤ 9223372036854775807 := by have := w2; unfold maxLen at this; omega
      rcases DataW.trod_slice Tryd.underlying45 h3 with ⟨hcs, _⟩ | ⟨a, len, cap, elems, rest, q, hq, hcs, _, hb, hl, hm, hel, hx, _, _⟩
      · simp only [hcl] at hcs
        simp at hcs
        subst hcs
        exact ⟨⟨m, r, s, []⟩, none, 0, rfl, (RdX_eq _ _ _ _).2 (.inl rfl), (Fit_eq _).2 ⟨hs9, by simp, fun i hi => by simp at hi⟩⟩
      · simp only [hcl] at hcs
        simp at hcs
        subst hcs
        have each : ∀ i, i < len → ∃ t : Ex, (W.cell? (a.add (i * 4)) = some (.int .i64 t.k) ∧ W.cell? (a.add (i * 4 + 1)) = some (.int .i64 t.n) ∧ W.cell? (a.add (i * 4 + 2)) = some (.string t.s) ∧ ∃ c cap, W.cell? (a.add (i * 4 + 3)) = some (.slice c t.l.length cap) ∧ RdX W 0 t c) ∧ Fit t := fun i hi => by
          have h4 := hx i hi
          rw [List.getElem?_eq_getElem (by omega), Option.bind_eq_some_iff] at h4
          obtain ⟨cs', p1, p2⟩ := h4
          rw [hc] at p1
          obtain ⟨_, hlen', hcell⟩ := World.cells?_some p1
          obtain ⟨t, c, cap', hcs', hrd, hft⟩ := ih q (by omega) cs' _ p2
          refine ⟨t, ⟨?_, ?_, ?_, c, cap', ?_, hrd⟩, hft⟩
          · have e := hcell 0 (by omega); rw [_root_.Go.Deep.add_add, hcs'] at e; simpa using e
          · have e := hcell 1 (by omega); rw [_root_.Go.Deep.add_add, hcs'] at e; simpa using e
          · have e := hcell 2 (by omega); rw [_root_.Go.Deep.add_add, hcs'] at e; simpa using e
          · have e := hcell 3 (by omega); rw [_root_.Go.Deep.add_add, hcs'] at e; simpa using e
        obtain ⟨T, hT⟩ := @_root_.Go.Deep.choose_lt Ex ⟨X0⟩ _ _ each
        have hL : ((List.range len).map T).length = len := by simp
        have hat : ∀ i, i < len → xAt ((List.range len).map T) i = T i := fun i hi => by
          unfold xAt
          rw [List.getD_eq_getElem?_getD, List.getElem?_map, List.getElem?_range hi]
          rfl
        refine ⟨⟨m, r, s, (List.range len).map T⟩, some a, cap, by simp [hL], (RdX_eq _ _ _ _).2 ?_, (Fit_eq _).2 ⟨hs9, ?_, fun i hi => ?_⟩⟩
        · by_cases h0 : len = 0
          · subst h0; exact .inl rfl
          · right
            obtain ⟨b, off, spot⟩ := a
            have h00 := (hT 0 (by omega)).1.1
            have hspot : spot = none := by simpa [Addr.add] using World.cell?_spot h00
            subst hspot
            have hadd : ∀ j, (⟨b, off, none⟩ : Addr).add j = ⟨b, off + j, none⟩ := fun j => by
              unfold Addr.add
              by_cases hj : j = 0
              · subst hj; simp
              · simp [hj]
            refine ⟨b, off, rfl, Nat.zero_le _, World.block_lt_of_cell? W _ h00, fun i hi => ?_⟩
            have hi : i < len := by simpa using hi
            show OneX W 0 b (off + i * 4) (xAt ((List.range len).map T) i)
            rw [hat i hi]
            have h3 := (hT i hi).1
            rw [hadd, hadd, hadd, hadd] at h3
            exact h3
        · show ((List.range len).map T).length ≤ _
          rw [hL]; unfold maxLen at hm; omega
        · have hi : i < len := by simpa using hi
          show Fit (xAt ((List.range len).map T) i)
          rw [hat i hi]
          exact (hT i hi).2
theorem open_ex {r : Reach} {v : Value} {d : DataW H} {p : List MemPlace} (hv : Value.okWide Tryd.prog W r b0 47 v) (h : DataW.Trod enc Tryd.prog W base spare held 47 v d p) : ∃ (e : Ex) (b : Option Addr) (cap : Nat), v = .agg (e.cs b cap) ∧ RdX W 0 e b ∧ Fit e := by
  obtain ⟨cs, rfl, hsz⟩ := okWide_struct Tryd.underlying47 hv
  obtain ⟨fuel, hf⟩ := h
  obtain ⟨e, b, cap, hcs, h1, h2⟩ := trod_ex _ _ _ hf
  refine ⟨e, b, cap, ?_, h1, h2⟩
  have : cs.toList = [.int .i64 e.k, .int .i64 e.n, .string e.s, .slice b e.l.length cap] := by simpa [Value.cells] using hcs
  unfold Ex.cs
  rw [← Array.toArray_toList (xs := cs), this]
end
end Go.Proofs.YthgbpofcfmnpdaaDoor
