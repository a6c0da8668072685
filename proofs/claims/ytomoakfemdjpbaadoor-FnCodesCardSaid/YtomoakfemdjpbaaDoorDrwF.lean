/- What is drawn of bytes: instructions, words and places, over this seat's translation; conditions stand as hypotheses of each. -/
import Derived.Test.YtomoakfemdjpbaaDoorDrwE
namespace Go.Proofs.YtomoakfemdjpbaaDoor
open Go.ChangeShapes Go.WideShapes Go.ChangeAt Go.RowKit
set_option linter.unusedVariables false
set_option linter.unusedSimpArgs false

theorem Rz.draw {w wr w' : World} {l : List Int} {cb : Nat} (h : Rz w wr l) (hg : wr.grownBy w' (some cb)) (hne : w.heap.size < cb) : Rz w w' l :=
  ⟨h.bel.grown hg h.bel.size (fun k e => by cases e; omega), h.row.of_block (hg.block _ h.row.lt (fun e => by simp at e; omega))⟩
theorem results_row2r {P : Program} {fn : Func} {p u : Tmp} {ty : TypeId} (h : fn.results = #[.tmp u, .cell p ty]) (tmps : Array Value) (w : World) (g : Nat) (t : TypeId) (cs : Array Value) (fr : Nat × Nat) (d : TypeDesc)
    (hp : tmps.getD p undef = .pointer (some ⟨g, 0, none⟩)) (hg : w.heap[g]? = some (.cells cs t fr))
    (hu : P.underlying ty = some d) (hd : (match d with | .struct _ | .array _ _ => true | _ => false) = true) (hi : (P.info? ty).map (·.size) = some cs.size) :
    (results fn tmps).run P w = .ok (.tuple #[tmps.getD u undef, .agg cs]) w := by
  have hp' : tmps[p]?.getD undef = .pointer (some ⟨g, 0, none⟩) := by simpa using hp
  simp [results, h, hp', asAddr, run_loadVar_row w g t ty cs fr d hg hu hd hi]

set_option maxHeartbeats 2000000 in
set_option maxRecDepth 100000 in
theorem drawEnc_any (a : Option Addr) (len cap : Nat) (xs : List UInt8) (w : World) (hl : xs.length = len) (hm : len ≤ 1048576) (hr : Rd w a xs) :
    Calls Tryd.prog 8 #[.slice a len cap] w fun e w' => ∃ i : Is, e = .returned i.v ∧ Below w.heap.size w w' := by
  have Z0 := hide (rz_new w)
  have hz : (w.alloc (Obj.cells (cs8 [0, 0, 0, 0, 0, 0, 0, 0]) 27)).heap.size = w.heap.size + 1 := by simp
  have P0 := hide (new_any a len cap xs (w.alloc (Obj.cells (cs8 [0, 0, 0, 0, 0, 0, 0, 0]) 27)) hl hm (hr.alloc _))
  rw [hz] at P0
  clear hz hr
  go_enter Tryd.func8, Tryd.ntmps8
  go_wp2_with fail
  refine (unhide P0).mono ?_
  rintro e w1 ⟨rfl, hc1, hb1⟩
  have Z1 := hide ((unhide Z0).later (hb1.mono (by simp)))
  have P1 := hide (anyD_any _ a len cap xs w1 hc1)
  clear hc1 hb1 Z0 P0
  go_wp2_with fail
  refine (unhide P1).mono ?_
  rintro e w2 ⟨⟨op, ⟨sm, sr, sx⟩, ⟨dm, dr, dx⟩, n⟩, rfl, hc2, hg2⟩
  have Z2 := hide ((unhide Z1).draw hg2 (by omega))
  clear hc2 hg2 P1 Z1
  unfold Is.v
  simp only
  have zz := unhide Z2
  have c0 : w2.cell? ⟨w.heap.size, 0, none⟩ = some (.int .i64 0) := zz.row.cell (i := 0) (by omega)
  have f0 := zz.row.frozen 0
  have c1 : w2.cell? ⟨w.heap.size, 1, none⟩ = some (.int .i64 0) := zz.row.cell (i := 1) (by omega)
  have f1 := zz.row.frozen 1
  have c2 : w2.cell? ⟨w.heap.size, 2, none⟩ = some (.int .i64 0) := zz.row.cell (i := 2) (by omega)
  have f2 := zz.row.frozen 2
  have c3 : w2.cell? ⟨w.heap.size, 3, none⟩ = some (.int .i64 0) := zz.row.cell (i := 3) (by omega)
  have f3 := zz.row.frozen 3
  have c4 : w2.cell? ⟨w.heap.size, 4, none⟩ = some (.int .i64 0) := zz.row.cell (i := 4) (by omega)
  have f4 := zz.row.frozen 4
  have c5 : w2.cell? ⟨w.heap.size, 5, none⟩ = some (.int .i64 0) := zz.row.cell (i := 5) (by omega)
  have f5 := zz.row.frozen 5
  have c6 : w2.cell? ⟨w.heap.size, 6, none⟩ = some (.int .i64 0) := zz.row.cell (i := 6) (by omega)
  have f6 := zz.row.frozen 6
  have c7 : w2.cell? ⟨w.heap.size, 7, none⟩ = some (.int .i64 0) := zz.row.cell (i := 7) (by omega)
  have f7 := zz.row.frozen 7
  clear zz
  go_wp2
  refine bodyPost_ret (results_cell_row (P := Tryd.prog) rfl _ _ w.heap.size 27 (cs8 [op, sm, sr, sx, dm, dr, dx, n]) (0, 0) _ rfl (row8_heap ((unhide Z2).put (op) (sm) (sr) (sx) (dm) (dr) (dx) (n)).row) Tryd.underlying27 rfl (by kernel_rfl)) rfl ?_
  exact ⟨⟨op, ⟨sm, sr, sx⟩, ⟨dm, dr, dx⟩, n⟩, rfl, ((unhide Z2).put (op) (sm) (sr) (sx) (dm) (dr) (dx) (n)).bel⟩

set_option maxHeartbeats 2000000 in
set_option maxRecDepth 100000 in
theorem drawCode_any (a : Option Addr) (len cap : Nat) (xs : List UInt8) (w : World) (hl : xs.length = len) (hm : len ≤ 1048576) (hr : Rd w a xs) :
    Calls Tryd.prog 17 #[.slice a len cap] w fun e w' => ∃ (v : Value) (i : Is), i.ok = true ∧ e = .returned (.tuple #[v, i.v]) ∧ Below w.heap.size w w' := by
  have Z0 := hide (rz_new w)
  have hz : (w.alloc (Obj.cells (cs8 [0, 0, 0, 0, 0, 0, 0, 0]) 27)).heap.size = w.heap.size + 1 := by simp
  have P0 := hide (new_any a len cap xs (w.alloc (Obj.cells (cs8 [0, 0, 0, 0, 0, 0, 0, 0]) 27)) hl hm (hr.alloc _))
  rw [hz] at P0
  clear hz hr
  go_enter Tryd.func17, Tryd.ntmps17
  go_wp2_with fail
  refine (unhide P0).mono ?_
  rintro e w1 ⟨rfl, hc1, hb1⟩
  have Z1 := hide ((unhide Z0).later (hb1.mono (by simp)))
  have P1 := hide (wordsD_any _ a len cap xs 10 (by omega) w1 hc1)
  clear hc1 hb1 Z0 P0
  go_wp2_with fail
  refine (unhide P1).mono ?_
  rintro e w2 ⟨v, ns, rfl, _, _, _, _, hc2, hg2⟩
  have Z2 := hide ((unhide Z1).draw hg2 (by omega))
  have P2 := hide (drawD_any _ a len cap xs w2 hc2)
  clear hc2 hg2 P1 Z1
  go_wp2_with fail
  refine (unhide P2).mono ?_
  rintro e w3 ⟨⟨op, ⟨sm, sr, sx⟩, ⟨dm, dr, dx⟩, n⟩, hok, rfl, hc3, hg3⟩
  have Z3 := hide ((unhide Z2).draw hg3 (by omega))
  clear hc3 hg3 P2 Z2
  unfold Is.v
  simp only
  have zz := unhide Z3
  have c0 : w3.cell? ⟨w.heap.size, 0, none⟩ = some (.int .i64 0) := zz.row.cell (i := 0) (by omega)
  have f0 := zz.row.frozen 0
  have c1 : w3.cell? ⟨w.heap.size, 1, none⟩ = some (.int .i64 0) := zz.row.cell (i := 1) (by omega)
  have f1 := zz.row.frozen 1
  have c2 : w3.cell? ⟨w.heap.size, 2, none⟩ = some (.int .i64 0) := zz.row.cell (i := 2) (by omega)
  have f2 := zz.row.frozen 2
  have c3 : w3.cell? ⟨w.heap.size, 3, none⟩ = some (.int .i64 0) := zz.row.cell (i := 3) (by omega)
  have f3 := zz.row.frozen 3
  have c4 : w3.cell? ⟨w.heap.size, 4, none⟩ = some (.int .i64 0) := zz.row.cell (i := 4) (by omega)
  have f4 := zz.row.frozen 4
  have c5 : w3.cell? ⟨w.heap.size, 5, none⟩ = some (.int .i64 0) := zz.row.cell (i := 5) (by omega)
  have f5 := zz.row.frozen 5
  have c6 : w3.cell? ⟨w.heap.size, 6, none⟩ = some (.int .i64 0) := zz.row.cell (i := 6) (by omega)
  have f6 := zz.row.frozen 6
  have c7 : w3.cell? ⟨w.heap.size, 7, none⟩ = some (.int .i64 0) := zz.row.cell (i := 7) (by omega)
  have f7 := zz.row.frozen 7
  clear zz
  have HOK := hide hok
  clear hok
  go_wp2
  refine bodyPost_ret (results_row2r (P := Tryd.prog) rfl _ _ w.heap.size 27 (cs8 [op, sm, sr, sx, dm, dr, dx, n]) (0, 0) _ rfl (row8_heap ((unhide Z3).put (op) (sm) (sr) (sx) (dm) (dr) (dx) (n)).row) Tryd.underlying27 rfl (by kernel_rfl)) rfl ?_
  exact ⟨v, ⟨op, ⟨sm, sr, sx⟩, ⟨dm, dr, dx⟩, n⟩, unhide HOK, rfl, ((unhide Z3).put (op) (sm) (sr) (sx) (dm) (dr) (dx) (n)).bel⟩

theorem OwnN.cut {w : World} {B g n cap : Nat} {ns : List Int} (h : OwnN w B (.slice (some ⟨g, 0, none⟩) (n + 1) cap) ns) : OwnN w B (.slice (some ⟨g, 0, none⟩) n cap) ns.dropLast := by
  obtain ⟨h1, ⟨h2, _⟩ | ⟨g', cap', cur, e, hg, hh, hn, hm, hs, ht⟩⟩ := id h
  · cases h2
  · simp at e
    obtain ⟨rfl, hl, rfl⟩ := e
    have hlen : ns.dropLast.length = n := by simp; omega
    unfold OwnN
    rw [hlen]
    refine ⟨by rw [cellsN_length, hlen]; omega, .inr ⟨g, cap, cur, rfl, hg, hh, by omega, hm, hs, ?_⟩⟩
    have e2 : cellsN ns.dropLast = (cellsN ns).dropLast := by unfold cellsN; rw [List.map_dropLast]
    rw [e2, ← ht, List.dropLast_eq_take, List.take_take]
    congr 1
    simp [hs]
    omega
theorem Bds.app {ns ms : List Int} (h : ∀ x ∈ ns, -9223372036854775808 ≤ x ∧ x ≤ 9223372036854775807) : Bds ns := fun i hi => h _ (nAt_mem hi)

theorem own_slice {w : World} {B n : Nat} {v : Value} {xs : List Value} (h : w.ownsRow B 3 1 v n xs) (hn : 0 < n) : ∃ g cap, v = .slice (some ⟨g, 0, none⟩) n cap ∧ B ≤ g ∧ n ≤ cap := by
  obtain ⟨_, ⟨_, h2⟩ | ⟨g, cap, cur, rfl, hg, _, hc, _⟩⟩ := h
  · omega
  · exact ⟨g, cap, rfl, hg, hc⟩
def Lg (ns : List Int) : Prop := ∀ x ∈ ns, -1 ≤ x ∧ x ≤ 65536
theorem Lg.bds {ns : List Int} (h : Lg ns) : Bds ns := fun i hi => by have := h _ (nAt_mem hi); omega
theorem Wd.lg {ns : List Int} (h : Wd ns) : Lg ns := fun x hx => by have := h x hx; omega

set_option maxHeartbeats 2000000 in
set_option maxRecDepth 100000 in
theorem drawDec_any (a : Option Addr) (len cap : Nat) (xs : List UInt8) (w : World) (hl : xs.length = len) (hm : len ≤ 1048576) (hr : Rd w a xs) :
    Calls Tryd.prog 10 #[.slice a len cap] w fun e w' => ∃ (v : Value) (ns : List Int) (i : Int), e = .returned (.tuple #[v, .int .i64 i]) ∧ OwnN w' w.heap.size v ns ∧ Lg ns ∧ ns.length ≤ 20 ∧ (-1 ≤ i ∧ i ≤ 20) ∧ Below w.heap.size w w' := by
  obtain ⟨i0, hi, hz0, hz1, hz2⟩ := info_parts info3
  have P0 := hide (new_any a len cap xs w hl hm hr)
  clear hr
  go_enter Tryd.func10, Tryd.ntmps10
  go_wp2_with fail
  refine (unhide P0).mono ?_
  rintro e w1 ⟨rfl, hc1, hb1⟩
  have s1 := hc1.lt
  have hcd := hide hc1.code
  have P1 := hide (wordsD_any _ a len cap xs 4 (by omega) w1 hc1)
  have B1 := hide hb1
  clear hc1 hb1 P0
  go_wp2_with fail
  refine (unhide P1).mono ?_
  rintro e w2 ⟨v, ns, rfl, hne, own2, hwd, hln, hc2, hg2⟩
  have s2 := hg2.size
  have B2 := hide (below_of_new (unhide B1) hg2)
  have P2 := hide (below_any _ a len cap xs 10 w2 (by omega) hc2)
  rcases own2.form with ⟨e, _⟩ | ⟨g, vc, rfl, hgb, _, hvc, hvm⟩
  · exact absurd e hne
  have hgw : g ≠ w.heap.size := by omega
  have O2 := hide own2
  have LG := hide hwd.lg
  clear hc2 hg2 P1 own2 B1 hne hwd
  go_wp2_with fail
  refine (unhide P2).mono ?_
  rintro e w3 ⟨y, hy0, hy1, rfl, hc3, hg3⟩
  have O3 := hide ((unhide O2).past hg3 (by simp [Value.ownBlock]; omega))
  have B3 := hide (below_of_new (unhide B2) hg3)
  have s3 := hg3.size
  have C3 := hide hc3
  clear hc3 hg3 P2 O2 B2 hy0 hy1
  by_cases h0 : y = 0
  · have q0 : (y == 0) = true := eqB_t _ _ h0
    clear h0
    have P4 := hide (int_lit _ a len cap xs w3 (unhide C3) [-1, 65536] 2 rfl (by omega) (by omega) w3.heap.size rfl _ rfl)
    go_wp2_with fail
    refine (unhide P4).mono ?_
    rintro e w4 ⟨j, hj, rfl, hc4, hg4⟩
    have hjb : -1 ≤ nAt [-1, 65536] j ∧ nAt [-1, 65536] j ≤ 65536 := by
      obtain rfl | rfl : j = 0 ∨ j = 1 := by omega
      all_goals simp [nAt]
    generalize nAt [-1, 65536] j = x at hjb ⊢
    have A3 := hide ((Below.refl w3.heap.size w3).alloc (Nat.le_refl _) (.cells (([-1, 65536] : List Int).map (Value.int .i64)).toArray 3))
    have O4 := hide (((unhide O3).later (unhide A3)).past hg4 (by simp [Value.ownBlock]; omega))
    have B4 := hide (below_of_new ((unhide B3).trans ((unhide A3).mono (by omega))) hg4)
    have s4 := hg4.size
    have s4' : w3.heap.size < w4.heap.size := by simp at s4; omega
    have C4 := hide hc4
    have K1 := hide (cell_one_new w4 (Value.int .i64 x) 3)
    have A4 := hide ((Below.refl w4.heap.size w4).alloc (Nat.le_refl _) (Obj.cells #[.int .i64 x] 3))
    clear hc4 hg4 P4 O3 B3 C3 A3 hj s4
    go_wp2_with (at_builtin; go_must (refine wpList_append_own _ rfl (.tmp 14) (.tmp 18) 29 rfl w1.heap.size 3 i0 (.int .i64 0) 1 8 Tryd.underlying29 hi hz0 hz1 hz2 rfl (by decide) (.slice (some ⟨g, 0, none⟩) ns.length vc) ns.length (cellsN ns) rfl (World.ownsRow.alloc (unhide O4) _) ⟨w4.heap.size, 0, none⟩ 1 1 (cellsN [x]) rfl rfl (unhide K1) (cellsN_one _) (by unfold maxLen; omega) (by omega) (by simp; omega) ?_; intro v8 w8 hown hgrow hnil; obtain ⟨g8, vc8, rfl, hg8, hv8⟩ := own_slice hown (by omega); have HOWN := hide hown; have HGROW := hide hgrow; clear hown hgrow hnil))
    have hown := unhide HOWN
    have hgrow := unhide HGROW
    clear HOWN HGROW
    have OO := hide (show OwnN w8 w1.heap.size (.slice (some ⟨g8, 0, none⟩) (ns.length + 1) vc8) (ns ++ [x]) by unfold OwnN; rw [cellsN_append, List.length_append]; exact hown)
    have hgo : ∀ q, (Value.slice (some ⟨g, 0, none⟩) ns.length vc).ownBlock = some q → w1.heap.size ≤ q := fun q e => by
      have : g = q := by simpa [Value.ownBlock] using e
      omega
    have hgo2 : ∀ q, (Value.slice (some ⟨g, 0, none⟩) ns.length vc).ownBlock = some q → w.heap.size ≤ q := fun q e => by have := hgo q e; omega
    have C8 := hide (((unhide C4).later (unhide A4)).past hgrow s1 (unhide hcd) hgo)
    have B8 := hide ((((unhide B4).trans ((unhide A4).mono (by omega))).grown hgrow (by simp; omega) hgo2))
    have S8 := hide hgrow.size
    have L8 := hide (show Lg (ns ++ [x]) from fun z hz => (List.mem_append.1 hz).elim (unhide LG z) (fun h => by simp at h; omega))
    have hln8 := hide (show (ns ++ [x]).length ≤ 20 by simp; omega)
    clear hown hgrow K1 O4 B4 C4 A4 hgo hgo2
    have PF := hide (int_lit _ a len cap xs w8 (unhide C8) [0, 0, 0, 1, ((ns.length : Int) + 1), -1] 6 rfl (by omega) (by omega) w8.heap.size rfl _ rfl)
    go_wp2_with fail
    refine (unhide PF).mono ?_
    rintro e w9 ⟨j, hj, rfl, hc9, hg9⟩
    have A8 := (Below.refl w8.heap.size w8).alloc (Nat.le_refl _) (.cells (([0, 0, 0, 1, ((ns.length : Int) + 1), -1] : List Int).map (Value.int .i64)).toArray 3)
    have O9 := hide (((unhide OO).later A8).past hg9 (by simp [Value.ownBlock]; omega))
    have B9 := hide (below_of_new ((unhide B8).trans (A8.mono (by have s8 := unhide S8; simp at s8; omega))) hg9)
    have hjb2 : -1 ≤ nAt [0, 0, 0, 1, ((ns.length : Int) + 1), -1] j ∧ nAt [0, 0, 0, 1, ((ns.length : Int) + 1), -1] j ≤ 20 := by
      obtain rfl | rfl | rfl | rfl | rfl | rfl : j = 0 ∨ j = 1 ∨ j = 2 ∨ j = 3 ∨ j = 4 ∨ j = 5 := by omega
      all_goals simp [nAt]
      all_goals omega
    generalize nAt [0, 0, 0, 1, ((ns.length : Int) + 1), -1] j = p at hjb2 ⊢
    clear hc9 hg9 PF OO B8 A8
    go_wp2
    go_ret2
    exact ⟨_, ns ++ [x], p, rfl, (unhide O9).base (by omega), unhide L8, unhide hln8, hjb2, unhide B9⟩
  have q0 : (y == 0) = false := eqB_f _ _ h0
  by_cases h1 : y = 1
  · have q1 : (y == 1) = true := eqB_t _ _ h1
    clear h0 h1
    by_cases hn : ns.length = 0
    · have hns : ns = [] := List.eq_nil_of_length_eq_zero hn
      subst hns
      clear hn
      have PF := hide (int_lit _ a len cap xs w3 (unhide C3) [0, 0, 0, 1, (([] : List Int).length : Int), -1] 6 rfl (by omega) (by omega) w3.heap.size rfl _ rfl)
      go_wp2_with fail
      refine (unhide PF).mono ?_
      rintro e w9 ⟨j, hj, rfl, hc9, hg9⟩
      have A8 := (Below.refl w3.heap.size w3).alloc (Nat.le_refl _) (.cells (([0, 0, 0, 1, (([] : List Int).length : Int), -1] : List Int).map (Value.int .i64)).toArray 3)
      have O9 := hide (((unhide O3).later A8).past hg9 (by simp [Value.ownBlock]; omega))
      have B9 := hide (below_of_new ((unhide B3).trans (A8.mono (by omega))) hg9)
      have hjb2 : -1 ≤ nAt [0, 0, 0, 1, (([] : List Int).length : Int), -1] j ∧ nAt [0, 0, 0, 1, (([] : List Int).length : Int), -1] j ≤ 20 := by
        obtain rfl | rfl | rfl | rfl | rfl | rfl : j = 0 ∨ j = 1 ∨ j = 2 ∨ j = 3 ∨ j = 4 ∨ j = 5 := by omega
        all_goals simp [nAt]
        all_goals omega
      generalize nAt [0, 0, 0, 1, (([] : List Int).length : Int), -1] j = p at hjb2 ⊢
      clear hc9 hg9 PF B3 A8
      go_wp2
      go_ret2
      exact ⟨_, ([] : List Int), p, rfl, (unhide O9).base (by omega), unhide LG, by simp, hjb2, unhide B9⟩
    · obtain ⟨m, hmm⟩ : ∃ m, ns.length = m + 1 := ⟨ns.length - 1, by omega⟩
      have OC := hide (OwnN.cut (by rw [hmm] at O3; exact unhide O3))
      have LC := hide (show Lg ns.dropLast from fun z hz => unhide LG z (List.mem_of_mem_take (by rw [List.dropLast_eq_take] at hz; exact hz)))
      have hdl : ns.dropLast.length = m := by simp; omega
      rw [hmm] at hln hvc ⊢
      generalize ns.dropLast = ms at *
      subst hdl
      clear hn hmm O3 LG
      have hpos : (0 : Int) < (ms.length : Int) + 1 := by omega
      have PF := hide (int_lit _ a len cap xs w3 (unhide C3) [0, 0, 0, 1, (ms.length : Int), -1] 6 rfl (by omega) (by omega) w3.heap.size rfl _ rfl)
      go_wp2_with fail
      refine (unhide PF).mono ?_
      rintro e w9 ⟨j, hj, rfl, hc9, hg9⟩
      have A8 := (Below.refl w3.heap.size w3).alloc (Nat.le_refl _) (.cells (([0, 0, 0, 1, (ms.length : Int), -1] : List Int).map (Value.int .i64)).toArray 3)
      have O9 := hide (((unhide OC).later A8).past hg9 (by simp [Value.ownBlock]; omega))
      have B9 := hide (below_of_new ((unhide B3).trans (A8.mono (by omega))) hg9)
      have hjb2 : -1 ≤ nAt [0, 0, 0, 1, (ms.length : Int), -1] j ∧ nAt [0, 0, 0, 1, (ms.length : Int), -1] j ≤ 20 := by
        obtain rfl | rfl | rfl | rfl | rfl | rfl : j = 0 ∨ j = 1 ∨ j = 2 ∨ j = 3 ∨ j = 4 ∨ j = 5 := by omega
        all_goals simp [nAt]
        all_goals omega
      generalize nAt [0, 0, 0, 1, (ms.length : Int), -1] j = p at hjb2 ⊢
      clear hc9 hg9 PF B3 A8
      go_wp2
      go_ret2
      exact ⟨_, ms, p, rfl, (unhide O9).base (by omega), unhide LC, by omega, hjb2, unhide B9⟩
  · have q1 : (y == 1) = false := eqB_f _ _ h1
    clear h0 h1
    have PF := hide (int_lit _ a len cap xs w3 (unhide C3) [0, 0, 0, 1, (ns.length : Int), -1] 6 rfl (by omega) (by omega) w3.heap.size rfl _ rfl)
    go_wp2_with fail
    refine (unhide PF).mono ?_
    rintro e w9 ⟨j, hj, rfl, hc9, hg9⟩
    have A8 := (Below.refl w3.heap.size w3).alloc (Nat.le_refl _) (.cells (([0, 0, 0, 1, (ns.length : Int), -1] : List Int).map (Value.int .i64)).toArray 3)
    have O9 := hide (((unhide O3).later A8).past hg9 (by simp [Value.ownBlock]; omega))
    have B9 := hide (below_of_new ((unhide B3).trans (A8.mono (by omega))) hg9)
    have hjb2 : -1 ≤ nAt [0, 0, 0, 1, (ns.length : Int), -1] j ∧ nAt [0, 0, 0, 1, (ns.length : Int), -1] j ≤ 20 := by
      obtain rfl | rfl | rfl | rfl | rfl | rfl : j = 0 ∨ j = 1 ∨ j = 2 ∨ j = 3 ∨ j = 4 ∨ j = 5 := by omega
      all_goals simp [nAt]
      all_goals omega
    generalize nAt [0, 0, 0, 1, (ns.length : Int), -1] j = p at hjb2 ⊢
    clear hc9 hg9 PF B3 A8
    go_wp2
    go_ret2
    exact ⟨_, ns, p, rfl, (unhide O9).base (by omega), unhide LG, by omega, hjb2, unhide B9⟩
end Go.Proofs.YtomoakfemdjpbaaDoor
