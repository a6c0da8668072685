/- Contracts over this seat's translation, laid together; conditions stand as hypotheses of each. -/
import Derived.Test.YtmhcbehplhfgfaaDoorTxA
import Derived.Test.YtmhcbehplhfgfaaDoorTxC
import Derived.LoopN
import Derived.Lib.Strings
import Derived.Lib.Slices
import Derived.Lib.Walk
import Derived.Lib.Bytealg
import Derived.Deep.RegionWith

namespace Go.Proofs.YtmhcbehplhfgfaaDoor
open Go.ChangeShapes Go.WideShapes Go.ChangeAt Go.RowKit
set_option linter.unusedVariables false
set_option maxRecDepth 8000
set_option linter.unusedSimpArgs false

set_option maxHeartbeats 2000000 in
theorem isp_num (n : Int) (w : World) : Calls Tryd.prog 65 #[.iface 123 (.agg #[.int .i64 n])] w fun r w' => r = .returned (.bool true) ∧ Below w.heap.size w w' := by
  have t1 := taN_sect 123 (.agg #[.int .i64 n]) (by decide)
  have t2 := taN_glob 123 (.agg #[.int .i64 n]) (by decide)
  have m := me_num (.int .i64 n)
  have P0 := hide (parts0 w)
  go_enter Tryd.func65, Tryd.ntmps65
  go_wp2_with (go_at_call 130; refine (unhide P0).mono ?_; rintro r w1 ⟨rfl, hb⟩)
  refine wp_loop_rounds 1 ?_
  rw [rounds_succ]
  go_wp2
  go_ret
  exact ⟨rfl, hb⟩
set_option maxHeartbeats 2000000 in
theorem isp_sym (s : ByteArray) (w : World) : Calls Tryd.prog 65 #[.iface 125 (.agg #[.string s])] w fun r w' => r = .returned (.bool true) ∧ Below w.heap.size w w' := by
  have t1 := taN_sect 125 (.agg #[.string s]) (by decide)
  have t2 := taN_glob 125 (.agg #[.string s]) (by decide)
  have m := me_sym (.string s)
  have P0 := hide (parts0 w)
  go_enter Tryd.func65, Tryd.ntmps65
  go_wp2_with (go_at_call 130; refine (unhide P0).mono ?_; rintro r w1 ⟨rfl, hb⟩)
  refine wp_loop_rounds 1 ?_
  rw [rounds_succ]
  go_wp2
  go_ret
  exact ⟨rfl, hb⟩
set_option maxHeartbeats 2000000 in
theorem isp_here (w : World) : Calls Tryd.prog 65 #[.iface 127 (.agg #[])] w fun r w' => r = .returned (.bool true) ∧ Below w.heap.size w w' := by
  have t1 := taN_sect 127 (.agg #[]) (by decide)
  have t2 := taN_glob 127 (.agg #[]) (by decide)
  have m := me_here 
  have P0 := hide (parts0 w)
  go_enter Tryd.func65, Tryd.ntmps65
  go_wp2_with (go_at_call 130; refine (unhide P0).mono ?_; rintro r w1 ⟨rfl, hb⟩)
  refine wp_loop_rounds 1 ?_
  rw [rounds_succ]
  go_wp2
  go_ret
  exact ⟨rfl, hb⟩
set_option maxHeartbeats 2000000 in
theorem isp_sect (n : Int) (w : World) : Calls Tryd.prog 65 #[.iface 135 (.agg #[.int .i64 n])] w fun r w' => r = .returned (.bool false) ∧ Below w.heap.size w w' := by
  have t1 := taY_sect (.agg #[.int .i64 n])
  have t2 := taN_glob 135 (.agg #[.int .i64 n]) (by decide)
  go_enter Tryd.func65, Tryd.ntmps65
  go_wp2
  go_ret
  exact ⟨rfl, Below.refl _ _⟩
set_option maxHeartbeats 2000000 in
theorem isp_glob (s : ByteArray) (w : World) : Calls Tryd.prog 65 #[.iface 136 (.agg #[.string s])] w fun r w' => r = .returned (.bool false) ∧ Below w.heap.size w w' := by
  have t1 := taY_glob (.agg #[.string s])
  have t2 := taN_sect 136 (.agg #[.string s]) (by decide)
  go_enter Tryd.func65, Tryd.ntmps65
  go_wp2
  go_ret
  exact ⟨rfl, Below.refl _ _⟩
set_option maxHeartbeats 2000000 in
theorem isp_neg (t : TypeId) (x : Value) (q1 : Bool) (h1 : ∀ w : World, Calls Tryd.prog 65 #[.iface t x] w fun r w' => r = .returned (.bool q1) ∧ Below w.heap.size w w') (w : World) : Calls Tryd.prog 65 #[.iface 129 (.agg #[.iface t x])] w fun r w' => r = .returned (.bool q1) ∧ Below w.heap.size w w' := by
  have t1 := taN_sect 129 (.agg #[.iface t x]) (by decide)
  have t2 := taN_glob 129 (.agg #[.iface t x]) (by decide)
  have m := me_neg (.iface t x)
  have P1 := hide (parts1 t x w)
  have H1 := hide h1
  clear h1
  go_enter Tryd.func65, Tryd.ntmps65
  go_wp2_with (go_at_call 131; refine (unhide P1).mono ?_; rintro r w1 ⟨g, rfl, hg, hb⟩)
  have c0 := Lib.cell_of_heap hg 0
  have B1 := hide hb
  have H2 := hide (unhide H1 w1)
  clear hg hb P1
  refine wp_loop_rounds 2 ?_
  rw [rounds_succ]
  go_wp2_with fail
  refine (unhide H2).mono ?_
  rintro r w2 ⟨rfl, hb2⟩
  have B2 := hide ((unhide B1).trans (hb2.mono (unhide B1).size))
  clear hb2 c0 H2 H1
  cases q1 with
  | false =>
    go_wp2
    go_ret
    exact ⟨rfl, unhide B2⟩
  | true =>
    go_wp2
    rw [rounds_succ]
    go_wp2
    go_ret
    exact ⟨rfl, unhide B2⟩
set_option maxHeartbeats 4000000 in
theorem isp_add (t u : TypeId) (x y : Value) (q1 q2 : Bool) (h1 : ∀ w : World, Calls Tryd.prog 65 #[.iface t x] w fun r w' => r = .returned (.bool q1) ∧ Below w.heap.size w w') (h2 : ∀ w : World, Calls Tryd.prog 65 #[.iface u y] w fun r w' => r = .returned (.bool q2) ∧ Below w.heap.size w w') (w : World) : Calls Tryd.prog 65 #[.iface 138 (.agg #[.iface t x, .iface u y])] w fun r w' => r = .returned (.bool (q1 && q2)) ∧ Below w.heap.size w w' := by
  have t1 := taN_sect 138 (.agg #[.iface t x, .iface u y]) (by decide)
  have t2 := taN_glob 138 (.agg #[.iface t x, .iface u y]) (by decide)
  have m := me_add (.iface t x) (.iface u y)
  have P1 := hide (parts2 t u x y w)
  have H1 := hide h1
  have H3 := hide h2
  clear h1 h2
  obtain ⟨T, hT⟩ : ∃ T, (q1 && q2) = T := ⟨_, rfl⟩
  have HT := hide hT
  rw [hT]
  clear hT
  go_enter Tryd.func65, Tryd.ntmps65
  go_wp2_with (go_at_call 132; refine (unhide P1).mono ?_; rintro r w1 ⟨g, rfl, hg, hb⟩)
  have c0 := Lib.cell_of_heap hg 0
  have c1 := hide (Lib.cell_of_heap hg 1)
  have gl := hide (Array.getElem?_eq_some_iff.1 hg).1
  have B1 := hide hb
  have H2 := hide (unhide H1 w1)
  clear hg hb P1
  refine wp_loop_rounds 3 ?_
  rw [rounds_succ]
  go_wp2_with fail
  refine (unhide H2).mono ?_
  rintro r w2 ⟨rfl, hb2⟩
  have B2 := hide ((unhide B1).trans (hb2.mono (unhide B1).size))
  have d1 := (hb2.cell (p := ⟨g, 1, none⟩) (unhide gl)).trans (unhide c1)
  clear hb2 c0 c1 H2 H1 gl
  cases q1 with
  | false =>
    have E := hide ((unhide HT).symm.trans (Bool.false_and _))
    go_wp2
    go_ret
    exact ⟨by rw [unhide E]; rfl, unhide B2⟩
  | true =>
    have E := hide ((unhide HT).symm.trans (Bool.true_and _))
    have H4 := hide (unhide H3 w2)
    go_wp2
    rw [rounds_succ]
    go_wp2_with fail
    refine (unhide H4).mono ?_
    rintro r w3 ⟨rfl, hb3⟩
    have B3 := hide ((unhide B2).trans (hb3.mono (unhide B2).size))
    clear hb3 d1 H4 H3
    cases q2 with
    | false =>
      go_wp2
      go_ret
      exact ⟨by rw [unhide E]; rfl, unhide B3⟩
    | true =>
      go_wp2
      rw [rounds_succ]
      go_wp2
      go_ret
      exact ⟨by rw [unhide E]; rfl, unhide B3⟩
set_option maxHeartbeats 4000000 in
theorem isp_sub (t u : TypeId) (x y : Value) (q1 q2 : Bool) (h1 : ∀ w : World, Calls Tryd.prog 65 #[.iface t x] w fun r w' => r = .returned (.bool q1) ∧ Below w.heap.size w w') (h2 : ∀ w : World, Calls Tryd.prog 65 #[.iface u y] w fun r w' => r = .returned (.bool q2) ∧ Below w.heap.size w w') (w : World) : Calls Tryd.prog 65 #[.iface 139 (.agg #[.iface t x, .iface u y])] w fun r w' => r = .returned (.bool (q1 && q2)) ∧ Below w.heap.size w w' := by
  have t1 := taN_sect 139 (.agg #[.iface t x, .iface u y]) (by decide)
  have t2 := taN_glob 139 (.agg #[.iface t x, .iface u y]) (by decide)
  have m := me_sub (.iface t x) (.iface u y)
  have P1 := hide (parts2 t u x y w)
  have H1 := hide h1
  have H3 := hide h2
  clear h1 h2
  obtain ⟨T, hT⟩ : ∃ T, (q1 && q2) = T := ⟨_, rfl⟩
  have HT := hide hT
  rw [hT]
  clear hT
  go_enter Tryd.func65, Tryd.ntmps65
  go_wp2_with (go_at_call 132; refine (unhide P1).mono ?_; rintro r w1 ⟨g, rfl, hg, hb⟩)
  have c0 := Lib.cell_of_heap hg 0
  have c1 := hide (Lib.cell_of_heap hg 1)
  have gl := hide (Array.getElem?_eq_some_iff.1 hg).1
  have B1 := hide hb
  have H2 := hide (unhide H1 w1)
  clear hg hb P1
  refine wp_loop_rounds 3 ?_
  rw [rounds_succ]
  go_wp2_with fail
  refine (unhide H2).mono ?_
  rintro r w2 ⟨rfl, hb2⟩
  have B2 := hide ((unhide B1).trans (hb2.mono (unhide B1).size))
  have d1 := (hb2.cell (p := ⟨g, 1, none⟩) (unhide gl)).trans (unhide c1)
  clear hb2 c0 c1 H2 H1 gl
  cases q1 with
  | false =>
    have E := hide ((unhide HT).symm.trans (Bool.false_and _))
    go_wp2
    go_ret
    exact ⟨by rw [unhide E]; rfl, unhide B2⟩
  | true =>
    have E := hide ((unhide HT).symm.trans (Bool.true_and _))
    have H4 := hide (unhide H3 w2)
    go_wp2
    rw [rounds_succ]
    go_wp2_with fail
    refine (unhide H4).mono ?_
    rintro r w3 ⟨rfl, hb3⟩
    have B3 := hide ((unhide B2).trans (hb3.mono (unhide B2).size))
    clear hb3 d1 H4 H3
    cases q2 with
    | false =>
      go_wp2
      go_ret
      exact ⟨by rw [unhide E]; rfl, unhide B3⟩
    | true =>
      go_wp2
      rw [rounds_succ]
      go_wp2
      go_ret
      exact ⟨by rw [unhide E]; rfl, unhide B3⟩
set_option maxHeartbeats 4000000 in
theorem isp_mul (t u : TypeId) (x y : Value) (q1 q2 : Bool) (h1 : ∀ w : World, Calls Tryd.prog 65 #[.iface t x] w fun r w' => r = .returned (.bool q1) ∧ Below w.heap.size w w') (h2 : ∀ w : World, Calls Tryd.prog 65 #[.iface u y] w fun r w' => r = .returned (.bool q2) ∧ Below w.heap.size w w') (w : World) : Calls Tryd.prog 65 #[.iface 140 (.agg #[.iface t x, .iface u y])] w fun r w' => r = .returned (.bool (q1 && q2)) ∧ Below w.heap.size w w' := by
  have t1 := taN_sect 140 (.agg #[.iface t x, .iface u y]) (by decide)
  have t2 := taN_glob 140 (.agg #[.iface t x, .iface u y]) (by decide)
  have m := me_mul (.iface t x) (.iface u y)
  have P1 := hide (parts2 t u x y w)
  have H1 := hide h1
  have H3 := hide h2
  clear h1 h2
  obtain ⟨T, hT⟩ : ∃ T, (q1 && q2) = T := ⟨_, rfl⟩
  have HT := hide hT
  rw [hT]
  clear hT
  go_enter Tryd.func65, Tryd.ntmps65
  go_wp2_with (go_at_call 132; refine (unhide P1).mono ?_; rintro r w1 ⟨g, rfl, hg, hb⟩)
  have c0 := Lib.cell_of_heap hg 0
  have c1 := hide (Lib.cell_of_heap hg 1)
  have gl := hide (Array.getElem?_eq_some_iff.1 hg).1
  have B1 := hide hb
  have H2 := hide (unhide H1 w1)
  clear hg hb P1
  refine wp_loop_rounds 3 ?_
  rw [rounds_succ]
  go_wp2_with fail
  refine (unhide H2).mono ?_
  rintro r w2 ⟨rfl, hb2⟩
  have B2 := hide ((unhide B1).trans (hb2.mono (unhide B1).size))
  have d1 := (hb2.cell (p := ⟨g, 1, none⟩) (unhide gl)).trans (unhide c1)
  clear hb2 c0 c1 H2 H1 gl
  cases q1 with
  | false =>
    have E := hide ((unhide HT).symm.trans (Bool.false_and _))
    go_wp2
    go_ret
    exact ⟨by rw [unhide E]; rfl, unhide B2⟩
  | true =>
    have E := hide ((unhide HT).symm.trans (Bool.true_and _))
    have H4 := hide (unhide H3 w2)
    go_wp2
    rw [rounds_succ]
    go_wp2_with fail
    refine (unhide H4).mono ?_
    rintro r w3 ⟨rfl, hb3⟩
    have B3 := hide ((unhide B2).trans (hb3.mono (unhide B2).size))
    clear hb3 d1 H4 H3
    cases q2 with
    | false =>
      go_wp2
      go_ret
      exact ⟨by rw [unhide E]; rfl, unhide B3⟩
    | true =>
      go_wp2
      rw [rounds_succ]
      go_wp2
      go_ret
      exact ⟨by rw [unhide E]; rfl, unhide B3⟩
set_option maxHeartbeats 4000000 in
theorem isp_div (t u : TypeId) (x y : Value) (q1 q2 : Bool) (h1 : ∀ w : World, Calls Tryd.prog 65 #[.iface t x] w fun r w' => r = .returned (.bool q1) ∧ Below w.heap.size w w') (h2 : ∀ w : World, Calls Tryd.prog 65 #[.iface u y] w fun r w' => r = .returned (.bool q2) ∧ Below w.heap.size w w') (w : World) : Calls Tryd.prog 65 #[.iface 141 (.agg #[.iface t x, .iface u y])] w fun r w' => r = .returned (.bool (q1 && q2)) ∧ Below w.heap.size w w' := by
  have t1 := taN_sect 141 (.agg #[.iface t x, .iface u y]) (by decide)
  have t2 := taN_glob 141 (.agg #[.iface t x, .iface u y]) (by decide)
  have m := me_div (.iface t x) (.iface u y)
  have P1 := hide (parts2 t u x y w)
  have H1 := hide h1
  have H3 := hide h2
  clear h1 h2
  obtain ⟨T, hT⟩ : ∃ T, (q1 && q2) = T := ⟨_, rfl⟩
  have HT := hide hT
  rw [hT]
  clear hT
  go_enter Tryd.func65, Tryd.ntmps65
  go_wp2_with (go_at_call 132; refine (unhide P1).mono ?_; rintro r w1 ⟨g, rfl, hg, hb⟩)
  have c0 := Lib.cell_of_heap hg 0
  have c1 := hide (Lib.cell_of_heap hg 1)
  have gl := hide (Array.getElem?_eq_some_iff.1 hg).1
  have B1 := hide hb
  have H2 := hide (unhide H1 w1)
  clear hg hb P1
  refine wp_loop_rounds 3 ?_
  rw [rounds_succ]
  go_wp2_with fail
  refine (unhide H2).mono ?_
  rintro r w2 ⟨rfl, hb2⟩
  have B2 := hide ((unhide B1).trans (hb2.mono (unhide B1).size))
  have d1 := (hb2.cell (p := ⟨g, 1, none⟩) (unhide gl)).trans (unhide c1)
  clear hb2 c0 c1 H2 H1 gl
  cases q1 with
  | false =>
    have E := hide ((unhide HT).symm.trans (Bool.false_and _))
    go_wp2
    go_ret
    exact ⟨by rw [unhide E]; rfl, unhide B2⟩
  | true =>
    have E := hide ((unhide HT).symm.trans (Bool.true_and _))
    have H4 := hide (unhide H3 w2)
    go_wp2
    rw [rounds_succ]
    go_wp2_with fail
    refine (unhide H4).mono ?_
    rintro r w3 ⟨rfl, hb3⟩
    have B3 := hide ((unhide B2).trans (hb3.mono (unhide B2).size))
    clear hb3 d1 H4 H3
    cases q2 with
    | false =>
      go_wp2
      go_ret
      exact ⟨by rw [unhide E]; rfl, unhide B3⟩
    | true =>
      go_wp2
      rw [rounds_succ]
      go_wp2
      go_ret
      exact ⟨by rw [unhide E]; rfl, unhide B3⟩
set_option maxHeartbeats 4000000 in
theorem isp_and (t u : TypeId) (x y : Value) (q1 q2 : Bool) (h1 : ∀ w : World, Calls Tryd.prog 65 #[.iface t x] w fun r w' => r = .returned (.bool q1) ∧ Below w.heap.size w w') (h2 : ∀ w : World, Calls Tryd.prog 65 #[.iface u y] w fun r w' => r = .returned (.bool q2) ∧ Below w.heap.size w w') (w : World) : Calls Tryd.prog 65 #[.iface 142 (.agg #[.iface t x, .iface u y])] w fun r w' => r = .returned (.bool (q1 && q2)) ∧ Below w.heap.size w w' := by
  have t1 := taN_sect 142 (.agg #[.iface t x, .iface u y]) (by decide)
  have t2 := taN_glob 142 (.agg #[.iface t x, .iface u y]) (by decide)
  have m := me_and (.iface t x) (.iface u y)
  have P1 := hide (parts2 t u x y w)
  have H1 := hide h1
  have H3 := hide h2
  clear h1 h2
  obtain ⟨T, hT⟩ : ∃ T, (q1 && q2) = T := ⟨_, rfl⟩
  have HT := hide hT
  rw [hT]
  clear hT
  go_enter Tryd.func65, Tryd.ntmps65
  go_wp2_with (go_at_call 132; refine (unhide P1).mono ?_; rintro r w1 ⟨g, rfl, hg, hb⟩)
  have c0 := Lib.cell_of_heap hg 0
  have c1 := hide (Lib.cell_of_heap hg 1)
  have gl := hide (Array.getElem?_eq_some_iff.1 hg).1
  have B1 := hide hb
  have H2 := hide (unhide H1 w1)
  clear hg hb P1
  refine wp_loop_rounds 3 ?_
  rw [rounds_succ]
  go_wp2_with fail
  refine (unhide H2).mono ?_
  rintro r w2 ⟨rfl, hb2⟩
  have B2 := hide ((unhide B1).trans (hb2.mono (unhide B1).size))
  have d1 := (hb2.cell (p := ⟨g, 1, none⟩) (unhide gl)).trans (unhide c1)
  clear hb2 c0 c1 H2 H1 gl
  cases q1 with
  | false =>
    have E := hide ((unhide HT).symm.trans (Bool.false_and _))
    go_wp2
    go_ret
    exact ⟨by rw [unhide E]; rfl, unhide B2⟩
  | true =>
    have E := hide ((unhide HT).symm.trans (Bool.true_and _))
    have H4 := hide (unhide H3 w2)
    go_wp2
    rw [rounds_succ]
    go_wp2_with fail
    refine (unhide H4).mono ?_
    rintro r w3 ⟨rfl, hb3⟩
    have B3 := hide ((unhide B2).trans (hb3.mono (unhide B2).size))
    clear hb3 d1 H4 H3
    cases q2 with
    | false =>
      go_wp2
      go_ret
      exact ⟨by rw [unhide E]; rfl, unhide B3⟩
    | true =>
      go_wp2
      rw [rounds_succ]
      go_wp2
      go_ret
      exact ⟨by rw [unhide E]; rfl, unhide B3⟩
set_option maxHeartbeats 4000000 in
theorem isp_or (t u : TypeId) (x y : Value) (q1 q2 : Bool) (h1 : ∀ w : World, Calls Tryd.prog 65 #[.iface t x] w fun r w' => r = .returned (.bool q1) ∧ Below w.heap.size w w') (h2 : ∀ w : World, Calls Tryd.prog 65 #[.iface u y] w fun r w' => r = .returned (.bool q2) ∧ Below w.heap.size w w') (w : World) : Calls Tryd.prog 65 #[.iface 143 (.agg #[.iface t x, .iface u y])] w fun r w' => r = .returned (.bool (q1 && q2)) ∧ Below w.heap.size w w' := by
  have t1 := taN_sect 143 (.agg #[.iface t x, .iface u y]) (by decide)
  have t2 := taN_glob 143 (.agg #[.iface t x, .iface u y]) (by decide)
  have m := me_or (.iface t x) (.iface u y)
  have P1 := hide (parts2 t u x y w)
  have H1 := hide h1
  have H3 := hide h2
  clear h1 h2
  obtain ⟨T, hT⟩ : ∃ T, (q1 && q2) = T := ⟨_, rfl⟩
  have HT := hide hT
  rw [hT]
  clear hT
  go_enter Tryd.func65, Tryd.ntmps65
  go_wp2_with (go_at_call 132; refine (unhide P1).mono ?_; rintro r w1 ⟨g, rfl, hg, hb⟩)
  have c0 := Lib.cell_of_heap hg 0
  have c1 := hide (Lib.cell_of_heap hg 1)
  have gl := hide (Array.getElem?_eq_some_iff.1 hg).1
  have B1 := hide hb
  have H2 := hide (unhide H1 w1)
  clear hg hb P1
  refine wp_loop_rounds 3 ?_
  rw [rounds_succ]
  go_wp2_with fail
  refine (unhide H2).mono ?_
  rintro r w2 ⟨rfl, hb2⟩
  have B2 := hide ((unhide B1).trans (hb2.mono (unhide B1).size))
  have d1 := (hb2.cell (p := ⟨g, 1, none⟩) (unhide gl)).trans (unhide c1)
  clear hb2 c0 c1 H2 H1 gl
  cases q1 with
  | false =>
    have E := hide ((unhide HT).symm.trans (Bool.false_and _))
    go_wp2
    go_ret
    exact ⟨by rw [unhide E]; rfl, unhide B2⟩
  | true =>
    have E := hide ((unhide HT).symm.trans (Bool.true_and _))
    have H4 := hide (unhide H3 w2)
    go_wp2
    rw [rounds_succ]
    go_wp2_with fail
    refine (unhide H4).mono ?_
    rintro r w3 ⟨rfl, hb3⟩
    have B3 := hide ((unhide B2).trans (hb3.mono (unhide B2).size))
    clear hb3 d1 H4 H3
    cases q2 with
    | false =>
      go_wp2
      go_ret
      exact ⟨by rw [unhide E]; rfl, unhide B3⟩
    | true =>
      go_wp2
      rw [rounds_succ]
      go_wp2
      go_ret
      exact ⟨by rw [unhide E]; rfl, unhide B3⟩
theorem isp_all : ∀ d : Nat, IsP d := by
  intro d
  induction d with
  | zero => intro e w h; cases h
  | succ d ih =>
    intro e w h
    rcases ok_cases h with ⟨n, hn, rfl⟩ | ⟨s, hs, rfl⟩ | rfl | ⟨a, ha, rfl⟩ | ⟨k, a, b, hk, ha, hb, rfl⟩ | ⟨n, hn, rfl⟩ | ⟨s, hs, rfl⟩
    · rw [tv_num, plain_num hn]; exact isp_num n w
    · rw [tv_sym, plain_sym hs]; exact isp_sym s w
    · rw [tv_here, plain_here]; exact isp_here w
    · obtain ⟨t, x, e1⟩ := tv_if a
      have h1 := fun w => ih a w ha
      rw [e1] at h1
      rw [tv_neg, e1, plain_one]
      exact isp_neg t x _ h1 w
    · obtain ⟨t, x, e1⟩ := tv_if a
      obtain ⟨u, y, e2⟩ := tv_if b
      have h1 := fun w => ih a w ha
      have h2 := fun w => ih b w hb
      rw [e1] at h1
      rw [e2] at h2
      rw [tv_two hk, e1, e2, plain_pair d hk]
      have : k = 5 ∨ k = 6 ∨ k = 7 ∨ k = 8 ∨ k = 9 ∨ k = 10 := by omega
      rcases this with rfl | rfl | rfl | rfl | rfl | rfl
      · exact isp_add t u x y _ _ h1 h2 w
      · exact isp_sub t u x y _ _ h1 h2 w
      · exact isp_mul t u x y _ _ h1 h2 w
      · exact isp_div t u x y _ _ h1 h2 w
      · exact isp_and t u x y _ _ h1 h2 w
      · exact isp_or t u x y _ _ h1 h2 w
    · rw [tv_sect, show okF (d + 1) true ⟨11, n, E0, []⟩ = false by simp [okF]]; exact isp_sect n w
    · rw [tv_glob, show okF (d + 1) true ⟨12, 0, s, []⟩ = false by simp [okF]]; exact isp_glob s w
theorem plain_ok : ∀ (d : Nat) (e : Ex), okF d true e = true → okF d false e = true := by
  intro d
  induction d with
  | zero => intro e h; cases h
  | succ d ih =>
    intro e h
    rw [okF_s, Bool.and_eq_true, Bool.and_eq_true] at h
    rw [okF_s, h.1]
    have h3 := h.2.2
    rw [List.all_eq_true] at h3
    have : e.l.all (okF d false) = true := List.all_eq_true.2 fun x hx => ih x (h3 x hx)
    rw [this]
    rfl
theorem plain_not {d : Nat} {e : Ex} (h : okF d false e = false) : okF d true e = false := by
  cases h2 : okF d true e with
  | false => rfl
  | true => rw [plain_ok d e h2] at h; cases h
end Go.Proofs.YtmhcbehplhfgfaaDoor

namespace Go.Proofs.YtmhcbehplhfgfaaDoor
open Go.ChangeShapes Go.WideShapes Go.ChangeAt Go.RowKit
set_option linter.unusedVariables false
set_option maxRecDepth 8000
set_option linter.unusedSimpArgs false

set_option maxHeartbeats 2000000 in
theorem zroI (k n : Int) (s : ByteArray) (ll : Nat) (hs : s.size ≤ 1099511627776) (hl : ll ≤ 1099511627776) (b : Option Addr) (cap : Nat) (w : World) : Calls Tryd.prog 40 #[.agg #[.int .i64 k, .int .i64 n, .string s, .slice b ll cap]] w fun r w' => r = .returned (.bool (zroV k n s ll)) ∧ Below w.heap.size w w' := by
  by_cases h1 : k = 0
  · subst h1
    by_cases h2 : n = 0
    · subst h2
      by_cases h3 : s = ⟨#[]⟩
      · subst h3
        by_cases h4 : ll = 0
        · subst h4
          have B0 := hide (below_new w (.cells #[.int .i64 0, .int .i64 0, .string ⟨#[]⟩, .slice b 0 cap] 31))
          have V : zroV 0 0 ⟨#[]⟩ 0 = true := by simp [zroV, eqE, eqE1, *]
          rw [V]
          clear V
          go_enter Tryd.func40, Tryd.ntmps40
          go_wp2
          go_ret
          exact ⟨rfl, unhide B0⟩
        have h4f : (ll == 0) = false := beq_eq_false_iff_ne.2 h4
        have h4g : ((ll : Int) == 0) = false := beq_eq_false_iff_ne.2 (by omega)
        have B0 := hide (below_new w (.cells #[.int .i64 0, .int .i64 0, .string ⟨#[]⟩, .slice b ll cap] 31))
        have V : zroV 0 0 ⟨#[]⟩ ll = false := by simp [zroV, eqE, eqE1, *]
        rw [V]
        clear V
        go_enter Tryd.func40, Tryd.ntmps40
        go_wp2
        go_ret
        exact ⟨rfl, unhide B0⟩
      obtain ⟨h3a, h3b⟩ := emp_E s h3
      have B0 := hide (below_new w (.cells #[.int .i64 0, .int .i64 0, .string s, .slice b ll cap] 31))
      have V : zroV 0 0 s ll = false := by simp [zroV, eqE, eqE1, *]
      rw [V]
      clear V
      go_enter Tryd.func40, Tryd.ntmps40
      go_wp2
      go_ret
      exact ⟨rfl, unhide B0⟩
    have h2f : (n == 0) = false := beq_eq_false_iff_ne.2 h2
    have B0 := hide (below_new w (.cells #[.int .i64 0, .int .i64 n, .string s, .slice b ll cap] 31))
    have V : zroV 0 n s ll = false := by simp [zroV, eqE, eqE1, *]
    rw [V]
    clear V
    go_enter Tryd.func40, Tryd.ntmps40
    go_wp2
    go_ret
    exact ⟨rfl, unhide B0⟩
  have h1f : (k == 0) = false := beq_eq_false_iff_ne.2 h1
  have B0 := hide (below_new w (.cells #[.int .i64 k, .int .i64 n, .string s, .slice b ll cap] 31))
  have V : zroV k n s ll = false := by simp [zroV, eqE, eqE1, *]
  rw [V]
  clear V
  go_enter Tryd.func40, Tryd.ntmps40
  go_wp2
  go_ret
  exact ⟨rfl, unhide B0⟩
set_option maxHeartbeats 2000000 in
theorem nonI_any (a : Ag) (hs : a.e.s.size ≤ 1099511627776) (hl : a.e.l.length ≤ 1099511627776) (b : Option Addr) (cap : Nat) (w : World) : Calls Tryd.prog 89 #[.agg (a.cs b cap)] w fun r w' => r = .returned (.bool (nonX a)) ∧ Below w.heap.size w w' := by
  have Q := hide (fun w => zroI a.e.k a.e.n a.e.s a.e.l.length hs hl b cap w)
  unfold Ag.cs
  rw [show nonX a = nonV a.f a.r (zroX a.e) from rfl]
  rw [show zroX a.e = zroV a.e.k a.e.n a.e.s a.e.l.length from rfl]
  generalize zroV a.e.k a.e.n a.e.s a.e.l.length = q at *
  generalize a.f = f at *
  generalize a.r = r at *
  generalize a.e.k = k at *
  generalize a.e.n = n at *
  generalize a.e.s = s at *
  generalize a.e.l.length = ll at *
  by_cases h15 : f = 0
  · subst h15
    by_cases h16 : r = 0
    · subst h16
      have B0 := hide (below_new w (.cells #[.int .i64 0, .int .i64 0, .int .i64 k, .int .i64 n, .string s, .slice b ll cap] 33))
      have V : nonV 0 0 q = q := by simp [nonV, *]
      rw [V]
      clear V
      go_enter Tryd.func89, Tryd.ntmps89
      go_wp2_with (go_at_call 40; refine (unhide Q _).mono ?_; rintro e w1 ⟨rfl, hb1⟩)
      go_ret
      exact ⟨rfl, (unhide B0).trans (hb1.mono (unhide B0).size)⟩
    have h16f : (r == 0) = false := beq_eq_false_iff_ne.2 h16
    have B0 := hide (below_new w (.cells #[.int .i64 0, .int .i64 r, .int .i64 k, .int .i64 n, .string s, .slice b ll cap] 33))
    have V : nonV 0 r q = false := by simp [nonV, *]
    rw [V]
    clear V
    go_enter Tryd.func89, Tryd.ntmps89
    go_wp2_with (go_at_call 40; refine (unhide Q _).mono ?_; rintro e w1 ⟨rfl, hb1⟩)
    go_ret
    exact ⟨rfl, unhide B0⟩
  have h15f : (f == 0) = false := beq_eq_false_iff_ne.2 h15
  have B0 := hide (below_new w (.cells #[.int .i64 f, .int .i64 r, .int .i64 k, .int .i64 n, .string s, .slice b ll cap] 33))
  have V : nonV f r q = false := by simp [nonV, *]
  rw [V]
  clear V
  go_enter Tryd.func89, Tryd.ntmps89
  go_wp2_with (go_at_call 40; refine (unhide Q _).mono ?_; rintro e w1 ⟨rfl, hb1⟩)
  go_ret
  exact ⟨rfl, unhide B0⟩
/-- What plainOf answers. -/
def PlnR (e : Ex) (w : World) (r : Ending) (w' : World) : Prop := ∃ v, r = .returned (.tuple #[v, .bool (okF 6 true e)]) ∧ (IfV v ∧ (okF 6 true e = true → v = tv e)) ∧ Below w.heap.size w w'
theorem plnR_of {e : Ex} {w : World} {r : Ending} {w' : World} {v tve : Value} {q : Bool} (ht : tv e = tve) (h : okF 6 true e = q) (hr : r = .returned (.tuple #[v, .bool q])) (hv : IfV v ∧ (q = true → v = tve)) (hb : Below w.heap.size w w') : PlnR e w r w' := ⟨v, by rw [h]; exact hr, ⟨hv.1, fun x => (hv.2 (h.symm.trans x)).trans ht.symm⟩, hb⟩
set_option maxHeartbeats 1000000 in
theorem plnO_any (e : Ex) (b : Option Addr) (cap : Nat) (w : World) (hr : RdX w 0 e b) (hz : e.sz ≤ 1048576) (ht : TabK w) : Calls Tryd.prog 41 #[.agg (e.cs b cap)] w (PlnR e w) := by
  have B0 := below_new w (.cells (e.cs b cap) 31)
  have HH := hide (term_all 6 (by omega) e b cap _ (hr.later B0) hz (ht.next B0))
  have HB := hide B0
  have IP := hide (fun w1 h => isp_all 6 e w1 h)
  have NP := hide (plain_not (d := 6) (e := e))
  clear hr B0 ht
  unfold TermR at HH
  obtain ⟨t, x, e1⟩ := tv_if e
  have FN := hide (fun r w' v q (h : okF 6 true e = q) => plnR_of (w := w) (r := r) (w' := w') (v := v) e1 h)
  rw [e1] at HH IP
  clear e1
  generalize PlnR e w = R at *
  generalize okF 6 false e = q at *
  generalize okF 6 true e = q2 at *
  unfold Ex.cs at HH HB ⊢
  generalize e.l.length = ll at *
  go_enter Tryd.func41, Tryd.ntmps41
  go_wp2_with fail
  refine (unhide HH).mono ?_
  rintro r w1 ⟨v, rfl, hv, hb1⟩
  have BB := hide ((unhide HB).trans (hb1.mono (unhide HB).size))
  have HI := hide hv.1
  cases q with
  | false =>
    have F2 := hide (fun r w' v => unhide FN r w' v false (unhide NP rfl))
    clear hb1 HH HB hv IP NP FN
    go_wp2
    (try go_ret2)
    exact unhide F2 _ _ _ rfl ⟨unhide HI, fun h => by cases h⟩ (unhide BB)
  | true =>
    have hve := hv.2 rfl
    subst hve
    have I2 := hide (unhide IP w1 rfl)
    have F2 := hide (fun r w' v => unhide FN r w' v q2 rfl)
    clear hb1 HH HB hv IP NP FN
    go_wp2_with (go_at_call 65; refine (unhide I2).mono ?_; rintro r w2 ⟨rfl, hb2⟩)
    (try go_ret2)
    exact unhide F2 _ _ _ rfl ⟨unhide HI, fun _ => rfl⟩ ((unhide BB).trans (hb2.mono (unhide BB).size))
/-- Whether one byte stands in a text. -/
def cntB (s : ByteArray) (c : UInt8) : Bool := decide (0 ≤ Lib.indexByte s.data.toList c)
set_option maxHeartbeats 1000000 in
set_option maxRecDepth 100000 in
theorem ixbI (s : ByteArray) (c : Int) (w : World) : Calls Tryd.prog 92 #[.string s, .int .u8 c] w fun e w' => e = .returned (.int .i64 (Lib.indexByte s.data.toList c.toNat.toUInt8)) ∧ w' = w := by
  have RN : ∀ w : World, (Extern.BytealgIndexByte.indexByte #[.string s, .int .u8 c]).run Tryd.prog w = .ok (.int .i64 (Lib.indexByte s.data.toList c.toNat.toUInt8)) w := fun w => Lib.run_indexByteString s c w
  generalize Lib.indexByte s.data.toList c.toNat.toUInt8 = z at *
  go_enter Tryd.func92, Tryd.ntmps92
  go_wp2
  rw [run_callFunc_extern Tryd.func103 (by kernel_rfl) (by kernel_rfl) (by kernel_rfl) (e := Extern.BytealgIndexByte.indexByte) (by kernel_rfl), RN]
  simp only [Result.andThen]
  rw [Oper.upon_value]
  go_wp2
  go_ret
  exact ⟨rfl, rfl⟩
set_option maxHeartbeats 2000000 in
theorem ixsI (s : ByteArray) (c : UInt8) (w : World) : Calls Tryd.prog 79 #[.string s, .string ⟨#[c]⟩] w fun e w' => e = .returned (.int .i64 (Lib.indexByte s.data.toList c)) ∧ w' = w := by
  have IX := hide (fun w => ixbI s c.toNat w)
  have hc : ((c.toNat : Int)).toNat.toUInt8 = c := by simp
  rw [hc] at IX
  have Z := hide (show ([c] == s.toList) = true → Lib.indexByte s.data.toList c = 0 from fun h => by
    have e : s.data.toList = [c] := by rw [← Lib.toList_data]; exact (beq_iff_eq.1 h).symm
    rw [e]
    simp [Lib.indexByte])
  clear hc
  generalize Lib.indexByte s.data.toList c = z at *
  cases hq : ([c] == s.toList) with
  | true =>
    have Z0 := unhide Z hq
    subst Z0
    clear Z
    go_enter Tryd.func79, Tryd.ntmps79
    go_wp2
    go_ret
    exact ⟨rfl, rfl⟩
  | false =>
    clear Z
    go_enter Tryd.func79, Tryd.ntmps79
    go_wp2_with (go_at_call 92; refine (unhide IX _).mono ?_; rintro e w' ⟨rfl, hw'⟩; rw [hw']; clear hw' w')
    go_ret
    exact ⟨rfl, rfl⟩
set_option maxHeartbeats 1000000 in
theorem ixtI (s : ByteArray) (c : UInt8) (w : World) : Calls Tryd.prog 63 #[.string s, .string ⟨#[c]⟩] w fun e w' => e = .returned (.int .i64 (Lib.indexByte s.data.toList c)) ∧ w' = w := by
  have IX := hide (fun w => ixsI s c w)
  generalize Lib.indexByte s.data.toList c = z at *
  go_enter Tryd.func63, Tryd.ntmps63
  go_wp2_with (go_at_call 79; refine (unhide IX _).mono ?_; rintro e w' ⟨rfl, hw'⟩; rw [hw']; clear hw' w')
  go_ret
  exact ⟨rfl, rfl⟩
set_option maxHeartbeats 1000000 in
theorem cntI (s : ByteArray) (c : UInt8) (w : World) : Calls Tryd.prog 39 #[.string s, .string ⟨#[c]⟩] w fun e w' => e = .returned (.bool (cntB s c)) ∧ w' = w := by
  have IX := hide (fun w => ixtI s c w)
  unfold cntB
  generalize Lib.indexByte s.data.toList c = z at *
  go_enter Tryd.func39, Tryd.ntmps39
  go_wp2_with (go_at_call 63; refine (unhide IX _).mono ?_; rintro e w' ⟨rfl, hw'⟩; rw [hw']; clear hw' w')
  go_ret
  exact ⟨rfl, rfl⟩
/-- Texts of operands, by their forms. -/
def fmL : List ByteArray := [⟨#[82]⟩, ⟨#[40, 82, 41]⟩, ⟨#[40, 82, 41, 43]⟩, ⟨#[64, 40, 82, 41, 43]⟩, ⟨#[45, 40, 82, 41]⟩, ⟨#[64, 45, 40, 82, 41]⟩, ⟨#[69, 40, 82, 41]⟩, ⟨#[64, 69, 40, 82, 41]⟩, ⟨#[35, 69]⟩, ⟨#[64, 35, 69]⟩, ⟨#[69]⟩, ⟨#[64, 69]⟩]
def fmC : Array Value := (fmL.map Value.string).toArray
def TabF (w : World) : Prop := ∃ t fr, w.heap[0]? = some (.cells fmC t fr)
theorem TabF.lt {w : World} (h : TabF w) : 0 < w.heap.size := by obtain ⟨t, fr, h⟩ := h; exact (Array.getElem?_eq_some_iff.1 h).1
theorem TabF.later {w w' : World} {B : Nat} (h : TabF w) (hb : Below B w w') (hB : 0 < B) : TabF w' := by
  obtain ⟨t, fr, h⟩ := h
  exact ⟨t, fr, (hb.block _ hB).trans h⟩
theorem TabF.next {w w' : World} (h : TabF w) (hb : Below w.heap.size w w') : TabF w' := h.later hb h.lt
theorem TabF.at0 {w : World} (h : TabF w) : w.cell? ⟨0, 0, none⟩ = some (.string ⟨#[82]⟩) := by obtain ⟨t, fr, h⟩ := h; exact Lib.cell_of_heap h 0
theorem TabF.at1 {w : World} (h : TabF w) : w.cell? ⟨0, 1, none⟩ = some (.string ⟨#[40, 82, 41]⟩) := by obtain ⟨t, fr, h⟩ := h; exact Lib.cell_of_heap h 1
theorem TabF.at2 {w : World} (h : TabF w) : w.cell? ⟨0, 2, none⟩ = some (.string ⟨#[40, 82, 41, 43]⟩) := by obtain ⟨t, fr, h⟩ := h; exact Lib.cell_of_heap h 2
theorem TabF.at3 {w : World} (h : TabF w) : w.cell? ⟨0, 3, none⟩ = some (.string ⟨#[64, 40, 82, 41, 43]⟩) := by obtain ⟨t, fr, h⟩ := h; exact Lib.cell_of_heap h 3
theorem TabF.at4 {w : World} (h : TabF w) : w.cell? ⟨0, 4, none⟩ = some (.string ⟨#[45, 40, 82, 41]⟩) := by obtain ⟨t, fr, h⟩ := h; exact Lib.cell_of_heap h 4
theorem TabF.at5 {w : World} (h : TabF w) : w.cell? ⟨0, 5, none⟩ = some (.string ⟨#[64, 45, 40, 82, 41]⟩) := by obtain ⟨t, fr, h⟩ := h; exact Lib.cell_of_heap h 5
theorem TabF.at6 {w : World} (h : TabF w) : w.cell? ⟨0, 6, none⟩ = some (.string ⟨#[69, 40, 82, 41]⟩) := by obtain ⟨t, fr, h⟩ := h; exact Lib.cell_of_heap h 6
theorem TabF.at7 {w : World} (h : TabF w) : w.cell? ⟨0, 7, none⟩ = some (.string ⟨#[64, 69, 40, 82, 41]⟩) := by obtain ⟨t, fr, h⟩ := h; exact Lib.cell_of_heap h 7
theorem TabF.at8 {w : World} (h : TabF w) : w.cell? ⟨0, 8, none⟩ = some (.string ⟨#[35, 69]⟩) := by obtain ⟨t, fr, h⟩ := h; exact Lib.cell_of_heap h 8
theorem TabF.at9 {w : World} (h : TabF w) : w.cell? ⟨0, 9, none⟩ = some (.string ⟨#[64, 35, 69]⟩) := by obtain ⟨t, fr, h⟩ := h; exact Lib.cell_of_heap h 9
theorem TabF.at10 {w : World} (h : TabF w) : w.cell? ⟨0, 10, none⟩ = some (.string ⟨#[69]⟩) := by obtain ⟨t, fr, h⟩ := h; exact Lib.cell_of_heap h 10
theorem TabF.at11 {w : World} (h : TabF w) : w.cell? ⟨0, 11, none⟩ = some (.string ⟨#[64, 69]⟩) := by obtain ⟨t, fr, h⟩ := h; exact Lib.cell_of_heap h 11
end Go.Proofs.YtmhcbehplhfgfaaDoor

namespace Go.Proofs.YtmhcbehplhfgfaaDoor
open Go.ChangeShapes Go.WideShapes Go.ChangeAt Go.RowKit
set_option linter.unusedVariables false
set_option maxRecDepth 8000
set_option linter.unusedSimpArgs false

set_option maxHeartbeats 4000000 in
theorem plnS_any (l : List Ex) (b : Option Addr) (cap : Nat) (w : World) (hr : RdX w 0 ⟨0, 0, E0, l⟩ b) (hz : l.length ≤ 1048576) (hp : ∀ i, i < l.length → (xAt l i).sz ≤ 1048576) : Calls Tryd.prog 29 #[.slice b l.length cap] w fun r w' => r = .returned (.bool (l.all (okF 6 true))) ∧ Below w.heap.size w w' := by
  rw [RdX_eq] at hr
  obtain ⟨len, hl⟩ : ∃ len, l.length = len := ⟨_, rfl⟩
  rw [hl] at hz hp ⊢
  have ne := Sub.ne w.heap.size w
  have HZ := hide (Nat.le_refl w.heap.size)
  have HB := hide (fun y : Sub w.heap.size w => y.h)
  obtain ⟨T, hT⟩ : ∃ T, (l.all (okF 6 true)) = T := ⟨_, rfl⟩
  have HT := hide hT
  rw [hT]
  clear hT
  go_enter Tryd.func29, Tryd.ntmps29
  go_wp2
  go_loopw [3] (fun i wr => ∃ (j : Nat) (z : Sub w.heap.size w), j ≤ len ∧ i = .int .i64 j ∧ (l.take j).all (okF 6 true) = true ∧ wr = z.w) (fun i _ => len - (intOf i).toNat)
  case atStart => exact ⟨0, ⟨w, Below.refl _ _⟩, Nat.zero_le _, rfl, rfl, rfl⟩
  case round =>
    obtain ⟨j, z, hj, rfl, hdone, rfl⟩ := hrel
    have HD := hide hdone
    clear hdone
    by_cases hlt : j < len
    · rcases hr with h0 | ⟨p1, po, hb1, _, hp1, hpc⟩
      · have h0 : l = [] := h0
        rw [h0] at hl; simp at hl; omega
      subst hb1
      obtain ⟨e0, e1, e2, pc, pp, e3, e4⟩ := hpc j (show j < l.length by omega)
      have d0 : ∀ y : Sub w.heap.size w, y.w.cell? ⟨p1, po + j * 4, none⟩ = some (.int .i64 (xAt l j).k) := fun y => (y.h.cell (p := ⟨p1, _, none⟩) hp1).trans e0
      have d1 : ∀ y : Sub w.heap.size w, y.w.cell? ⟨p1, po + j * 4 + 1, none⟩ = some (.int .i64 (xAt l j).n) := fun y => (y.h.cell (p := ⟨p1, _, none⟩) hp1).trans e1
      have d2 : ∀ y : Sub w.heap.size w, y.w.cell? ⟨p1, po + j * 4 + 2, none⟩ = some (.string (xAt l j).s) := fun y => (y.h.cell (p := ⟨p1, _, none⟩) hp1).trans e2
      have d3 : ∀ y : Sub w.heap.size w, y.w.cell? ⟨p1, po + j * 4 + 3, none⟩ = some (.slice pc (xAt l j).l.length pp) := fun y => (y.h.cell (p := ⟨p1, _, none⟩) hp1).trans e3
      have HE := hide (fun y : Sub w.heap.size w => plainS_any (xAt l j) pc pp y.w ((show RdX w 0 (xAt l j) pc from e4).later y.h) (hp j hlt))
      have AT := hide (all_take l (okF 6 true) j (by omega))
      have AP := hide (fun h => all_part (f := (okF 6 true)) (show j < l.length by omega) h)
      clear e0 e1 e2 e3 e4 hpc hp
      unfold Ex.cs at HE
      generalize okF 6 true (xAt l j) = q at *
      generalize (xAt l j).s = ss at *
      generalize (xAt l j).k = kk at *
      generalize (xAt l j).n = nn at *
      generalize (xAt l j).l.length = ll at *
      cases q with
      | false =>
        have EF := hide ((unhide HT).symm.trans (unhide AP rfl))
        go_wp2_with (go_at_call 21; refine (Sub.call (unhide HZ) (unhide HE _)).mono ?_; rintro r _ ⟨rfl, z2, rfl⟩)
        go_ret
        exact ⟨by rw [unhide EF]; rfl, unhide HB _⟩
      | true =>
        go_wp2_with (go_at_call 21; refine (Sub.call (unhide HZ) (unhide HE _)).mono ?_; rintro r _ ⟨rfl, z2, rfl⟩)
        go_roundw
        case rel => exact ⟨j + 1, z2, by omega, by go_num, by rw [unhide AT, unhide HD]; rfl, rfl⟩
        case measure => simp [intOf]; omega
    · obtain rfl : j = len := by omega
      have EF := hide ((show l.all (okF 6 true) = (l.take j).all (okF 6 true) by rw [← hl, List.take_length]).trans (unhide HD))
      have EF := hide ((unhide HT).symm.trans (unhide EF))
      go_wp2
      go_ret
      exact ⟨by rw [unhide EF]; rfl, unhide HB _⟩
/-- A term that is a name. -/
def nmF (e : Ex) : Bool := okF 6 true e && e.k == 2
theorem nmF_is (e : Ex) : nmF e = (okF 6 true e && e.k == 2) := rfl
def nmsX (l : List Ex) : Bool := l.all nmF && inB l.length 1 6
set_option maxHeartbeats 4000000 in
theorem nmsS_any (l : List Ex) (b : Option Addr) (cap : Nat) (w : World) (hr : RdX w 0 ⟨0, 0, E0, l⟩ b) (hz : l.length ≤ 1048576) (hp : ∀ i, i < l.length → (xAt l i).sz ≤ 1048576) : Calls Tryd.prog 30 #[.slice b l.length cap] w fun r w' => r = .returned (.bool (nmsX l)) ∧ Below w.heap.size w w' := by
  rw [RdX_eq] at hr
  obtain ⟨len, hl⟩ : ∃ len, l.length = len := ⟨_, rfl⟩
  unfold nmsX
  rw [hl] at hz hp ⊢
  have ne := Sub.ne w.heap.size w
  have HZ := hide (Nat.le_refl w.heap.size)
  have HB := hide (fun y : Sub w.heap.size w => y.h)
  obtain ⟨T, hT⟩ : ∃ T, (l.all nmF && inB len 1 6) = T := ⟨_, rfl⟩
  have HT := hide hT
  rw [hT]
  clear hT
  go_enter Tryd.func30, Tryd.ntmps30
  go_wp2
  go_loopw [3] (fun i wr => ∃ (j : Nat) (z : Sub w.heap.size w), j ≤ len ∧ i = .int .i64 j ∧ (l.take j).all nmF = true ∧ wr = z.w) (fun i _ => len - (intOf i).toNat)
  case atStart => exact ⟨0, ⟨w, Below.refl _ _⟩, Nat.zero_le _, rfl, rfl, rfl⟩
  case round =>
    obtain ⟨j, z, hj, rfl, hdone, rfl⟩ := hrel
    have HD := hide hdone
    clear hdone
    by_cases hlt : j < len
    · rcases hr with h0 | ⟨p1, po, hb1, _, hp1, hpc⟩
      · have h0 : l = [] := h0
        rw [h0] at hl; simp at hl; omega
      subst hb1
      obtain ⟨e0, e1, e2, pc, pp, e3, e4⟩ := hpc j (show j < l.length by omega)
      have d0 : ∀ y : Sub w.heap.size w, y.w.cell? ⟨p1, po + j * 4, none⟩ = some (.int .i64 (xAt l j).k) := fun y => (y.h.cell (p := ⟨p1, _, none⟩) hp1).trans e0
      have d1 : ∀ y : Sub w.heap.size w, y.w.cell? ⟨p1, po + j * 4 + 1, none⟩ = some (.int .i64 (xAt l j).n) := fun y => (y.h.cell (p := ⟨p1, _, none⟩) hp1).trans e1
      have d2 : ∀ y : Sub w.heap.size w, y.w.cell? ⟨p1, po + j * 4 + 2, none⟩ = some (.string (xAt l j).s) := fun y => (y.h.cell (p := ⟨p1, _, none⟩) hp1).trans e2
      have d3 : ∀ y : Sub w.heap.size w, y.w.cell? ⟨p1, po + j * 4 + 3, none⟩ = some (.slice pc (xAt l j).l.length pp) := fun y => (y.h.cell (p := ⟨p1, _, none⟩) hp1).trans e3
      have HE := hide (fun y : Sub w.heap.size w => plainS_any (xAt l j) pc pp y.w ((show RdX w 0 (xAt l j) pc from e4).later y.h) (hp j hlt))
      have AT := hide (all_take l nmF j (by omega))
      have AP := hide (fun h => all_part (f := nmF) (show j < l.length by omega) h)
      clear e0 e1 e2 e3 e4 hpc hp
      unfold Ex.cs at HE
      rw [nmF_is] at AT AP
      generalize okF 6 true (xAt l j) = q at *
      generalize (xAt l j).s = ss at *
      generalize (xAt l j).k = kk at *
      generalize (xAt l j).n = nn at *
      generalize (xAt l j).l.length = ll at *
      cases q with
      | false =>
        have EF := hide ((unhide HT).symm.trans (show (l.all nmF && inB len 1 6) = false by rw [unhide AP rfl]; rfl))
        go_wp2_with (go_at_call 21; refine (Sub.call (unhide HZ) (unhide HE _)).mono ?_; rintro r _ ⟨rfl, z2, rfl⟩)
        go_ret
        exact ⟨by rw [unhide EF]; rfl, unhide HB _⟩
      | true =>
        by_cases hk : kk = 2
        · subst hk
          go_wp2_with (go_at_call 21; refine (Sub.call (unhide HZ) (unhide HE _)).mono ?_; rintro r _ ⟨rfl, z2, rfl⟩)
          go_roundw
          case rel => exact ⟨j + 1, z2, by omega, by go_num, by rw [unhide AT, unhide HD]; rfl, rfl⟩
          case measure => simp [intOf]; omega
        have hkf : (kk == 2) = false := beq_eq_false_iff_ne.2 hk
        have EF := hide ((unhide HT).symm.trans (show (l.all nmF && inB len 1 6) = false by rw [unhide AP (by rw [hkf]; rfl)]; rfl))
        go_wp2_with (go_at_call 21; refine (Sub.call (unhide HZ) (unhide HE _)).mono ?_; rintro r _ ⟨rfl, z2, rfl⟩)
        go_ret
        exact ⟨by rw [unhide EF]; rfl, unhide HB _⟩
    · obtain rfl : j = len := by omega
      have EF := hide ((show l.all nmF = (l.take j).all nmF by rw [← hl, List.take_length]).trans (unhide HD))
      have EF := hide ((unhide HT).symm.trans (show (l.all nmF && inB j 1 6) = inB j 1 6 by rw [unhide EF]; rfl))
      go_wp2_with (go_at_call 19; refine (in_any _ _ _ _).mono ?_; rintro e w' ⟨rfl, hw'⟩; rw [hw']; clear hw' w')
      go_ret
      exact ⟨by rw [unhide EF]; rfl, unhide HB _⟩
end Go.Proofs.YtmhcbehplhfgfaaDoor

namespace Go.Proofs.YtmhcbehplhfgfaaDoor
open Go.ChangeShapes Go.WideShapes Go.ChangeAt Go.RowKit
set_option linter.unusedVariables false
set_option maxRecDepth 8000
set_option linter.unusedSimpArgs false

/-- What a line's lists hold, and how much. -/
structure RdL (w : World) (x : Ln) (p : La) : Prop where
  a : RdX w 0 x.src.e p.b1
  b : RdX w 0 x.dst.e p.b2
  l : RdX w 0 ⟨0, 0, E0, x.l⟩ p.b3
theorem RdL.later {w w' : World} {x : Ln} {p : La} (h : RdL w x p) (hb : Below w.heap.size w w') : RdL w' x p := ⟨h.a.later hb, h.b.later hb, h.l.later hb⟩
structure SzL (x : Ln) : Prop where
  s : x.s.size ≤ 1048576
  a : x.src.e.sz ≤ 1048576
  b : x.dst.e.sz ≤ 1048576
  l : x.l.length ≤ 1048576
  p : ∀ i, i < x.l.length → (xAt x.l i).sz ≤ 1048576
theorem box17 (w : World) (cs : Array Value) (ty : TypeId) (i : Nat) (v : Value) (h : cs[i]? = some v) : (w.alloc (.cells cs ty)).cell? ⟨w.heap.size, i, none⟩ = some v := by
  have h0 : (w.alloc (.cells cs ty)).heap[w.heap.size]? = some (.cells cs ty (0, 0)) := Array.getElem?_push_size
  rw [Lib.cell_of_heap h0]
  exact h
def insV (op : Int) (n1 n2 a1 a2 : Bool) (n : Int) (ll : Nat) (pl : Bool) : Bool :=
  if inB op 1 6 = true then a1 && (a2 && (n == 0 && ll == 0))
  else if inB op 7 14 = true then n1 && (a2 && (n == 0 && ll == 0))
  else if op == 15 then n1 && (a2 && (inB n 0 7 && ll == 0))
  else if !n1 || !n2 then false
  else if op == 16 then inB n 0 7 && ll == 0
  else if op == 22 then n == 0 && ll == 0
  else if inB op 17 21 || op == 23 then n == 0 && (ll == 1 && pl)
  else false
/-- An instruction's line that is right. -/
def insX (x : Ln) : Bool := insV x.op (nonX x.src) (nonX x.dst) (agX x.src) (agX x.dst) x.n x.l.length (x.l.all (okF 6 true))
set_option maxHeartbeats 16000000 in
theorem insS_any (x : Ln) (p : La) (w : World) (hr : RdL w x p) (hz : SzL x) : Calls Tryd.prog 26 #[.agg (x.cs p)] w fun r w' => r = .returned (.bool (insX x)) ∧ Below w.heap.size w w' := by
  obtain ⟨hza, hzb, hzc, hzd, hze⟩ := hz
  have s1 := sz_is x.src.e
  have s2 := sz_is x.dst.e
  have hbW := below_new w (.cells (x.cs p) 42)
  obtain ⟨W, hW⟩ : ∃ W, w.alloc (.cells (x.cs p) 42) = W := ⟨_, rfl⟩
  have hrW := hr.later hbW
  have xl : w.heap.size < W.heap.size := by rw [← hW]; simp
  have xc : ∀ (i : Nat) (v : Value), (x.cs p)[i]? = some v → ∀ y : Sub W.heap.size W, y.w.cell? ⟨w.heap.size, i, none⟩ = some v := fun i v h y => (y.h.cell (p := ⟨w.heap.size, i, none⟩) xl).trans (by rw [← hW]; exact box17 w _ _ i v h)
  rw [hW] at hbW hrW
  obtain ⟨z, hz0⟩ : ∃ z : Sub W.heap.size W, w.alloc (.cells (x.cs p) 42) = z.w := ⟨⟨W, Below.refl _ _⟩, hW⟩
  have ne := Sub.ne W.heap.size W
  have HZ := hide (Nat.le_refl W.heap.size)
  have HB := hide (fun y : Sub W.heap.size W => hbW.trans (y.h.mono hbW.size))
  have N1 := hide (fun y : Sub W.heap.size W => nonS_any x.src (by omega) (by omega) p.b1 p.c1 y.w)
  have N2 := hide (fun y : Sub W.heap.size W => nonS_any x.dst (by omega) (by omega) p.b2 p.c2 y.w)
  have PL := hide (fun y : Sub W.heap.size W => plnS_any x.l p.b3 p.c3 y.w (hrW.l.later y.h) hzd hze)
  have A1 := hide (fun y : Sub W.heap.size W => agS_any x.src p.b1 p.c1 y.w (hrW.a.later y.h) hzb)
  have A2 := hide (fun y : Sub W.heap.size W => agS_any x.dst p.b2 p.c2 y.w (hrW.b.later y.h) hzc)
  rw [show insX x = insV x.op (nonX x.src) (nonX x.dst) (agX x.src) (agX x.dst) x.n x.l.length (x.l.all (okF 6 true)) from rfl]
  unfold Ln.cs at hz0 xc ⊢
  unfold Ag.cs at N1 N2 A1 A2
  generalize nonX x.src = n1 at *
  generalize nonX x.dst = n2 at *
  generalize agX x.src = a1 at *
  generalize agX x.dst = a2 at *
  generalize x.l.all (okF 6 true) = pl at *
  clear hr hrW hza hzb hzc hzd hze s1 s2 xl hW
  generalize x.src.f = sf at *
  generalize x.src.r = sr at *
  generalize x.src.e.k = sk at *
  generalize x.src.e.n = sn at *
  generalize x.src.e.s = ss at *
  generalize x.src.e.l.length = sl at *
  generalize x.dst.f = df at *
  generalize x.dst.r = dr at *
  generalize x.dst.e.k = dk at *
  generalize x.dst.e.n = dn at *
  generalize x.dst.e.s = ds at *
  generalize x.dst.e.l.length = dl at *
  generalize x.k = k at *
  generalize x.s = s at *
  generalize x.op = op at *
  generalize x.n = n at *
  generalize x.l.length = ll at *
  generalize p.b1 = b1 at *
  generalize p.c1 = c1 at *
  generalize p.b2 = b2 at *
  generalize p.c2 = c2 at *
  generalize p.b3 = b3 at *
  generalize p.c3 = c3 at *
  cases h1 : inB op 1 6 with
  | true =>
    cases a1 with
    | true =>
      cases a2 with
      | true =>
        by_cases h4 : n = 0
        · subst h4
          by_cases h5 : ll = 0
          · subst h5
            have V : insV op n1 n2 true true 0 0 pl = true := by simp [insV, *]
            rw [V]
            clear V
            have E0 := xc 0 (.int .i64 k) rfl
            have E1 := xc 1 (.string s) rfl
            have E2 := xc 2 (.int .i64 op) rfl
            have E3 := xc 3 (.int .i64 sf) rfl
            have E4 := xc 4 (.int .i64 sr) rfl
            have E5 := xc 5 (.int .i64 sk) rfl
            have E6 := xc 6 (.int .i64 sn) rfl
            have E7 := xc 7 (.string ss) rfl
            have E8 := xc 8 (.slice b1 sl c1) rfl
            have E9 := xc 9 (.int .i64 df) rfl
            have E10 := xc 10 (.int .i64 dr) rfl
            have E11 := xc 11 (.int .i64 dk) rfl
            have E12 := xc 12 (.int .i64 dn) rfl
            have E13 := xc 13 (.string ds) rfl
            have E14 := xc 14 (.slice b2 dl c2) rfl
            have E15 := xc 15 (.int .i64 0) rfl
            have E16 := xc 16 (.slice b3 0 c3) rfl
            clear xc
            go_enter Tryd.func26, Tryd.ntmps26
            go_wp2_with (first | (go_at_call 19; refine (in_any _ _ _ _).mono ?_; rintro e w' ⟨rfl, hw'⟩; rw [hw']; clear hw' w') | (go_at_call_of 27 sf; refine (Sub.call (unhide HZ) (unhide N1 _)).mono ?_; rintro r _ ⟨rfl, z2, rfl⟩) | (go_at_call_of 27 df; refine (Sub.call (unhide HZ) (unhide N2 _)).mono ?_; rintro r _ ⟨rfl, z2, rfl⟩) | (go_at_call_of 7 sf; refine (Sub.call (unhide HZ) (unhide A1 _)).mono ?_; rintro r _ ⟨rfl, z2, rfl⟩) | (go_at_call_of 7 df; refine (Sub.call (unhide HZ) (unhide A2 _)).mono ?_; rintro r _ ⟨rfl, z2, rfl⟩) | (go_at_call 29; refine (Sub.call (unhide HZ) (unhide PL _)).mono ?_; rintro r _ ⟨rfl, z2, rfl⟩))
            go_ret
            exact ⟨rfl, unhide HB _⟩
          have h5f : (ll == 0) = false := beq_eq_false_iff_ne.2 h5
          have h5g : ((ll : Int) == 0) = false := beq_eq_false_iff_ne.2 (by omega)
          have V : insV op n1 n2 true true 0 ll pl = false := by simp [insV, *]
          rw [V]
          clear V
          have E0 := xc 0 (.int .i64 k) rfl
          have E1 := xc 1 (.string s) rfl
          have E2 := xc 2 (.int .i64 op) rfl
          have E3 := xc 3 (.int .i64 sf) rfl
          have E4 := xc 4 (.int .i64 sr) rfl
          have E5 := xc 5 (.int .i64 sk) rfl
          have E6 := xc 6 (.int .i64 sn) rfl
          have E7 := xc 7 (.string ss) rfl
          have E8 := xc 8 (.slice b1 sl c1) rfl
          have E9 := xc 9 (.int .i64 df) rfl
          have E10 := xc 10 (.int .i64 dr) rfl
          have E11 := xc 11 (.int .i64 dk) rfl
          have E12 := xc 12 (.int .i64 dn) rfl
          have E13 := xc 13 (.string ds) rfl
          have E14 := xc 14 (.slice b2 dl c2) rfl
          have E15 := xc 15 (.int .i64 0) rfl
          have E16 := xc 16 (.slice b3 ll c3) rfl
          clear xc
          go_enter Tryd.func26, Tryd.ntmps26
          go_wp2_with (first | (go_at_call 19; refine (in_any _ _ _ _).mono ?_; rintro e w' ⟨rfl, hw'⟩; rw [hw']; clear hw' w') | (go_at_call_of 27 sf; refine (Sub.call (unhide HZ) (unhide N1 _)).mono ?_; rintro r _ ⟨rfl, z2, rfl⟩) | (go_at_call_of 27 df; refine (Sub.call (unhide HZ) (unhide N2 _)).mono ?_; rintro r _ ⟨rfl, z2, rfl⟩) | (go_at_call_of 7 sf; refine (Sub.call (unhide HZ) (unhide A1 _)).mono ?_; rintro r _ ⟨rfl, z2, rfl⟩) | (go_at_call_of 7 df; refine (Sub.call (unhide HZ) (unhide A2 _)).mono ?_; rintro r _ ⟨rfl, z2, rfl⟩) | (go_at_call 29; refine (Sub.call (unhide HZ) (unhide PL _)).mono ?_; rintro r _ ⟨rfl, z2, rfl⟩))
          go_ret
          exact ⟨rfl, unhide HB _⟩
        have h4f : (n == 0) = false := beq_eq_false_iff_ne.2 h4
        have V : insV op n1 n2 true true n ll pl = false := by simp [insV, *]
        rw [V]
        clear V
        have E0 := xc 0 (.int .i64 k) rfl
        have E1 := xc 1 (.string s) rfl
        have E2 := xc 2 (.int .i64 op) rfl
        have E3 := xc 3 (.int .i64 sf) rfl
        have E4 := xc 4 (.int .i64 sr) rfl
        have E5 := xc 5 (.int .i64 sk) rfl
        have E6 := xc 6 (.int .i64 sn) rfl
        have E7 := xc 7 (.string ss) rfl
        have E8 := xc 8 (.slice b1 sl c1) rfl
        have E9 := xc 9 (.int .i64 df) rfl
        have E10 := xc 10 (.int .i64 dr) rfl
        have E11 := xc 11 (.int .i64 dk) rfl
        have E12 := xc 12 (.int .i64 dn) rfl
        have E13 := xc 13 (.string ds) rfl
        have E14 := xc 14 (.slice b2 dl c2) rfl
        have E15 := xc 15 (.int .i64 n) rfl
        have E16 := xc 16 (.slice b3 ll c3) rfl
        clear xc
        go_enter Tryd.func26, Tryd.ntmps26
        go_wp2_with (first | (go_at_call 19; refine (in_any _ _ _ _).mono ?_; rintro e w' ⟨rfl, hw'⟩; rw [hw']; clear hw' w') | (go_at_call_of 27 sf; refine (Sub.call (unhide HZ) (unhide N1 _)).mono ?_; rintro r _ ⟨rfl, z2, rfl⟩) | (go_at_call_of 27 df; refine (Sub.call (unhide HZ) (unhide N2 _)).mono ?_; rintro r _ ⟨rfl, z2, rfl⟩) | (go_at_call_of 7 sf; refine (Sub.call (unhide HZ) (unhide A1 _)).mono ?_; rintro r _ ⟨rfl, z2, rfl⟩) | (go_at_call_of 7 df; refine (Sub.call (unhide HZ) (unhide A2 _)).mono ?_; rintro r _ ⟨rfl, z2, rfl⟩) | (go_at_call 29; refine (Sub.call (unhide HZ) (unhide PL _)).mono ?_; rintro r _ ⟨rfl, z2, rfl⟩))
        go_ret
        exact ⟨rfl, unhide HB _⟩
      | false =>
        have V : insV op n1 n2 true false n ll pl = false := by simp [insV, *]
        rw [V]
        clear V
        have E0 := xc 0 (.int .i64 k) rfl
        have E1 := xc 1 (.string s) rfl
        have E2 := xc 2 (.int .i64 op) rfl
        have E3 := xc 3 (.int .i64 sf) rfl
        have E4 := xc 4 (.int .i64 sr) rfl
        have E5 := xc 5 (.int .i64 sk) rfl
        have E6 := xc 6 (.int .i64 sn) rfl
        have E7 := xc 7 (.string ss) rfl
        have E8 := xc 8 (.slice b1 sl c1) rfl
        have E9 := xc 9 (.int .i64 df) rfl
        have E10 := xc 10 (.int .i64 dr) rfl
        have E11 := xc 11 (.int .i64 dk) rfl
        have E12 := xc 12 (.int .i64 dn) rfl
        have E13 := xc 13 (.string ds) rfl
        have E14 := xc 14 (.slice b2 dl c2) rfl
        have E15 := xc 15 (.int .i64 n) rfl
        have E16 := xc 16 (.slice b3 ll c3) rfl
        clear xc
        go_enter Tryd.func26, Tryd.ntmps26
        go_wp2_with (first | (go_at_call 19; refine (in_any _ _ _ _).mono ?_; rintro e w' ⟨rfl, hw'⟩; rw [hw']; clear hw' w') | (go_at_call_of 27 sf; refine (Sub.call (unhide HZ) (unhide N1 _)).mono ?_; rintro r _ ⟨rfl, z2, rfl⟩) | (go_at_call_of 27 df; refine (Sub.call (unhide HZ) (unhide N2 _)).mono ?_; rintro r _ ⟨rfl, z2, rfl⟩) | (go_at_call_of 7 sf; refine (Sub.call (unhide HZ) (unhide A1 _)).mono ?_; rintro r _ ⟨rfl, z2, rfl⟩) | (go_at_call_of 7 df; refine (Sub.call (unhide HZ) (unhide A2 _)).mono ?_; rintro r _ ⟨rfl, z2, rfl⟩) | (go_at_call 29; refine (Sub.call (unhide HZ) (unhide PL _)).mono ?_; rintro r _ ⟨rfl, z2, rfl⟩))
        go_ret
        exact ⟨rfl, unhide HB _⟩
    | false =>
      have V : insV op n1 n2 false a2 n ll pl = false := by simp [insV, *]
      rw [V]
      clear V
      have E0 := xc 0 (.int .i64 k) rfl
      have E1 := xc 1 (.string s) rfl
      have E2 := xc 2 (.int .i64 op) rfl
      have E3 := xc 3 (.int .i64 sf) rfl
      have E4 := xc 4 (.int .i64 sr) rfl
      have E5 := xc 5 (.int .i64 sk) rfl
      have E6 := xc 6 (.int .i64 sn) rfl
      have E7 := xc 7 (.string ss) rfl
      have E8 := xc 8 (.slice b1 sl c1) rfl
      have E9 := xc 9 (.int .i64 df) rfl
      have E10 := xc 10 (.int .i64 dr) rfl
      have E11 := xc 11 (.int .i64 dk) rfl
      have E12 := xc 12 (.int .i64 dn) rfl
      have E13 := xc 13 (.string ds) rfl
      have E14 := xc 14 (.slice b2 dl c2) rfl
      have E15 := xc 15 (.int .i64 n) rfl
      have E16 := xc 16 (.slice b3 ll c3) rfl
      clear xc
      go_enter Tryd.func26, Tryd.ntmps26
      go_wp2_with (first | (go_at_call 19; refine (in_any _ _ _ _).mono ?_; rintro e w' ⟨rfl, hw'⟩; rw [hw']; clear hw' w') | (go_at_call_of 27 sf; refine (Sub.call (unhide HZ) (unhide N1 _)).mono ?_; rintro r _ ⟨rfl, z2, rfl⟩) | (go_at_call_of 27 df; refine (Sub.call (unhide HZ) (unhide N2 _)).mono ?_; rintro r _ ⟨rfl, z2, rfl⟩) | (go_at_call_of 7 sf; refine (Sub.call (unhide HZ) (unhide A1 _)).mono ?_; rintro r _ ⟨rfl, z2, rfl⟩) | (go_at_call_of 7 df; refine (Sub.call (unhide HZ) (unhide A2 _)).mono ?_; rintro r _ ⟨rfl, z2, rfl⟩) | (go_at_call 29; refine (Sub.call (unhide HZ) (unhide PL _)).mono ?_; rintro r _ ⟨rfl, z2, rfl⟩))
      go_ret
      exact ⟨rfl, unhide HB _⟩
  | false =>
    cases h16 : inB op 7 14 with
    | true =>
      cases n1 with
      | true =>
        cases a2 with
        | true =>
          by_cases h19 : n = 0
          · subst h19
            by_cases h20 : ll = 0
            · subst h20
              have V : insV op true n2 a1 true 0 0 pl = true := by simp [insV, *]
              rw [V]
              clear V
              have E0 := xc 0 (.int .i64 k) rfl
              have E1 := xc 1 (.string s) rfl
              have E2 := xc 2 (.int .i64 op) rfl
              have E3 := xc 3 (.int .i64 sf) rfl
              have E4 := xc 4 (.int .i64 sr) rfl
              have E5 := xc 5 (.int .i64 sk) rfl
              have E6 := xc 6 (.int .i64 sn) rfl
              have E7 := xc 7 (.string ss) rfl
              have E8 := xc 8 (.slice b1 sl c1) rfl
              have E9 := xc 9 (.int .i64 df) rfl
              have E10 := xc 10 (.int .i64 dr) rfl
              have E11 := xc 11 (.int .i64 dk) rfl
              have E12 := xc 12 (.int .i64 dn) rfl
              have E13 := xc 13 (.string ds) rfl
              have E14 := xc 14 (.slice b2 dl c2) rfl
              have E15 := xc 15 (.int .i64 0) rfl
              have E16 := xc 16 (.slice b3 0 c3) rfl
              clear xc
              go_enter Tryd.func26, Tryd.ntmps26
              go_wp2_with (first | (go_at_call 19; refine (in_any _ _ _ _).mono ?_; rintro e w' ⟨rfl, hw'⟩; rw [hw']; clear hw' w') | (go_at_call_of 27 sf; refine (Sub.call (unhide HZ) (unhide N1 _)).mono ?_; rintro r _ ⟨rfl, z2, rfl⟩) | (go_at_call_of 27 df; refine (Sub.call (unhide HZ) (unhide N2 _)).mono ?_; rintro r _ ⟨rfl, z2, rfl⟩) | (go_at_call_of 7 sf; refine (Sub.call (unhide HZ) (unhide A1 _)).mono ?_; rintro r _ ⟨rfl, z2, rfl⟩) | (go_at_call_of 7 df; refine (Sub.call (unhide HZ) (unhide A2 _)).mono ?_; rintro r _ ⟨rfl, z2, rfl⟩) | (go_at_call 29; refine (Sub.call (unhide HZ) (unhide PL _)).mono ?_; rintro r _ ⟨rfl, z2, rfl⟩))
              go_ret
              exact ⟨rfl, unhide HB _⟩
            have h20f : (ll == 0) = false := beq_eq_false_iff_ne.2 h20
            have h20g : ((ll : Int) == 0) = false := beq_eq_false_iff_ne.2 (by omega)
            have V : insV op true n2 a1 true 0 ll pl = false := by simp [insV, *]
            rw [V]
            clear V
            have E0 := xc 0 (.int .i64 k) rfl
            have E1 := xc 1 (.string s) rfl
            have E2 := xc 2 (.int .i64 op) rfl
            have E3 := xc 3 (.int .i64 sf) rfl
            have E4 := xc 4 (.int .i64 sr) rfl
            have E5 := xc 5 (.int .i64 sk) rfl
            have E6 := xc 6 (.int .i64 sn) rfl
            have E7 := xc 7 (.string ss) rfl
            have E8 := xc 8 (.slice b1 sl c1) rfl
            have E9 := xc 9 (.int .i64 df) rfl
            have E10 := xc 10 (.int .i64 dr) rfl
            have E11 := xc 11 (.int .i64 dk) rfl
            have E12 := xc 12 (.int .i64 dn) rfl
            have E13 := xc 13 (.string ds) rfl
            have E14 := xc 14 (.slice b2 dl c2) rfl
            have E15 := xc 15 (.int .i64 0) rfl
            have E16 := xc 16 (.slice b3 ll c3) rfl
            clear xc
            go_enter Tryd.func26, Tryd.ntmps26
            go_wp2_with (first | (go_at_call 19; refine (in_any _ _ _ _).mono ?_; rintro e w' ⟨rfl, hw'⟩; rw [hw']; clear hw' w') | (go_at_call_of 27 sf; refine (Sub.call (unhide HZ) (unhide N1 _)).mono ?_; rintro r _ ⟨rfl, z2, rfl⟩) | (go_at_call_of 27 df; refine (Sub.call (unhide HZ) (unhide N2 _)).mono ?_; rintro r _ ⟨rfl, z2, rfl⟩) | (go_at_call_of 7 sf; refine (Sub.call (unhide HZ) (unhide A1 _)).mono ?_; rintro r _ ⟨rfl, z2, rfl⟩) | (go_at_call_of 7 df; refine (Sub.call (unhide HZ) (unhide A2 _)).mono ?_; rintro r _ ⟨rfl, z2, rfl⟩) | (go_at_call 29; refine (Sub.call (unhide HZ) (unhide PL _)).mono ?_; rintro r _ ⟨rfl, z2, rfl⟩))
            go_ret
            exact ⟨rfl, unhide HB _⟩
          have h19f : (n == 0) = false := beq_eq_false_iff_ne.2 h19
          have V : insV op true n2 a1 true n ll pl = false := by simp [insV, *]
          rw [V]
          clear V
          have E0 := xc 0 (.int .i64 k) rfl
          have E1 := xc 1 (.string s) rfl
          have E2 := xc 2 (.int .i64 op) rfl
          have E3 := xc 3 (.int .i64 sf) rfl
          have E4 := xc 4 (.int .i64 sr) rfl
          have E5 := xc 5 (.int .i64 sk) rfl
          have E6 := xc 6 (.int .i64 sn) rfl
          have E7 := xc 7 (.string ss) rfl
          have E8 := xc 8 (.slice b1 sl c1) rfl
          have E9 := xc 9 (.int .i64 df) rfl
          have E10 := xc 10 (.int .i64 dr) rfl
          have E11 := xc 11 (.int .i64 dk) rfl
          have E12 := xc 12 (.int .i64 dn) rfl
          have E13 := xc 13 (.string ds) rfl
          have E14 := xc 14 (.slice b2 dl c2) rfl
          have E15 := xc 15 (.int .i64 n) rfl
          have E16 := xc 16 (.slice b3 ll c3) rfl
          clear xc
          go_enter Tryd.func26, Tryd.ntmps26
          go_wp2_with (first | (go_at_call 19; refine (in_any _ _ _ _).mono ?_; rintro e w' ⟨rfl, hw'⟩; rw [hw']; clear hw' w') | (go_at_call_of 27 sf; refine (Sub.call (unhide HZ) (unhide N1 _)).mono ?_; rintro r _ ⟨rfl, z2, rfl⟩) | (go_at_call_of 27 df; refine (Sub.call (unhide HZ) (unhide N2 _)).mono ?_; rintro r _ ⟨rfl, z2, rfl⟩) | (go_at_call_of 7 sf; refine (Sub.call (unhide HZ) (unhide A1 _)).mono ?_; rintro r _ ⟨rfl, z2, rfl⟩) | (go_at_call_of 7 df; refine (Sub.call (unhide HZ) (unhide A2 _)).mono ?_; rintro r _ ⟨rfl, z2, rfl⟩) | (go_at_call 29; refine (Sub.call (unhide HZ) (unhide PL _)).mono ?_; rintro r _ ⟨rfl, z2, rfl⟩))
          go_ret
          exact ⟨rfl, unhide HB _⟩
        | false =>
          have V : insV op true n2 a1 false n ll pl = false := by simp [insV, *]
          rw [V]
          clear V
          have E0 := xc 0 (.int .i64 k) rfl
          have E1 := xc 1 (.string s) rfl
          have E2 := xc 2 (.int .i64 op) rfl
          have E3 := xc 3 (.int .i64 sf) rfl
          have E4 := xc 4 (.int .i64 sr) rfl
          have E5 := xc 5 (.int .i64 sk) rfl
          have E6 := xc 6 (.int .i64 sn) rfl
          have E7 := xc 7 (.string ss) rfl
          have E8 := xc 8 (.slice b1 sl c1) rfl
          have E9 := xc 9 (.int .i64 df) rfl
          have E10 := xc 10 (.int .i64 dr) rfl
          have E11 := xc 11 (.int .i64 dk) rfl
          have E12 := xc 12 (.int .i64 dn) rfl
          have E13 := xc 13 (.string ds) rfl
          have E14 := xc 14 (.slice b2 dl c2) rfl
          have E15 := xc 15 (.int .i64 n) rfl
          have E16 := xc 16 (.slice b3 ll c3) rfl
          clear xc
          go_enter Tryd.func26, Tryd.ntmps26
          go_wp2_with (first | (go_at_call 19; refine (in_any _ _ _ _).mono ?_; rintro e w' ⟨rfl, hw'⟩; rw [hw']; clear hw' w') | (go_at_call_of 27 sf; refine (Sub.call (unhide HZ) (unhide N1 _)).mono ?_; rintro r _ ⟨rfl, z2, rfl⟩) | (go_at_call_of 27 df; refine (Sub.call (unhide HZ) (unhide N2 _)).mono ?_; rintro r _ ⟨rfl, z2, rfl⟩) | (go_at_call_of 7 sf; refine (Sub.call (unhide HZ) (unhide A1 _)).mono ?_; rintro r _ ⟨rfl, z2, rfl⟩) | (go_at_call_of 7 df; refine (Sub.call (unhide HZ) (unhide A2 _)).mono ?_; rintro r _ ⟨rfl, z2, rfl⟩) | (go_at_call 29; refine (Sub.call (unhide HZ) (unhide PL _)).mono ?_; rintro r _ ⟨rfl, z2, rfl⟩))
          go_ret
          exact ⟨rfl, unhide HB _⟩
      | false =>
        have V : insV op false n2 a1 a2 n ll pl = false := by simp [insV, *]
        rw [V]
        clear V
        have E0 := xc 0 (.int .i64 k) rfl
        have E1 := xc 1 (.string s) rfl
        have E2 := xc 2 (.int .i64 op) rfl
        have E3 := xc 3 (.int .i64 sf) rfl
        have E4 := xc 4 (.int .i64 sr) rfl
        have E5 := xc 5 (.int .i64 sk) rfl
        have E6 := xc 6 (.int .i64 sn) rfl
        have E7 := xc 7 (.string ss) rfl
        have E8 := xc 8 (.slice b1 sl c1) rfl
        have E9 := xc 9 (.int .i64 df) rfl
        have E10 := xc 10 (.int .i64 dr) rfl
        have E11 := xc 11 (.int .i64 dk) rfl
        have E12 := xc 12 (.int .i64 dn) rfl
        have E13 := xc 13 (.string ds) rfl
        have E14 := xc 14 (.slice b2 dl c2) rfl
        have E15 := xc 15 (.int .i64 n) rfl
        have E16 := xc 16 (.slice b3 ll c3) rfl
        clear xc
        go_enter Tryd.func26, Tryd.ntmps26
        go_wp2_with (first | (go_at_call 19; refine (in_any _ _ _ _).mono ?_; rintro e w' ⟨rfl, hw'⟩; rw [hw']; clear hw' w') | (go_at_call_of 27 sf; refine (Sub.call (unhide HZ) (unhide N1 _)).mono ?_; rintro r _ ⟨rfl, z2, rfl⟩) | (go_at_call_of 27 df; refine (Sub.call (unhide HZ) (unhide N2 _)).mono ?_; rintro r _ ⟨rfl, z2, rfl⟩) | (go_at_call_of 7 sf; refine (Sub.call (unhide HZ) (unhide A1 _)).mono ?_; rintro r _ ⟨rfl, z2, rfl⟩) | (go_at_call_of 7 df; refine (Sub.call (unhide HZ) (unhide A2 _)).mono ?_; rintro r _ ⟨rfl, z2, rfl⟩) | (go_at_call 29; refine (Sub.call (unhide HZ) (unhide PL _)).mono ?_; rintro r _ ⟨rfl, z2, rfl⟩))
        go_ret
        exact ⟨rfl, unhide HB _⟩
    | false =>
      by_cases h31 : op = 15
      · subst h31
        cases n1 with
        | true =>
          cases a2 with
          | true =>
            cases h34 : inB n 0 7 with
            | true =>
              by_cases h35 : ll = 0
              · subst h35
                have V : insV 15 true n2 a1 true n 0 pl = true := by simp [insV, *]
                rw [V]
                clear V
                have E0 := xc 0 (.int .i64 k) rfl
                have E1 := xc 1 (.string s) rfl
                have E2 := xc 2 (.int .i64 15) rfl
                have E3 := xc 3 (.int .i64 sf) rfl
                have E4 := xc 4 (.int .i64 sr) rfl
                have E5 := xc 5 (.int .i64 sk) rfl
                have E6 := xc 6 (.int .i64 sn) rfl
                have E7 := xc 7 (.string ss) rfl
                have E8 := xc 8 (.slice b1 sl c1) rfl
                have E9 := xc 9 (.int .i64 df) rfl
                have E10 := xc 10 (.int .i64 dr) rfl
                have E11 := xc 11 (.int .i64 dk) rfl
                have E12 := xc 12 (.int .i64 dn) rfl
                have E13 := xc 13 (.string ds) rfl
                have E14 := xc 14 (.slice b2 dl c2) rfl
                have E15 := xc 15 (.int .i64 n) rfl
                have E16 := xc 16 (.slice b3 0 c3) rfl
                clear xc
                go_enter Tryd.func26, Tryd.ntmps26
                go_wp2_with (first | (go_at_call 19; refine (in_any _ _ _ _).mono ?_; rintro e w' ⟨rfl, hw'⟩; rw [hw']; clear hw' w') | (go_at_call_of 27 sf; refine (Sub.call (unhide HZ) (unhide N1 _)).mono ?_; rintro r _ ⟨rfl, z2, rfl⟩) | (go_at_call_of 27 df; refine (Sub.call (unhide HZ) (unhide N2 _)).mono ?_; rintro r _ ⟨rfl, z2, rfl⟩) | (go_at_call_of 7 sf; refine (Sub.call (unhide HZ) (unhide A1 _)).mono ?_; rintro r _ ⟨rfl, z2, rfl⟩) | (go_at_call_of 7 df; refine (Sub.call (unhide HZ) (unhide A2 _)).mono ?_; rintro r _ ⟨rfl, z2, rfl⟩) | (go_at_call 29; refine (Sub.call (unhide HZ) (unhide PL _)).mono ?_; rintro r _ ⟨rfl, z2, rfl⟩))
                go_ret
                exact ⟨rfl, unhide HB _⟩
              have h35f : (ll == 0) = false := beq_eq_false_iff_ne.2 h35
              have h35g : ((ll : Int) == 0) = false := beq_eq_false_iff_ne.2 (by omega)
              have V : insV 15 true n2 a1 true n ll pl = false := by simp [insV, *]
              rw [V]
              clear V
              have E0 := xc 0 (.int .i64 k) rfl
              have E1 := xc 1 (.string s) rfl
              have E2 := xc 2 (.int .i64 15) rfl
              have E3 := xc 3 (.int .i64 sf) rfl
              have E4 := xc 4 (.int .i64 sr) rfl
              have E5 := xc 5 (.int .i64 sk) rfl
              have E6 := xc 6 (.int .i64 sn) rfl
              have E7 := xc 7 (.string ss) rfl
              have E8 := xc 8 (.slice b1 sl c1) rfl
              have E9 := xc 9 (.int .i64 df) rfl
              have E10 := xc 10 (.int .i64 dr) rfl
              have E11 := xc 11 (.int .i64 dk) rfl
              have E12 := xc 12 (.int .i64 dn) rfl
              have E13 := xc 13 (.string ds) rfl
              have E14 := xc 14 (.slice b2 dl c2) rfl
              have E15 := xc 15 (.int .i64 n) rfl
              have E16 := xc 16 (.slice b3 ll c3) rfl
              clear xc
              go_enter Tryd.func26, Tryd.ntmps26
              go_wp2_with (first | (go_at_call 19; refine (in_any _ _ _ _).mono ?_; rintro e w' ⟨rfl, hw'⟩; rw [hw']; clear hw' w') | (go_at_call_of 27 sf; refine (Sub.call (unhide HZ) (unhide N1 _)).mono ?_; rintro r _ ⟨rfl, z2, rfl⟩) | (go_at_call_of 27 df; refine (Sub.call (unhide HZ) (unhide N2 _)).mono ?_; rintro r _ ⟨rfl, z2, rfl⟩) | (go_at_call_of 7 sf; refine (Sub.call (unhide HZ) (unhide A1 _)).mono ?_; rintro r _ ⟨rfl, z2, rfl⟩) | (go_at_call_of 7 df; refine (Sub.call (unhide HZ) (unhide A2 _)).mono ?_; rintro r _ ⟨rfl, z2, rfl⟩) | (go_at_call 29; refine (Sub.call (unhide HZ) (unhide PL _)).mono ?_; rintro r _ ⟨rfl, z2, rfl⟩))
              go_ret
              exact ⟨rfl, unhide HB _⟩
            | false =>
              have V : insV 15 true n2 a1 true n ll pl = false := by simp [insV, *]
              rw [V]
              clear V
              have E0 := xc 0 (.int .i64 k) rfl
              have E1 := xc 1 (.string s) rfl
              have E2 := xc 2 (.int .i64 15) rfl
              have E3 := xc 3 (.int .i64 sf) rfl
              have E4 := xc 4 (.int .i64 sr) rfl
              have E5 := xc 5 (.int .i64 sk) rfl
              have E6 := xc 6 (.int .i64 sn) rfl
              have E7 := xc 7 (.string ss) rfl
              have E8 := xc 8 (.slice b1 sl c1) rfl
              have E9 := xc 9 (.int .i64 df) rfl
              have E10 := xc 10 (.int .i64 dr) rfl
              have E11 := xc 11 (.int .i64 dk) rfl
              have E12 := xc 12 (.int .i64 dn) rfl
              have E13 := xc 13 (.string ds) rfl
              have E14 := xc 14 (.slice b2 dl c2) rfl
              have E15 := xc 15 (.int .i64 n) rfl
              have E16 := xc 16 (.slice b3 ll c3) rfl
              clear xc
              go_enter Tryd.func26, Tryd.ntmps26
              go_wp2_with (first | (go_at_call 19; refine (in_any _ _ _ _).mono ?_; rintro e w' ⟨rfl, hw'⟩; rw [hw']; clear hw' w') | (go_at_call_of 27 sf; refine (Sub.call (unhide HZ) (unhide N1 _)).mono ?_; rintro r _ ⟨rfl, z2, rfl⟩) | (go_at_call_of 27 df; refine (Sub.call (unhide HZ) (unhide N2 _)).mono ?_; rintro r _ ⟨rfl, z2, rfl⟩) | (go_at_call_of 7 sf; refine (Sub.call (unhide HZ) (unhide A1 _)).mono ?_; rintro r _ ⟨rfl, z2, rfl⟩) | (go_at_call_of 7 df; refine (Sub.call (unhide HZ) (unhide A2 _)).mono ?_; rintro r _ ⟨rfl, z2, rfl⟩) | (go_at_call 29; refine (Sub.call (unhide HZ) (unhide PL _)).mono ?_; rintro r _ ⟨rfl, z2, rfl⟩))
              go_ret
              exact ⟨rfl, unhide HB _⟩
          | false =>
            have V : insV 15 true n2 a1 false n ll pl = false := by simp [insV, *]
            rw [V]
            clear V
            have E0 := xc 0 (.int .i64 k) rfl
            have E1 := xc 1 (.string s) rfl
            have E2 := xc 2 (.int .i64 15) rfl
            have E3 := xc 3 (.int .i64 sf) rfl
            have E4 := xc 4 (.int .i64 sr) rfl
            have E5 := xc 5 (.int .i64 sk) rfl
            have E6 := xc 6 (.int .i64 sn) rfl
            have E7 := xc 7 (.string ss) rfl
            have E8 := xc 8 (.slice b1 sl c1) rfl
            have E9 := xc 9 (.int .i64 df) rfl
            have E10 := xc 10 (.int .i64 dr) rfl
            have E11 := xc 11 (.int .i64 dk) rfl
            have E12 := xc 12 (.int .i64 dn) rfl
            have E13 := xc 13 (.string ds) rfl
            have E14 := xc 14 (.slice b2 dl c2) rfl
            have E15 := xc 15 (.int .i64 n) rfl
            have E16 := xc 16 (.slice b3 ll c3) rfl
            clear xc
            go_enter Tryd.func26, Tryd.ntmps26
            go_wp2_with (first | (go_at_call 19; refine (in_any _ _ _ _).mono ?_; rintro e w' ⟨rfl, hw'⟩; rw [hw']; clear hw' w') | (go_at_call_of 27 sf; refine (Sub.call (unhide HZ) (unhide N1 _)).mono ?_; rintro r _ ⟨rfl, z2, rfl⟩) | (go_at_call_of 27 df; refine (Sub.call (unhide HZ) (unhide N2 _)).mono ?_; rintro r _ ⟨rfl, z2, rfl⟩) | (go_at_call_of 7 sf; refine (Sub.call (unhide HZ) (unhide A1 _)).mono ?_; rintro r _ ⟨rfl, z2, rfl⟩) | (go_at_call_of 7 df; refine (Sub.call (unhide HZ) (unhide A2 _)).mono ?_; rintro r _ ⟨rfl, z2, rfl⟩) | (go_at_call 29; refine (Sub.call (unhide HZ) (unhide PL _)).mono ?_; rintro r _ ⟨rfl, z2, rfl⟩))
            go_ret
            exact ⟨rfl, unhide HB _⟩
        | false =>
          have V : insV 15 false n2 a1 a2 n ll pl = false := by simp [insV, *]
          rw [V]
          clear V
          have E0 := xc 0 (.int .i64 k) rfl
          have E1 := xc 1 (.string s) rfl
          have E2 := xc 2 (.int .i64 15) rfl
          have E3 := xc 3 (.int .i64 sf) rfl
          have E4 := xc 4 (.int .i64 sr) rfl
          have E5 := xc 5 (.int .i64 sk) rfl
          have E6 := xc 6 (.int .i64 sn) rfl
          have E7 := xc 7 (.string ss) rfl
          have E8 := xc 8 (.slice b1 sl c1) rfl
          have E9 := xc 9 (.int .i64 df) rfl
          have E10 := xc 10 (.int .i64 dr) rfl
          have E11 := xc 11 (.int .i64 dk) rfl
          have E12 := xc 12 (.int .i64 dn) rfl
          have E13 := xc 13 (.string ds) rfl
          have E14 := xc 14 (.slice b2 dl c2) rfl
          have E15 := xc 15 (.int .i64 n) rfl
          have E16 := xc 16 (.slice b3 ll c3) rfl
          clear xc
          go_enter Tryd.func26, Tryd.ntmps26
          go_wp2_with (first | (go_at_call 19; refine (in_any _ _ _ _).mono ?_; rintro e w' ⟨rfl, hw'⟩; rw [hw']; clear hw' w') | (go_at_call_of 27 sf; refine (Sub.call (unhide HZ) (unhide N1 _)).mono ?_; rintro r _ ⟨rfl, z2, rfl⟩) | (go_at_call_of 27 df; refine (Sub.call (unhide HZ) (unhide N2 _)).mono ?_; rintro r _ ⟨rfl, z2, rfl⟩) | (go_at_call_of 7 sf; refine (Sub.call (unhide HZ) (unhide A1 _)).mono ?_; rintro r _ ⟨rfl, z2, rfl⟩) | (go_at_call_of 7 df; refine (Sub.call (unhide HZ) (unhide A2 _)).mono ?_; rintro r _ ⟨rfl, z2, rfl⟩) | (go_at_call 29; refine (Sub.call (unhide HZ) (unhide PL _)).mono ?_; rintro r _ ⟨rfl, z2, rfl⟩))
          go_ret
          exact ⟨rfl, unhide HB _⟩
      have h31f : (op == 15) = false := beq_eq_false_iff_ne.2 h31
      cases n1 with
      | true =>
        cases n2 with
        | true =>
          by_cases h48 : op = 16
          · subst h48
            cases h49 : inB n 0 7 with
            | true =>
              by_cases h50 : ll = 0
              · subst h50
                have V : insV 16 true true a1 a2 n 0 pl = true := by simp [insV, *]
                rw [V]
                clear V
                have E0 := xc 0 (.int .i64 k) rfl
                have E1 := xc 1 (.string s) rfl
                have E2 := xc 2 (.int .i64 16) rfl
                have E3 := xc 3 (.int .i64 sf) rfl
                have E4 := xc 4 (.int .i64 sr) rfl
                have E5 := xc 5 (.int .i64 sk) rfl
                have E6 := xc 6 (.int .i64 sn) rfl
                have E7 := xc 7 (.string ss) rfl
                have E8 := xc 8 (.slice b1 sl c1) rfl
                have E9 := xc 9 (.int .i64 df) rfl
                have E10 := xc 10 (.int .i64 dr) rfl
                have E11 := xc 11 (.int .i64 dk) rfl
                have E12 := xc 12 (.int .i64 dn) rfl
                have E13 := xc 13 (.string ds) rfl
                have E14 := xc 14 (.slice b2 dl c2) rfl
                have E15 := xc 15 (.int .i64 n) rfl
                have E16 := xc 16 (.slice b3 0 c3) rfl
                clear xc
                go_enter Tryd.func26, Tryd.ntmps26
                go_wp2_with (first | (go_at_call 19; refine (in_any _ _ _ _).mono ?_; rintro e w' ⟨rfl, hw'⟩; rw [hw']; clear hw' w') | (go_at_call_of 27 sf; refine (Sub.call (unhide HZ) (unhide N1 _)).mono ?_; rintro r _ ⟨rfl, z2, rfl⟩) | (go_at_call_of 27 df; refine (Sub.call (unhide HZ) (unhide N2 _)).mono ?_; rintro r _ ⟨rfl, z2, rfl⟩) | (go_at_call_of 7 sf; refine (Sub.call (unhide HZ) (unhide A1 _)).mono ?_; rintro r _ ⟨rfl, z2, rfl⟩) | (go_at_call_of 7 df; refine (Sub.call (unhide HZ) (unhide A2 _)).mono ?_; rintro r _ ⟨rfl, z2, rfl⟩) | (go_at_call 29; refine (Sub.call (unhide HZ) (unhide PL _)).mono ?_; rintro r _ ⟨rfl, z2, rfl⟩))
                go_ret
                exact ⟨rfl, unhide HB _⟩
              have h50f : (ll == 0) = false := beq_eq_false_iff_ne.2 h50
              have h50g : ((ll : Int) == 0) = false := beq_eq_false_iff_ne.2 (by omega)
              have V : insV 16 true true a1 a2 n ll pl = false := by simp [insV, *]
              rw [V]
              clear V
              have E0 := xc 0 (.int .i64 k) rfl
              have E1 := xc 1 (.string s) rfl
              have E2 := xc 2 (.int .i64 16) rfl
              have E3 := xc 3 (.int .i64 sf) rfl
              have E4 := xc 4 (.int .i64 sr) rfl
              have E5 := xc 5 (.int .i64 sk) rfl
              have E6 := xc 6 (.int .i64 sn) rfl
              have E7 := xc 7 (.string ss) rfl
              have E8 := xc 8 (.slice b1 sl c1) rfl
              have E9 := xc 9 (.int .i64 df) rfl
              have E10 := xc 10 (.int .i64 dr) rfl
              have E11 := xc 11 (.int .i64 dk) rfl
              have E12 := xc 12 (.int .i64 dn) rfl
              have E13 := xc 13 (.string ds) rfl
              have E14 := xc 14 (.slice b2 dl c2) rfl
              have E15 := xc 15 (.int .i64 n) rfl
              have E16 := xc 16 (.slice b3 ll c3) rfl
              clear xc
              go_enter Tryd.func26, Tryd.ntmps26
              go_wp2_with (first | (go_at_call 19; refine (in_any _ _ _ _).mono ?_; rintro e w' ⟨rfl, hw'⟩; rw [hw']; clear hw' w') | (go_at_call_of 27 sf; refine (Sub.call (unhide HZ) (unhide N1 _)).mono ?_; rintro r _ ⟨rfl, z2, rfl⟩) | (go_at_call_of 27 df; refine (Sub.call (unhide HZ) (unhide N2 _)).mono ?_; rintro r _ ⟨rfl, z2, rfl⟩) | (go_at_call_of 7 sf; refine (Sub.call (unhide HZ) (unhide A1 _)).mono ?_; rintro r _ ⟨rfl, z2, rfl⟩) | (go_at_call_of 7 df; refine (Sub.call (unhide HZ) (unhide A2 _)).mono ?_; rintro r _ ⟨rfl, z2, rfl⟩) | (go_at_call 29; refine (Sub.call (unhide HZ) (unhide PL _)).mono ?_; rintro r _ ⟨rfl, z2, rfl⟩))
              go_ret
              exact ⟨rfl, unhide HB _⟩
            | false =>
              have V : insV 16 true true a1 a2 n ll pl = false := by simp [insV, *]
              rw [V]
              clear V
              have E0 := xc 0 (.int .i64 k) rfl
              have E1 := xc 1 (.string s) rfl
              have E2 := xc 2 (.int .i64 16) rfl
              have E3 := xc 3 (.int .i64 sf) rfl
              have E4 := xc 4 (.int .i64 sr) rfl
              have E5 := xc 5 (.int .i64 sk) rfl
              have E6 := xc 6 (.int .i64 sn) rfl
              have E7 := xc 7 (.string ss) rfl
              have E8 := xc 8 (.slice b1 sl c1) rfl
              have E9 := xc 9 (.int .i64 df) rfl
              have E10 := xc 10 (.int .i64 dr) rfl
              have E11 := xc 11 (.int .i64 dk) rfl
              have E12 := xc 12 (.int .i64 dn) rfl
              have E13 := xc 13 (.string ds) rfl
              have E14 := xc 14 (.slice b2 dl c2) rfl
              have E15 := xc 15 (.int .i64 n) rfl
              have E16 := xc 16 (.slice b3 ll c3) rfl
              clear xc
              go_enter Tryd.func26, Tryd.ntmps26
              go_wp2_with (first | (go_at_call 19; refine (in_any _ _ _ _).mono ?_; rintro e w' ⟨rfl, hw'⟩; rw [hw']; clear hw' w') | (go_at_call_of 27 sf; refine (Sub.call (unhide HZ) (unhide N1 _)).mono ?_; rintro r _ ⟨rfl, z2, rfl⟩) | (go_at_call_of 27 df; refine (Sub.call (unhide HZ) (unhide N2 _)).mono ?_; rintro r _ ⟨rfl, z2, rfl⟩) | (go_at_call_of 7 sf; refine (Sub.call (unhide HZ) (unhide A1 _)).mono ?_; rintro r _ ⟨rfl, z2, rfl⟩) | (go_at_call_of 7 df; refine (Sub.call (unhide HZ) (unhide A2 _)).mono ?_; rintro r _ ⟨rfl, z2, rfl⟩) | (go_at_call 29; refine (Sub.call (unhide HZ) (unhide PL _)).mono ?_; rintro r _ ⟨rfl, z2, rfl⟩))
              go_ret
              exact ⟨rfl, unhide HB _⟩
          have h48f : (op == 16) = false := beq_eq_false_iff_ne.2 h48
          by_cases h57 : op = 22
          · subst h57
            by_cases h58 : n = 0
            · subst h58
              by_cases h59 : ll = 0
              · subst h59
                have V : insV 22 true true a1 a2 0 0 pl = true := by simp [insV, *]
                rw [V]
                clear V
                have E0 := xc 0 (.int .i64 k) rfl
                have E1 := xc 1 (.string s) rfl
                have E2 := xc 2 (.int .i64 22) rfl
                have E3 := xc 3 (.int .i64 sf) rfl
                have E4 := xc 4 (.int .i64 sr) rfl
                have E5 := xc 5 (.int .i64 sk) rfl
                have E6 := xc 6 (.int .i64 sn) rfl
                have E7 := xc 7 (.string ss) rfl
                have E8 := xc 8 (.slice b1 sl c1) rfl
                have E9 := xc 9 (.int .i64 df) rfl
                have E10 := xc 10 (.int .i64 dr) rfl
                have E11 := xc 11 (.int .i64 dk) rfl
                have E12 := xc 12 (.int .i64 dn) rfl
                have E13 := xc 13 (.string ds) rfl
                have E14 := xc 14 (.slice b2 dl c2) rfl
                have E15 := xc 15 (.int .i64 0) rfl
                have E16 := xc 16 (.slice b3 0 c3) rfl
                clear xc
                go_enter Tryd.func26, Tryd.ntmps26
                go_wp2_with (first | (go_at_call 19; refine (in_any _ _ _ _).mono ?_; rintro e w' ⟨rfl, hw'⟩; rw [hw']; clear hw' w') | (go_at_call_of 27 sf; refine (Sub.call (unhide HZ) (unhide N1 _)).mono ?_; rintro r _ ⟨rfl, z2, rfl⟩) | (go_at_call_of 27 df; refine (Sub.call (unhide HZ) (unhide N2 _)).mono ?_; rintro r _ ⟨rfl, z2, rfl⟩) | (go_at_call_of 7 sf; refine (Sub.call (unhide HZ) (unhide A1 _)).mono ?_; rintro r _ ⟨rfl, z2, rfl⟩) | (go_at_call_of 7 df; refine (Sub.call (unhide HZ) (unhide A2 _)).mono ?_; rintro r _ ⟨rfl, z2, rfl⟩) | (go_at_call 29; refine (Sub.call (unhide HZ) (unhide PL _)).mono ?_; rintro r _ ⟨rfl, z2, rfl⟩))
                go_ret
                exact ⟨rfl, unhide HB _⟩
              have h59f : (ll == 0) = false := beq_eq_false_iff_ne.2 h59
              have h59g : ((ll : Int) == 0) = false := beq_eq_false_iff_ne.2 (by omega)
              have V : insV 22 true true a1 a2 0 ll pl = false := by simp [insV, *]
              rw [V]
              clear V
              have E0 := xc 0 (.int .i64 k) rfl
              have E1 := xc 1 (.string s) rfl
              have E2 := xc 2 (.int .i64 22) rfl
              have E3 := xc 3 (.int .i64 sf) rfl
              have E4 := xc 4 (.int .i64 sr) rfl
              have E5 := xc 5 (.int .i64 sk) rfl
              have E6 := xc 6 (.int .i64 sn) rfl
              have E7 := xc 7 (.string ss) rfl
              have E8 := xc 8 (.slice b1 sl c1) rfl
              have E9 := xc 9 (.int .i64 df) rfl
              have E10 := xc 10 (.int .i64 dr) rfl
              have E11 := xc 11 (.int .i64 dk) rfl
              have E12 := xc 12 (.int .i64 dn) rfl
              have E13 := xc 13 (.string ds) rfl
              have E14 := xc 14 (.slice b2 dl c2) rfl
              have E15 := xc 15 (.int .i64 0) rfl
              have E16 := xc 16 (.slice b3 ll c3) rfl
              clear xc
              go_enter Tryd.func26, Tryd.ntmps26
              go_wp2_with (first | (go_at_call 19; refine (in_any _ _ _ _).mono ?_; rintro e w' ⟨rfl, hw'⟩; rw [hw']; clear hw' w') | (go_at_call_of 27 sf; refine (Sub.call (unhide HZ) (unhide N1 _)).mono ?_; rintro r _ ⟨rfl, z2, rfl⟩) | (go_at_call_of 27 df; refine (Sub.call (unhide HZ) (unhide N2 _)).mono ?_; rintro r _ ⟨rfl, z2, rfl⟩) | (go_at_call_of 7 sf; refine (Sub.call (unhide HZ) (unhide A1 _)).mono ?_; rintro r _ ⟨rfl, z2, rfl⟩) | (go_at_call_of 7 df; refine (Sub.call (unhide HZ) (unhide A2 _)).mono ?_; rintro r _ ⟨rfl, z2, rfl⟩) | (go_at_call 29; refine (Sub.call (unhide HZ) (unhide PL _)).mono ?_; rintro r _ ⟨rfl, z2, rfl⟩))
              go_ret
              exact ⟨rfl, unhide HB _⟩
            have h58f : (n == 0) = false := beq_eq_false_iff_ne.2 h58
            have V : insV 22 true true a1 a2 n ll pl = false := by simp [insV, *]
            rw [V]
            clear V
            have E0 := xc 0 (.int .i64 k) rfl
            have E1 := xc 1 (.string s) rfl
            have E2 := xc 2 (.int .i64 22) rfl
            have E3 := xc 3 (.int .i64 sf) rfl
            have E4 := xc 4 (.int .i64 sr) rfl
            have E5 := xc 5 (.int .i64 sk) rfl
            have E6 := xc 6 (.int .i64 sn) rfl
            have E7 := xc 7 (.string ss) rfl
            have E8 := xc 8 (.slice b1 sl c1) rfl
            have E9 := xc 9 (.int .i64 df) rfl
            have E10 := xc 10 (.int .i64 dr) rfl
            have E11 := xc 11 (.int .i64 dk) rfl
            have E12 := xc 12 (.int .i64 dn) rfl
            have E13 := xc 13 (.string ds) rfl
            have E14 := xc 14 (.slice b2 dl c2) rfl
            have E15 := xc 15 (.int .i64 n) rfl
            have E16 := xc 16 (.slice b3 ll c3) rfl
            clear xc
            go_enter Tryd.func26, Tryd.ntmps26
            go_wp2_with (first | (go_at_call 19; refine (in_any _ _ _ _).mono ?_; rintro e w' ⟨rfl, hw'⟩; rw [hw']; clear hw' w') | (go_at_call_of 27 sf; refine (Sub.call (unhide HZ) (unhide N1 _)).mono ?_; rintro r _ ⟨rfl, z2, rfl⟩) | (go_at_call_of 27 df; refine (Sub.call (unhide HZ) (unhide N2 _)).mono ?_; rintro r _ ⟨rfl, z2, rfl⟩) | (go_at_call_of 7 sf; refine (Sub.call (unhide HZ) (unhide A1 _)).mono ?_; rintro r _ ⟨rfl, z2, rfl⟩) | (go_at_call_of 7 df; refine (Sub.call (unhide HZ) (unhide A2 _)).mono ?_; rintro r _ ⟨rfl, z2, rfl⟩) | (go_at_call 29; refine (Sub.call (unhide HZ) (unhide PL _)).mono ?_; rintro r _ ⟨rfl, z2, rfl⟩))
            go_ret
            exact ⟨rfl, unhide HB _⟩
          have h57f : (op == 22) = false := beq_eq_false_iff_ne.2 h57
          cases h66 : inB op 17 21 with
          | true =>
            by_cases h67 : n = 0
            · subst h67
              by_cases h68 : ll = 1
              · subst h68
                have V : insV op true true a1 a2 0 1 pl = pl := by simp [insV, *]
                rw [V]
                clear V
                have E0 := xc 0 (.int .i64 k) rfl
                have E1 := xc 1 (.string s) rfl
                have E2 := xc 2 (.int .i64 op) rfl
                have E3 := xc 3 (.int .i64 sf) rfl
                have E4 := xc 4 (.int .i64 sr) rfl
                have E5 := xc 5 (.int .i64 sk) rfl
                have E6 := xc 6 (.int .i64 sn) rfl
                have E7 := xc 7 (.string ss) rfl
                have E8 := xc 8 (.slice b1 sl c1) rfl
                have E9 := xc 9 (.int .i64 df) rfl
                have E10 := xc 10 (.int .i64 dr) rfl
                have E11 := xc 11 (.int .i64 dk) rfl
                have E12 := xc 12 (.int .i64 dn) rfl
                have E13 := xc 13 (.string ds) rfl
                have E14 := xc 14 (.slice b2 dl c2) rfl
                have E15 := xc 15 (.int .i64 0) rfl
                have E16 := xc 16 (.slice b3 1 c3) rfl
                clear xc
                go_enter Tryd.func26, Tryd.ntmps26
                go_wp2_with (first | (go_at_call 19; refine (in_any _ _ _ _).mono ?_; rintro e w' ⟨rfl, hw'⟩; rw [hw']; clear hw' w') | (go_at_call_of 27 sf; refine (Sub.call (unhide HZ) (unhide N1 _)).mono ?_; rintro r _ ⟨rfl, z2, rfl⟩) | (go_at_call_of 27 df; refine (Sub.call (unhide HZ) (unhide N2 _)).mono ?_; rintro r _ ⟨rfl, z2, rfl⟩) | (go_at_call_of 7 sf; refine (Sub.call (unhide HZ) (unhide A1 _)).mono ?_; rintro r _ ⟨rfl, z2, rfl⟩) | (go_at_call_of 7 df; refine (Sub.call (unhide HZ) (unhide A2 _)).mono ?_; rintro r _ ⟨rfl, z2, rfl⟩) | (go_at_call 29; refine (Sub.call (unhide HZ) (unhide PL _)).mono ?_; rintro r _ ⟨rfl, z2, rfl⟩))
                go_ret
                exact ⟨rfl, unhide HB _⟩
              have h68f : (ll == 1) = false := beq_eq_false_iff_ne.2 h68
              have h68g : ((ll : Int) == 1) = false := beq_eq_false_iff_ne.2 (by omega)
              have V : insV op true true a1 a2 0 ll pl = false := by simp [insV, *]
              rw [V]
              clear V
              have E0 := xc 0 (.int .i64 k) rfl
              have E1 := xc 1 (.string s) rfl
              have E2 := xc 2 (.int .i64 op) rfl
              have E3 := xc 3 (.int .i64 sf) rfl
              have E4 := xc 4 (.int .i64 sr) rfl
              have E5 := xc 5 (.int .i64 sk) rfl
              have E6 := xc 6 (.int .i64 sn) rfl
              have E7 := xc 7 (.string ss) rfl
              have E8 := xc 8 (.slice b1 sl c1) rfl
              have E9 := xc 9 (.int .i64 df) rfl
              have E10 := xc 10 (.int .i64 dr) rfl
              have E11 := xc 11 (.int .i64 dk) rfl
              have E12 := xc 12 (.int .i64 dn) rfl
              have E13 := xc 13 (.string ds) rfl
              have E14 := xc 14 (.slice b2 dl c2) rfl
              have E15 := xc 15 (.int .i64 0) rfl
              have E16 := xc 16 (.slice b3 ll c3) rfl
              clear xc
              go_enter Tryd.func26, Tryd.ntmps26
              go_wp2_with (first | (go_at_call 19; refine (in_any _ _ _ _).mono ?_; rintro e w' ⟨rfl, hw'⟩; rw [hw']; clear hw' w') | (go_at_call_of 27 sf; refine (Sub.call (unhide HZ) (unhide N1 _)).mono ?_; rintro r _ ⟨rfl, z2, rfl⟩) | (go_at_call_of 27 df; refine (Sub.call (unhide HZ) (unhide N2 _)).mono ?_; rintro r _ ⟨rfl, z2, rfl⟩) | (go_at_call_of 7 sf; refine (Sub.call (unhide HZ) (unhide A1 _)).mono ?_; rintro r _ ⟨rfl, z2, rfl⟩) | (go_at_call_of 7 df; refine (Sub.call (unhide HZ) (unhide A2 _)).mono ?_; rintro r _ ⟨rfl, z2, rfl⟩) | (go_at_call 29; refine (Sub.call (unhide HZ) (unhide PL _)).mono ?_; rintro r _ ⟨rfl, z2, rfl⟩))
              go_ret
              exact ⟨rfl, unhide HB _⟩
            have h67f : (n == 0) = false := beq_eq_false_iff_ne.2 h67
            have V : insV op true true a1 a2 n ll pl = false := by simp [insV, *]
            rw [V]
            clear V
            have E0 := xc 0 (.int .i64 k) rfl
            have E1 := xc 1 (.string s) rfl
            have E2 := xc 2 (.int .i64 op) rfl
            have E3 := xc 3 (.int .i64 sf) rfl
            have E4 := xc 4 (.int .i64 sr) rfl
            have E5 := xc 5 (.int .i64 sk) rfl
            have E6 := xc 6 (.int .i64 sn) rfl
            have E7 := xc 7 (.string ss) rfl
            have E8 := xc 8 (.slice b1 sl c1) rfl
            have E9 := xc 9 (.int .i64 df) rfl
            have E10 := xc 10 (.int .i64 dr) rfl
            have E11 := xc 11 (.int .i64 dk) rfl
            have E12 := xc 12 (.int .i64 dn) rfl
            have E13 := xc 13 (.string ds) rfl
            have E14 := xc 14 (.slice b2 dl c2) rfl
            have E15 := xc 15 (.int .i64 n) rfl
            have E16 := xc 16 (.slice b3 ll c3) rfl
            clear xc
            go_enter Tryd.func26, Tryd.ntmps26
            go_wp2_with (first | (go_at_call 19; refine (in_any _ _ _ _).mono ?_; rintro e w' ⟨rfl, hw'⟩; rw [hw']; clear hw' w') | (go_at_call_of 27 sf; refine (Sub.call (unhide HZ) (unhide N1 _)).mono ?_; rintro r _ ⟨rfl, z2, rfl⟩) | (go_at_call_of 27 df; refine (Sub.call (unhide HZ) (unhide N2 _)).mono ?_; rintro r _ ⟨rfl, z2, rfl⟩) | (go_at_call_of 7 sf; refine (Sub.call (unhide HZ) (unhide A1 _)).mono ?_; rintro r _ ⟨rfl, z2, rfl⟩) | (go_at_call_of 7 df; refine (Sub.call (unhide HZ) (unhide A2 _)).mono ?_; rintro r _ ⟨rfl, z2, rfl⟩) | (go_at_call 29; refine (Sub.call (unhide HZ) (unhide PL _)).mono ?_; rintro r _ ⟨rfl, z2, rfl⟩))
            go_ret
            exact ⟨rfl, unhide HB _⟩
          | false =>
            by_cases h75 : op = 23
            · subst h75
              by_cases h76 : n = 0
              · subst h76
                by_cases h77 : ll = 1
                · subst h77
                  have V : insV 23 true true a1 a2 0 1 pl = pl := by simp [insV, *]
                  rw [V]
                  clear V
                  have E0 := xc 0 (.int .i64 k) rfl
                  have E1 := xc 1 (.string s) rfl
                  have E2 := xc 2 (.int .i64 23) rfl
                  have E3 := xc 3 (.int .i64 sf) rfl
                  have E4 := xc 4 (.int .i64 sr) rfl
                  have E5 := xc 5 (.int .i64 sk) rfl
                  have E6 := xc 6 (.int .i64 sn) rfl
                  have E7 := xc 7 (.string ss) rfl
                  have E8 := xc 8 (.slice b1 sl c1) rfl
                  have E9 := xc 9 (.int .i64 df) rfl
                  have E10 := xc 10 (.int .i64 dr) rfl
                  have E11 := xc 11 (.int .i64 dk) rfl
                  have E12 := xc 12 (.int .i64 dn) rfl
                  have E13 := xc 13 (.string ds) rfl
                  have E14 := xc 14 (.slice b2 dl c2) rfl
                  have E15 := xc 15 (.int .i64 0) rfl
                  have E16 := xc 16 (.slice b3 1 c3) rfl
                  clear xc
                  go_enter Tryd.func26, Tryd.ntmps26
                  go_wp2_with (first | (go_at_call 19; refine (in_any _ _ _ _).mono ?_; rintro e w' ⟨rfl, hw'⟩; rw [hw']; clear hw' w') | (go_at_call_of 27 sf; refine (Sub.call (unhide HZ) (unhide N1 _)).mono ?_; rintro r _ ⟨rfl, z2, rfl⟩) | (go_at_call_of 27 df; refine (Sub.call (unhide HZ) (unhide N2 _)).mono ?_; rintro r _ ⟨rfl, z2, rfl⟩) | (go_at_call_of 7 sf; refine (Sub.call (unhide HZ) (unhide A1 _)).mono ?_; rintro r _ ⟨rfl, z2, rfl⟩) | (go_at_call_of 7 df; refine (Sub.call (unhide HZ) (unhide A2 _)).mono ?_; rintro r _ ⟨rfl, z2, rfl⟩) | (go_at_call 29; refine (Sub.call (unhide HZ) (unhide PL _)).mono ?_; rintro r _ ⟨rfl, z2, rfl⟩))
                  go_ret
                  exact ⟨rfl, unhide HB _⟩
                have h77f : (ll == 1) = false := beq_eq_false_iff_ne.2 h77
                have h77g : ((ll : Int) == 1) = false := beq_eq_false_iff_ne.2 (by omega)
                have V : insV 23 true true a1 a2 0 ll pl = false := by simp [insV, *]
                rw [V]
                clear V
                have E0 := xc 0 (.int .i64 k) rfl
                have E1 := xc 1 (.string s) rfl
                have E2 := xc 2 (.int .i64 23) rfl
                have E3 := xc 3 (.int .i64 sf) rfl
                have E4 := xc 4 (.int .i64 sr) rfl
                have E5 := xc 5 (.int .i64 sk) rfl
                have E6 := xc 6 (.int .i64 sn) rfl
                have E7 := xc 7 (.string ss) rfl
                have E8 := xc 8 (.slice b1 sl c1) rfl
                have E9 := xc 9 (.int .i64 df) rfl
                have E10 := xc 10 (.int .i64 dr) rfl
                have E11 := xc 11 (.int .i64 dk) rfl
                have E12 := xc 12 (.int .i64 dn) rfl
                have E13 := xc 13 (.string ds) rfl
                have E14 := xc 14 (.slice b2 dl c2) rfl
                have E15 := xc 15 (.int .i64 0) rfl
                have E16 := xc 16 (.slice b3 ll c3) rfl
                clear xc
                go_enter Tryd.func26, Tryd.ntmps26
                go_wp2_with (first | (go_at_call 19; refine (in_any _ _ _ _).mono ?_; rintro e w' ⟨rfl, hw'⟩; rw [hw']; clear hw' w') | (go_at_call_of 27 sf; refine (Sub.call (unhide HZ) (unhide N1 _)).mono ?_; rintro r _ ⟨rfl, z2, rfl⟩) | (go_at_call_of 27 df; refine (Sub.call (unhide HZ) (unhide N2 _)).mono ?_; rintro r _ ⟨rfl, z2, rfl⟩) | (go_at_call_of 7 sf; refine (Sub.call (unhide HZ) (unhide A1 _)).mono ?_; rintro r _ ⟨rfl, z2, rfl⟩) | (go_at_call_of 7 df; refine (Sub.call (unhide HZ) (unhide A2 _)).mono ?_; rintro r _ ⟨rfl, z2, rfl⟩) | (go_at_call 29; refine (Sub.call (unhide HZ) (unhide PL _)).mono ?_; rintro r _ ⟨rfl, z2, rfl⟩))
                go_ret
                exact ⟨rfl, unhide HB _⟩
              have h76f : (n == 0) = false := beq_eq_false_iff_ne.2 h76
              have V : insV 23 true true a1 a2 n ll pl = false := by simp [insV, *]
              rw [V]
              clear V
              have E0 := xc 0 (.int .i64 k) rfl
              have E1 := xc 1 (.string s) rfl
              have E2 := xc 2 (.int .i64 23) rfl
              have E3 := xc 3 (.int .i64 sf) rfl
              have E4 := xc 4 (.int .i64 sr) rfl
              have E5 := xc 5 (.int .i64 sk) rfl
              have E6 := xc 6 (.int .i64 sn) rfl
              have E7 := xc 7 (.string ss) rfl
              have E8 := xc 8 (.slice b1 sl c1) rfl
              have E9 := xc 9 (.int .i64 df) rfl
              have E10 := xc 10 (.int .i64 dr) rfl
              have E11 := xc 11 (.int .i64 dk) rfl
              have E12 := xc 12 (.int .i64 dn) rfl
              have E13 := xc 13 (.string ds) rfl
              have E14 := xc 14 (.slice b2 dl c2) rfl
              have E15 := xc 15 (.int .i64 n) rfl
              have E16 := xc 16 (.slice b3 ll c3) rfl
              clear xc
              go_enter Tryd.func26, Tryd.ntmps26
              go_wp2_with (first | (go_at_call 19; refine (in_any _ _ _ _).mono ?_; rintro e w' ⟨rfl, hw'⟩; rw [hw']; clear hw' w') | (go_at_call_of 27 sf; refine (Sub.call (unhide HZ) (unhide N1 _)).mono ?_; rintro r _ ⟨rfl, z2, rfl⟩) | (go_at_call_of 27 df; refine (Sub.call (unhide HZ) (unhide N2 _)).mono ?_; rintro r _ ⟨rfl, z2, rfl⟩) | (go_at_call_of 7 sf; refine (Sub.call (unhide HZ) (unhide A1 _)).mono ?_; rintro r _ ⟨rfl, z2, rfl⟩) | (go_at_call_of 7 df; refine (Sub.call (unhide HZ) (unhide A2 _)).mono ?_; rintro r _ ⟨rfl, z2, rfl⟩) | (go_at_call 29; refine (Sub.call (unhide HZ) (unhide PL _)).mono ?_; rintro r _ ⟨rfl, z2, rfl⟩))
              go_ret
              exact ⟨rfl, unhide HB _⟩
            have h75f : (op == 23) = false := beq_eq_false_iff_ne.2 h75
            have V : insV op true true a1 a2 n ll pl = false := by simp [insV, *]
            rw [V]
            clear V
            have E0 := xc 0 (.int .i64 k) rfl
            have E1 := xc 1 (.string s) rfl
            have E2 := xc 2 (.int .i64 op) rfl
            have E3 := xc 3 (.int .i64 sf) rfl
            have E4 := xc 4 (.int .i64 sr) rfl
            have E5 := xc 5 (.int .i64 sk) rfl
            have E6 := xc 6 (.int .i64 sn) rfl
            have E7 := xc 7 (.string ss) rfl
            have E8 := xc 8 (.slice b1 sl c1) rfl
            have E9 := xc 9 (.int .i64 df) rfl
            have E10 := xc 10 (.int .i64 dr) rfl
            have E11 := xc 11 (.int .i64 dk) rfl
            have E12 := xc 12 (.int .i64 dn) rfl
            have E13 := xc 13 (.string ds) rfl
            have E14 := xc 14 (.slice b2 dl c2) rfl
            have E15 := xc 15 (.int .i64 n) rfl
            have E16 := xc 16 (.slice b3 ll c3) rfl
            clear xc
            go_enter Tryd.func26, Tryd.ntmps26
            go_wp2_with (first | (go_at_call 19; refine (in_any _ _ _ _).mono ?_; rintro e w' ⟨rfl, hw'⟩; rw [hw']; clear hw' w') | (go_at_call_of 27 sf; refine (Sub.call (unhide HZ) (unhide N1 _)).mono ?_; rintro r _ ⟨rfl, z2, rfl⟩) | (go_at_call_of 27 df; refine (Sub.call (unhide HZ) (unhide N2 _)).mono ?_; rintro r _ ⟨rfl, z2, rfl⟩) | (go_at_call_of 7 sf; refine (Sub.call (unhide HZ) (unhide A1 _)).mono ?_; rintro r _ ⟨rfl, z2, rfl⟩) | (go_at_call_of 7 df; refine (Sub.call (unhide HZ) (unhide A2 _)).mono ?_; rintro r _ ⟨rfl, z2, rfl⟩) | (go_at_call 29; refine (Sub.call (unhide HZ) (unhide PL _)).mono ?_; rintro r _ ⟨rfl, z2, rfl⟩))
            go_ret
            exact ⟨rfl, unhide HB _⟩
        | false =>
          have V : insV op true false a1 a2 n ll pl = false := by simp [insV, *]
          rw [V]
          clear V
          have E0 := xc 0 (.int .i64 k) rfl
          have E1 := xc 1 (.string s) rfl
          have E2 := xc 2 (.int .i64 op) rfl
          have E3 := xc 3 (.int .i64 sf) rfl
          have E4 := xc 4 (.int .i64 sr) rfl
          have E5 := xc 5 (.int .i64 sk) rfl
          have E6 := xc 6 (.int .i64 sn) rfl
          have E7 := xc 7 (.string ss) rfl
          have E8 := xc 8 (.slice b1 sl c1) rfl
          have E9 := xc 9 (.int .i64 df) rfl
          have E10 := xc 10 (.int .i64 dr) rfl
          have E11 := xc 11 (.int .i64 dk) rfl
          have E12 := xc 12 (.int .i64 dn) rfl
          have E13 := xc 13 (.string ds) rfl
          have E14 := xc 14 (.slice b2 dl c2) rfl
          have E15 := xc 15 (.int .i64 n) rfl
          have E16 := xc 16 (.slice b3 ll c3) rfl
          clear xc
          go_enter Tryd.func26, Tryd.ntmps26
          go_wp2_with (first | (go_at_call 19; refine (in_any _ _ _ _).mono ?_; rintro e w' ⟨rfl, hw'⟩; rw [hw']; clear hw' w') | (go_at_call_of 27 sf; refine (Sub.call (unhide HZ) (unhide N1 _)).mono ?_; rintro r _ ⟨rfl, z2, rfl⟩) | (go_at_call_of 27 df; refine (Sub.call (unhide HZ) (unhide N2 _)).mono ?_; rintro r _ ⟨rfl, z2, rfl⟩) | (go_at_call_of 7 sf; refine (Sub.call (unhide HZ) (unhide A1 _)).mono ?_; rintro r _ ⟨rfl, z2, rfl⟩) | (go_at_call_of 7 df; refine (Sub.call (unhide HZ) (unhide A2 _)).mono ?_; rintro r _ ⟨rfl, z2, rfl⟩) | (go_at_call 29; refine (Sub.call (unhide HZ) (unhide PL _)).mono ?_; rintro r _ ⟨rfl, z2, rfl⟩))
          go_ret
          exact ⟨rfl, unhide HB _⟩
      | false =>
        have V : insV op false n2 a1 a2 n ll pl = false := by simp [insV, *]
        rw [V]
        clear V
        have E0 := xc 0 (.int .i64 k) rfl
        have E1 := xc 1 (.string s) rfl
        have E2 := xc 2 (.int .i64 op) rfl
        have E3 := xc 3 (.int .i64 sf) rfl
        have E4 := xc 4 (.int .i64 sr) rfl
        have E5 := xc 5 (.int .i64 sk) rfl
        have E6 := xc 6 (.int .i64 sn) rfl
        have E7 := xc 7 (.string ss) rfl
        have E8 := xc 8 (.slice b1 sl c1) rfl
        have E9 := xc 9 (.int .i64 df) rfl
        have E10 := xc 10 (.int .i64 dr) rfl
        have E11 := xc 11 (.int .i64 dk) rfl
        have E12 := xc 12 (.int .i64 dn) rfl
        have E13 := xc 13 (.string ds) rfl
        have E14 := xc 14 (.slice b2 dl c2) rfl
        have E15 := xc 15 (.int .i64 n) rfl
        have E16 := xc 16 (.slice b3 ll c3) rfl
        clear xc
        go_enter Tryd.func26, Tryd.ntmps26
        go_wp2_with (first | (go_at_call 19; refine (in_any _ _ _ _).mono ?_; rintro e w' ⟨rfl, hw'⟩; rw [hw']; clear hw' w') | (go_at_call_of 27 sf; refine (Sub.call (unhide HZ) (unhide N1 _)).mono ?_; rintro r _ ⟨rfl, z2, rfl⟩) | (go_at_call_of 27 df; refine (Sub.call (unhide HZ) (unhide N2 _)).mono ?_; rintro r _ ⟨rfl, z2, rfl⟩) | (go_at_call_of 7 sf; refine (Sub.call (unhide HZ) (unhide A1 _)).mono ?_; rintro r _ ⟨rfl, z2, rfl⟩) | (go_at_call_of 7 df; refine (Sub.call (unhide HZ) (unhide A2 _)).mono ?_; rintro r _ ⟨rfl, z2, rfl⟩) | (go_at_call 29; refine (Sub.call (unhide HZ) (unhide PL _)).mono ?_; rintro r _ ⟨rfl, z2, rfl⟩))
        go_ret
        exact ⟨rfl, unhide HB _⟩
end Go.Proofs.YtmhcbehplhfgfaaDoor
