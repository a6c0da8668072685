/- Whether a term is plain, by the program; over this seat's translation; conditions stand as hypotheses of each. -/
import Derived.Test.YthgbpofcfmnpdaaDoorExS
import Derived.LoopN
namespace Go.Proofs.YthgbpofcfmnpdaaDoor
open Go.ChangeShapes Go.WideShapes Go.ChangeAt Go.RowKit
set_option linter.unusedVariables false
set_option maxRecDepth 8000
set_option linter.unusedSimpArgs false

set_option maxHeartbeats 2000000 in
theorem isp_num (n : Int) (w : World) : Calls Tryd.prog 76 #[.iface 130 (.agg #[.int .i64 n])] w fun r w' => r = .returned (.bool true) ∧ Below w.heap.size w w' := by
  have t1 := taN_sect 130 (.agg #[.int .i64 n]) (by decide)
  have t2 := taN_glob 130 (.agg #[.int .i64 n]) (by decide)
  have m := me_num (.int .i64 n)
  have P0 := hide (parts0 w)
  go_enter Tryd.func76, Tryd.ntmps76
  go_wp2_with (go_at_call 156; refine (unhide P0).mono ?_; rintro r w1 ⟨rfl, hb⟩)
  refine wp_loop_rounds 1 ?_
  rw [rounds_succ]
  go_wp2
  go_ret
  exact ⟨rfl, hb⟩
set_option maxHeartbeats 2000000 in
theorem isp_sym (s : ByteArray) (w : World) : Calls Tryd.prog 76 #[.iface 131 (.agg #[.string s])] w fun r w' => r = .returned (.bool true) ∧ Below w.heap.size w w' := by
  have t1 := taN_sect 131 (.agg #[.string s]) (by decide)
  have t2 := taN_glob 131 (.agg #[.string s]) (by decide)
  have m := me_sym (.string s)
  have P0 := hide (parts0 w)
  go_enter Tryd.func76, Tryd.ntmps76
  go_wp2_with (go_at_call 156; refine (unhide P0).mono ?_; rintro r w1 ⟨rfl, hb⟩)
  refine wp_loop_rounds 1 ?_
  rw [rounds_succ]
  go_wp2
  go_ret
  exact ⟨rfl, hb⟩
set_option maxHeartbeats 2000000 in
theorem isp_here (w : World) : Calls Tryd.prog 76 #[.iface 133 (.agg #[])] w fun r w' => r = .returned (.bool true) ∧ Below w.heap.size w w' := by
  have t1 := taN_sect 133 (.agg #[]) (by decide)
  have t2 := taN_glob 133 (.agg #[]) (by decide)
  have m := me_here 
  have P0 := hide (parts0 w)
  go_enter Tryd.func76, Tryd.ntmps76
  go_wp2_with (go_at_call 156; refine (unhide P0).mono ?_; rintro r w1 ⟨rfl, hb⟩)
  refine wp_loop_rounds 1 ?_
  rw [rounds_succ]
  go_wp2
  go_ret
  exact ⟨rfl, hb⟩
set_option maxHeartbeats 2000000 in
theorem isp_sect (n : Int) (w : World) : Calls Tryd.prog 76 #[.iface 125 (.agg #[.int .i64 n])] w fun r w' => r = .returned (.bool false) ∧ Below w.heap.size w w' := by
  have t1 := taY_sect (.agg #[.int .i64 n])
  have t2 := taN_glob 125 (.agg #[.int .i64 n]) (by decide)
  go_enter Tryd.func76, Tryd.ntmps76
  go_wp2
  go_ret
  exact ⟨rfl, Below.refl _ _⟩
set_option maxHeartbeats 2000000 in
theorem isp_glob (s : ByteArray) (w : World) : Calls Tryd.prog 76 #[.iface 127 (.agg #[.string s])] w fun r w' => r = .returned (.bool false) ∧ Below w.heap.size w w' := by
  have t1 := taY_glob (.agg #[.string s])
  have t2 := taN_sect 127 (.agg #[.string s]) (by decide)
  go_enter Tryd.func76, Tryd.ntmps76
  go_wp2
  go_ret
  exact ⟨rfl, Below.refl _ _⟩
set_option maxHeartbeats 2000000 in
theorem isp_neg (t : TypeId) (x : Value) (q1 : Bool) (h1 : ∀ w : World, Calls Tryd.prog 76 #[.iface t x] w fun r w' => r = .returned (.bool q1) ∧ Below w.heap.size w w') (w : World) : Calls Tryd.prog 76 #[.iface 119 (.agg #[.iface t x])] w fun r w' => r = .returned (.bool q1) ∧ Below w.heap.size w w' := by
  have t1 := taN_sect 119 (.agg #[.iface t x]) (by decide)
  have t2 := taN_glob 119 (.agg #[.iface t x]) (by decide)
  have m := me_neg (.iface t x)
  have P1 := hide (parts1 t x w)
  have H1 := hide h1
  clear h1
  go_enter Tryd.func76, Tryd.ntmps76
  go_wp2_with (go_at_call 154; refine (unhide P1).mono ?_; rintro r w1 ⟨g, rfl, hg, hb⟩)
  have c0 := Lib.cell_of_heap hg 0
  have B1 := hide hb
  have H2 := hide (unhide H1 w1)
  clear hg hb P1
  refine wp_loop_rounds 2 ?_
  rw [rounds_succ]
  go_wp2_with fail
  refine (unhide H2).mono ?_
  rintro r w2 ⟨rfl, hb2⟩
  have B2 := hide ((unhide B1).trans (hb2.mono (unhide B1).size))
  clear hb2 c0 H2 H1
  cases q1 with
  | false =>
    go_wp2
    go_ret
    exact ⟨rfl, unhide B2⟩
  | true =>
    go_wp2
    rw [rounds_succ]
    go_wp2
    go_ret
    exact ⟨rfl, unhide B2⟩
set_option maxHeartbeats 4000000 in
theorem isp_add (t u : TypeId) (x y : Value) (q1 q2 : Bool) (h1 : ∀ w : World, Calls Tryd.prog 76 #[.iface t x] w fun r w' => r = .returned (.bool q1) ∧ Below w.heap.size w w') (h2 : ∀ w : World, Calls Tryd.prog 76 #[.iface u y] w fun r w' => r = .returned (.bool q2) ∧ Below w.heap.size w w') (w : World) : Calls Tryd.prog 76 #[.iface 145 (.agg #[.iface t x, .iface u y])] w fun r w' => r = .returned (.bool (q1 && q2)) ∧ Below w.heap.size w w' := by
  have t1 := taN_sect 145 (.agg #[.iface t x, .iface u y]) (by decide)
  have t2 := taN_glob 145 (.agg #[.iface t x, .iface u y]) (by decide)
  have m := me_add (.iface t x) (.iface u y)
  have P1 := hide (parts2 t u x y w)
  have H1 := hide h1
  have H3 := hide h2
  clear h1 h2
  obtain ⟨T, hT⟩ : ∃ T, (q1 && q2) = T := ⟨_, rfl⟩
  have HT := hide hT
  rw [hT]
  clear hT
  go_enter Tryd.func76, Tryd.ntmps76
  go_wp2_with (go_at_call 155; refine (unhide P1).mono ?_; rintro r w1 ⟨g, rfl, hg, hb⟩)
  have c0 := Lib.cell_of_heap hg 0
  have c1 := hide (Lib.cell_of_heap hg 1)
  have gl := hide (Array.getElem?_eq_some_iff.1 hg).1
  have B1 := hide hb
  have H2 := hide (unhide H1 w1)
  clear hg hb P1
  refine wp_loop_rounds 3 ?_
  rw [rounds_succ]
  go_wp2_with fail
  refine (unhide H2).mono ?_
  rintro r w2 ⟨rfl, hb2⟩
  have B2 := hide ((unhide B1).trans (hb2.mono (unhide B1).size))
  have d1 := (hb2.cell (p := ⟨g, 1, none⟩) (unhide gl)).trans (unhide c1)
  clear hb2 c0 c1 H2 H1 gl
  cases q1 with
  | false =>
    have E := hide ((unhide HT).symm.trans (Bool.false_and _))
    go_wp2
    go_ret
    exact ⟨by rw [unhide E]; rfl, unhide B2⟩
  | true =>
    have E := hide ((unhide HT).symm.trans (Bool.true_and _))
    have H4 := hide (unhide H3 w2)
    go_wp2
    rw [rounds_succ]
    go_wp2_with fail
    refine (unhide H4).mono ?_
    rintro r w3 ⟨rfl, hb3⟩
    have B3 := hide ((unhide B2).trans (hb3.mono (unhide B2).size))
    clear hb3 d1 H4 H3
    cases q2 with
    | false =>
      go_wp2
      go_ret
      exact ⟨by rw [unhide E]; rfl, unhide B3⟩
    | true =>
      go_wp2
      rw [rounds_succ]
      go_wp2
      go_ret
      exact ⟨by rw [unhide E]; rfl, unhide B3⟩
set_option maxHeartbeats 4000000 in
theorem isp_sub (t u : TypeId) (x y : Value) (q1 q2 : Bool) (h1 : ∀ w : World, Calls Tryd.prog 76 #[.iface t x] w fun r w' => r = .returned (.bool q1) ∧ Below w.heap.size w w') (h2 : ∀ w : World, Calls Tryd.prog 76 #[.iface u y] w fun r w' => r = .returned (.bool q2) ∧ Below w.heap.size w w') (w : World) : Calls Tryd.prog 76 #[.iface 146 (.agg #[.iface t x, .iface u y])] w fun r w' => r = .returned (.bool (q1 && q2)) ∧ Below w.heap.size w w' := by
  have t1 := taN_sect 146 (.agg #[.iface t x, .iface u y]) (by decide)
  have t2 := taN_glob 146 (.agg #[.iface t x, .iface u y]) (by decide)
  have m := me_sub (.iface t x) (.iface u y)
  have P1 := hide (parts2 t u x y w)
  have H1 := hide h1
  have H3 := hide h2
  clear h1 h2
  obtain ⟨T, hT⟩ : ∃ T, (q1 && q2) = T := ⟨_, rfl⟩
  have HT := hide hT
  rw [hT]
  clear hT
  go_enter Tryd.func76, Tryd.ntmps76
  go_wp2_with (go_at_call 155; refine (unhide P1).mono ?_; rintro r w1 ⟨g, rfl, hg, hb⟩)
  have c0 := Lib.cell_of_heap hg 0
  have c1 := hide (Lib.cell_of_heap hg 1)
  have gl := hide (Array.getElem?_eq_some_iff.1 hg).1
  have B1 := hide hb
  have H2 := hide (unhide H1 w1)
  clear hg hb P1
  refine wp_loop_rounds 3 ?_
  rw [rounds_succ]
  go_wp2_with fail
  refine (unhide H2).mono ?_
  rintro r w2 ⟨rfl, hb2⟩
  have B2 := hide ((unhide B1).trans (hb2.mono (unhide B1).size))
  have d1 := (hb2.cell (p := ⟨g, 1, none⟩) (unhide gl)).trans (unhide c1)
  clear hb2 c0 c1 H2 H1 gl
  cases q1 with
  | false =>
    have E := hide ((unhide HT).symm.trans (Bool.false_and _))
    go_wp2
    go_ret
    exact ⟨by rw [unhide E]; rfl, unhide B2⟩
  | true =>
    have E := hide ((unhide HT).symm.trans (Bool.true_and _))
    have H4 := hide (unhide H3 w2)
    go_wp2
    rw [rounds_succ]
    go_wp2_with fail
    refine (unhide H4).mono ?_
    rintro r w3 ⟨rfl, hb3⟩
    have B3 := hide ((unhide B2).trans (hb3.mono (unhide B2).size))
    clear hb3 d1 H4 H3
    cases q2 with
    | false =>
      go_wp2
      go_ret
      exact ⟨by rw [unhide E]; rfl, unhide B3⟩
    | true =>
      go_wp2
      rw [rounds_succ]
      go_wp2
      go_ret
      exact ⟨by rw [unhide E]; rfl, unhide B3⟩
set_option maxHeartbeats 4000000 in
theorem isp_mul (t u : TypeId) (x y : Value) (q1 q2 : Bool) (h1 : ∀ w : World, Calls Tryd.prog 76 #[.iface t x] w fun r w' => r = .returned (.bool q1) ∧ Below w.heap.size w w') (h2 : ∀ w : World, Calls Tryd.prog 76 #[.iface u y] w fun r w' => r = .returned (.bool q2) ∧ Below w.heap.size w w') (w : World) : Calls Tryd.prog 76 #[.iface 147 (.agg #[.iface t x, .iface u y])] w fun r w' => r = .returned (.bool (q1 && q2)) ∧ Below w.heap.size w w' := by
  have t1 := taN_sect 147 (.agg #[.iface t x, .iface u y]) (by decide)
  have t2 := taN_glob 147 (.agg #[.iface t x, .iface u y]) (by decide)
  have m := me_mul (.iface t x) (.iface u y)
  have P1 := hide (parts2 t u x y w)
  have H1 := hide h1
  have H3 := hide h2
  clear h1 h2
  obtain ⟨T, hT⟩ : ∃ T, (q1 && q2) = T := ⟨_, rfl⟩
  have HT := hide hT
  rw [hT]
  clear hT
  go_enter Tryd.func76, Tryd.ntmps76
  go_wp2_with (go_at_call 155; refine (unhide P1).mono ?_; rintro r w1 ⟨g, rfl, hg, hb⟩)
  have c0 := Lib.cell_of_heap hg 0
  have c1 := hide (Lib.cell_of_heap hg 1)
  have gl := hide (Array.getElem?_eq_some_iff.1 hg).1
  have B1 := hide hb
  have H2 := hide (unhide H1 w1)
  clear hg hb P1
  refine wp_loop_rounds 3 ?_
  rw [rounds_succ]
  go_wp2_with fail
  refine (unhide H2).mono ?_
  rintro r w2 ⟨rfl, hb2⟩
  have B2 := hide ((unhide B1).trans (hb2.mono (unhide B1).size))
  have d1 := (hb2.cell (p := ⟨g, 1, none⟩) (unhide gl)).trans (unhide c1)
  clear hb2 c0 c1 H2 H1 gl
  cases q1 with
  | false =>
    have E := hide ((unhide HT).symm.trans (Bool.false_and _))
    go_wp2
    go_ret
    exact ⟨by rw [unhide E]; rfl, unhide B2⟩
  | true =>
    have E := hide ((unhide HT).symm.trans (Bool.true_and _))
    have H4 := hide (unhide H3 w2)
    go_wp2
    rw [rounds_succ]
    go_wp2_with fail
    refine (unhide H4).mono ?_
    rintro r w3 ⟨rfl, hb3⟩
    have B3 := hide ((unhide B2).trans (hb3.mono (unhide B2).size))
    clear hb3 d1 H4 H3
    cases q2 with
    | false =>
      go_wp2
      go_ret
      exact ⟨by rw [unhide E]; rfl, unhide B3⟩
    | true =>
      go_wp2
      rw [rounds_succ]
      go_wp2
      go_ret
      exact ⟨by rw [unhide E]; rfl, unhide B3⟩
set_option maxHeartbeats 4000000 in
theorem isp_div (t u : TypeId) (x y : Value) (q1 q2 : Bool) (h1 : ∀ w : World, Calls Tryd.prog 76 #[.iface t x] w fun r w' => r = .returned (.bool q1) ∧ Below w.heap.size w w') (h2 : ∀ w : World, Calls Tryd.prog 76 #[.iface u y] w fun r w' => r = .returned (.bool q2) ∧ Below w.heap.size w w') (w : World) : Calls Tryd.prog 76 #[.iface 148 (.agg #[.iface t x, .iface u y])] w fun r w' => r = .returned (.bool (q1 && q2)) ∧ Below w.heap.size w w' := by
  have t1 := taN_sect 148 (.agg #[.iface t x, .iface u y]) (by decide)
  have t2 := taN_glob 148 (.agg #[.iface t x, .iface u y]) (by decide)
  have m := me_div (.iface t x) (.iface u y)
  have P1 := hide (parts2 t u x y w)
  have H1 := hide h1
  have H3 := hide h2
  clear h1 h2
  obtain ⟨T, hT⟩ : ∃ T, (q1 && q2) = T := ⟨_, rfl⟩
  have HT := hide hT
  rw [hT]
  clear hT
  go_enter Tryd.func76, Tryd.ntmps76
  go_wp2_with (go_at_call 155; refine (unhide P1).mono ?_; rintro r w1 ⟨g, rfl, hg, hb⟩)
  have c0 := Lib.cell_of_heap hg 0
  have c1 := hide (Lib.cell_of_heap hg 1)
  have gl := hide (Array.getElem?_eq_some_iff.1 hg).1
  have B1 := hide hb
  have H2 := hide (unhide H1 w1)
  clear hg hb P1
  refine wp_loop_rounds 3 ?_
  rw [rounds_succ]
  go_wp2_with fail
  refine (unhide H2).mono ?_
  rintro r w2 ⟨rfl, hb2⟩
  have B2 := hide ((unhide B1).trans (hb2.mono (unhide B1).size))
  have d1 := (hb2.cell (p := ⟨g, 1, none⟩) (unhide gl)).trans (unhide c1)
  clear hb2 c0 c1 H2 H1 gl
  cases q1 with
  | false =>
    have E := hide ((unhide HT).symm.trans (Bool.false_and _))
    go_wp2
    go_ret
    exact ⟨by rw [unhide E]; rfl, unhide B2⟩
  | true =>
    have E := hide ((unhide HT).symm.trans (Bool.true_and _))
    have H4 := hide (unhide H3 w2)
    go_wp2
    rw [rounds_succ]
    go_wp2_with fail
    refine (unhide H4).mono ?_
    rintro r w3 ⟨rfl, hb3⟩
    have B3 := hide ((unhide B2).trans (hb3.mono (unhide B2).size))
    clear hb3 d1 H4 H3
    cases q2 with
    | false =>
      go_wp2
      go_ret
      exact ⟨by rw [unhide E]; rfl, unhide B3⟩
    | true =>
      go_wp2
      rw [rounds_succ]
      go_wp2
      go_ret
      exact ⟨by rw [unhide E]; rfl, unhide B3⟩
set_option maxHeartbeats 4000000 in
theorem isp_and (t u : TypeId) (x y : Value) (q1 q2 : Bool) (h1 : ∀ w : World, Calls Tryd.prog 76 #[.iface t x] w fun r w' => r = .returned (.bool q1) ∧ Below w.heap.size w w') (h2 : ∀ w : World, Calls Tryd.prog 76 #[.iface u y] w fun r w' => r = .returned (.bool q2) ∧ Below w.heap.size w w') (w : World) : Calls Tryd.prog 76 #[.iface 149 (.agg #[.iface t x, .iface u y])] w fun r w' => r = .returned (.bool (q1 && q2)) ∧ Below w.heap.size w w' := by
  have t1 := taN_sect 149 (.agg #[.iface t x, .iface u y]) (by decide)
  have t2 := taN_glob 149 (.agg #[.iface t x, .iface u y]) (by decide)
  have m := me_and (.iface t x) (.iface u y)
  have P1 := hide (parts2 t u x y w)
  have H1 := hide h1
  have H3 := hide h2
  clear h1 h2
  obtain ⟨T, hT⟩ : ∃ T, (q1 && q2) = T := ⟨_, rfl⟩
  have HT := hide hT
  rw [hT]
  clear hT
  go_enter Tryd.func76, Tryd.ntmps76
  go_wp2_with (go_at_call 155; refine (unhide P1).mono ?_; rintro r w1 ⟨g, rfl, hg, hb⟩)
  have c0 := Lib.cell_of_heap hg 0
  have c1 := hide (Lib.cell_of_heap hg 1)
  have gl := hide (Array.getElem?_eq_some_iff.1 hg).1
  have B1 := hide hb
  have H2 := hide (unhide H1 w1)
  clear hg hb P1
  refine wp_loop_rounds 3 ?_
  rw [rounds_succ]
  go_wp2_with fail
  refine (unhide H2).mono ?_
  rintro r w2 ⟨rfl, hb2⟩
  have B2 := hide ((unhide B1).trans (hb2.mono (unhide B1).size))
  have d1 := (hb2.cell (p := ⟨g, 1, none⟩) (unhide gl)).trans (unhide c1)
  clear hb2 c0 c1 H2 H1 gl
  cases q1 with
  | false =>
    have E := hide ((unhide HT).symm.trans (Bool.false_and _))
    go_wp2
    go_ret
    exact ⟨by rw [unhide E]; rfl, unhide B2⟩
  | true =>
    have E := hide ((unhide HT).symm.trans (Bool.true_and _))
    have H4 := hide (unhide H3 w2)
    go_wp2
    rw [rounds_succ]
    go_wp2_with fail
    refine (unhide H4).mono ?_
    rintro r w3 ⟨rfl, hb3⟩
    have B3 := hide ((unhide B2).trans (hb3.mono (unhide B2).size))
    clear hb3 d1 H4 H3
    cases q2 with
    | false =>
      go_wp2
      go_ret
      exact ⟨by rw [unhide E]; rfl, unhide B3⟩
    | true =>
      go_wp2
      rw [rounds_succ]
      go_wp2
      go_ret
      exact ⟨by rw [unhide E]; rfl, unhide B3⟩
set_option maxHeartbeats 4000000 in
theorem isp_or (t u : TypeId) (x y : Value) (q1 q2 : Bool) (h1 : ∀ w : World, Calls Tryd.prog 76 #[.iface t x] w fun r w' => r = .returned (.bool q1) ∧ Below w.heap.size w w') (h2 : ∀ w : World, Calls Tryd.prog 76 #[.iface u y] w fun r w' => r = .returned (.bool q2) ∧ Below w.heap.size w w') (w : World) : Calls Tryd.prog 76 #[.iface 150 (.agg #[.iface t x, .iface u y])] w fun r w' => r = .returned (.bool (q1 && q2)) ∧ Below w.heap.size w w' := by
  have t1 := taN_sect 150 (.agg #[.iface t x, .iface u y]) (by decide)
  have t2 := taN_glob 150 (.agg #[.iface t x, .iface u y]) (by decide)
  have m := me_or (.iface t x) (.iface u y)
  have P1 := hide (parts2 t u x y w)
  have H1 := hide h1
  have H3 := hide h2
  clear h1 h2
  obtain ⟨T, hT⟩ : ∃ T, (q1 && q2) = T := ⟨_, rfl⟩
  have HT := hide hT
  rw [hT]
  clear hT
  go_enter Tryd.func76, Tryd.ntmps76
  go_wp2_with (go_at_call 155; refine (unhide P1).mono ?_; rintro r w1 ⟨g, rfl, hg, hb⟩)
  have c0 := Lib.cell_of_heap hg 0
  have c1 := hide (Lib.cell_of_heap hg 1)
  have gl := hide (Array.getElem?_eq_some_iff.1 hg).1
  have B1 := hide hb
  have H2 := hide (unhide H1 w1)
  clear hg hb P1
  refine wp_loop_rounds 3 ?_
  rw [rounds_succ]
  go_wp2_with fail
  refine (unhide H2).mono ?_
  rintro r w2 ⟨rfl, hb2⟩
  have B2 := hide ((unhide B1).trans (hb2.mono (unhide B1).size))
  have d1 := (hb2.cell (p := ⟨g, 1, none⟩) (unhide gl)).trans (unhide c1)
  clear hb2 c0 c1 H2 H1 gl
  cases q1 with
  | false =>
    have E := hide ((unhide HT).symm.trans (Bool.false_and _))
    go_wp2
    go_ret
    exact ⟨by rw [unhide E]; rfl, unhide B2⟩
  | true =>
    have E := hide ((unhide HT).symm.trans (Bool.true_and _))
    have H4 := hide (unhide H3 w2)
    go_wp2
    rw [rounds_succ]
    go_wp2_with fail
    refine (unhide H4).mono ?_
    rintro r w3 ⟨rfl, hb3⟩
    have B3 := hide ((unhide B2).trans (hb3.mono (unhide B2).size))
    clear hb3 d1 H4 H3
    cases q2 with
    | false =>
      go_wp2
      go_ret
      exact ⟨by rw [unhide E]; rfl, unhide B3⟩
    | true =>
      go_wp2
      rw [rounds_succ]
      go_wp2
      go_ret
      exact ⟨by rw [unhide E]; rfl, unhide B3⟩
theorem isp_all : ∀ d : Nat, IsP d := by
  intro d
  induction d with
  | zero => intro e w h; cases h
  | succ d ih =>
    intro e w h
    rcases ok_cases h with ⟨n, hn, rfl⟩ | ⟨s, hs, rfl⟩ | rfl | ⟨a, ha, rfl⟩ | ⟨k, a, b, hk, ha, hb, rfl⟩ | ⟨n, hn, rfl⟩ | ⟨s, hs, rfl⟩
    · rw [tv_num, plain_num hn]; exact isp_num n w
    · rw [tv_sym, plain_sym hs]; exact isp_sym s w
    · rw [tv_here, plain_here]; exact isp_here w
    · obtain ⟨t, x, e1⟩ := tv_if a
      have h1 := fun w => ih a w ha
      rw [e1] at h1
      rw [tv_neg, e1, plain_one]
      exact isp_neg t x _ h1 w
    · obtain ⟨t, x, e1⟩ := tv_if a
      obtain ⟨u, y, e2⟩ := tv_if b
      have h1 := fun w => ih a w ha
      have h2 := fun w => ih b w hb
      rw [e1] at h1
      rw [e2] at h2
      rw [tv_two hk, e1, e2, plain_pair d hk]
      have : k = 5 ∨ k = 6 ∨ k = 7 ∨ k = 8 ∨ k = 9 ∨ k = 10 := by omega
      rcases this with rfl | rfl | rfl | rfl | rfl | rfl
      · exact isp_add t u x y _ _ h1 h2 w
      · exact isp_sub t u x y _ _ h1 h2 w
      · exact isp_mul t u x y _ _ h1 h2 w
      · exact isp_div t u x y _ _ h1 h2 w
      · exact isp_and t u x y _ _ h1 h2 w
      · exact isp_or t u x y _ _ h1 h2 w
    · rw [tv_sect, show okF (d + 1) true ⟨11, n, E0, []⟩ = false by simp [okF]]; exact isp_sect n w
    · rw [tv_glob, show okF (d + 1) true ⟨12, 0, s, []⟩ = false by simp [okF]]; exact isp_glob s w
theorem plain_ok : ∀ (d : Nat) (e : Ex), okF d true e = true → okF d false e = true := by
  intro d
  induction d with
  | zero => intro e h; cases h
  | succ d ih =>
    intro e h
    rw [okF_s, Bool.and_eq_true, Bool.and_eq_true] at h
    rw [okF_s, h.1]
    have h3 := h.2.2
    rw [List.all_eq_true] at h3
    have : e.l.all (okF d false) = true := List.all_eq_true.2 fun x hx => ih x (h3 x hx)
    rw [this]
    rfl
theorem plain_not {d : Nat} {e : Ex} (h : okF d false e = false) : okF d true e = false := by
  cases h2 : okF d true e with
  | false => rfl
  | true => rw [plain_ok d e h2] at h; cases h
set_option maxHeartbeats 1000000 in
theorem plainI_any (e : Ex) (b : Option Addr) (cap : Nat) (w : World) (hr : RdX w 0 e b) (hz : e.sz ≤ 1048576) (ht : TabK w) : Calls Tryd.prog 32 #[.agg (e.cs b cap)] w fun r w' => r = .returned (.bool (okF 6 true e)) ∧ Below w.heap.size w w' := by
  have B0 := below_new w (.cells (e.cs b cap) 37)
  have HH := hide (term_all 6 (by omega) e b cap _ (hr.later B0) hz (ht.next B0))
  have HB := hide B0
  have IP := hide (fun w1 h => isp_all 6 e w1 h)
  have NP := hide (plain_not (d := 6) (e := e))
  clear hr B0 ht
  unfold TermR at HH
  obtain ⟨t, x, e1⟩ := tv_if e
  rw [e1] at HH IP
  clear e1
  generalize okF 6 false e = q at *
  generalize okF 6 true e = q2 at *
  unfold Ex.cs at HH HB ⊢
  generalize e.l.length = ll at *
  go_enter Tryd.func32, Tryd.ntmps32
  go_wp2_with fail
  refine (unhide HH).mono ?_
  rintro r w1 ⟨v, rfl, hv, hb1⟩
  have BB := hide ((unhide HB).trans (hb1.mono (unhide HB).size))
  cases q with
  | false =>
    have E := hide (unhide NP rfl)
    clear hb1 HH HB hv IP
    go_wp2
    go_ret
    exact ⟨by rw [unhide E]; rfl, unhide BB⟩
  | true =>
    have hve := hv rfl
    subst hve
    have I2 := hide (unhide IP w1 rfl)
    clear hb1 HH HB hv IP NP
    go_wp2_with (go_at_call 76; refine (unhide I2).mono ?_; rintro r w2 ⟨rfl, hb2⟩)
    go_ret
    exact ⟨rfl, (unhide BB).trans (hb2.mono (unhide BB).size)⟩
end Go.Proofs.YthgbpofcfmnpdaaDoor
