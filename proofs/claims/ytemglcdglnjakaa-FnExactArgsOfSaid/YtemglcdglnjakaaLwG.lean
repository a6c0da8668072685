/- A row appended to rows; tokens cut at commas (data); ArgsOf by the model; over this seat's translation; conditions stand as hypotheses of each. -/
import Derived.Test.YtemglcdglnjakaaLwF
import Derived.Test.YtemglcdglnjakaaRxO
namespace Go.Proofs.Ytemglcdglnjakaa
open Go.ChangeShapes Go.WideShapes Go.ChangeAt Go.RowKit
set_option linter.unusedVariables false
set_option maxRecDepth 8000
set_option linter.unusedSimpArgs false

theorem OwnT.cell1 {w : World} {B : Nat} {v : Value} {ts : List Tk} (h : OwnT w B v ts) : v.oneCell' = true := by
  rcases h.form with ⟨rfl, _⟩ | ⟨g, cap, rfl, _⟩ <;> rfl
section
variable {ops : Array Oper} {rest : List Oper} {o : Oper} {a : Act} {Q : Exit → Act → World → Prop} {w : World} {B : Nat}
/-- One row appended. -/
theorem appR (hgd : o.guard = none) (s x : Operand) (ho : o.op = .call { callee := .builtin .append, args := #[s, x], argTypes := #[32, 32] }) {v : Value} {ps : List (List Tk)} {vs : List Value} (hs : a.eval s = v) (hown : OwnR w B v ps vs) (g : Nat) (p : Value) (us : List Tk) (hx : a.eval x = .slice (some ⟨g, 0, none⟩) 1 1) (hg : w.heap[g]? = some (.cells #[p] 28 (0, 0))) (hp : OwnT w B p us) (hne : ∀ i, i < ps.length → ∀ b, (vs.getD i undef).ownBlock = some b → p.ownBlock ≠ some b) (hl : ps.length ≤ 1000000000000) (hB : B ≤ w.heap.size)
    (h : ∀ (v' : Value) (w' : World), OwnR w' B v' (ps ++ [us]) (vs ++ [p]) → w.grownBy w' v.ownBlock → wpList Try.prog ops Q rest (a.put o.dst v') w') : wpList Try.prog ops Q (o :: rest) a w := by
  obtain ⟨i0, hi0, hz0, hz1, hz2⟩ := info_parts infoR
  refine wpList_append_own w hgd s x 32 ho B 28 i0 (.slice none 0 0) 1 24 Try.underlying32 hi0 hz0 hz1 hz2 rfl (by decide) v ps.length vs hs hown.row ⟨g, 0, none⟩ 1 1 [p] hx rfl (fun j u hj => by
    have hc := Lib.cell_of_heap hg j
    have e : (#[p] : Array Value)[j]? = some u := by rw [← hj]; simp
    rw [addr_add, Nat.zero_add]
    exact hc.trans e) (fun u hu => by rw [List.mem_singleton.1 hu]; exact hp.cell1) (by unfold maxLen; omega) (by omega) hB ?_
  intro v' w' h1 h2 _
  have kp : ∀ {q : Value} {us : List Tk}, OwnT w B q us → OwnT w' B q us := fun {q us} hq => hq.keep fun k hk hlt => h2.block k hlt (fun e => own_twoR hown.row hq (by decide) e.symm hk)
  have g1 : ∀ i, i < ps.length → (vs ++ [p]).getD i undef = vs.getD i undef := fun i hi => by
    rw [List.getD_eq_getElem?_getD, List.getD_eq_getElem?_getD, List.getElem?_append_left (by rw [hown.n]; exact hi)]
  have g2 : (vs ++ [p]).getD ps.length undef = p := by
    rw [List.getD_eq_getElem?_getD, List.getElem?_append_right (by rw [hown.n]; exact Nat.le_refl _), hown.n, Nat.sub_self]
    rfl
  have r1 : ∀ i, i < ps.length → rAt (ps ++ [us]) i = rAt ps i := fun i hi => by
    unfold rAt
    rw [List.getD_eq_getElem?_getD, List.getD_eq_getElem?_getD, List.getElem?_append_left hi]
  have r2 : rAt (ps ++ [us]) ps.length = us := by
    unfold rAt
    rw [List.getD_eq_getElem?_getD, List.getElem?_append_right (Nat.le_refl _), Nat.sub_self]
    rfl
  refine h v' w' ⟨by simp [hown.n], by rw [List.length_append]; exact h1, fun i hi => ?_, fun i j hi hj hij b hb => ?_⟩ h2
  · rw [List.length_append, List.length_singleton] at hi
    by_cases hlt : i < ps.length
    · rw [g1 i hlt, r1 i hlt]
      exact kp (hown.own i hlt)
    · obtain rfl : i = ps.length := by omega
      rw [g2, r2]
      exact kp hp
  · rw [List.length_append, List.length_singleton] at hi hj
    by_cases hli : i < ps.length
    · rw [g1 i hli] at hb
      by_cases hlj : j < ps.length
      · rw [g1 j hlj]
        exact hown.ap i j hli hlj hij b hb
      · obtain rfl : j = ps.length := by omega
        rw [g2]
        exact hne i hli b hb
    · obtain rfl : i = ps.length := by omega
      rw [g2] at hb
      by_cases hlj : j < ps.length
      · rw [g1 j hlj]
        intro e
        exact hne j hlj b e hb
      · omega
end
theorem OwnR.keep {w w' : World} {B : Nat} {v : Value} {ps : List (List Tk)} {vs : List Value} (h : OwnR w B v ps vs) (h1 : ∀ g, v.ownBlock = some g → w'.heap[g]? = w.heap[g]?) (h2 : ∀ i, i < ps.length → ∀ g, (vs.getD i undef).ownBlock = some g → w'.heap[g]? = w.heap[g]?) : OwnR w' B v ps vs :=
  ⟨h.n, ownsRow_keepR h.row h1, fun i hi => (h.own i hi).keep fun g hg _ => h2 i hi g hg, h.ap⟩
theorem ownR_empty (w : World) : OwnR (w.alloc (Obj.cells #[] 28)) w.heap.size (.slice (some ⟨w.heap.size, 0, none⟩) 0 0) [] [] :=
  ⟨rfl, World.ownsRow_lit w #[] 0 (Nat.le_refl _) (by decide) rfl, fun i hi => by simp at hi, fun i j hi => by simp at hi⟩
/-- A comma. -/
def isC (t : Tk) : Bool := t.k == 4 && t.s.toList == [44]
/-- Tokens cut at commas, one part begun. -/
def agS : List Tk → List Tk → List (List Tk)
  | one, [] => [one]
  | one, t :: r => if isC t = true then one :: agS [] r else agS (one ++ [t]) r
def agA (ts : List Tk) : List (List Tk) := if ts = [] then [] else agS [] ts
theorem agS_len : ∀ (ts one : List Tk), (agS one ts).length ≤ ts.length + 1
  | [], one => Nat.le_refl _
  | t :: r, one => by
    unfold agS
    split
    · have := agS_len r []
      simp
      omega
    · have := agS_len r (one ++ [t])
      simp
      omega
theorem agS_row : ∀ (ts one : List Tk) (M : Nat), one.length + ts.length ≤ M → ∀ i, i < (agS one ts).length → (rAt (agS one ts) i).length ≤ M
  | [], one, M, h, i, hi => by
    have hi : i < 1 := hi
    obtain rfl : i = 0 := by omega
    show one.length ≤ M
    simpa using h
  | t :: r, one, M, h, i, hi => by
    rw [List.length_cons] at h
    unfold agS at hi ⊢
    split at hi
    · rename_i hc
      rw [if_pos hc]
      cases i with
      | zero => show one.length ≤ M; omega
      | succ i => exact agS_row r [] M (by simp; omega) i (by simpa using hi)
    · rename_i hc
      rw [if_neg hc]
      exact agS_row r (one ++ [t]) M (by simp; omega) i hi
theorem ag_cut {O acc : List (List Tk)} {one ts : List Tk} {k : Nat} (h : O = acc ++ agS one (ts.drop k)) (hk : k < ts.length) (hc : isC (tAt ts k) = true) : O = (acc ++ [one]) ++ agS [] (ts.drop (k + 1)) := by
  have e : tAt ts k = ts[k] := by unfold tAt; rw [List.getD_eq_getElem?_getD, List.getElem?_eq_getElem hk]; rfl
  rw [h, List.drop_eq_getElem_cons hk, agS, ← e, if_pos hc]
  simp
theorem ag_on {O acc : List (List Tk)} {one ts : List Tk} {k : Nat} (h : O = acc ++ agS one (ts.drop k)) (hk : k < ts.length) (hc : isC (tAt ts k) = false) : O = acc ++ agS (one ++ [tAt ts k]) (ts.drop (k + 1)) := by
  have e : tAt ts k = ts[k] := by unfold tAt; rw [List.getD_eq_getElem?_getD, List.getElem?_eq_getElem hk]; rfl
  rw [h, List.drop_eq_getElem_cons hk, agS, ← e, if_neg (by rw [hc]; decide)]
theorem ag_end {O acc : List (List Tk)} {one ts : List Tk} (h : O = acc ++ agS one (ts.drop ts.length)) : O = acc ++ [one] := by
  rw [h, List.drop_length]
  rfl
/-- Rows that grow, and one that is begun. -/
structure AgQ (w wr : World) (ov nv : Value) (acc : List (List Tk)) (vs : List Value) (one : List Tk) : Prop where
  own : OwnR wr w.heap.size ov acc vs
  one : OwnT wr w.heap.size nv one
  ne : ∀ i, i < acc.length → ∀ b, (vs.getD i undef).ownBlock = some b → nv.ownBlock ≠ some b
  bel : Below w.heap.size w wr
section
variable {w wr w' : World} {ov nv : Value} {acc : List (List Tk)} {vs : List Value} {one : List Tk}
theorem AgQ.later (h : AgQ w wr ov nv acc vs one) (hb : Below wr.heap.size wr w') : AgQ w w' ov nv acc vs one := ⟨h.own.later hb, h.one.later hb, h.ne, h.bel.trans (hb.mono h.bel.size)⟩
/-- The row that is begun grows. -/
theorem AgQ.grow {nv' : Value} {one' : List Tk} (h : AgQ w wr ov nv acc vs one) (ho : OwnT w' w.heap.size nv' one') (hg : wr.grownBy w' nv.ownBlock) (hw : nv'.ownBlock = nv.ownBlock ∨ ∀ b, nv'.ownBlock = some b → wr.heap.size ≤ b) : AgQ w w' ov nv' acc vs one' := by
  refine ⟨h.own.keep (fun g hg' => hg.block g (World.ownsRow.lt h.own.row g hg').2 (fun e => own_twoR h.own.row h.one (by decide) hg' e.symm)) (fun i hi g hg' => hg.block g ((h.own.own i hi).lt hg').2 (fun e => h.ne i hi g hg' e.symm)), ho, fun i hi b hb e => ?_, h.bel.grown hg h.bel.size (fun g hg' => (h.one.lt hg').1)⟩
  rcases hw with hw | hw
  · exact h.ne i hi b hb (by rw [← hw]; exact e)
  · have := hw b e
    have := ((h.own.own i hi).lt hb).2
    omega
end
section
variable {ops : Array Oper} {rest : List Oper} {o : Oper} {a : Act} {Q : Exit → Act → World → Prop} {w : World} {B : Nat}
/-- One token appended, and where. -/
theorem appT1 (hgd : o.guard = none) (s x : Operand) (ho : o.op = .call { callee := .builtin .append, args := #[s, x], argTypes := #[28, 28] }) {v : Value} {ts : List Tk} (hs : a.eval s = v) (hown : OwnT w B v ts) (g : Nat) (t : Tk) (hx : a.eval x = .slice (some ⟨g, 0, none⟩) 1 1) (hr : RdT w (some ⟨g, 0, none⟩) [t]) (hl : (ts.length + 1) * 32 ≤ 140737488355328) (hB : B ≤ w.heap.size)
    (h : ∀ (v' : Value) (w' : World), OwnT w' B v' (ts ++ [t]) → w.grownBy w' v.ownBlock → (v'.ownBlock = v.ownBlock ∨ ∀ b, v'.ownBlock = some b → w.heap.size ≤ b) → wpList Try.prog ops Q rest (a.put o.dst v') w') : wpList Try.prog ops Q (o :: rest) a w := by
  obtain ⟨i0, hi, hz0, hz1, hz2⟩ := info_parts infoT
  refine wpList_append_to hgd s x 28 ho B 45 i0 (.agg #[.int .i64 0, .int .i64 0, .string ⟨#[]⟩]) 3 32 Try.underlying28 hi hz0 hz1 hz2 rfl (by decide) v ts.length (cellsT ts) hs hown ⟨g, 0, none⟩ 1 1 (cellsT [t]) hx rfl hr.src (cellsT_one [t]) (by unfold maxLen; omega) hl hB (by decide) ?_
  intro g' cap w' h1 h2 h3
  refine h _ w' ?_ h2 ?_
  · unfold OwnT
    rw [List.length_append, cellsT_app]
    exact h1
  · rcases h3 with h3 | h3
    · exact .inl h3.symm
    · exact .inr fun b hb => by cases hb; exact Nat.le_of_eq h3.symm
end
theorem AgQ.fresh {w wr : World} {ov nv : Value} {acc : List (List Tk)} {vs : List Value} {one : List Tk} (h : AgQ w wr ov nv acc vs one) : AgQ w (wr.alloc (Obj.cells #[] 45)) ov (.slice (some ⟨wr.heap.size, 0, none⟩) 0 0) acc vs [] := by
  have hb := below_new wr (Obj.cells #[] 45)
  have h' := h.later hb
  exact ⟨h'.own, World.ownsRow_lit wr #[] 0 h.bel.size (by decide) rfl, fun i hi b hb' e => by have := ((h.own.own i hi).lt hb').2; simp [Value.ownBlock] at e; omega, h'.bel⟩
/-- The row that was begun is put behind the others. -/
theorem AgQ.cut {w wr w' : World} {ov nv ov' : Value} {acc : List (List Tk)} {vs : List Value} {one : List Tk} (h : AgQ w wr ov nv acc vs one) (ho : OwnR w' w.heap.size ov' (acc ++ [one]) (vs ++ [nv])) (hg : wr.grownBy w' ov.ownBlock) : AgQ w (w'.alloc (Obj.cells #[] 45)) ov' (.slice (some ⟨w'.heap.size, 0, none⟩) 0 0) (acc ++ [one]) (vs ++ [nv]) [] := by
  have hb := below_new w' (Obj.cells #[] 45)
  have hbel : Below w.heap.size w w' := h.bel.grown hg h.bel.size (fun g hg' => (World.ownsRow.lt h.own.row g hg').1)
  exact ⟨ho.later hb, World.ownsRow_lit w' #[] 0 hbel.size (by decide) rfl, fun i hi b hb' e => by have := ((ho.own i hi).lt hb').2; simp [Value.ownBlock] at e; omega, hbel.trans (hb.mono hbel.size)⟩
set_option maxHeartbeats 8000000 in
theorem argS (ts : List Tk) (la : Option Addr) (lc : Nat) (w : World) (hl : ts.length ≤ 1048576) (h1 : RdT w la ts) : Calls Try.prog 20 #[.slice la ts.length lc] w fun r w' => ∃ v vs, r = .returned v ∧ OwnR w' w.heap.size v (agA ts) vs ∧ Below w.heap.size w w' := by
  by_cases h0 : ts = []
  · subst h0
    have O0 := hide (ownR_empty w)
    have B0 := hide (below_new w (Obj.cells #[] 28))
    clear h1
    show Calls Try.prog 20 #[.slice la 0 lc] w _
    go_enter Try.func20, Try.ntmps20
    go_wp2
    go_ret
    exact ⟨_, _, rfl, unhide O0, unhide B0⟩
  have hp : 0 < ts.length := List.length_pos_iff.2 h0
  have E0 := hide (show agA ts = [] ++ agS [] (ts.drop 0) by unfold agA; rw [if_neg h0]; rfl)
  generalize agA ts = O at *
  obtain ⟨len, hlen⟩ : ∃ len, ts.length = len := ⟨_, rfl⟩
  have A0 := hide (show AgQ w ((w.alloc (Obj.cells #[] 28)).alloc (Obj.cells #[] 45)) (.slice (some ⟨w.heap.size, 0, none⟩) 0 0) (.slice (some ⟨w.heap.size + 1, 0, none⟩) 0 0) [] [] [] from by
    have hb := below_new w (Obj.cells #[] 28)
    have hb2 := below_new (w.alloc (Obj.cells #[] 28)) (Obj.cells #[] 45)
    have hz : (w.alloc (Obj.cells #[] 28)).heap.size = w.heap.size + 1 := by simp
    refine ⟨(ownR_empty w).later hb2, ?_, fun i hi => by simp at hi, hb.trans (hb2.mono hb.size)⟩
    rw [← hz]
    exact World.ownsRow_lit _ #[] 0 hb.size (by decide) rfl)
  rw [hlen] at hl hp ⊢
  have hp0 : ((len : Int) == 0) = false := beq_eq_false_iff_ne.2 (by omega)
  go_enter Try.func20, Try.ntmps20
  go_wp2
  go_loopw [3, 4, 5] (fun ov nv i wr => ∃ (k : Nat) (acc : List (List Tk)) (vs : List Value) (one : List Tk), k ≤ len ∧ i = .int .i64 k ∧ acc.length ≤ k ∧ one.length ≤ k ∧ Hid (O = acc ++ agS one (ts.drop k)) ∧ AgQ w wr ov nv acc vs one) (fun _ _ i _ => len - (intOf i).toNat)
  case atStart => exact ⟨0, [], [], [], Nat.zero_le _, rfl, Nat.le_refl _, Nat.le_refl _, unhide E0, unhide A0⟩
  case round =>
    clear E0 A0
    obtain ⟨k, acc, vs, one, hk, rfl, ha, hn, ho, hq⟩ := hrel
    by_cases hlt : k < len
    · rcases h1 with h00 | ⟨g, off, rfl, hbl, hc⟩
      · exact absurd h00 h0
      obtain ⟨c0, c1, c2⟩ := hc k (by omega)
      have hb := hq.bel
      have d0 : wr.cell? ⟨g, off + k * 3, none⟩ = _ := (hb.cell (p := ⟨g, _, none⟩) hbl).trans c0
      have d1 : wr.cell? ⟨g, off + k * 3 + 1, none⟩ = _ := (hb.cell (p := ⟨g, _, none⟩) hbl).trans c1
      have d2 : wr.cell? ⟨g, off + k * 3 + 2, none⟩ = _ := (hb.cell (p := ⟨g, _, none⟩) hbl).trans c2
      have CT := hide (fun hcc => ag_cut ho.out (by omega) hcc)
      have ON := hide (fun hcc => ag_on ho.out (by omega) hcc)
      have QQ := hide hq
      clear c0 c1 c2 hc ho hb hq
      generalize tAt ts k = t at *
      obtain ⟨kk, nn, ss⟩ := t
      simp only at d0 d1 d2
      have CUT := hide (fun (h4 : kk = 4) (hs : (ss.toList == [44]) = true) => unhide CT (by unfold isC; rw [h4, Bool.and_eq_true]; exact ⟨rfl, hs⟩))
      have GO1 := hide (fun (h4 : ¬ kk = 4) => unhide ON (by unfold isC; rw [Bool.and_eq_false_iff]; exact .inl (by simpa using h4)))
      have GO2 := hide (fun (hs : (ss.toList == [44]) = false) => unhide ON (by unfold isC; rw [Bool.and_eq_false_iff]; exact .inr hs))
      obtain ⟨na, nc, rfl, _⟩ := (unhide QQ).one.rd
      clear CT ON
      have R2 := hide (rdt_one wr ⟨kk, nn, ss⟩)
      unfold Tk.cs at R2
      have Q2 := hide ((unhide QQ).later (below_new wr (Obj.cells #[.int .i64 kk, .int .i64 nn, .string ss] 45)))
      have N2 := hide (unhide Q2).one
      have S2 := hide (unhide Q2).bel.size
      by_cases h4 : kk = 4
      · subst h4
        cases hqs : (ss.toList == [44])
        · have EQ := hide (unhide GO2 hqs)
          clear CUT GO1 GO2 QQ
          go_wp2_with (at_builtin; go_must (refine appT1 rfl _ _ rfl rfl (unhide N2) wr.heap.size ⟨4, nn, ss⟩ rfl (unhide R2) (by omega) (unhide S2) ?_; intro v3 w3 ho3 hg3 hw3; have Q3 := hide ((unhide Q2).grow ho3 hg3 hw3); clear ho3 hg3 hw3))
          go_roundw
          case rel => exact ⟨k + 1, acc, vs, _, by omega, by go_num, by omega, by simp; omega, unhide EQ, unhide Q3⟩
          case measure => simp [intOf]; omega
        · have EQ := hide (unhide CUT rfl hqs)
          have G1 := hide (show (wr.alloc (Obj.cells #[.slice na one.length nc] 28)).heap[wr.heap.size]? = some (.cells #[.slice na one.length nc] 28 (0, 0)) from Array.getElem?_push_size)
          have Q1 := hide ((unhide QQ).later (below_new wr (Obj.cells #[.slice na one.length nc] 28)))
          have O1 := hide (unhide Q1).own
          have N1 := hide (unhide Q1).one
          have NE := hide (unhide Q1).ne
          have S1 := hide (unhide Q1).bel.size
          clear CUT GO1 GO2 QQ Q2 N2 S2 R2
          go_wp2_with (at_builtin; go_must (refine appR rfl _ _ rfl rfl (unhide O1) wr.heap.size (.slice na one.length nc) one rfl (unhide G1) (unhide N1) (unhide NE) (by omega) (unhide S1) ?_; intro v3 w3 ho3 hg3; have Q3 := hide ((unhide Q1).cut ho3 hg3); clear ho3 hg3))
          (try go_wp2)
          go_roundw
          case rel => exact ⟨k + 1, acc ++ [one], _, [], by omega, by go_num, by simp; omega, Nat.zero_le _, unhide EQ, unhide Q3⟩
          case measure => simp [intOf]; omega
      · have EQ := hide (unhide GO1 h4)
        clear CUT GO1 GO2 QQ
        go_wp2_with (at_builtin; go_must (refine appT1 rfl _ _ rfl rfl (unhide N2) wr.heap.size ⟨kk, nn, ss⟩ rfl (unhide R2) (by omega) (unhide S2) ?_; intro v3 w3 ho3 hg3 hw3; have Q3 := hide ((unhide Q2).grow ho3 hg3 hw3); clear ho3 hg3 hw3))
        go_roundw
        case rel => exact ⟨k + 1, acc, vs, _, by omega, by go_num, by omega, by simp; omega, unhide EQ, unhide Q3⟩
        case measure => simp [intOf]; omega
    · obtain rfl : k = len := by omega
      have EQ := hide (ag_end (O := O) (acc := acc) (one := one) (ts := ts) (by rw [hlen]; exact ho.out))
      obtain ⟨na, nc, rfl, _⟩ := hq.one.rd
      have G1 := hide (show (wr.alloc (Obj.cells #[.slice na one.length nc] 28)).heap[wr.heap.size]? = some (.cells #[.slice na one.length nc] 28 (0, 0)) from Array.getElem?_push_size)
      have Q1 := hide (hq.later (below_new wr (Obj.cells #[.slice na one.length nc] 28)))
      have O1 := hide (unhide Q1).own
      have N1 := hide (unhide Q1).one
      have NE := hide (unhide Q1).ne
      have S1 := hide (unhide Q1).bel.size
      clear ho hq
      go_wp2_with (at_builtin; go_must (refine appR rfl _ _ rfl rfl (unhide O1) wr.heap.size (.slice na one.length nc) one rfl (unhide G1) (unhide N1) (unhide NE) (by omega) (unhide S1) ?_; intro v3 w3 ho3 hg3; have O3 := hide ho3; have B3 := hide ((unhide Q1).bel.grown hg3 (unhide S1) (fun g hg' => (World.ownsRow.lt (unhide O1).row g hg').1)); clear ho3 hg3))
      go_ret
      rw [unhide EQ]
      exact ⟨_, _, rfl, unhide O3, unhide B3⟩
end Go.Proofs.Ytemglcdglnjakaa
