/- Tokens cut at commas by the program; ArgsOf by the program; over this seat's translation; conditions stand as hypotheses of each. -/
import Derived.Test.YtemglcdglnjakaaMxB
import Derived.Test.YtemglcdglnjakaaLwG
namespace Go.Proofs.Ytemglcdglnjakaa
open Go.ChangeShapes Go.WideShapes Go.ChangeAt Go.RowKit
set_option linter.unusedVariables false
set_option maxRecDepth 8000
set_option linter.unusedSimpArgs false

theorem isOf_any (t : Tk) (kind : Int) (s : ByteArray) (w : World) : Calls Try.prog 33 #[t.v, .int .i64 kind, .string s] w fun e w' => e = .returned (.bool (t.k == kind && t.s.toList == s.toList)) ∧ Below w.heap.size w w' := by
  obtain ⟨kk, nn, ss⟩ := t
  unfold Tk.v Tk.cs
  have B0 := hide (below_new w (.cells #[.int .i64 kk, .int .i64 nn, .string ss] 45))
  by_cases h : kk = kind
  · subst h
    go_enter Try.func33, Try.ntmps33
    go_wp2
    go_ret
    exact ⟨by simp, unhide B0⟩
  · have hq : (kk == kind) = false := beq_eq_false_iff_ne.2 h
    go_enter Try.func33, Try.ntmps33
    go_wp2
    go_ret
    exact ⟨by rw [hq]; rfl, unhide B0⟩
theorem rdt_sub {w : World} {g off : Nat} {ts : List Tk} (h : RdT w (some ⟨g, off, none⟩) ts) (a n : Nat) (hn : a + n ≤ ts.length) : RdT w (some ⟨g, off + a * 3, none⟩) ((ts.drop a).take n) := by
  by_cases hz : n = 0
  · subst hz; exact .inl (by simp)
  rcases h with h | ⟨b, o, e, hb, hc⟩
  · subst h; simp at hn; omega
  · cases e
    refine .inr ⟨g, off + a * 3, rfl, hb, fun i hi => ?_⟩
    have hi : i < n := by rw [List.length_take, List.length_drop] at hi; omega
    have e : tAt ((ts.drop a).take n) i = tAt ts (a + i) := by
      unfold tAt
      rw [List.getD_eq_getElem?_getD, List.getD_eq_getElem?_getD, List.getElem?_take_of_lt hi, List.getElem?_drop]
    have := hc (a + i) (by omega)
    rw [e, show off + a * 3 + i * 3 = off + (a + i) * 3 by omega]
    exact this
/-- Rows of tokens that stand elsewhere. -/
structure PrtR (w wr : World) (v : Value) (ps : List (List Tk)) (vs : List Value) : Prop where
  n : vs.length = ps.length
  row : wr.ownsRow w.heap.size 28 1 v ps.length vs
  rd : ∀ i, i < ps.length → ∃ g o cp, vs.getD i undef = .slice (some ⟨g, o, none⟩) (rAt ps i).length cp ∧ RdT w (some ⟨g, o, none⟩) (rAt ps i) ∧ (rAt ps i).length ≤ cp ∧ cp ≤ maxLen
  bel : Below w.heap.size w wr
section
variable {w wr w' : World} {v v' p : Value} {ps : List (List Tk)} {vs : List Value} {us : List Tk}
theorem PrtR.form (h : PrtR w wr v ps vs) : ∃ a c, v = .slice a ps.length c := by
  obtain ⟨h1, ⟨rfl, h2⟩ | ⟨g, cap, cur, e, r⟩⟩ := h.row
  · exact ⟨none, 0, by rw [h2]⟩
  · exact ⟨some ⟨g, 0, none⟩, cap, e⟩
theorem PrtR.later (h : PrtR w wr v ps vs) (hb : Below wr.heap.size wr w') : PrtR w w' v ps vs :=
  ⟨h.n, ownsRow_keepR h.row (fun g hg => hb.block g (World.ownsRow.lt h.row g hg).2), h.rd, h.bel.trans (hb.mono h.bel.size)⟩
theorem PrtR.put (h : PrtR w wr v ps vs) (hr : w'.ownsRow w.heap.size 28 1 v' (ps.length + 1) (vs ++ [p])) (hg : wr.grownBy w' v.ownBlock) {g o cp : Nat} (hp : p = .slice (some ⟨g, o, none⟩) us.length cp) (hu : RdT w (some ⟨g, o, none⟩) us) (h1 : us.length ≤ cp) (h2 : cp ≤ maxLen) : PrtR w w' v' (ps ++ [us]) (vs ++ [p]) := by
  refine ⟨by simp [h.n], by rw [List.length_append]; exact hr, fun i hi => ?_, h.bel.grown hg h.bel.size (fun b hb => (World.ownsRow.lt h.row b hb).1)⟩
  rw [List.length_append, List.length_singleton] at hi
  by_cases hlt : i < ps.length
  · have e1 : (vs ++ [p]).getD i undef = vs.getD i undef := by
      rw [List.getD_eq_getElem?_getD, List.getD_eq_getElem?_getD, List.getElem?_append_left (by rw [h.n]; exact hlt)]
    have e2 : rAt (ps ++ [us]) i = rAt ps i := by
      unfold rAt
      rw [List.getD_eq_getElem?_getD, List.getD_eq_getElem?_getD, List.getElem?_append_left hlt]
    rw [e1, e2]
    exact h.rd i hlt
  · obtain rfl : i = ps.length := by omega
    have e1 : (vs ++ [p]).getD ps.length undef = p := by
      rw [List.getD_eq_getElem?_getD, List.getElem?_append_right (by rw [h.n]; exact Nat.le_refl _), h.n, Nat.sub_self]
      rfl
    have e2 : rAt (ps ++ [us]) ps.length = us := by
      unfold rAt
      rw [List.getD_eq_getElem?_getD, List.getElem?_append_right (Nat.le_refl _), Nat.sub_self]
      rfl
    rw [e1, e2]
    exact ⟨g, o, cp, hp, hu, h1, h2⟩
end
section
variable {ops : Array Oper} {rest : List Oper} {o : Oper} {a : Act} {Q : Exit → Act → World → Prop} {w : World} {B : Nat}
/-- One value appended to a row of rows. -/
theorem appV (hgd : o.guard = none) (s x : Operand) (ho : o.op = .call { callee := .builtin .append, args := #[s, x], argTypes := #[32, 32] }) {v : Value} {n : Nat} {vs : List Value} (hs : a.eval s = v) (hown : w.ownsRow B 28 1 v n vs) (g : Nat) (p : Value) (hx : a.eval x = .slice (some ⟨g, 0, none⟩) 1 1) (hg : w.heap[g]? = some (.cells #[p] 28 (0, 0))) (hp : p.oneCell' = true) (hl : n ≤ 1000000000000) (hB : B ≤ w.heap.size)
    (h : ∀ (v' : Value) (w' : World), w'.ownsRow B 28 1 v' (n + 1) (vs ++ [p]) → w.grownBy w' v.ownBlock → wpList Try.prog ops Q rest (a.put o.dst v') w') : wpList Try.prog ops Q (o :: rest) a w := by
  obtain ⟨i0, hi0, hz0, hz1, hz2⟩ := info_parts infoR
  refine wpList_append_own w hgd s x 32 ho B 28 i0 (.slice none 0 0) 1 24 Try.underlying32 hi0 hz0 hz1 hz2 rfl (by decide) v n vs hs hown ⟨g, 0, none⟩ 1 1 [p] hx rfl (fun j u hj => by
    have hc := Lib.cell_of_heap hg j
    have e : (#[p] : Array Value)[j]? = some u := by rw [← hj]; simp
    rw [addr_add, Nat.zero_add]
    exact hc.trans e) (fun u hu => by rw [List.mem_singleton.1 hu]; exact hp) (by unfold maxLen; omega) (by omega) hB ?_
  intro v' w' h1 h2 _
  exact h v' w' h1 h2
end
theorem ag_zero (ts : List Tk) (h : ts ≠ []) : agA ts = [] ++ agS ((ts.drop 0).take (0 - 0)) (ts.drop 0) := by
  unfold agA
  rw [if_neg h]
  simp
theorem ag_take {ts : List Tk} {f k : Nat} (hf : f ≤ k) (hk : k < ts.length) : (ts.drop f).take (k + 1 - f) = (ts.drop f).take (k - f) ++ [tAt ts k] := by
  rw [show k + 1 - f = (k - f) + 1 by omega, List.take_succ_eq_append_getElem (by rw [List.length_drop]; omega)]
  congr 2
  rw [List.getElem_drop]
  unfold tAt
  rw [List.getD_eq_getElem?_getD, List.getElem?_eq_getElem hk]
  simp [show f + (k - f) = k by omega]
theorem c44 : (⟨#[44]⟩ : ByteArray).toList = [44] := by kernel_rfl
set_option maxHeartbeats 8000000 in
theorem prtI (ts : List Tk) (la : Option Addr) (lc : Nat) (w : World) (hl : ts.length ≤ 1048576) (hc1 : ts.length ≤ lc) (hc2 : lc ≤ maxLen) (h1 : RdT w la ts) : Calls Try.prog 30 #[.slice la ts.length lc] w fun r w' => ∃ v vs, r = .returned v ∧ PrtR w w' v (agA ts) vs := by
  by_cases h0 : ts = []
  · subst h0
    show Calls Try.prog 30 #[.slice la 0 lc] w _
    clear h1
    go_enter Try.func30, Try.ntmps30
    go_wp2
    go_ret
    exact ⟨_, [], rfl, rfl, ⟨rfl, .inl ⟨rfl, rfl⟩⟩, fun i hi => by simp [agA] at hi, Below.refl _ _⟩
  have hp : 0 < ts.length := List.length_pos_iff.2 h0
  have E0 := hide (ag_zero ts h0)
  generalize agA ts = O at *
  obtain ⟨g, off, rfl, hbl, hc⟩ := h1.resolve_left h0
  have RD := hide h1
  have HC := hide hc
  clear hc h1
  obtain ⟨len, hlen⟩ : ∃ len, ts.length = len := ⟨_, rfl⟩
  rw [hlen] at hl hp hc1 ⊢
  have hp0 : ((len : Int) == 0) = false := beq_eq_false_iff_ne.2 (by omega)
  have hci : (len : Int) ≤ (lc : Int) := by omega
  have CM := hide hc2
  have P0 := hide (show PrtR w w (.slice none 0 0) [] [] from ⟨rfl, ⟨rfl, .inl ⟨rfl, rfl⟩⟩, fun i hi => by simp at hi, Below.refl _ _⟩)
  clear hc2
  go_enter Try.func30, Try.ntmps30
  go_wp2
  go_loopw [3, 4, 12] (fun pv fv iv wr => ∃ (k f : Nat) (acc : List (List Tk)) (vs : List Value), k ≤ len ∧ iv = .int .i64 k ∧ fv = .int .i64 f ∧ f ≤ k ∧ acc.length ≤ k ∧ Hid (O = acc ++ agS ((ts.drop f).take (k - f)) (ts.drop k)) ∧ PrtR w wr pv acc vs) (fun _ _ i _ => len - (intOf i).toNat)
  case atStart => exact ⟨0, 0, [], [], Nat.zero_le _, rfl, rfl, Nat.le_refl _, Nat.le_refl _, unhide E0, unhide P0⟩
  case round =>
    clear E0 P0
    obtain ⟨k, f, acc, vs, hk, rfl, rfl, hf, ha, ho, hq⟩ := hrel
    obtain ⟨pa, pc, rfl⟩ := hq.form
    by_cases hlt : k < len
    · obtain ⟨c0, c1, c2⟩ := unhide HC k (by omega)
      have hb := hq.bel
      have d0 : wr.cell? ⟨g, off + k * 3, none⟩ = _ := (hb.cell (p := ⟨g, _, none⟩) hbl).trans c0
      have d1 : wr.cell? ⟨g, off + k * 3 + 1, none⟩ = _ := (hb.cell (p := ⟨g, _, none⟩) hbl).trans c1
      have d2 : wr.cell? ⟨g, off + k * 3 + 2, none⟩ = _ := (hb.cell (p := ⟨g, _, none⟩) hbl).trans c2
      have CT := hide (fun hcc => ag_cut ho.out (by omega) hcc)
      have ON := hide (fun hcc => ag_on ho.out (by omega) hcc)
      have TK := hide (ag_take (ts := ts) hf (by omega))
      have QQ := hide hq
      clear c0 c1 c2 ho hb hq
      have IC := hide (show (fun t : Tk => isC t) (tAt ts k) = ((tAt ts k).k == 4 && (tAt ts k).s.toList == (⟨#[44]⟩ : ByteArray).toList) by rw [c44]; rfl)
      generalize hic : isC (tAt ts k) = ic at *
      have IC2 := hide (hic.symm.trans (unhide IC))
      clear IC hic
      generalize tAt ts k = t at *
      obtain ⟨kk, nn, ss⟩ := t
      simp only at d0 d1 d2
      have B1 := hide (below_new wr (Obj.cells #[.int .i64 kk, .int .i64 nn, .string ss] 45))
      have Q1 := hide ((unhide QQ).later (unhide B1))
      have IS := hide (isOf_any ⟨kk, nn, ss⟩ 4 ⟨#[44]⟩ (wr.alloc (Obj.cells #[.int .i64 kk, .int .i64 nn, .string ss] 45)))
      rw [← (show ic = (kk == 4 && ss.toList == (⟨#[44]⟩ : ByteArray).toList) from unhide IC2)] at IS
      unfold Tk.v Tk.cs at IS
      clear IC2 QQ
      cases ic
      · have EQ := hide (unhide ON rfl)
        rw [← unhide TK] at EQ
        clear CT ON TK
        go_wp2_with fail
        refine (unhide IS).mono ?_
        rintro e w1 ⟨rfl, hb1⟩
        have Q2 := hide ((unhide Q1).later hb1)
        clear hb1 Q1 B1 IS
        go_wp2
        go_roundw
        case rel => exact ⟨k + 1, f, acc, vs, by omega, by go_num, rfl, by omega, by omega, unhide EQ, unhide Q2⟩
        case measure => simp [intOf]; omega
      · have EQ := hide (unhide CT rfl)
        clear CT ON TK
        have PL := hide (show ((ts.drop f).take (k - f)).length = k - f by rw [List.length_take, List.length_drop]; omega)
        have PR := hide (rdt_sub (unhide RD) f (k - f) (by omega))
        generalize (ts.drop f).take (k - f) = one at *
        go_wp2_with fail
        refine (unhide IS).mono ?_
        rintro e w1 ⟨rfl, hb1⟩
        have Q2 := hide ((unhide Q1).later hb1)
        clear hb1 Q1 B1 IS
        have hkf : (f : Int) ≤ (k : Int) := by omega
        have hkc : (k : Int) ≤ (lc : Int) := by omega
        have G3 := hide (heap_alloc_new w1 (.cells #[(.slice (some ⟨g, off + f * 3, none⟩) (k - f) (lc - f))] 28))
        have Q3 := hide ((unhide Q2).later (below_new w1 (.cells #[(.slice (some ⟨g, off + f * 3, none⟩) (k - f) (lc - f))] 28)))
        have O3 := hide (unhide Q3).row
        have S3 := hide (unhide Q3).bel.size
        have E2 := hide (show O = (acc ++ [one]) ++ agS ((ts.drop (k + 1)).take (k + 1 - (k + 1))) (ts.drop (k + 1)) by rw [Nat.sub_self, List.take_zero]; exact unhide EQ)
        have C2 := hide (show one.length ≤ lc - f by have := unhide PL; omega)
        have C3 := hide (show lc - f ≤ maxLen from Nat.le_trans (Nat.sub_le _ _) (unhide CM))
        clear EQ Q2
        go_wp2_with (at_builtin; go_must (refine appV rfl _ _ rfl rfl (unhide O3) w1.heap.size (.slice (some ⟨g, off + f * 3, none⟩) (k - f) (lc - f)) rfl (unhide G3) rfl (by omega) (unhide S3) ?_; intro v4 w4 ho4 hg4; have Q4 := hide ((unhide Q3).put ho4 hg4 (by rw [unhide PL]) (unhide PR) (unhide C2) (unhide C3)); clear ho4 hg4))
        (try go_wp2)
        go_roundw
        case rel => exact ⟨k + 1, k + 1, acc ++ [one], _, by omega, by go_num, by go_num, by omega, by simp; omega, unhide E2, unhide Q4⟩
        case measure => simp [intOf]; omega
    · obtain rfl : k = len := by omega
      have EQ := hide (ag_end (O := O) (acc := acc) (one := (ts.drop f).take (k - f)) (ts := ts) (by rw [hlen]; exact ho.out))
      have PL := hide (show ((ts.drop f).take (k - f)).length = k - f by rw [List.length_take, List.length_drop]; omega)
      have PR := hide (rdt_sub (unhide RD) f (k - f) (by omega))
      generalize (ts.drop f).take (k - f) = one at *
      have hkf : (f : Int) ≤ (k : Int) := by omega
      by_cases hcf : lc = f
      · obtain rfl : f = k := by omega
        subst hcf
        have C0 := hide (show one.length = 0 by rw [unhide PL, Nat.sub_self])
        have R0 := hide (show RdT w (some ⟨g, off, none⟩) one from .inl (List.eq_nil_of_length_eq_zero (unhide C0)))
        have G3 := hide (heap_alloc_new wr (.cells #[.slice (some ⟨g, off, none⟩) 0 0] 28))
        have Q3 := hide (hq.later (below_new wr (.cells #[.slice (some ⟨g, off, none⟩) 0 0] 28)))
        have O3 := hide (unhide Q3).row
        have S3 := hide (unhide Q3).bel.size
        clear ho hq PR PL
        go_wp2_with (at_builtin; go_must (refine appV rfl _ _ rfl rfl (unhide O3) wr.heap.size (.slice (some ⟨g, off, none⟩) 0 0) rfl (unhide G3) rfl (by omega) (unhide S3) ?_; intro v4 w4 ho4 hg4; have Q4 := hide ((unhide Q3).put ho4 hg4 (by rw [unhide C0]) (unhide R0) (Nat.le_of_eq (unhide C0)) (Nat.zero_le _)); clear ho4 hg4))
        (try go_wp2)
        go_ret
        rw [unhide EQ]
        exact ⟨_, _, rfl, unhide Q4⟩
      have G3 := hide (heap_alloc_new wr (.cells #[(.slice (some ⟨g, off + f * 3, none⟩) (k - f) (lc - f))] 28))
      have Q3 := hide (hq.later (below_new wr (.cells #[(.slice (some ⟨g, off + f * 3, none⟩) (k - f) (lc - f))] 28)))
      have O3 := hide (unhide Q3).row
      have S3 := hide (unhide Q3).bel.size
      have C2 := hide (show one.length ≤ lc - f by have := unhide PL; omega)
      have C3 := hide (show lc - f ≤ maxLen from Nat.le_trans (Nat.sub_le _ _) (unhide CM))
      clear ho hq
      go_wp2_with (at_builtin; go_must (refine appV rfl _ _ rfl rfl (unhide O3) wr.heap.size (.slice (some ⟨g, off + f * 3, none⟩) (k - f) (lc - f)) rfl (unhide G3) rfl (by omega) (unhide S3) ?_; intro v4 w4 ho4 hg4; have Q4 := hide ((unhide Q3).put ho4 hg4 (by rw [unhide PL]) (unhide PR) (unhide C2) (unhide C3)); clear ho4 hg4))
      (try go_wp2)
      go_ret
      rw [unhide EQ]
      exact ⟨_, _, rfl, unhide Q4⟩
end Go.Proofs.Ytemglcdglnjakaa
