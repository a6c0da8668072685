/- Contracts over this seat's translation, laid together; conditions stand as hypotheses of each. -/
import Derived.Test.YtkolflcjkofleaaDoorTxA
import Derived.Test.YtkolflcjkofleaaDoorTxC
import Derived.Test.YtkolflcjkofleaaDoorTxD
import Derived.Test.YtkolflcjkofleaaDoorTxF
import Derived.MapKept
import Derived.Carry
import Derived.Deep.RegionWith

namespace Go.Proofs.YtkolflcjkofleaaDoor
open Go.ChangeShapes Go.WideShapes Go.ChangeAt Go.RowKit
set_option linter.unusedVariables false
set_option maxRecDepth 8000
set_option linter.unusedSimpArgs false

/-- What stands at a name. -/
def lkS : List (ByteArray × Nat) → ByteArray → Option Nat
  | [], _ => none
  | (t, i) :: r, s => if eqS t s = true then some i else lkS r s
theorem lkS_snoc (ps : List (ByteArray × Nat)) (t : ByteArray) (i : Nat) (s : ByteArray) : lkS (ps ++ [(t, i)]) s = (lkS ps s).or (if eqS t s = true then some i else none) := by
  induction ps with
  | nil => simp [lkS]
  | cons p r ih =>
    obtain ⟨q, j⟩ := p
    simp only [List.cons_append, lkS]
    split
    · rfl
    · exact ih
/-- The first place of a name. -/
def plS (L : List ByteArray) (s : ByteArray) : Option Nat := L.findIdx? (fun t => eqS t s)
theorem plS_snoc (L : List ByteArray) (t s : ByteArray) : plS (L ++ [t]) s = (plS L s).or (if eqS t s = true then some L.length else none) := by
  unfold plS
  rw [List.findIdx?_append]
  congr 1
  simp only [List.findIdx?_cons, List.findIdx?_nil]
  split <;> simp
theorem plS_at (L : List ByteArray) (s : ByteArray) : atV L s = ((plS L s).map (fun i : Nat => (i : Int))).getD (-1) := by
  unfold plS
  cases h : L.findIdx? (fun t => eqS t s) with
  | none =>
    rw [List.findIdx?_eq_none_iff] at h
    rw [atV_no]
    · rfl
    · refine hasS_miss (fun k hk => ?_)
      have := h (L.getD k E0) (by rw [List.getD_eq_getElem?_getD, List.getElem?_eq_getElem hk]; exact List.getElem_mem hk)
      simpa using this
  | some i =>
    rw [List.findIdx?_eq_some_iff_getElem] at h
    obtain ⟨hi, h1, h2⟩ := h
    have e1 : ∀ j, j < i → eqS (L.getD j E0) s = false := fun j hj => by
      have h3 := h2 j hj
      rw [List.getD_eq_getElem?_getD, List.getElem?_eq_getElem (show j < L.length by omega)]
      simpa using h3
    have e2 : eqS (L.getD i E0) s = true := by
      rw [List.getD_eq_getElem?_getD, List.getElem?_eq_getElem hi]
      exact h1
    rw [atV_hit hi e1 e2]
    rfl
/-- The entries of a map of names. -/
def esS : List (ByteArray × Nat) → Nat → List MapEntry
  | [], _ => []
  | (t, i) :: r, born => { key := .string t, val := .int .i64 i, born := born } :: esS r (born + 1)
theorem esS_snoc (ps : List (ByteArray × Nat)) (t : ByteArray) (i : Nat) : ∀ born, esS (ps ++ [(t, i)]) born = esS ps born ++ [{ key := .string t, val := .int .i64 i, born := born + ps.length }] := by
  induction ps with
  | nil => intro born; rfl
  | cons p r ih => obtain ⟨q, j⟩ := p; intro born; simp only [List.cons_append, esS, ih, List.length_cons]; congr 4; omega
/-- Block b is a map of these names. -/
def IsMs (w : World) (b : Nat) (ps : List (ByteArray × Nat)) : Prop := w.heap[b]? = some (.map (esS ps 0).toArray ps.length)
theorem IsMs.later {w w' : World} {b : Nat} {ps : List (ByteArray × Nat)} (h : IsMs w b ps) (hb : Below w.heap.size w w') : IsMs w' b ps := row_keep h hb
theorem ba_eq (s t : ByteArray) : (s == t) = eqS t s := by
  rw [Bool.eq_iff_iff, eqS_iff]
  have h : (s == t) = (s.data == t.data) := rfl
  rw [h, beq_iff_eq]
  exact ⟨fun e => ByteArray.ext e.symm, fun e => by rw [e]⟩
theorem find_now (s : ByteArray) : ∀ (ps : List (ByteArray × Nat)) (born i : Nat), ∃ r, Instr.findNow .string (.string s) (esS ps born) i = some r ∧ ((lkS ps s = none ∧ r = none) ∨ ∃ j v, lkS ps s = some v ∧ r = some (j, .int .i64 (v : Nat))) := by
  intro ps
  induction ps with
  | nil => intro born i; exact ⟨none, rfl, .inl ⟨rfl, rfl⟩⟩
  | cons p r ih =>
    obtain ⟨t, v⟩ := p
    intro born i
    obtain ⟨q, hq, hr⟩ := ih (born + 1) (i + 1)
    have hs : Instr.sameNow .string (.string s) (.string t) = some (s == t) := rfl
    rw [ba_eq] at hs
    cases e1 : eqS t s with
    | true => exact ⟨some (i, .int .i64 (v : Nat)), by simp only [esS, Instr.findNow, hs, e1], .inr ⟨i, v, by simp [lkS, e1], rfl⟩⟩
    | false =>
      refine ⟨q, by simp only [esS, Instr.findNow, hs, e1]; exact hq, ?_⟩
      have : lkS ((t, v) :: r) s = lkS r s := by simp [lkS, e1]
      rw [this]
      exact hr
theorem run_keyS (em : Bool) (s : ByteArray) (w : World) : (Instr.checkKey em 10000 9 (.string s)).run Tryd.prog w = .ok () w := by
  cases em <;> kernel_rfl
theorem run_lookS {w : World} {b : Nat} {ps : List (ByteArray × Nat)} (h : IsMs w b ps) (s : ByteArray) : (Instr.lookup 71 (.map (some b)) (.string s) true).run Tryd.prog w = .ok (.tuple #[.int .i64 ((lkS ps s).getD 0 : Nat), .bool (lkS ps s).isSome]) w := by
  obtain ⟨r, hr, hh⟩ := find_now s ps 0 0
  have hf : (Instr.findKey 9 (.string s) (esS ps 0)).run Tryd.prog w = .ok r w := by simp [Instr.findKey, run_underlying Tryd.underlying9, hr]
  have hz : (zeroValue 3).run Tryd.prog w = .ok (.int .i64 0) w := by kernel_rfl
  rcases hh with ⟨h1, rfl⟩ | ⟨j, v, h1, rfl⟩
  · simp [Instr.lookup, run_underlying Tryd.underlying71, MapKept.run_getObj_map h, run_keyS, hf, hz, h1, Result.andThen]
  · simp [Instr.lookup, run_underlying Tryd.underlying71, MapKept.run_getObj_map h, run_keyS, hf, h1, Result.andThen]
theorem run_putS {w : World} {b : Nat} {ps : List (ByteArray × Nat)} (h : IsMs w b ps) (s : ByteArray) (i : Nat) (hn : lkS ps s = none) : ∃ w', (Instr.mapUpdate 71 (.map (some b)) (.string s) (.int .i64 (i : Nat))).run Tryd.prog w = .ok () w' ∧ IsMs w' b (ps ++ [(s, i)]) ∧ w.grownBy w' (some b) := by
  obtain ⟨r, hr, hh⟩ := find_now s ps 0 0
  have hf : (Instr.findKey 9 (.string s) (esS ps 0)).run Tryd.prog w = .ok r w := by simp [Instr.findKey, run_underlying Tryd.underlying9, hr]
  rcases hh with ⟨h1, rfl⟩ | ⟨j, v, h1, rfl⟩
  · have hrun : (Instr.mapUpdate 71 (.map (some b)) (.string s) (.int .i64 (i : Nat))).run Tryd.prog w = .ok () { w with heap := w.heap.setIfInBounds b (.map ((esS ps 0).toArray.push { key := .string s, val := .int .i64 (i : Nat), born := ps.length }) (ps.length + 1)) } := by
      simp [Instr.mapUpdate, run_underlying Tryd.underlying71, MapKept.run_getObj_map h, run_keyS, hf, MapKept.run_setObj_map _ h, Result.andThen]
    refine ⟨_, hrun, ?_, rfl, rfl, rfl, by simp, fun g _ hg => ?_⟩
    · have hl : b < w.heap.size := (Array.getElem?_eq_some_iff.1 h).1
      unfold IsMs
      simp [hl, esS_snoc]
    · have hg : g ≠ b := fun e => hg (by rw [e])
      simp [Array.getElem?_setIfInBounds, Ne.symm hg]
  · rw [hn] at h1; cases h1
theorem run_mkS (w : World) : (Instr.makeMap 71 none).run Tryd.prog w = .ok (.map (some w.heap.size)) (w.alloc (.map #[] 0)) := by kernel_rfl
theorem pl_take (L : List ByteArray) (k : Nat) (h : k < L.length) (s : ByteArray) : plS (L.take (k + 1)) s = (plS (L.take k) s).or (if eqS (tAtS L k) s = true then some k else none) := by
  rw [List.take_add_one, List.getElem?_eq_getElem h]
  show plS (L.take k ++ [L[k]]) s = _
  rw [plS_snoc, List.length_take, Nat.min_eq_left (by omega)]
  unfold tAtS
  rw [List.getD_eq_getElem?_getD, List.getElem?_eq_getElem h]
  rfl
set_option maxHeartbeats 2000000 in
theorem places_any (a : Option Addr) (n cap : Nat) (L : List ByteArray) (w : World) (hl : L.length = n) (hm : n ≤ 1099511627776) (hr : RdU w a L) : Calls Tryd.prog 49 #[.slice a n cap] w fun r w' => ∃ b ps, r = .returned (.map (some b)) ∧ IsMs w' b ps ∧ (∀ s, lkS ps s = plS L s) ∧ w.heap.size ≤ b ∧ Below w.heap.size w w' := by
  have hmk := run_mkS
  go_enter Tryd.func49, Tryd.ntmps49
  go_wp2
  go_loopw [11] (fun i wr => ∃ (k : Nat) (ps : List (ByteArray × Nat)), k ≤ n ∧ i = .int .i64 k ∧ IsMs wr w.heap.size ps ∧ (∀ s, lkS ps s = plS (L.take k) s) ∧ Below w.heap.size w wr) (fun i _ => n - (intOf i).toNat)
  case atStart => exact ⟨0, [], Nat.zero_le _, rfl, Array.getElem?_push_size, fun s => rfl, (Below.refl _ _).alloc (Nat.le_refl _) _⟩
  case round =>
    obtain ⟨k, ps, hk, rfl, hmp, hps, hbel⟩ := hrel
    by_cases hlt : k < n
    · rcases hr with rfl | ⟨b, off, rfl, hb, hc⟩
      · simp at hl; omega
      have hcx : wr.cell? ⟨b, off + k, none⟩ = some (.string (tAtS L k)) := (hbel.cell (p := ⟨b, off + k, none⟩) hb).trans (hc k (by omega))
      have PT := hide (pl_take L k (by omega))
      have HP := hide hps
      have HB := hide hbel
      have HM := hide hmp
      have LK := run_lookS hmp (tAtS L k)
      clear hps hbel hc hb hmp
      cases hf : lkS ps (tAtS L k) with
      | some v =>
        have E := hide (show ∀ s, lkS ps s = plS (L.take (k + 1)) s from fun s => by
          rw [unhide PT, ← unhide HP s]
          split
          · rename_i e
            rw [← (eqS_iff _ _).1 e, hf]
            rfl
          · simp)
        rw [hf] at LK
        simp only [Option.getD_some, Option.isSome_some] at LK
        clear PT HP hf
        generalize tAtS L k = nm at *
        go_wp2
        go_roundw
        case rel => exact ⟨k + 1, ps, by omega, by go_num, unhide HM, unhide E, unhide HB⟩
        case measure => simp [intOf]; omega
      | none =>
        obtain ⟨w2, hput, hm2, hg2⟩ := run_putS (unhide HM) (tAtS L k) k hf
        have E := hide (show ∀ s, lkS (ps ++ [(tAtS L k, k)]) s = plS (L.take (k + 1)) s from fun s => by rw [unhide PT, ← unhide HP s, lkS_snoc])
        have M2 := hide hm2
        have B2 := hide ((unhide HB).grown hg2 (unhide HB).size (fun g e => by cases e; exact Nat.le_refl _))
        rw [hf] at LK
        simp only [Option.getD_none, Option.isSome_none] at LK
        clear PT HP hf hm2 hg2
        generalize ps ++ [(tAtS L k, k)] = ps2 at *
        generalize tAtS L k = nm at *
        go_wp2
        go_roundw
        case rel => exact ⟨k + 1, ps2, by omega, by go_num, unhide M2, unhide E, unhide B2⟩
        case measure => simp [intOf]; omega
    · have hkn : k = n := by omega
      have E : ∀ s, lkS ps s = plS L s := fun s => by rw [hps, hkn, ← hl, List.take_length]
      clear hps
      go_wp2
      go_ret
      exact ⟨_, ps, rfl, hmp, E, Nat.le_refl _, hbel⟩
end Go.Proofs.YtkolflcjkofleaaDoor

namespace Go.Proofs.YtkolflcjkofleaaDoor
open Go.ChangeShapes Go.WideShapes Go.ChangeAt Go.RowKit
set_option linter.unusedVariables false
set_option maxRecDepth 8000

set_option maxHeartbeats 400000 in
theorem at_anyF (L : List ByteArray) (s : ByteArray) (g n cap : Nat) (w : World) (hn : L.length = n) (hm : n ≤ 1100000) (hr : RdS w g L) : Calls Tryd.prog 81 #[.slice (some ⟨g, 0, none⟩) n cap, .string s] w fun e w' => e = .returned (.int .i64 (atV L s)) ∧ w' = w := by
  obtain ⟨v, hv⟩ : ∃ v, atV L s = v := ⟨_, rfl⟩
  have HIT := hide (fun k (hk : k < n) hm he => (atV_hit (L := L) (s := s) (k := k) (by omega) hm he).symm.trans hv)
  have MISS := hide (fun (h : ∀ k, k < n → eqS (L.getD k E0) s = false) => (atV_no (L := L) (s := s) (hasS_miss (fun k hk => h k (by omega)))).symm.trans hv)
  have RD := hide (fun j (hj : j < n) => hr j (by omega))
  rw [hv]
  clear hv hr
  go_enter Tryd.func81, Tryd.ntmps81
  go_wp2
  go_loop [5] (fun i => ∃ k : Nat, i = .int .i64 k ∧ k ≤ n ∧ Hid (∀ j, j < k → eqS (L.getD j E0) s = false)) (fun i => n - (intOf i).toNat)
  case atStart => exact ⟨0, rfl, by omega, fun j hj => by omega⟩
  case round =>
    obtain ⟨k, rfl, hk, hd⟩ := hrel
    by_cases hlt : k < n
    · have hc := unhide RD k hlt
      have H1 := hide (unhide HIT k hlt hd.out)
      have H2 := hide (show eqS (L.getD k E0) s = false → ∀ j, j < k + 1 → eqS (L.getD j E0) s = false from fun h j hj => by
        by_cases e : j = k
        · subst e; exact h
        · exact hd.out j (by omega))
      generalize L.getD k E0 = T at hc H1 H2
      clear hd
      cases hq : (T.toList == s.toList)
      · have E := hide (unhide H2 hq)
        clear H1 H2
        go_wp2
        go_round
        case rel => exact ⟨k + 1, by go_num, by omega, unhide E⟩
        case measure => simp [intOf]; omega
      · have E := hide (unhide H1 hq)
        clear H1 H2
        go_wp2
        go_ret
        exact ⟨by rw [← unhide E]; rfl, rfl⟩
    · have E := hide (unhide MISS (fun j hj => hd.out j (by omega)))
      clear hd
      go_wp2
      go_ret
      exact ⟨by rw [← unhide E]; rfl, rfl⟩
end Go.Proofs.YtkolflcjkofleaaDoor

namespace Go.Proofs.YtkolflcjkofleaaDoor
open Go.ChangeShapes Go.WideShapes Go.ChangeAt Go.RowKit
set_option linter.unusedVariables false
set_option maxRecDepth 8000
set_option linter.unusedSimpArgs false

/-- The numbers of sections, the names, their numbers, as they lie. -/
structure Ev (w : World) (gb gn gv : Nat) (bs : List Int) (L : List ByteArray) (vs : List Int) : Prop where
  b : ∀ i, i < bs.length → w.cell? ⟨gb, i, none⟩ = some (.int .i64 (nAt bs i))
  n : RdS w gn L
  v : ∀ i, i < vs.length → w.cell? ⟨gv, i, none⟩ = some (.int .i64 (nAt vs i))
  lb : gb < w.heap.size
  ln : gn < w.heap.size
  lv : gv < w.heap.size
theorem Ev.later {w w' : World} {gb gn gv : Nat} {bs : List Int} {L : List ByteArray} {vs : List Int} (h : Ev w gb gn gv bs L vs) (hb : Below w.heap.size w w') : Ev w' gb gn gv bs L vs :=
  ⟨fun i hi => (hb.cell (p := ⟨gb, i, none⟩) h.lb).trans (h.b i hi), fun i hi => (hb.cell (p := ⟨gn, i, none⟩) h.ln).trans (h.n i hi), fun i hi => (hb.cell (p := ⟨gv, i, none⟩) h.lv).trans (h.v i hi), Nat.lt_of_lt_of_le h.lb hb.size, Nat.lt_of_lt_of_le h.ln hb.size, Nat.lt_of_lt_of_le h.lv hb.size⟩
def seW (bs : List Int) (n : Int) : Option Int := if n < bs.length then some (wr (nAt bs n.toNat)) else none
def glW (L : List ByteArray) (vs : List Int) (s : ByteArray) : Option Int := if 0 ≤ atV L s ∧ atV L s < vs.length then some (wr (nAt vs (atV L s).toNat)) else none
theorem seW_in (bs : List Int) : ∀ n v, seW bs n = some v → 0 ≤ v ∧ v ≤ 65535 := by
  intro n v h
  unfold seW at h
  split at h
  · cases h; exact wr_in _
  · cases h
theorem glW_in (L : List ByteArray) (vs : List Int) : ∀ s v, glW L vs s = some v → 0 ≤ v ∧ v ≤ 65535 := by
  intro n v h
  unfold glW at h
  split at h
  · cases h; exact wr_in _
  · cases h
def WoP (bs : List Int) (L : List ByteArray) (vs : List Int) (e : Ex) : Prop := ∀ (b : Option Addr) (cap gb gn gv cb cn cv : Nat) (w : World), RdX w 0 e b → Ev w gb gn gv bs L vs → Calls Tryd.prog 63 #[.agg (e.cs b cap), .slice (some ⟨gb, 0, none⟩) bs.length cb, .slice (some ⟨gn, 0, none⟩) L.length cn, .slice (some ⟨gv, 0, none⟩) vs.length cv] w (InR (worthX (seW bs) (glW L vs) e) w)
set_option maxHeartbeats 4000000 in
theorem worth1 (n : Int) (s : ByteArray) (bs : List Int) (L : List ByteArray) (vs : List Int) (hL : L.length ≤ 1100000) (hB : bs.length ≤ 1099511627776) (hV : vs.length ≤ 1099511627776) : WoP bs L vs ⟨1, n, s, []⟩ := by
  intro b cap gb gn gv cb cn cv w hr hev
  have EQ := hide (show worthX (seW bs) (glW L vs) ⟨1, n, s, []⟩ = some n by exact worth_num n s)
  rw [unhide EQ]
  have B0 := hide (below_new w (.cells #[.int .i64 1, .int .i64 n, .string s, .slice b 0 cap] 26))
  have EV := hide (hev.later (unhide B0))
  generalize hX : InR _ w = X
  have HX := hide hX
  show Calls Tryd.prog 63 #[.agg #[.int .i64 1, .int .i64 n, .string s, .slice b 0 cap], .slice (some ⟨gb, 0, none⟩) bs.length cb, .slice (some ⟨gn, 0, none⟩) L.length cn, .slice (some ⟨gv, 0, none⟩) vs.length cv] w X
  clear hX hr hev EQ
  go_enter Tryd.func63, Tryd.ntmps63
  go_wp2
  rw [← unhide HX]
  exact ⟨rfl, unhide B0⟩
set_option maxHeartbeats 4000000 in
theorem worth2 (n : Int) (s : ByteArray) (bs : List Int) (L : List ByteArray) (vs : List Int) (hL : L.length ≤ 1100000) (hB : bs.length ≤ 1099511627776) (hV : vs.length ≤ 1099511627776) : WoP bs L vs ⟨2, n, s, []⟩ := by
  intro b cap gb gn gv cb cn cv w hr hev
  have EQ := hide (show worthX (seW bs) (glW L vs) ⟨2, n, s, []⟩ = none by exact worth_sym n s)
  rw [unhide EQ]
  have B0 := hide (below_new w (.cells #[.int .i64 2, .int .i64 n, .string s, .slice b 0 cap] 26))
  have EV := hide (hev.later (unhide B0))
  generalize hX : InR _ w = X
  have HX := hide hX
  show Calls Tryd.prog 63 #[.agg #[.int .i64 2, .int .i64 n, .string s, .slice b 0 cap], .slice (some ⟨gb, 0, none⟩) bs.length cb, .slice (some ⟨gn, 0, none⟩) L.length cn, .slice (some ⟨gv, 0, none⟩) vs.length cv] w X
  clear hX hr hev EQ
  go_enter Tryd.func63, Tryd.ntmps63
  go_wp2
  rw [← unhide HX]
  exact ⟨rfl, unhide B0⟩
set_option maxHeartbeats 4000000 in
theorem worth3 (n : Int) (s : ByteArray) (bs : List Int) (L : List ByteArray) (vs : List Int) (hL : L.length ≤ 1100000) (hB : bs.length ≤ 1099511627776) (hV : vs.length ≤ 1099511627776) : WoP bs L vs ⟨3, n, s, []⟩ := by
  intro b cap gb gn gv cb cn cv w hr hev
  have EQ := hide (show worthX (seW bs) (glW L vs) ⟨3, n, s, []⟩ = none by exact worth_here n s)
  rw [unhide EQ]
  have B0 := hide (below_new w (.cells #[.int .i64 3, .int .i64 n, .string s, .slice b 0 cap] 26))
  have EV := hide (hev.later (unhide B0))
  generalize hX : InR _ w = X
  have HX := hide hX
  show Calls Tryd.prog 63 #[.agg #[.int .i64 3, .int .i64 n, .string s, .slice b 0 cap], .slice (some ⟨gb, 0, none⟩) bs.length cb, .slice (some ⟨gn, 0, none⟩) L.length cn, .slice (some ⟨gv, 0, none⟩) vs.length cv] w X
  clear hX hr hev EQ
  go_enter Tryd.func63, Tryd.ntmps63
  go_wp2
  rw [← unhide HX]
  exact ⟨rfl, unhide B0⟩
set_option maxHeartbeats 4000000 in
theorem worth11n (n : Int) (s : ByteArray) (bs : List Int) (L : List ByteArray) (vs : List Int) (hL : L.length ≤ 1100000) (hB : bs.length ≤ 1099511627776) (hV : vs.length ≤ 1099511627776) (hn : ¬ n < (bs.length : Int)) : WoP bs L vs ⟨11, n, s, []⟩ := by
  intro b cap gb gn gv cb cn cv w hr hev
  have EQ := hide (show worthX (seW bs) (glW L vs) ⟨11, n, s, []⟩ = none by rw [worth_sect]; unfold seW; rw [if_neg hn])
  rw [unhide EQ]
  have B0 := hide (below_new w (.cells #[.int .i64 11, .int .i64 n, .string s, .slice b 0 cap] 26))
  have EV := hide (hev.later (unhide B0))
  generalize hX : InR _ w = X
  have HX := hide hX
  show Calls Tryd.prog 63 #[.agg #[.int .i64 11, .int .i64 n, .string s, .slice b 0 cap], .slice (some ⟨gb, 0, none⟩) bs.length cb, .slice (some ⟨gn, 0, none⟩) L.length cn, .slice (some ⟨gv, 0, none⟩) vs.length cv] w X
  have hn2 : (bs.length : Int) ≤ n := by omega
  clear hn
  generalize bs.length = lb at *
  clear hX hr hev EQ
  go_enter Tryd.func63, Tryd.ntmps63
  go_wp2
  rw [← unhide HX]
  exact ⟨rfl, unhide B0⟩
set_option maxHeartbeats 4000000 in
theorem worth11y (n : Nat) (s : ByteArray) (bs : List Int) (L : List ByteArray) (vs : List Int) (hL : L.length ≤ 1100000) (hB : bs.length ≤ 1099511627776) (hV : vs.length ≤ 1099511627776) (hn : n < bs.length) : WoP bs L vs ⟨11, (n : Int), s, []⟩ := by
  intro b cap gb gn gv cb cn cv w hr hev
  have EQ := hide (show worthX (seW bs) (glW L vs) ⟨11, (n : Int), s, []⟩ = some (nAt bs n % 65536) by rw [worth_sect]; unfold seW; rw [if_pos (by omega)]; rfl)
  rw [unhide EQ]
  have B0 := hide (below_new w (.cells #[.int .i64 11, .int .i64 (n : Int), .string s, .slice b 0 cap] 26))
  have EV := hide (hev.later (unhide B0))
  generalize hX : InR _ w = X
  have HX := hide hX
  show Calls Tryd.prog 63 #[.agg #[.int .i64 11, .int .i64 (n : Int), .string s, .slice b 0 cap], .slice (some ⟨gb, 0, none⟩) bs.length cb, .slice (some ⟨gn, 0, none⟩) L.length cn, .slice (some ⟨gv, 0, none⟩) vs.length cv] w X
  have hc := (unhide EV).b n hn
  have hn2 : ¬ (bs.length : Int) ≤ (n : Int) := by omega
  clear hX hr hev EQ
  go_enter Tryd.func63, Tryd.ntmps63
  go_wp2_with (go_at_call 83; refine (wrapS_any _ _).mono ?_; rintro e w' ⟨rfl, hw'⟩; rw [hw']; clear hw' w')
  rw [← unhide HX]
  exact ⟨rfl, unhide B0⟩
set_option maxHeartbeats 4000000 in
theorem worth12m (n : Int) (s : ByteArray) (bs : List Int) (L : List ByteArray) (vs : List Int) (hL : L.length ≤ 1100000) (hB : bs.length ≤ 1099511627776) (hV : vs.length ≤ 1099511627776) (hn : atV L s < 0) : WoP bs L vs ⟨12, n, s, []⟩ := by
  intro b cap gb gn gv cb cn cv w hr hev
  have EQ := hide (show worthX (seW bs) (glW L vs) ⟨12, n, s, []⟩ = none by rw [worth_glob]; unfold glW; rw [if_neg (fun h => by omega)])
  rw [unhide EQ]
  have B0 := hide (below_new w (.cells #[.int .i64 12, .int .i64 n, .string s, .slice b 0 cap] 26))
  have EV := hide (hev.later (unhide B0))
  generalize hX : InR _ w = X
  have HX := hide hX
  show Calls Tryd.prog 63 #[.agg #[.int .i64 12, .int .i64 n, .string s, .slice b 0 cap], .slice (some ⟨gb, 0, none⟩) bs.length cb, .slice (some ⟨gn, 0, none⟩) L.length cn, .slice (some ⟨gv, 0, none⟩) vs.length cv] w X
  have AT := hide (at_anyF L s gn L.length cn _ rfl hL (unhide EV).n)
  generalize atV L s = av at *
  clear hX hr hev EQ
  go_enter Tryd.func63, Tryd.ntmps63
  go_wp2_with (go_at_call 81; refine (unhide AT).mono ?_; rintro e w' ⟨rfl, hw'⟩; rw [hw']; clear hw' w')
  rw [← unhide HX]
  exact ⟨rfl, unhide B0⟩
set_option maxHeartbeats 4000000 in
theorem worth12g (n : Int) (s : ByteArray) (bs : List Int) (L : List ByteArray) (vs : List Int) (hL : L.length ≤ 1100000) (hB : bs.length ≤ 1099511627776) (hV : vs.length ≤ 1099511627776) (h0 : ¬ atV L s < 0) (hn : (vs.length : Int) ≤ atV L s) : WoP bs L vs ⟨12, n, s, []⟩ := by
  intro b cap gb gn gv cb cn cv w hr hev
  have EQ := hide (show worthX (seW bs) (glW L vs) ⟨12, n, s, []⟩ = none by rw [worth_glob]; unfold glW; rw [if_neg (fun h => by omega)])
  rw [unhide EQ]
  have B0 := hide (below_new w (.cells #[.int .i64 12, .int .i64 n, .string s, .slice b 0 cap] 26))
  have EV := hide (hev.later (unhide B0))
  generalize hX : InR _ w = X
  have HX := hide hX
  show Calls Tryd.prog 63 #[.agg #[.int .i64 12, .int .i64 n, .string s, .slice b 0 cap], .slice (some ⟨gb, 0, none⟩) bs.length cb, .slice (some ⟨gn, 0, none⟩) L.length cn, .slice (some ⟨gv, 0, none⟩) vs.length cv] w X
  have AT := hide (at_anyF L s gn L.length cn _ rfl hL (unhide EV).n)
  generalize atV L s = av at *
  clear hX hr hev EQ
  go_enter Tryd.func63, Tryd.ntmps63
  go_wp2_with (go_at_call 81; refine (unhide AT).mono ?_; rintro e w' ⟨rfl, hw'⟩; rw [hw']; clear hw' w')
  rw [← unhide HX]
  exact ⟨rfl, unhide B0⟩
set_option maxHeartbeats 4000000 in
theorem worth12y (n : Int) (s : ByteArray) (j : Nat) (bs : List Int) (L : List ByteArray) (vs : List Int) (hL : L.length ≤ 1100000) (hB : bs.length ≤ 1099511627776) (hV : vs.length ≤ 1099511627776) (hj : atV L s = j) (hn : j < vs.length) : WoP bs L vs ⟨12, n, s, []⟩ := by
  intro b cap gb gn gv cb cn cv w hr hev
  have EQ := hide (show worthX (seW bs) (glW L vs) ⟨12, n, s, []⟩ = some (nAt vs j % 65536) by rw [worth_glob]; unfold glW; rw [if_pos (by omega), hj]; rfl)
  rw [unhide EQ]
  have B0 := hide (below_new w (.cells #[.int .i64 12, .int .i64 n, .string s, .slice b 0 cap] 26))
  have EV := hide (hev.later (unhide B0))
  generalize hX : InR _ w = X
  have HX := hide hX
  show Calls Tryd.prog 63 #[.agg #[.int .i64 12, .int .i64 n, .string s, .slice b 0 cap], .slice (some ⟨gb, 0, none⟩) bs.length cb, .slice (some ⟨gn, 0, none⟩) L.length cn, .slice (some ⟨gv, 0, none⟩) vs.length cv] w X
  have AT := hide (at_anyF L s gn L.length cn _ rfl hL (unhide EV).n)
  rw [hj] at AT
  have hc := (unhide EV).v j hn
  have hn2 : ¬ (vs.length : Int) ≤ (j : Int) := by omega
  have hn3 : ¬ (j : Int) < 0 := by omega
  clear hj
  clear hX hr hev EQ
  go_enter Tryd.func63, Tryd.ntmps63
  go_wp2_with (first | (go_at_call 81; refine (unhide AT).mono ?_; rintro e w' ⟨rfl, hw'⟩; rw [hw']; clear hw' w') | (go_at_call 83; refine (wrapS_any _ _).mono ?_; rintro e w' ⟨rfl, hw'⟩; rw [hw']; clear hw' w'))
  rw [← unhide HX]
  exact ⟨rfl, unhide B0⟩
set_option maxHeartbeats 4000000 in
theorem worthS_neg (bs : List Int) (L : List ByteArray) (vs : List Int) (a : Ex) (iha : WoP bs L vs a) (hi : ∀ v, worthX (seW bs) (glW L vs) a = some v → 0 ≤ v ∧ v ≤ 65535) : WoP bs L vs ⟨4, 0, ⟨#[]⟩, [a]⟩ := by
  intro b cap gb gn gv cb cn cv w hr hev
  rw [worth_neg]
  obtain ⟨p, off, rfl, hpl, hc⟩ := hr.at (by simp)
  obtain ⟨c0, c1, c2, q0, qp0, c3, r0⟩ := hc 0 (by simp)
  have xa : xAt (Ex.mk 4 0 ⟨#[]⟩ [a]).l 0 = a := rfl
  rw [xa] at c0 c1 c2 c3 r0
  simp only [Nat.zero_mul, Nat.add_zero] at c0 c1 c2 c3
  have B0 := hide (below_new w (.cells #[.int .i64 4, .int .i64 0, .string ⟨#[]⟩, .slice (some ⟨p, off, none⟩) 1 cap] 26))
  have IA := hide (iha q0 qp0 gb gn gv cb cn cv _ (RdX.later r0 (unhide B0)) (hev.later (unhide B0)))
  have G0 := (show (w.alloc (.cells #[.int .i64 4, .int .i64 0, .string ⟨#[]⟩, .slice (some ⟨p, off, none⟩) 1 cap] 26)).heap[w.heap.size]? = some (.cells #[.int .i64 4, .int .i64 0, .string ⟨#[]⟩, .slice (some ⟨p, off, none⟩) 1 cap] 26 (0, 0)) from Array.getElem?_push_size)
  have R0 := hide G0
  have d0 := ((unhide B0).cell (p := ⟨p, off, none⟩) hpl).trans c0
  have d1 := ((unhide B0).cell (p := ⟨p, off + 1, none⟩) hpl).trans c1
  have d2 := ((unhide B0).cell (p := ⟨p, off + 2, none⟩) hpl).trans c2
  have d3 := ((unhide B0).cell (p := ⟨p, off + 3, none⟩) hpl).trans c3
  generalize worthX (seW bs) (glW L vs) a = o at *
  have ho : 0 ≤ o.getD 0 ∧ o.getD 0 ≤ 65535 := by
    cases o with
    | none => exact ⟨Int.le_refl _, show (0 : Int) ≤ 65535 by decide⟩
    | some v => exact hi v rfl
  have EQ := hide (show (o.map (fun v => wr (-v))).getD 0 = -(o.getD 0) % 65536 ∧ (o.map (fun v => wr (-v))).isSome = o.isSome by cases o <;> exact ⟨rfl, rfl⟩)
  generalize hX : InR _ w = X
  have HX := hide hX
  unfold InR at IA
  unfold Ex.cs at IA
  show Calls Tryd.prog 63 #[.agg #[.int .i64 4, .int .i64 0, .string ⟨#[]⟩, .slice (some ⟨p, off, none⟩) 1 cap], .slice (some ⟨gb, 0, none⟩) bs.length cb, .slice (some ⟨gn, 0, none⟩) L.length cn, .slice (some ⟨gv, 0, none⟩) vs.length cv] w X
  generalize hog : o.getD 0 = og at *
  generalize hos : o.isSome = os at *
  have HG := hide hog
  have HO := hide hos
  clear hX hr hc c0 c1 c2 c3 r0 iha hi xa hev G0 hog hos
  go_enter Tryd.func63, Tryd.ntmps63
  go_wp2_with fail
  generalize w.alloc (.cells #[.int .i64 4, .int .i64 0, .string ⟨#[]⟩, .slice (some ⟨p, off, none⟩) 1 cap] 26) = W at *
  clear d0 d1 d2 d3
  refine (unhide IA).mono ?_
  rintro r w1 ⟨rfl, hb1⟩
  have B1 := hide ((unhide B0).trans (hb1.mono (unhide B0).size))
  have z0 := Lib.cell_of_heap (row_keep (unhide R0) hb1) 0
  clear hb1 B0 R0 IA
  go_wp2_with (go_at_call 83; refine (wrapS_any _ _).mono ?_; rintro e w' ⟨rfl, hw'⟩; rw [hw']; clear hw' w')
  rw [← unhide HX]
  exact ⟨by rw [(unhide EQ).1, (unhide EQ).2]; rfl, unhide B1⟩
set_option maxHeartbeats 4000000 in
theorem worthS_nn (bs : List Int) (L : List ByteArray) (vs : List Int) (k : Int) (hk : 5 ≤ k ∧ k ≤ 10) (a b : Ex) (iha : WoP bs L vs a) (ihb : WoP bs L vs b) (va vb : Int) (ha : worthX (seW bs) (glW L vs) a = none) (hb : worthX (seW bs) (glW L vs) b = none) (ia : 0 ≤ va ∧ va ≤ 65535) (ib : 0 ≤ vb ∧ vb ≤ 65535) : WoP bs L vs ⟨k, 0, ⟨#[]⟩, [a, b]⟩ := by
  intro bb cap gb gn gv cb cn cv w hr hev
  have EQ := hide (show worthX (seW bs) (glW L vs) ⟨k, 0, ⟨#[]⟩, [a, b]⟩ = none by rw [worth_two, ha]; rfl)
  rw [unhide EQ]
  obtain ⟨p, off, rfl, hpl, hc⟩ := hr.at (by simp)
  obtain ⟨c0, c1, c2, q0, qp0, c3, r0⟩ := hc 0 (by simp)
  obtain ⟨e0, e1, e2, q1, qp1, e3, r1⟩ := hc 1 (by simp)
  have xa : xAt (Ex.mk k 0 ⟨#[]⟩ [a, b]).l 0 = a := rfl
  have xb : xAt (Ex.mk k 0 ⟨#[]⟩ [a, b]).l 1 = b := rfl
  rw [xa] at c0 c1 c2 c3 r0
  rw [xb] at e0 e1 e2 e3 r1
  simp only [Nat.zero_mul, Nat.add_zero, Nat.one_mul] at c0 c1 c2 c3 e0 e1 e2 e3
  have B0 := hide (below_new w (.cells #[.int .i64 k, .int .i64 0, .string ⟨#[]⟩, .slice (some ⟨p, off, none⟩) 2 cap] 26))
  have IA := hide (iha q0 qp0 gb gn gv cb cn cv _ (RdX.later r0 (unhide B0)) (hev.later (unhide B0)))
  have IB := hide (fun wr (h : Below w.heap.size w wr) => ihb q1 qp1 gb gn gv cb cn cv wr (RdX.later r1 h) (hev.later h))
  rw [ha] at IA
  rw [hb] at IB
  have R0 := hide (show (w.alloc (.cells #[.int .i64 k, .int .i64 0, .string ⟨#[]⟩, .slice (some ⟨p, off, none⟩) 2 cap] 26)).heap[w.heap.size]? = some (.cells #[.int .i64 k, .int .i64 0, .string ⟨#[]⟩, .slice (some ⟨p, off, none⟩) 2 cap] 26 (0, 0)) from Array.getElem?_push_size)
  have d0 := ((unhide B0).cell (p := ⟨p, off, none⟩) hpl).trans c0
  have d1 := ((unhide B0).cell (p := ⟨p, off + 1, none⟩) hpl).trans c1
  have d2 := ((unhide B0).cell (p := ⟨p, off + 2, none⟩) hpl).trans c2
  have d3 := ((unhide B0).cell (p := ⟨p, off + 3, none⟩) hpl).trans c3
  have E0' := hide (fun wr (h : Below w.heap.size w wr) => (h.cell (p := ⟨p, off + 4, none⟩) hpl).trans e0)
  have E1' := hide (fun wr (h : Below w.heap.size w wr) => (h.cell (p := ⟨p, off + 4 + 1, none⟩) hpl).trans e1)
  have E2' := hide (fun wr (h : Below w.heap.size w wr) => (h.cell (p := ⟨p, off + 4 + 2, none⟩) hpl).trans e2)
  have E3' := hide (fun wr (h : Below w.heap.size w wr) => (h.cell (p := ⟨p, off + 4 + 3, none⟩) hpl).trans e3)
  have k1 : (k == 1) = false := beq_eq_false_iff_ne.2 (by omega)
  have k2 : (k == 2) = false := beq_eq_false_iff_ne.2 (by omega)
  have k3 : (k == 3) = false := beq_eq_false_iff_ne.2 (by omega)
  have k4 : (k == 4) = false := beq_eq_false_iff_ne.2 (by omega)
  have k11 : (k == 11) = false := beq_eq_false_iff_ne.2 (by omega)
  have k12 : (k == 12) = false := beq_eq_false_iff_ne.2 (by omega)
  have TW := hide (fun wr => twoS_any k va vb hk ia ib wr)
  unfold TwoR at TW
  generalize hX : InR _ w = X
  have HX := hide hX
  unfold InR at IA IB
  simp only [Option.getD_some, Option.getD_none, Option.isSome_some, Option.isSome_none] at IA IB
  unfold Ex.cs at IA IB
  show Calls Tryd.prog 63 #[.agg #[.int .i64 k, .int .i64 0, .string ⟨#[]⟩, .slice (some ⟨p, off, none⟩) 2 cap], .slice (some ⟨gb, 0, none⟩) bs.length cb, .slice (some ⟨gn, 0, none⟩) L.length cn, .slice (some ⟨gv, 0, none⟩) vs.length cv] w X
  clear hX hr hc c0 c1 c2 c3 e0 e1 e2 e3 r0 r1 iha ihb xa xb hev ha hb EQ hk
  go_enter Tryd.func63, Tryd.ntmps63
  go_wp2_with fail
  generalize w.alloc (.cells #[.int .i64 k, .int .i64 0, .string ⟨#[]⟩, .slice (some ⟨p, off, none⟩) 2 cap] 26) = W at *
  clear d0 d1 d2 d3
  refine (unhide IA).mono ?_
  rintro r w1 ⟨rfl, hb1⟩
  have B1 := hide ((unhide B0).trans (hb1.mono (unhide B0).size))
  have R1 := hide (row_keep (unhide R0) hb1)
  have z0 := Lib.cell_of_heap (unhide R1) 0
  have z3 := Lib.cell_of_heap (unhide R1) 3
  have d0 := unhide E0' _ (unhide B1)
  have d1 := unhide E1' _ (unhide B1)
  have d2 := unhide E2' _ (unhide B1)
  have d3 := unhide E3' _ (unhide B1)
  have IB2 := hide (unhide IB _ (unhide B1))
  clear hb1 B0 R0 IA IB E0' E1' E2' E3'
  go_wp2_with fail
  clear d0 d1 d2 d3 z0 z3
  refine (unhide IB2).mono ?_
  rintro r w2 ⟨rfl, hb2⟩
  have B2 := hide ((unhide B1).trans (hb2.mono (unhide B1).size))
  have R2 := row_keep (unhide R1) hb2
  have z0 := Lib.cell_of_heap R2 0
  clear hb2 B1 R1 IB2 R2
  go_wp2_with (go_at_call 78; refine (unhide TW _).mono ?_; rintro r w' ⟨hw', rfl⟩; rw [hw']; clear hw' w')
  rw [← unhide HX]
  exact ⟨rfl, unhide B2⟩
set_option maxHeartbeats 4000000 in
theorem worthS_ns (bs : List Int) (L : List ByteArray) (vs : List Int) (k : Int) (hk : 5 ≤ k ∧ k ≤ 10) (a b : Ex) (iha : WoP bs L vs a) (ihb : WoP bs L vs b) (va vb : Int) (ha : worthX (seW bs) (glW L vs) a = none) (hb : worthX (seW bs) (glW L vs) b = some vb) (ia : 0 ≤ va ∧ va ≤ 65535) (ib : 0 ≤ vb ∧ vb ≤ 65535) : WoP bs L vs ⟨k, 0, ⟨#[]⟩, [a, b]⟩ := by
  intro bb cap gb gn gv cb cn cv w hr hev
  have EQ := hide (show worthX (seW bs) (glW L vs) ⟨k, 0, ⟨#[]⟩, [a, b]⟩ = none by rw [worth_two, ha]; rfl)
  rw [unhide EQ]
  obtain ⟨p, off, rfl, hpl, hc⟩ := hr.at (by simp)
  obtain ⟨c0, c1, c2, q0, qp0, c3, r0⟩ := hc 0 (by simp)
  obtain ⟨e0, e1, e2, q1, qp1, e3, r1⟩ := hc 1 (by simp)
  have xa : xAt (Ex.mk k 0 ⟨#[]⟩ [a, b]).l 0 = a := rfl
  have xb : xAt (Ex.mk k 0 ⟨#[]⟩ [a, b]).l 1 = b := rfl
  rw [xa] at c0 c1 c2 c3 r0
  rw [xb] at e0 e1 e2 e3 r1
  simp only [Nat.zero_mul, Nat.add_zero, Nat.one_mul] at c0 c1 c2 c3 e0 e1 e2 e3
  have B0 := hide (below_new w (.cells #[.int .i64 k, .int .i64 0, .string ⟨#[]⟩, .slice (some ⟨p, off, none⟩) 2 cap] 26))
  have IA := hide (iha q0 qp0 gb gn gv cb cn cv _ (RdX.later r0 (unhide B0)) (hev.later (unhide B0)))
  have IB := hide (fun wr (h : Below w.heap.size w wr) => ihb q1 qp1 gb gn gv cb cn cv wr (RdX.later r1 h) (hev.later h))
  rw [ha] at IA
  rw [hb] at IB
  have R0 := hide (show (w.alloc (.cells #[.int .i64 k, .int .i64 0, .string ⟨#[]⟩, .slice (some ⟨p, off, none⟩) 2 cap] 26)).heap[w.heap.size]? = some (.cells #[.int .i64 k, .int .i64 0, .string ⟨#[]⟩, .slice (some ⟨p, off, none⟩) 2 cap] 26 (0, 0)) from Array.getElem?_push_size)
  have d0 := ((unhide B0).cell (p := ⟨p, off, none⟩) hpl).trans c0
  have d1 := ((unhide B0).cell (p := ⟨p, off + 1, none⟩) hpl).trans c1
  have d2 := ((unhide B0).cell (p := ⟨p, off + 2, none⟩) hpl).trans c2
  have d3 := ((unhide B0).cell (p := ⟨p, off + 3, none⟩) hpl).trans c3
  have E0' := hide (fun wr (h : Below w.heap.size w wr) => (h.cell (p := ⟨p, off + 4, none⟩) hpl).trans e0)
  have E1' := hide (fun wr (h : Below w.heap.size w wr) => (h.cell (p := ⟨p, off + 4 + 1, none⟩) hpl).trans e1)
  have E2' := hide (fun wr (h : Below w.heap.size w wr) => (h.cell (p := ⟨p, off + 4 + 2, none⟩) hpl).trans e2)
  have E3' := hide (fun wr (h : Below w.heap.size w wr) => (h.cell (p := ⟨p, off + 4 + 3, none⟩) hpl).trans e3)
  have k1 : (k == 1) = false := beq_eq_false_iff_ne.2 (by omega)
  have k2 : (k == 2) = false := beq_eq_false_iff_ne.2 (by omega)
  have k3 : (k == 3) = false := beq_eq_false_iff_ne.2 (by omega)
  have k4 : (k == 4) = false := beq_eq_false_iff_ne.2 (by omega)
  have k11 : (k == 11) = false := beq_eq_false_iff_ne.2 (by omega)
  have k12 : (k == 12) = false := beq_eq_false_iff_ne.2 (by omega)
  have TW := hide (fun wr => twoS_any k va vb hk ia ib wr)
  unfold TwoR at TW
  generalize hX : InR _ w = X
  have HX := hide hX
  unfold InR at IA IB
  simp only [Option.getD_some, Option.getD_none, Option.isSome_some, Option.isSome_none] at IA IB
  unfold Ex.cs at IA IB
  show Calls Tryd.prog 63 #[.agg #[.int .i64 k, .int .i64 0, .string ⟨#[]⟩, .slice (some ⟨p, off, none⟩) 2 cap], .slice (some ⟨gb, 0, none⟩) bs.length cb, .slice (some ⟨gn, 0, none⟩) L.length cn, .slice (some ⟨gv, 0, none⟩) vs.length cv] w X
  clear hX hr hc c0 c1 c2 c3 e0 e1 e2 e3 r0 r1 iha ihb xa xb hev ha hb EQ hk
  go_enter Tryd.func63, Tryd.ntmps63
  go_wp2_with fail
  generalize w.alloc (.cells #[.int .i64 k, .int .i64 0, .string ⟨#[]⟩, .slice (some ⟨p, off, none⟩) 2 cap] 26) = W at *
  clear d0 d1 d2 d3
  refine (unhide IA).mono ?_
  rintro r w1 ⟨rfl, hb1⟩
  have B1 := hide ((unhide B0).trans (hb1.mono (unhide B0).size))
  have R1 := hide (row_keep (unhide R0) hb1)
  have z0 := Lib.cell_of_heap (unhide R1) 0
  have z3 := Lib.cell_of_heap (unhide R1) 3
  have d0 := unhide E0' _ (unhide B1)
  have d1 := unhide E1' _ (unhide B1)
  have d2 := unhide E2' _ (unhide B1)
  have d3 := unhide E3' _ (unhide B1)
  have IB2 := hide (unhide IB _ (unhide B1))
  clear hb1 B0 R0 IA IB E0' E1' E2' E3'
  go_wp2_with fail
  clear d0 d1 d2 d3 z0 z3
  refine (unhide IB2).mono ?_
  rintro r w2 ⟨rfl, hb2⟩
  have B2 := hide ((unhide B1).trans (hb2.mono (unhide B1).size))
  have R2 := row_keep (unhide R1) hb2
  have z0 := Lib.cell_of_heap R2 0
  clear hb2 B1 R1 IB2 R2
  go_wp2_with (go_at_call 78; refine (unhide TW _).mono ?_; rintro r w' ⟨hw', rfl⟩; rw [hw']; clear hw' w')
  rw [← unhide HX]
  exact ⟨rfl, unhide B2⟩
set_option maxHeartbeats 4000000 in
theorem worthS_sn (bs : List Int) (L : List ByteArray) (vs : List Int) (k : Int) (hk : 5 ≤ k ∧ k ≤ 10) (a b : Ex) (iha : WoP bs L vs a) (ihb : WoP bs L vs b) (va vb : Int) (ha : worthX (seW bs) (glW L vs) a = some va) (hb : worthX (seW bs) (glW L vs) b = none) (ia : 0 ≤ va ∧ va ≤ 65535) (ib : 0 ≤ vb ∧ vb ≤ 65535) : WoP bs L vs ⟨k, 0, ⟨#[]⟩, [a, b]⟩ := by
  intro bb cap gb gn gv cb cn cv w hr hev
  have EQ := hide (show worthX (seW bs) (glW L vs) ⟨k, 0, ⟨#[]⟩, [a, b]⟩ = none by rw [worth_two, ha, hb]; rfl)
  rw [unhide EQ]
  obtain ⟨p, off, rfl, hpl, hc⟩ := hr.at (by simp)
  obtain ⟨c0, c1, c2, q0, qp0, c3, r0⟩ := hc 0 (by simp)
  obtain ⟨e0, e1, e2, q1, qp1, e3, r1⟩ := hc 1 (by simp)
  have xa : xAt (Ex.mk k 0 ⟨#[]⟩ [a, b]).l 0 = a := rfl
  have xb : xAt (Ex.mk k 0 ⟨#[]⟩ [a, b]).l 1 = b := rfl
  rw [xa] at c0 c1 c2 c3 r0
  rw [xb] at e0 e1 e2 e3 r1
  simp only [Nat.zero_mul, Nat.add_zero, Nat.one_mul] at c0 c1 c2 c3 e0 e1 e2 e3
  have B0 := hide (below_new w (.cells #[.int .i64 k, .int .i64 0, .string ⟨#[]⟩, .slice (some ⟨p, off, none⟩) 2 cap] 26))
  have IA := hide (iha q0 qp0 gb gn gv cb cn cv _ (RdX.later r0 (unhide B0)) (hev.later (unhide B0)))
  have IB := hide (fun wr (h : Below w.heap.size w wr) => ihb q1 qp1 gb gn gv cb cn cv wr (RdX.later r1 h) (hev.later h))
  rw [ha] at IA
  rw [hb] at IB
  have R0 := hide (show (w.alloc (.cells #[.int .i64 k, .int .i64 0, .string ⟨#[]⟩, .slice (some ⟨p, off, none⟩) 2 cap] 26)).heap[w.heap.size]? = some (.cells #[.int .i64 k, .int .i64 0, .string ⟨#[]⟩, .slice (some ⟨p, off, none⟩) 2 cap] 26 (0, 0)) from Array.getElem?_push_size)
  have d0 := ((unhide B0).cell (p := ⟨p, off, none⟩) hpl).trans c0
  have d1 := ((unhide B0).cell (p := ⟨p, off + 1, none⟩) hpl).trans c1
  have d2 := ((unhide B0).cell (p := ⟨p, off + 2, none⟩) hpl).trans c2
  have d3 := ((unhide B0).cell (p := ⟨p, off + 3, none⟩) hpl).trans c3
  have E0' := hide (fun wr (h : Below w.heap.size w wr) => (h.cell (p := ⟨p, off + 4, none⟩) hpl).trans e0)
  have E1' := hide (fun wr (h : Below w.heap.size w wr) => (h.cell (p := ⟨p, off + 4 + 1, none⟩) hpl).trans e1)
  have E2' := hide (fun wr (h : Below w.heap.size w wr) => (h.cell (p := ⟨p, off + 4 + 2, none⟩) hpl).trans e2)
  have E3' := hide (fun wr (h : Below w.heap.size w wr) => (h.cell (p := ⟨p, off + 4 + 3, none⟩) hpl).trans e3)
  have k1 : (k == 1) = false := beq_eq_false_iff_ne.2 (by omega)
  have k2 : (k == 2) = false := beq_eq_false_iff_ne.2 (by omega)
  have k3 : (k == 3) = false := beq_eq_false_iff_ne.2 (by omega)
  have k4 : (k == 4) = false := beq_eq_false_iff_ne.2 (by omega)
  have k11 : (k == 11) = false := beq_eq_false_iff_ne.2 (by omega)
  have k12 : (k == 12) = false := beq_eq_false_iff_ne.2 (by omega)
  have TW := hide (fun wr => twoS_any k va vb hk ia ib wr)
  unfold TwoR at TW
  generalize hX : InR _ w = X
  have HX := hide hX
  unfold InR at IA IB
  simp only [Option.getD_some, Option.getD_none, Option.isSome_some, Option.isSome_none] at IA IB
  unfold Ex.cs at IA IB
  show Calls Tryd.prog 63 #[.agg #[.int .i64 k, .int .i64 0, .string ⟨#[]⟩, .slice (some ⟨p, off, none⟩) 2 cap], .slice (some ⟨gb, 0, none⟩) bs.length cb, .slice (some ⟨gn, 0, none⟩) L.length cn, .slice (some ⟨gv, 0, none⟩) vs.length cv] w X
  clear hX hr hc c0 c1 c2 c3 e0 e1 e2 e3 r0 r1 iha ihb xa xb hev ha hb EQ hk
  go_enter Tryd.func63, Tryd.ntmps63
  go_wp2_with fail
  generalize w.alloc (.cells #[.int .i64 k, .int .i64 0, .string ⟨#[]⟩, .slice (some ⟨p, off, none⟩) 2 cap] 26) = W at *
  clear d0 d1 d2 d3
  refine (unhide IA).mono ?_
  rintro r w1 ⟨rfl, hb1⟩
  have B1 := hide ((unhide B0).trans (hb1.mono (unhide B0).size))
  have R1 := hide (row_keep (unhide R0) hb1)
  have z0 := Lib.cell_of_heap (unhide R1) 0
  have z3 := Lib.cell_of_heap (unhide R1) 3
  have d0 := unhide E0' _ (unhide B1)
  have d1 := unhide E1' _ (unhide B1)
  have d2 := unhide E2' _ (unhide B1)
  have d3 := unhide E3' _ (unhide B1)
  have IB2 := hide (unhide IB _ (unhide B1))
  clear hb1 B0 R0 IA IB E0' E1' E2' E3'
  go_wp2_with fail
  clear d0 d1 d2 d3 z0 z3
  refine (unhide IB2).mono ?_
  rintro r w2 ⟨rfl, hb2⟩
  have B2 := hide ((unhide B1).trans (hb2.mono (unhide B1).size))
  have R2 := row_keep (unhide R1) hb2
  have z0 := Lib.cell_of_heap R2 0
  clear hb2 B1 R1 IB2 R2
  go_wp2_with (go_at_call 78; refine (unhide TW _).mono ?_; rintro r w' ⟨hw', rfl⟩; rw [hw']; clear hw' w')
  rw [← unhide HX]
  exact ⟨rfl, unhide B2⟩
set_option maxHeartbeats 4000000 in
theorem worthS_ss (bs : List Int) (L : List ByteArray) (vs : List Int) (k : Int) (hk : 5 ≤ k ∧ k ≤ 10) (a b : Ex) (iha : WoP bs L vs a) (ihb : WoP bs L vs b) (va vb : Int) (ha : worthX (seW bs) (glW L vs) a = some va) (hb : worthX (seW bs) (glW L vs) b = some vb) (ia : 0 ≤ va ∧ va ≤ 65535) (ib : 0 ≤ vb ∧ vb ≤ 65535) : WoP bs L vs ⟨k, 0, ⟨#[]⟩, [a, b]⟩ := by
  intro bb cap gb gn gv cb cn cv w hr hev
  have EQ := hide (show worthX (seW bs) (glW L vs) ⟨k, 0, ⟨#[]⟩, [a, b]⟩ = two11 k va vb by rw [worth_two, ha, hb]; rfl)
  rw [unhide EQ]
  obtain ⟨p, off, rfl, hpl, hc⟩ := hr.at (by simp)
  obtain ⟨c0, c1, c2, q0, qp0, c3, r0⟩ := hc 0 (by simp)
  obtain ⟨e0, e1, e2, q1, qp1, e3, r1⟩ := hc 1 (by simp)
  have xa : xAt (Ex.mk k 0 ⟨#[]⟩ [a, b]).l 0 = a := rfl
  have xb : xAt (Ex.mk k 0 ⟨#[]⟩ [a, b]).l 1 = b := rfl
  rw [xa] at c0 c1 c2 c3 r0
  rw [xb] at e0 e1 e2 e3 r1
  simp only [Nat.zero_mul, Nat.add_zero, Nat.one_mul] at c0 c1 c2 c3 e0 e1 e2 e3
  have B0 := hide (below_new w (.cells #[.int .i64 k, .int .i64 0, .string ⟨#[]⟩, .slice (some ⟨p, off, none⟩) 2 cap] 26))
  have IA := hide (iha q0 qp0 gb gn gv cb cn cv _ (RdX.later r0 (unhide B0)) (hev.later (unhide B0)))
  have IB := hide (fun wr (h : Below w.heap.size w wr) => ihb q1 qp1 gb gn gv cb cn cv wr (RdX.later r1 h) (hev.later h))
  rw [ha] at IA
  rw [hb] at IB
  have R0 := hide (show (w.alloc (.cells #[.int .i64 k, .int .i64 0, .string ⟨#[]⟩, .slice (some ⟨p, off, none⟩) 2 cap] 26)).heap[w.heap.size]? = some (.cells #[.int .i64 k, .int .i64 0, .string ⟨#[]⟩, .slice (some ⟨p, off, none⟩) 2 cap] 26 (0, 0)) from Array.getElem?_push_size)
  have d0 := ((unhide B0).cell (p := ⟨p, off, none⟩) hpl).trans c0
  have d1 := ((unhide B0).cell (p := ⟨p, off + 1, none⟩) hpl).trans c1
  have d2 := ((unhide B0).cell (p := ⟨p, off + 2, none⟩) hpl).trans c2
  have d3 := ((unhide B0).cell (p := ⟨p, off + 3, none⟩) hpl).trans c3
  have E0' := hide (fun wr (h : Below w.heap.size w wr) => (h.cell (p := ⟨p, off + 4, none⟩) hpl).trans e0)
  have E1' := hide (fun wr (h : Below w.heap.size w wr) => (h.cell (p := ⟨p, off + 4 + 1, none⟩) hpl).trans e1)
  have E2' := hide (fun wr (h : Below w.heap.size w wr) => (h.cell (p := ⟨p, off + 4 + 2, none⟩) hpl).trans e2)
  have E3' := hide (fun wr (h : Below w.heap.size w wr) => (h.cell (p := ⟨p, off + 4 + 3, none⟩) hpl).trans e3)
  have k1 : (k == 1) = false := beq_eq_false_iff_ne.2 (by omega)
  have k2 : (k == 2) = false := beq_eq_false_iff_ne.2 (by omega)
  have k3 : (k == 3) = false := beq_eq_false_iff_ne.2 (by omega)
  have k4 : (k == 4) = false := beq_eq_false_iff_ne.2 (by omega)
  have k11 : (k == 11) = false := beq_eq_false_iff_ne.2 (by omega)
  have k12 : (k == 12) = false := beq_eq_false_iff_ne.2 (by omega)
  have TW := hide (fun wr => twoS_any k va vb hk ia ib wr)
  unfold TwoR at TW
  generalize hX : InR _ w = X
  have HX := hide hX
  unfold InR at IA IB
  simp only [Option.getD_some, Option.getD_none, Option.isSome_some, Option.isSome_none] at IA IB
  unfold Ex.cs at IA IB
  show Calls Tryd.prog 63 #[.agg #[.int .i64 k, .int .i64 0, .string ⟨#[]⟩, .slice (some ⟨p, off, none⟩) 2 cap], .slice (some ⟨gb, 0, none⟩) bs.length cb, .slice (some ⟨gn, 0, none⟩) L.length cn, .slice (some ⟨gv, 0, none⟩) vs.length cv] w X
  clear hX hr hc c0 c1 c2 c3 e0 e1 e2 e3 r0 r1 iha ihb xa xb hev ha hb EQ hk
  go_enter Tryd.func63, Tryd.ntmps63
  go_wp2_with fail
  generalize w.alloc (.cells #[.int .i64 k, .int .i64 0, .string ⟨#[]⟩, .slice (some ⟨p, off, none⟩) 2 cap] 26) = W at *
  clear d0 d1 d2 d3
  refine (unhide IA).mono ?_
  rintro r w1 ⟨rfl, hb1⟩
  have B1 := hide ((unhide B0).trans (hb1.mono (unhide B0).size))
  have R1 := hide (row_keep (unhide R0) hb1)
  have z0 := Lib.cell_of_heap (unhide R1) 0
  have z3 := Lib.cell_of_heap (unhide R1) 3
  have d0 := unhide E0' _ (unhide B1)
  have d1 := unhide E1' _ (unhide B1)
  have d2 := unhide E2' _ (unhide B1)
  have d3 := unhide E3' _ (unhide B1)
  have IB2 := hide (unhide IB _ (unhide B1))
  clear hb1 B0 R0 IA IB E0' E1' E2' E3'
  go_wp2_with fail
  clear d0 d1 d2 d3 z0 z3
  refine (unhide IB2).mono ?_
  rintro r w2 ⟨rfl, hb2⟩
  have B2 := hide ((unhide B1).trans (hb2.mono (unhide B1).size))
  have R2 := row_keep (unhide R1) hb2
  have z0 := Lib.cell_of_heap R2 0
  clear hb2 B1 R1 IB2 R2
  go_wp2_with (go_at_call 78; refine (unhide TW _).mono ?_; rintro r w' ⟨hw', rfl⟩; rw [hw']; clear hw' w')
  rw [← unhide HX]
  exact ⟨rfl, unhide B2⟩
end Go.Proofs.YtkolflcjkofleaaDoor

namespace Go.Proofs.YtkolflcjkofleaaDoor
open Go.ChangeShapes Go.WideShapes Go.ChangeAt Go.RowKit
set_option linter.unusedVariables false
set_option maxRecDepth 8000
set_option linter.unusedSimpArgs false

/-- What is known elsewhere, as it lies. -/
structure Ew (w : World) (ab : Option Addr) (m : Nat) (av : Option Addr) (bs : List Int) (ps : List (ByteArray × Nat)) (vs : List Int) : Prop where
  b : RdN w ab bs
  m : IsMs w m ps
  v : RdN w av vs
theorem Ew.later {w w' : World} {ab av : Option Addr} {m : Nat} {bs vs : List Int} {ps : List (ByteArray × Nat)} (h : Ew w ab m av bs ps vs) (hb : Below w.heap.size w w') : Ew w' ab m av bs ps vs := ⟨h.b.later hb, h.m.later hb, h.v.later hb⟩
theorem inR_end {o : Option Int} {w w' : World} {r : Ending} {n : Int} {q : Bool} (ho : n = o.getD 0 ∧ q = o.isSome) (hr : r = .returned (.tuple #[.int .i64 n, .bool q])) (hb : Below w.heap.size w w') : InR o w r w' := ⟨by rw [hr, ho.1, ho.2], hb⟩
set_option maxHeartbeats 2000000 in
theorem wordAt_no (a : Option Addr) (n cap i : Nat) (hm : n ≤ 1099511627776) (hi : n ≤ i) (hi2 : i ≤ 1099511627776) (w : World) : Calls Tryd.prog 74 #[.slice a n cap, .int .i64 (i : Nat)] w (InR none w) := by
  have FN := hide (fun (r : Ending) (w' : World) (h : r = .returned (.tuple #[.int .i64 0, .bool false])) (hb : Below w.heap.size w w') => inR_end (o := none) ⟨rfl, rfl⟩ h hb)
  generalize InR none w = R at *
  have h1 : (n : Int) ≤ (i : Int) := by omega
  go_enter Tryd.func74, Tryd.ntmps74
  go_wp2
  (first | go_ret2 | go_ret | skip)
  exact unhide FN _ _ rfl (Below.refl _ _)
set_option maxHeartbeats 2000000 in
theorem wordAt_yes (a : Option Addr) (n cap i : Nat) (hm : n ≤ 1099511627776) (hi : i < n) (xs : List Int) (hl : xs.length = n) (w : World) (hr : RdN w a xs) : Calls Tryd.prog 74 #[.slice a n cap, .int .i64 (i : Nat)] w (InR (some (wr (nAt xs i))) w) := by
  have FN := hide (fun (r : Ending) (w' : World) (h : r = .returned (.tuple #[.int .i64 (wr (nAt xs i)), .bool true])) (hb : Below w.heap.size w w') => inR_end (o := some (wr (nAt xs i))) ⟨rfl, rfl⟩ h hb)
  generalize InR (some (wr (nAt xs i))) w = R at *
  unfold wr at FN
  have h1 : ¬ (n : Int) ≤ (i : Int) := by omega
  rcases hr with rfl | ⟨b, off, rfl, hb, hc⟩
  · simp at hl; omega
  have hcx := hc i (by omega)
  generalize nAt xs i = x at *
  clear hc hl
  go_enter Tryd.func74, Tryd.ntmps74
  go_wp2_with (go_at_call 75; refine (wrapI_any _ _).mono ?_; rintro e w0 ⟨rfl, hw0⟩; rw [hw0]; clear hw0 w0)
  (first | go_ret2 | go_ret | skip)
  exact unhide FN _ _ rfl (Below.refl _ _)
theorem wordAt_any (a : Option Addr) (cap i : Nat) (xs : List Int) (hm : xs.length ≤ 1099511627776) (hi : i ≤ 1099511627776) (w : World) (hr : RdN w a xs) : Calls Tryd.prog 74 #[.slice a xs.length cap, .int .i64 (i : Nat)] w (InR (seW xs i) w) := by
  by_cases h : i < xs.length
  · rw [show seW xs (i : Nat) = some (wr (nAt xs i)) by unfold seW; rw [if_pos (by omega)]; rfl]
    exact wordAt_yes a _ cap i hm h xs rfl w hr
  · rw [show seW xs (i : Nat) = none by unfold seW; rw [if_neg (by omega)]]
    exact wordAt_no a _ cap i hm (by omega) hi w
/-- What (worths).of answers of a term, whatever is known elsewhere. -/
def WoJ (bs : List Int) (L : List ByteArray) (vs : List Int) (e : Ex) : Prop := ∀ (ab av : Option Addr) (cb cv m : Nat) (ps : List (ByteArray × Nat)) (w : World), Ew w ab m av bs ps vs → (∀ s, lkS ps s = plS L s) → Calls Tryd.prog 50 #[.agg #[.slice ab bs.length cb, .map (some m), .slice av vs.length cv], tv e] w (InR (worthX (seW bs) (glW L vs) e) w)
theorem glW_pl (L : List ByteArray) (vs : List Int) (s : ByteArray) : glW L vs s = (plS L s).bind (fun i => seW vs (i : Nat)) := by
  unfold glW
  rw [plS_at]
  cases plS L s with
  | none => simp
  | some i =>
    simp only [Option.map_some, Option.getD_some, Option.bind_some, seW]
    by_cases h : (i : Int) < vs.length
    · rw [if_pos ⟨by omega, h⟩, if_pos h]
    · rw [if_neg (fun q => h q.2), if_neg h]
theorem pl_lt {L : List ByteArray} {s : ByteArray} {i : Nat} (h : plS L s = some i) : i < L.length := by
  unfold plS at h
  rw [List.findIdx?_eq_some_iff_getElem] at h
  exact h.1
set_option maxHeartbeats 4000000 in
theorem wj_num (bs : List Int) (L : List ByteArray) (vs : List Int) (hB : bs.length ≤ 1099511627776) (hV : vs.length ≤ 1099511627776) (hL : L.length ≤ 1099511627776) (n : Int) : WoJ bs L vs (⟨1, n, E0, []⟩) := by
  intro ab av cb cv m ps w hev hps
  rw [tv_num, show worthX (seW bs) (glW L vs) (⟨1, n, E0, []⟩) = some n from worth_num _ _]
  have FN := hide (fun (r : Ending) (w' : World) (z : Int) (q : Bool) (ho : z = (some n).getD 0 ∧ q = (some n).isSome) (h : r = .returned (.tuple #[.int .i64 z, .bool q])) (hb : Below w.heap.size w w') => inR_end ho h hb)
  generalize InR (some n) w = R at *
  have B0 := hide (below_new w (.cells #[.slice ab bs.length cb, .map (some m), .slice av vs.length cv] 74))
  have G0 := hide (show (w.alloc (.cells #[.slice ab bs.length cb, .map (some m), .slice av vs.length cv] 74)).heap[w.heap.size]? = some (.cells #[.slice ab bs.length cb, .map (some m), .slice av vs.length cv] 74 (0, 0)) from Array.getElem?_push_size)
  have V0 := hide (hev.later (unhide B0))
  clear hev
  have t1 := taY_num (.agg #[.int .i64 n])
  have T := hide (two_resG w (.cells #[.slice ab bs.length cb, .map (some m), .slice av vs.length cv] 74) (.cells #[.int .i64 n] 88))
  go_enter Tryd.func50, Tryd.ntmps50
  go_wp2
  (first | (generalize (w.alloc (.cells #[.slice ab bs.length cb, .map (some m), .slice av vs.length cv] 74)).alloc (.cells #[.int .i64 n] 88) = W at *; have c0 := Lib.cell_of_heap (unhide T).2.2 0; go_region; go_wp2) | skip)
  (first | go_ret2 | go_ret | skip)
  exact unhide FN _ _ _ _ ⟨rfl, rfl⟩ rfl (by first | exact below_dr (unhide T).1 | exact (unhide T).1)
set_option maxHeartbeats 4000000 in
theorem wj_sect (bs : List Int) (L : List ByteArray) (vs : List Int) (hB : bs.length ≤ 1099511627776) (hV : vs.length ≤ 1099511627776) (hL : L.length ≤ 1099511627776) (n : Nat) (hn : n ≤ 9) : WoJ bs L vs (⟨11, (n : Int), E0, []⟩) := by
  intro ab av cb cv m ps w hev hps
  rw [tv_sect, show worthX (seW bs) (glW L vs) (⟨11, (n : Int), E0, []⟩) = seW bs (n : Int) from worth_sect _ _]
  have FN := hide (fun (r : Ending) (w' : World) (z : Int) (q : Bool) (ho : z = (seW bs (n : Int)).getD 0 ∧ q = (seW bs (n : Int)).isSome) (h : r = .returned (.tuple #[.int .i64 z, .bool q])) (hb : Below w.heap.size w w') => inR_end ho h hb)
  generalize InR (seW bs (n : Int)) w = R at *
  have B0 := hide (below_new w (.cells #[.slice ab bs.length cb, .map (some m), .slice av vs.length cv] 74))
  have G0 := hide (show (w.alloc (.cells #[.slice ab bs.length cb, .map (some m), .slice av vs.length cv] 74)).heap[w.heap.size]? = some (.cells #[.slice ab bs.length cb, .map (some m), .slice av vs.length cv] 74 (0, 0)) from Array.getElem?_push_size)
  have V0 := hide (hev.later (unhide B0))
  clear hev
  have t0 := taN_num 115 (.agg #[.int .i64 (n : Int)]) (by decide)
  have t1 := taY_sect (.agg #[.int .i64 (n : Int)])
  have T := hide (two_resG w (.cells #[.slice ab bs.length cb, .map (some m), .slice av vs.length cv] 74) (.cells #[.int .i64 (n : Int)] 115))
  have WA := hide (fun wr (h : Ew wr ab m av bs ps vs) => wordAt_any ab cb n bs hB (by omega) wr h.b)
  unfold InR at WA
  have V1 := hide ((unhide V0).later (below_new _ (.cells #[.int .i64 (n : Int)] 115)))
  generalize seW bs (n : Int) = o at *
  go_enter Tryd.func50, Tryd.ntmps50
  go_wp2_with fail
  generalize (w.alloc (.cells #[.slice ab bs.length cb, .map (some m), .slice av vs.length cv] 74)).alloc (.cells #[.int .i64 (n : Int)] 115) = W at *
  refine (unhide WA _ (unhide V1)).mono ?_
  rintro r w1 ⟨rfl, hb1⟩
  have B1 := hide ((unhide T).1.trans (hb1.mono (unhide T).1.size))
  clear hb1
  go_wp2
  (first | go_ret2 | go_ret | skip)
  exact unhide FN _ _ _ _ ⟨rfl, rfl⟩ rfl (unhide B1)
set_option maxHeartbeats 4000000 in
theorem wj_globn (bs : List Int) (L : List ByteArray) (vs : List Int) (hB : bs.length ≤ 1099511627776) (hV : vs.length ≤ 1099511627776) (hL : L.length ≤ 1099511627776) (s : ByteArray) (hp : plS L s = none) : WoJ bs L vs (⟨12, 0, s, []⟩) := by
  intro ab av cb cv m ps w hev hps
  rw [tv_glob, show worthX (seW bs) (glW L vs) (⟨12, 0, s, []⟩) = none from (by rw [worth_glob, glW_pl, hp]; rfl)]
  have FN := hide (fun (r : Ending) (w' : World) (z : Int) (q : Bool) (ho : z = (none).getD 0 ∧ q = (none).isSome) (h : r = .returned (.tuple #[.int .i64 z, .bool q])) (hb : Below w.heap.size w w') => inR_end ho h hb)
  generalize InR (none) w = R at *
  have B0 := hide (below_new w (.cells #[.slice ab bs.length cb, .map (some m), .slice av vs.length cv] 74))
  have G0 := hide (show (w.alloc (.cells #[.slice ab bs.length cb, .map (some m), .slice av vs.length cv] 74)).heap[w.heap.size]? = some (.cells #[.slice ab bs.length cb, .map (some m), .slice av vs.length cv] 74 (0, 0)) from Array.getElem?_push_size)
  have V0 := hide (hev.later (unhide B0))
  clear hev
  have t0 := taN_num 118 (.agg #[.string s]) (by decide)
  have t2 := taN_sect 118 (.agg #[.string s]) (by decide)
  have t1 := taY_glob (.agg #[.string s])
  have T := hide (two_resG w (.cells #[.slice ab bs.length cb, .map (some m), .slice av vs.length cv] 74) (.cells #[.string s] 118))
  have V1 := hide ((unhide V0).later (below_new _ (.cells #[.string s] 118)))
  have LK := run_lookS (unhide V1).m s
  rw [hps, hp] at LK
  simp only [Option.getD_none, Option.isSome_none, Option.getD_some, Option.isSome_some] at LK
  clear hp hps
  go_enter Tryd.func50, Tryd.ntmps50
  go_wp2
  (first | go_ret2 | go_ret | skip)
  exact unhide FN _ _ _ _ ⟨rfl, rfl⟩ rfl (unhide T).1
set_option maxHeartbeats 4000000 in
theorem wj_globy (bs : List Int) (L : List ByteArray) (vs : List Int) (hB : bs.length ≤ 1099511627776) (hV : vs.length ≤ 1099511627776) (hL : L.length ≤ 1099511627776) (s : ByteArray) (i : Nat) (hp : plS L s = some i) : WoJ bs L vs (⟨12, 0, s, []⟩) := by
  intro ab av cb cv m ps w hev hps
  rw [tv_glob, show worthX (seW bs) (glW L vs) (⟨12, 0, s, []⟩) = seW vs (i : Int) from (by rw [worth_glob, glW_pl, hp]; rfl)]
  have FN := hide (fun (r : Ending) (w' : World) (z : Int) (q : Bool) (ho : z = (seW vs (i : Int)).getD 0 ∧ q = (seW vs (i : Int)).isSome) (h : r = .returned (.tuple #[.int .i64 z, .bool q])) (hb : Below w.heap.size w w') => inR_end ho h hb)
  generalize InR (seW vs (i : Int)) w = R at *
  have B0 := hide (below_new w (.cells #[.slice ab bs.length cb, .map (some m), .slice av vs.length cv] 74))
  have G0 := hide (show (w.alloc (.cells #[.slice ab bs.length cb, .map (some m), .slice av vs.length cv] 74)).heap[w.heap.size]? = some (.cells #[.slice ab bs.length cb, .map (some m), .slice av vs.length cv] 74 (0, 0)) from Array.getElem?_push_size)
  have V0 := hide (hev.later (unhide B0))
  clear hev
  have t0 := taN_num 118 (.agg #[.string s]) (by decide)
  have t2 := taN_sect 118 (.agg #[.string s]) (by decide)
  have t1 := taY_glob (.agg #[.string s])
  have T := hide (two_resG w (.cells #[.slice ab bs.length cb, .map (some m), .slice av vs.length cv] 74) (.cells #[.string s] 118))
  have V1 := hide ((unhide V0).later (below_new _ (.cells #[.string s] 118)))
  have LK := run_lookS (unhide V1).m s
  rw [hps, hp] at LK
  simp only [Option.getD_none, Option.isSome_none, Option.getD_some, Option.isSome_some] at LK
  have WA := hide (fun wr (h : Ew wr ab m av bs ps vs) => wordAt_any av cv i vs hV (by have := pl_lt hp; omega) wr h.v)
  unfold InR at WA
  generalize seW vs (i : Int) = o at *
  clear hp hps
  go_enter Tryd.func50, Tryd.ntmps50
  go_wp2_with fail
  generalize (w.alloc (.cells #[.slice ab bs.length cb, .map (some m), .slice av vs.length cv] 74)).alloc (.cells #[.string s] 118) = W at *
  refine (unhide WA _ (unhide V1)).mono ?_
  rintro r w1 ⟨rfl, hb1⟩
  have B1 := hide ((unhide T).1.trans (hb1.mono (unhide T).1.size))
  clear hb1 LK
  go_wp2
  (first | go_ret2 | go_ret | skip)
  exact unhide FN _ _ _ _ ⟨rfl, rfl⟩ rfl (unhide B1)
/-- What (worths).ofPair answers. -/
def WoK (bs : List Int) (L : List ByteArray) (vs : List Int) (e : Ex) : Prop := ∀ (ab av : Option Addr) (cb cv m : Nat) (ps : List (ByteArray × Nat)) (w : World), Ew w ab m av bs ps vs → (∀ s, lkS ps s = plS L s) → Calls Tryd.prog 76 #[.agg #[.slice ab bs.length cb, .map (some m), .slice av vs.length cv], tv e] w (InR (worthX (seW bs) (glW L vs) e) w)
set_option maxHeartbeats 4000000 in
theorem wk_sym (bs : List Int) (L : List ByteArray) (vs : List Int) (hB : bs.length ≤ 1099511627776) (hV : vs.length ≤ 1099511627776) (hL : L.length ≤ 1099511627776) (s : ByteArray) : WoK bs L vs (⟨2, 0, s, []⟩) := by
  intro ab av cb cv m ps w hev hps
  rw [tv_sym, show worthX (seW bs) (glW L vs) (⟨2, 0, s, []⟩) = none from worth_sym _ _]
  have FN := hide (fun (r : Ending) (w' : World) (z : Int) (q : Bool) (ho : z = (none).getD 0 ∧ q = (none).isSome) (h : r = .returned (.tuple #[.int .i64 z, .bool q])) (hb : Below w.heap.size w w') => inR_end ho h hb)
  generalize InR (none) w = R at *
  have B0 := hide (below_new w (.cells #[.slice ab bs.length cb, .map (some m), .slice av vs.length cv] 74))
  have G0 := hide (show (w.alloc (.cells #[.slice ab bs.length cb, .map (some m), .slice av vs.length cv] 74)).heap[w.heap.size]? = some (.cells #[.slice ab bs.length cb, .map (some m), .slice av vs.length cv] 74 (0, 0)) from Array.getElem?_push_size)
  have V0 := hide (hev.later (unhide B0))
  clear hev
  have m0 := me_sym (.string s)
  have P0 := hide (parts0 (w.alloc (.cells #[.slice ab bs.length cb, .map (some m), .slice av vs.length cv] 74)))
  go_enter Tryd.func76, Tryd.ntmps76
  go_wp2_with (go_at_call 121; refine (unhide P0).mono ?_; rintro r w1 ⟨rfl, hb1⟩; have B1 := hide ((unhide B0).trans (hb1.mono (unhide B0).size)); clear hb1)
  (first | go_ret2 | go_ret | skip)
  exact unhide FN _ _ _ _ ⟨rfl, rfl⟩ rfl (unhide B1)
set_option maxHeartbeats 4000000 in
theorem wj_sym (bs : List Int) (L : List ByteArray) (vs : List Int) (hB : bs.length ≤ 1099511627776) (hV : vs.length ≤ 1099511627776) (hL : L.length ≤ 1099511627776) (s : ByteArray) : WoJ bs L vs (⟨2, 0, s, []⟩) := by
  intro ab av cb cv m ps w hev hps
  rw [tv_sym, show worthX (seW bs) (glW L vs) (⟨2, 0, s, []⟩) = none from worth_sym _ _]
  have FN := hide (fun (r : Ending) (w' : World) (z : Int) (q : Bool) (ho : z = (none).getD 0 ∧ q = (none).isSome) (h : r = .returned (.tuple #[.int .i64 z, .bool q])) (hb : Below w.heap.size w w') => inR_end ho h hb)
  generalize InR (none) w = R at *
  have B0 := hide (below_new w (.cells #[.slice ab bs.length cb, .map (some m), .slice av vs.length cv] 74))
  have G0 := hide (show (w.alloc (.cells #[.slice ab bs.length cb, .map (some m), .slice av vs.length cv] 74)).heap[w.heap.size]? = some (.cells #[.slice ab bs.length cb, .map (some m), .slice av vs.length cv] 74 (0, 0)) from Array.getElem?_push_size)
  have V0 := hide (hev.later (unhide B0))
  clear hev
  have t0 := taN_num 117 (.agg #[.string s]) (by decide)
  have t1 := taN_sect 117 (.agg #[.string s]) (by decide)
  have t2 := taN_glob 117 (.agg #[.string s]) (by decide)
  have t3 := taN_neg 117 (.agg #[.string s]) (by decide)
  have WK := hide (wk_sym bs L vs hB hV hL s ab av cb cv m ps _ (unhide V0) hps)
  rw [tv_sym, worth_sym] at WK
  unfold InR at WK
  clear hps
  go_enter Tryd.func50, Tryd.ntmps50
  go_wp2_with (refine wpList_load_row rfl 74 _ rfl w.heap.size rfl 74 #[.slice ab bs.length cb, .map (some m), .slice av vs.length cv] (0, 0) _ (unhide G0) Tryd.underlying74 rfl (by kernel_rfl) ?_)
  generalize w.alloc (.cells #[.slice ab bs.length cb, .map (some m), .slice av vs.length cv] 74) = W at *
  refine (unhide WK).mono ?_
  rintro r w1 ⟨rfl, hb1⟩
  have B1 := hide ((unhide B0).trans (hb1.mono (unhide B0).size))
  clear hb1 WK
  go_wp2
  (first | go_ret2 | go_ret | skip)
  exact unhide FN _ _ _ _ ⟨rfl, rfl⟩ rfl (unhide B1)
set_option maxHeartbeats 4000000 in
theorem wk_here (bs : List Int) (L : List ByteArray) (vs : List Int) (hB : bs.length ≤ 1099511627776) (hV : vs.length ≤ 1099511627776) (hL : L.length ≤ 1099511627776)  : WoK bs L vs (⟨3, 0, E0, []⟩) := by
  intro ab av cb cv m ps w hev hps
  rw [tv_here, show worthX (seW bs) (glW L vs) (⟨3, 0, E0, []⟩) = none from worth_here _ _]
  have FN := hide (fun (r : Ending) (w' : World) (z : Int) (q : Bool) (ho : z = (none).getD 0 ∧ q = (none).isSome) (h : r = .returned (.tuple #[.int .i64 z, .bool q])) (hb : Below w.heap.size w w') => inR_end ho h hb)
  generalize InR (none) w = R at *
  have B0 := hide (below_new w (.cells #[.slice ab bs.length cb, .map (some m), .slice av vs.length cv] 74))
  have G0 := hide (show (w.alloc (.cells #[.slice ab bs.length cb, .map (some m), .slice av vs.length cv] 74)).heap[w.heap.size]? = some (.cells #[.slice ab bs.length cb, .map (some m), .slice av vs.length cv] 74 (0, 0)) from Array.getElem?_push_size)
  have V0 := hide (hev.later (unhide B0))
  clear hev
  have m0 := me_here
  have P0 := hide (parts0 (w.alloc (.cells #[.slice ab bs.length cb, .map (some m), .slice av vs.length cv] 74)))
  go_enter Tryd.func76, Tryd.ntmps76
  go_wp2_with (go_at_call 121; refine (unhide P0).mono ?_; rintro r w1 ⟨rfl, hb1⟩; have B1 := hide ((unhide B0).trans (hb1.mono (unhide B0).size)); clear hb1)
  (first | go_ret2 | go_ret | skip)
  exact unhide FN _ _ _ _ ⟨rfl, rfl⟩ rfl (unhide B1)
set_option maxHeartbeats 4000000 in
theorem wj_here (bs : List Int) (L : List ByteArray) (vs : List Int) (hB : bs.length ≤ 1099511627776) (hV : vs.length ≤ 1099511627776) (hL : L.length ≤ 1099511627776)  : WoJ bs L vs (⟨3, 0, E0, []⟩) := by
  intro ab av cb cv m ps w hev hps
  rw [tv_here, show worthX (seW bs) (glW L vs) (⟨3, 0, E0, []⟩) = none from worth_here _ _]
  have FN := hide (fun (r : Ending) (w' : World) (z : Int) (q : Bool) (ho : z = (none).getD 0 ∧ q = (none).isSome) (h : r = .returned (.tuple #[.int .i64 z, .bool q])) (hb : Below w.heap.size w w') => inR_end ho h hb)
  generalize InR (none) w = R at *
  have B0 := hide (below_new w (.cells #[.slice ab bs.length cb, .map (some m), .slice av vs.length cv] 74))
  have G0 := hide (show (w.alloc (.cells #[.slice ab bs.length cb, .map (some m), .slice av vs.length cv] 74)).heap[w.heap.size]? = some (.cells #[.slice ab bs.length cb, .map (some m), .slice av vs.length cv] 74 (0, 0)) from Array.getElem?_push_size)
  have V0 := hide (hev.later (unhide B0))
  clear hev
  have t0 := taN_num 130 (.agg #[]) (by decide)
  have t1 := taN_sect 130 (.agg #[]) (by decide)
  have t2 := taN_glob 130 (.agg #[]) (by decide)
  have t3 := taN_neg 130 (.agg #[]) (by decide)
  have WK := hide (wk_here bs L vs hB hV hL  ab av cb cv m ps _ (unhide V0) hps)
  rw [tv_here, worth_here] at WK
  unfold InR at WK
  clear hps
  go_enter Tryd.func50, Tryd.ntmps50
  go_wp2_with (refine wpList_load_row rfl 74 _ rfl w.heap.size rfl 74 #[.slice ab bs.length cb, .map (some m), .slice av vs.length cv] (0, 0) _ (unhide G0) Tryd.underlying74 rfl (by kernel_rfl) ?_)
  generalize w.alloc (.cells #[.slice ab bs.length cb, .map (some m), .slice av vs.length cv] 74) = W at *
  refine (unhide WK).mono ?_
  rintro r w1 ⟨rfl, hb1⟩
  have B1 := hide ((unhide B0).trans (hb1.mono (unhide B0).size))
  clear hb1 WK
  go_wp2
  (first | go_ret2 | go_ret | skip)
  exact unhide FN _ _ _ _ ⟨rfl, rfl⟩ rfl (unhide B1)
end Go.Proofs.YtkolflcjkofleaaDoor

namespace Go.Proofs.YtkolflcjkofleaaDoor
open Go.ChangeShapes Go.WideShapes Go.ChangeAt Go.RowKit
set_option linter.unusedVariables false
set_option maxRecDepth 8000
set_option linter.unusedSimpArgs false

theorem worthS_all (bs : List Int) (L : List ByteArray) (vs : List Int) (hL : L.length ≤ 1100000) (hB : bs.length ≤ 1099511627776) (hV : vs.length ≤ 1099511627776) : ∀ (d : Nat) (e : Ex), okF d false e = true → WoP bs L vs e := by
  intro d
  induction d with
  | zero => intro e h; rw [okF] at h; cases h
  | succ d ih =>
    intro e h
    rcases ok_sev h with ⟨n, hn, rfl⟩ | ⟨s, hs, rfl⟩ | rfl | ⟨n, hn, rfl⟩ | ⟨s, hs, rfl⟩ | ⟨a, ha, rfl⟩ | ⟨k, a, b, hk, ha, hb, rfl⟩
    · exact worth1 n _ bs L vs hL hB hV
    · exact worth2 0 s bs L vs hL hB hV
    · exact worth3 0 _ bs L vs hL hB hV
    · by_cases hl : n < (bs.length : Int)
      · obtain ⟨m, rfl⟩ : ∃ m : Nat, n = m := ⟨n.toNat, by omega⟩
        exact worth11y m _ bs L vs hL hB hV (by omega)
      · exact worth11n n _ bs L vs hL hB hV hl
    · by_cases h0 : atV L s < 0
      · exact worth12m 0 s bs L vs hL hB hV h0
      · by_cases hl : (vs.length : Int) ≤ atV L s
        · exact worth12g 0 s bs L vs hL hB hV h0 hl
        · obtain ⟨m, hm⟩ : ∃ m : Nat, atV L s = m := ⟨(atV L s).toNat, by omega⟩
          exact worth12y 0 s m bs L vs hL hB hV hm (by omega)
    · exact worthS_neg bs L vs a (ih a ha) (fun v hv => worth_in (seW_in bs) (glW_in L vs) d a v ha hv)
    · cases wa : worthX (seW bs) (glW L vs) a with
      | none =>
        cases wb : worthX (seW bs) (glW L vs) b with
        | none => exact worthS_nn bs L vs k hk a b (ih a ha) (ih b hb) 0 0 wa wb (by decide) (by decide)
        | some vb => exact worthS_ns bs L vs k hk a b (ih a ha) (ih b hb) 0 vb wa wb (by decide) (worth_in (seW_in bs) (glW_in L vs) d b vb hb wb)
      | some va =>
        cases wb : worthX (seW bs) (glW L vs) b with
        | none => exact worthS_sn bs L vs k hk a b (ih a ha) (ih b hb) va 0 wa wb (worth_in (seW_in bs) (glW_in L vs) d a va ha wa) (by decide)
        | some vb => exact worthS_ss bs L vs k hk a b (ih a ha) (ih b hb) va vb wa wb (worth_in (seW_in bs) (glW_in L vs) d a va ha wa) (worth_in (seW_in bs) (glW_in L vs) d b vb hb wb)
/-- What Worth answers. -/
def worthA (bs : List Int) (L : List ByteArray) (vs : List Int) (e : Ex) : Option Int := if okF 6 false e = true then worthX (seW bs) (glW L vs) e else none
set_option maxHeartbeats 4000000 in
theorem worthA_no (bs : List Int) (L : List ByteArray) (vs : List Int) (hL : L.length ≤ 1100000) (hB : bs.length ≤ 1099511627776) (hV : vs.length ≤ 1099511627776) (e : Ex) (b : Option Addr) (cap gb gn gv cb cn cv : Nat) (w : World) (hr : RdX w 0 e b) (hev : Ev w gb gn gv bs L vs) (hz : e.sz ≤ 1048576) (ho : okF 6 false e = false) : Calls Tryd.prog 24 #[.agg (e.cs b cap), .slice (some ⟨gb, 0, none⟩) bs.length cb, .slice (some ⟨gn, 0, none⟩) L.length cn, .slice (some ⟨gv, 0, none⟩) vs.length cv] w (InR (worthA bs L vs e) w) := by
  have EQ := hide (show worthA bs L vs e = none by unfold worthA; rw [if_neg (by rw [ho]; decide)])
  rw [unhide EQ]
  have B0 := hide (below_new w (.cells #[.int .i64 e.k, .int .i64 e.n, .string e.s, .slice b e.l.length cap] 26))
  have R0 := hide (show (w.alloc (.cells #[.int .i64 e.k, .int .i64 e.n, .string e.s, .slice b e.l.length cap] 26)).heap[w.heap.size]? = some (.cells #[.int .i64 e.k, .int .i64 e.n, .string e.s, .slice b e.l.length cap] 26 (0, 0)) from Array.getElem?_push_size)
  have OK := hide (okS_any e b cap _ (hr.later (unhide B0)) hz)
  rw [ho] at OK
  generalize hX : InR _ w = X
  have HX := hide hX
  unfold Ex.cs at OK ⊢
  clear hX hr hev hz ho EQ
  go_enter Tryd.func24, Tryd.ntmps24
  go_wp2_with fail
  generalize w.alloc (.cells #[.int .i64 e.k, .int .i64 e.n, .string e.s, .slice b e.l.length cap] 26) = W at *
  refine (unhide OK).mono ?_
  rintro r w1 ⟨rfl, hb1⟩
  have B1 := hide ((unhide B0).trans (hb1.mono (unhide B0).size))
  have R1 := hide (row_keep (unhide R0) hb1)
  clear hb1 B0 R0 OK
  go_wp2
  rw [← unhide HX]
  exact ⟨rfl, unhide B1⟩
set_option maxHeartbeats 4000000 in
theorem worthA_n (bs : List Int) (L : List ByteArray) (vs : List Int) (hL : L.length ≤ 1100000) (hB : bs.length ≤ 1099511627776) (hV : vs.length ≤ 1099511627776) (e : Ex) (b : Option Addr) (cap gb gn gv cb cn cv : Nat) (w : World) (hr : RdX w 0 e b) (hev : Ev w gb gn gv bs L vs) (hz : e.sz ≤ 1048576) (ho : okF 6 false e = true) (hv : worthX (seW bs) (glW L vs) e = none) : Calls Tryd.prog 24 #[.agg (e.cs b cap), .slice (some ⟨gb, 0, none⟩) bs.length cb, .slice (some ⟨gn, 0, none⟩) L.length cn, .slice (some ⟨gv, 0, none⟩) vs.length cv] w (InR (worthA bs L vs e) w) := by
  have EQ := hide (show worthA bs L vs e = none by unfold worthA; rw [if_pos ho, hv])
  rw [unhide EQ]
  have B0 := hide (below_new w (.cells #[.int .i64 e.k, .int .i64 e.n, .string e.s, .slice b e.l.length cap] 26))
  have R0 := hide (show (w.alloc (.cells #[.int .i64 e.k, .int .i64 e.n, .string e.s, .slice b e.l.length cap] 26)).heap[w.heap.size]? = some (.cells #[.int .i64 e.k, .int .i64 e.n, .string e.s, .slice b e.l.length cap] 26 (0, 0)) from Array.getElem?_push_size)
  have OK := hide (okS_any e b cap _ (hr.later (unhide B0)) hz)
  rw [ho] at OK
  have WO := hide (fun wr (h : Below w.heap.size w wr) => worthS_all bs L vs hL hB hV 6 e ho b cap gb gn gv cb cn cv wr (hr.later h) (hev.later h))
  rw [hv] at WO
  unfold InR at WO
  simp only [Option.getD_some, Option.getD_none, Option.isSome_some, Option.isSome_none] at WO
  unfold Ex.cs at WO
  generalize hX : InR _ w = X
  have HX := hide hX
  unfold Ex.cs at OK ⊢
  clear hX hr hev hz ho EQ hv
  go_enter Tryd.func24, Tryd.ntmps24
  go_wp2_with fail
  generalize w.alloc (.cells #[.int .i64 e.k, .int .i64 e.n, .string e.s, .slice b e.l.length cap] 26) = W at *
  refine (unhide OK).mono ?_
  rintro r w1 ⟨rfl, hb1⟩
  have B1 := hide ((unhide B0).trans (hb1.mono (unhide B0).size))
  have R1 := hide (row_keep (unhide R0) hb1)
  clear hb1 B0 R0 OK
  have W1 := hide (unhide WO w1 (unhide B1))
  clear WO
  go_wp2_with (refine wpList_load_row rfl 26 _ rfl w.heap.size rfl 26 #[.int .i64 e.k, .int .i64 e.n, .string e.s, .slice b e.l.length cap] (0, 0) _ (unhide R1) Tryd.underlying26 rfl (by kernel_rfl) ?_)
  refine (unhide W1).mono ?_
  rintro r w2 ⟨rfl, hb2⟩
  have B2 := hide ((unhide B1).trans (hb2.mono (unhide B1).size))
  clear hb2 B1 R1 W1
  go_wp2
  rw [← unhide HX]
  exact ⟨rfl, unhide B2⟩
set_option maxHeartbeats 4000000 in
theorem worthA_y (bs : List Int) (L : List ByteArray) (vs : List Int) (hL : L.length ≤ 1100000) (hB : bs.length ≤ 1099511627776) (hV : vs.length ≤ 1099511627776) (e : Ex) (b : Option Addr) (cap gb gn gv cb cn cv : Nat) (w : World) (hr : RdX w 0 e b) (hev : Ev w gb gn gv bs L vs) (hz : e.sz ≤ 1048576) (ho : okF 6 false e = true) (v : Int) (hv : worthX (seW bs) (glW L vs) e = some v) : Calls Tryd.prog 24 #[.agg (e.cs b cap), .slice (some ⟨gb, 0, none⟩) bs.length cb, .slice (some ⟨gn, 0, none⟩) L.length cn, .slice (some ⟨gv, 0, none⟩) vs.length cv] w (InR (worthA bs L vs e) w) := by
  have EQ := hide (show worthA bs L vs e = some v by unfold worthA; rw [if_pos ho, hv])
  rw [unhide EQ]
  have B0 := hide (below_new w (.cells #[.int .i64 e.k, .int .i64 e.n, .string e.s, .slice b e.l.length cap] 26))
  have R0 := hide (show (w.alloc (.cells #[.int .i64 e.k, .int .i64 e.n, .string e.s, .slice b e.l.length cap] 26)).heap[w.heap.size]? = some (.cells #[.int .i64 e.k, .int .i64 e.n, .string e.s, .slice b e.l.length cap] 26 (0, 0)) from Array.getElem?_push_size)
  have OK := hide (okS_any e b cap _ (hr.later (unhide B0)) hz)
  rw [ho] at OK
  have WO := hide (fun wr (h : Below w.heap.size w wr) => worthS_all bs L vs hL hB hV 6 e ho b cap gb gn gv cb cn cv wr (hr.later h) (hev.later h))
  rw [hv] at WO
  unfold InR at WO
  simp only [Option.getD_some, Option.getD_none, Option.isSome_some, Option.isSome_none] at WO
  unfold Ex.cs at WO
  generalize hX : InR _ w = X
  have HX := hide hX
  unfold Ex.cs at OK ⊢
  clear hX hr hev hz ho EQ hv
  go_enter Tryd.func24, Tryd.ntmps24
  go_wp2_with fail
  generalize w.alloc (.cells #[.int .i64 e.k, .int .i64 e.n, .string e.s, .slice b e.l.length cap] 26) = W at *
  refine (unhide OK).mono ?_
  rintro r w1 ⟨rfl, hb1⟩
  have B1 := hide ((unhide B0).trans (hb1.mono (unhide B0).size))
  have R1 := hide (row_keep (unhide R0) hb1)
  clear hb1 B0 R0 OK
  have W1 := hide (unhide WO w1 (unhide B1))
  clear WO
  go_wp2_with (refine wpList_load_row rfl 26 _ rfl w.heap.size rfl 26 #[.int .i64 e.k, .int .i64 e.n, .string e.s, .slice b e.l.length cap] (0, 0) _ (unhide R1) Tryd.underlying26 rfl (by kernel_rfl) ?_)
  refine (unhide W1).mono ?_
  rintro r w2 ⟨rfl, hb2⟩
  have B2 := hide ((unhide B1).trans (hb2.mono (unhide B1).size))
  clear hb2 B1 R1 W1
  go_wp2
  rw [← unhide HX]
  exact ⟨rfl, unhide B2⟩
theorem worthA_any (bs : List Int) (L : List ByteArray) (vs : List Int) (hL : L.length ≤ 1100000) (hB : bs.length ≤ 1099511627776) (hV : vs.length ≤ 1099511627776) (e : Ex) (b : Option Addr) (cap gb gn gv cb cn cv : Nat) (w : World) (hr : RdX w 0 e b) (hev : Ev w gb gn gv bs L vs) (hz : e.sz ≤ 1048576) : Calls Tryd.prog 24 #[.agg (e.cs b cap), .slice (some ⟨gb, 0, none⟩) bs.length cb, .slice (some ⟨gn, 0, none⟩) L.length cn, .slice (some ⟨gv, 0, none⟩) vs.length cv] w (InR (worthA bs L vs e) w) := by
  cases ho : okF 6 false e with
  | false => exact worthA_no bs L vs hL hB hV e b cap gb gn gv cb cn cv w hr hev hz ho
  | true =>
    cases hv : worthX (seW bs) (glW L vs) e with
    | none => exact worthA_n bs L vs hL hB hV e b cap gb gn gv cb cn cv w hr hev hz ho hv
    | some v => exact worthA_y bs L vs hL hB hV e b cap gb gn gv cb cn cv w hr hev hz ho v hv
end Go.Proofs.YtkolflcjkofleaaDoor

namespace Go.Proofs.YtkolflcjkofleaaDoor
open Go.ChangeShapes Go.WideShapes Go.ChangeAt Go.RowKit
set_option linter.unusedVariables false
set_option maxRecDepth 8000
set_option linter.unusedSimpArgs false

set_option maxHeartbeats 4000000 in
theorem wj_neg (bs : List Int) (L : List ByteArray) (vs : List Int) (a : Ex) (iha : WoJ bs L vs a) (hi : ∀ v, worthX (seW bs) (glW L vs) a = some v → 0 ≤ v ∧ v ≤ 65535) : WoJ bs L vs ⟨4, 0, E0, [a]⟩ := by
  intro ab av cb cv m ps w hev hps
  rw [tv_neg, worth_neg]
  have IH := hide (fun wr (h : Ew wr ab m av bs ps vs) => iha ab av cb cv m ps wr h hps)
  unfold InR at IH
  obtain ⟨t, x, e1⟩ := tv_if a
  rw [e1] at IH ⊢
  have hi2 : 0 ≤ (worthX (seW bs) (glW L vs) a).getD 0 ∧ (worthX (seW bs) (glW L vs) a).getD 0 ≤ 65535 := by
    cases h : worthX (seW bs) (glW L vs) a with
    | none => simp
    | some v => exact hi v h
  have hO : wr (-((worthX (seW bs) (glW L vs) a).getD 0)) = ((worthX (seW bs) (glW L vs) a).map (fun v => wr (-v))).getD 0 ∧ (worthX (seW bs) (glW L vs) a).isSome = ((worthX (seW bs) (glW L vs) a).map (fun v => wr (-v))).isSome := by
    cases worthX (seW bs) (glW L vs) a with
    | none => exact ⟨rfl, rfl⟩
    | some v => exact ⟨rfl, rfl⟩
  have FN := hide (fun (r : Ending) (w' : World) (z : Int) (q : Bool) (ho : z = ((worthX (seW bs) (glW L vs) a).map (fun v => wr (-v))).getD 0 ∧ q = ((worthX (seW bs) (glW L vs) a).map (fun v => wr (-v))).isSome) (h : r = .returned (.tuple #[.int .i64 z, .bool q])) (hb : Below w.heap.size w w') => inR_end ho h hb)
  generalize InR ((worthX (seW bs) (glW L vs) a).map (fun v => wr (-v))) w = R at *
  have B0 := hide (below_new w (.cells #[.slice ab bs.length cb, .map (some m), .slice av vs.length cv] 74))
  have G0 := hide (show (w.alloc (.cells #[.slice ab bs.length cb, .map (some m), .slice av vs.length cv] 74)).heap[w.heap.size]? = some (.cells #[.slice ab bs.length cb, .map (some m), .slice av vs.length cv] 74 (0, 0)) from Array.getElem?_push_size)
  have V0 := hide (hev.later (unhide B0))
  have HO := hide hO
  clear hev hps hi iha hO e1
  generalize (Option.map (fun v => wr (-v)) (worthX (seW bs) (glW L vs) a)) = oo at *
  unfold wr at HO
  generalize (worthX (seW bs) (glW L vs) a).getD 0 = z at *
  generalize (worthX (seW bs) (glW L vs) a).isSome = q at *
  have t0 := taN_num 104 (.agg #[.iface t x]) (by decide)
  have t1 := taN_sect 104 (.agg #[.iface t x]) (by decide)
  have t2 := taN_glob 104 (.agg #[.iface t x]) (by decide)
  have t3 := taY_neg (.agg #[.iface t x])
  have T := hide (two_resG w (.cells #[.slice ab bs.length cb, .map (some m), .slice av vs.length cv] 74) (.cells #[.iface t x] 104))
  have V1 := hide ((unhide V0).later (below_new _ (.cells #[.iface t x] 104)))
  go_enter Tryd.func50, Tryd.ntmps50
  go_wp2_with (refine wpList_load_row rfl 74 _ rfl w.heap.size rfl 74 #[.slice ab bs.length cb, .map (some m), .slice av vs.length cv] (0, 0) _ ((unhide T).2.1) Tryd.underlying74 rfl (by kernel_rfl) ?_)
  generalize (w.alloc (.cells #[.slice ab bs.length cb, .map (some m), .slice av vs.length cv] 74)).alloc (.cells #[.iface t x] 104) = W at *
  refine (unhide IH _ (unhide V1)).mono ?_
  rintro r w1 ⟨rfl, hb1⟩
  have B1 := hide ((unhide T).1.trans (hb1.mono (unhide T).1.size))
  clear hb1 IH T V1 V0 G0 B0
  go_wp2_with (go_at_call 75; refine (wrapI_any _ _).mono ?_; rintro e w0 ⟨rfl, hw0⟩; rw [hw0]; clear hw0 w0)
  (first | (go_region_with (go_at_call 75; refine (wrapI_any _ _).mono ?_; rintro e w0 ⟨rfl, hw0⟩; rw [hw0]; clear hw0 w0); go_wp2) | skip)
  (first | go_ret2 | go_ret | skip)
  exact unhide FN _ _ _ _ (unhide HO) rfl (by first | exact unhide B1 | exact below_dr (unhide B1))
set_option maxHeartbeats 8000000 in
theorem wk_pair (bs vs : List Int) (T : TypeId) (k : Int) (t u : TypeId) (x y : Value) (me : ∀ w, (method 271 T (.agg #[.iface t x, .iface u y]) "loop.example/g00329/impl.parts").run Tryd.prog w = .ok (123, .agg #[.iface t x, .iface u y]) w) (kd : ∀ w, Calls Tryd.prog 71 #[.iface T (.agg #[.iface t x, .iface u y])] w fun r w' => r = .returned (.int .i64 k) ∧ w' = w) (oa ob o : Option Int) (ab av : Option Addr) (cb cv m : Nat) (ps : List (ByteArray × Nat)) (ha : ∀ wr, Ew wr ab m av bs ps vs → Calls Tryd.prog 50 #[.agg #[.slice ab bs.length cb, .map (some m), .slice av vs.length cv], .iface t x] wr (InR oa wr)) (hb : ∀ wr, Ew wr ab m av bs ps vs → Calls Tryd.prog 50 #[.agg #[.slice ab bs.length cb, .map (some m), .slice av vs.length cv], .iface u y] wr (InR ob wr)) (hn : (oa.isSome && ob.isSome) = false → o = none) (hy : ∀ p q, oa = some p → ob = some q → (∀ w, Calls Tryd.prog 88 #[.int .i64 k, .int .i64 p, .int .i64 q] w (InR o w))) (w : World) (hev : Ew w ab m av bs ps vs) : Calls Tryd.prog 76 #[.agg #[.slice ab bs.length cb, .map (some m), .slice av vs.length cv], .iface T (.agg #[.iface t x, .iface u y])] w (InR o w) := by
  have FN := hide (fun (r : Ending) (w' : World) (z : Int) (q : Bool) (ho : z = (o).getD 0 ∧ q = (o).isSome) (h : r = .returned (.tuple #[.int .i64 z, .bool q])) (hb : Below w.heap.size w w') => inR_end ho h hb)
  generalize InR (o) w = R at *
  have B0 := hide (below_new w (.cells #[.slice ab bs.length cb, .map (some m), .slice av vs.length cv] 74))
  have G0 := hide (show (w.alloc (.cells #[.slice ab bs.length cb, .map (some m), .slice av vs.length cv] 74)).heap[w.heap.size]? = some (.cells #[.slice ab bs.length cb, .map (some m), .slice av vs.length cv] 74 (0, 0)) from Array.getElem?_push_size)
  have V0 := hide (hev.later (unhide B0))
  have HA := hide ha
  have HB := hide hb
  unfold InR at HA HB
  have P0 := hide (parts2 t u x y (w.alloc (.cells #[.slice ab bs.length cb, .map (some m), .slice av vs.length cv] 74)))
  have HN := hide hn
  have HY := hide hy
  unfold InR at HY
  have KD := hide kd
  clear hev ha hb hn hy kd
  go_enter Tryd.func76, Tryd.ntmps76
  go_wp2_with fail
  generalize w.alloc (.cells #[.slice ab bs.length cb, .map (some m), .slice av vs.length cv] 74) = W at *
  refine (unhide P0).mono ?_
  rintro r w1 ⟨g, rfl, hg, hb1⟩
  have B1 := hide ((unhide B0).trans (hb1.mono (unhide B0).size))
  have G1 := hide (row_keep (unhide G0) hb1)
  have V1 := hide ((unhide V0).later hb1)
  have L1 := hide hg
  clear hb1 hg B0 G0 V0 P0
  go_wp2_with fail
  have ya : ∀ y : Sub w1.heap.size w1, y.w.cell? ⟨w.heap.size, 0, none⟩ = some (.slice ab bs.length cb) := fun y => (y.h.cell (p := ⟨w.heap.size, 0, none⟩) (Array.getElem?_eq_some_iff.1 (unhide G1)).1).trans (Lib.cell_of_heap (unhide G1) 0)
  have yb : ∀ y : Sub w1.heap.size w1, y.w.cell? ⟨w.heap.size, 1, none⟩ = some (.map (some m)) := fun y => (y.h.cell (p := ⟨w.heap.size, 1, none⟩) (Array.getElem?_eq_some_iff.1 (unhide G1)).1).trans (Lib.cell_of_heap (unhide G1) 1)
  have yc : ∀ y : Sub w1.heap.size w1, y.w.cell? ⟨w.heap.size, 2, none⟩ = some (.slice av vs.length cv) := fun y => (y.h.cell (p := ⟨w.heap.size, 2, none⟩) (Array.getElem?_eq_some_iff.1 (unhide G1)).1).trans (Lib.cell_of_heap (unhide G1) 2)
  have yd : ∀ z : Sub w1.heap.size w1, z.w.cell? ⟨g, 0, none⟩ = some (.iface t x) := fun z => (z.h.cell (p := ⟨g, 0, none⟩) (Array.getElem?_eq_some_iff.1 (unhide L1)).1).trans (Lib.cell_of_heap (unhide L1) 0)
  have ne := Sub.ne w1.heap.size w1
  have HZ := hide (Nat.le_refl w1.heap.size)
  have CA := hide (fun y : Sub w1.heap.size w1 => unhide HA y.w ((unhide V1).later y.h))
  refine wp_region_sub (⟨w1, Below.refl _ _⟩ : Sub w1.heap.size w1) (by kernel_rfl) (by kernel_rfl) ?_
  (repeat (go_big_quiet_step (first | (go_at_call 50; exact Sub.call (unhide HZ) (unhide CA _)))))
  refine wpQuiet_nil ?_
  rintro ⟨w2, hb2⟩
  simp only
  have B2 := hide ((unhide B1).trans (hb2.mono (unhide B1).size))
  have G2 := hide (row_keep (unhide G1) hb2)
  have V2 := hide ((unhide V1).later hb2)
  have L2 := hide (row_keep (unhide L1) hb2)
  clear hb2 ya yb yc yd ne HZ CA B1 G1 V1 L1
  go_wp2_with fail
  have ya : ∀ y : Sub w2.heap.size w2, y.w.cell? ⟨w.heap.size, 0, none⟩ = some (.slice ab bs.length cb) := fun y => (y.h.cell (p := ⟨w.heap.size, 0, none⟩) (Array.getElem?_eq_some_iff.1 (unhide G2)).1).trans (Lib.cell_of_heap (unhide G2) 0)
  have yb : ∀ y : Sub w2.heap.size w2, y.w.cell? ⟨w.heap.size, 1, none⟩ = some (.map (some m)) := fun y => (y.h.cell (p := ⟨w.heap.size, 1, none⟩) (Array.getElem?_eq_some_iff.1 (unhide G2)).1).trans (Lib.cell_of_heap (unhide G2) 1)
  have yc : ∀ y : Sub w2.heap.size w2, y.w.cell? ⟨w.heap.size, 2, none⟩ = some (.slice av vs.length cv) := fun y => (y.h.cell (p := ⟨w.heap.size, 2, none⟩) (Array.getElem?_eq_some_iff.1 (unhide G2)).1).trans (Lib.cell_of_heap (unhide G2) 2)
  have yd : ∀ z : Sub w2.heap.size w2, z.w.cell? ⟨g, 1, none⟩ = some (.iface u y) := fun z => (z.h.cell (p := ⟨g, 1, none⟩) (Array.getElem?_eq_some_iff.1 (unhide L2)).1).trans (Lib.cell_of_heap (unhide L2) 1)
  have ne := Sub.ne w2.heap.size w2
  have HZ := hide (Nat.le_refl w2.heap.size)
  have CA := hide (fun y : Sub w2.heap.size w2 => unhide HB y.w ((unhide V2).later y.h))
  refine wp_region_sub (⟨w2, Below.refl _ _⟩ : Sub w2.heap.size w2) (by kernel_rfl) (by kernel_rfl) ?_
  (repeat (go_big_quiet_step (first | (go_at_call 50; exact Sub.call (unhide HZ) (unhide CA _)))))
  refine wpQuiet_nil ?_
  rintro ⟨w3, hb3⟩
  simp only
  have B3 := hide ((unhide B2).trans (hb3.mono (unhide B2).size))
  have G3 := hide (row_keep (unhide G2) hb3)
  have V3 := hide ((unhide V2).later hb3)
  have L3 := hide (row_keep (unhide L2) hb3)
  clear hb3 ya yb yc yd ne HZ CA B2 G2 V2 L2
  cases oa with
  | none =>
    have E := unhide HN rfl
    subst E
    simp only [Option.getD_none, Option.isSome_none]
    clear HY HN
    generalize ob.getD 0 = zb
    generalize ob.isSome = qb
    cases qb <;> (go_wp2; (first | go_ret2 | go_ret | skip); exact unhide FN _ _ _ _ ⟨rfl, rfl⟩ rfl (unhide B3))
  | some p =>
    cases ob with
    | none =>
      have E := unhide HN rfl
      subst E
      simp only [Option.getD_none, Option.isSome_none, Option.getD_some, Option.isSome_some]
      clear HY HN
      go_wp2
      (first | go_ret2 | go_ret | skip)
      exact unhide FN _ _ _ _ ⟨rfl, rfl⟩ rfl (unhide B3)
    | some q =>
      have TW := hide (unhide HY p q rfl rfl)
      simp only [Option.getD_some, Option.isSome_some]
      clear HY HN
      go_wp2_with (go_at_call 71; refine (unhide KD _).mono ?_; rintro e w0 ⟨rfl, hw0⟩; rw [hw0]; clear hw0 w0)
      refine (unhide TW _).mono ?_
      rintro r w4 ⟨rfl, hb4⟩
      have B4 := hide ((unhide B3).trans (hb4.mono (unhide B3).size))
      clear hb4
      go_wp2
      (first | go_ret2 | go_ret | skip)
      exact unhide FN _ _ _ _ ⟨rfl, rfl⟩ rfl (unhide B4)
set_option maxHeartbeats 4000000 in
theorem wj_pair (bs vs : List Int) (T : TypeId) (X : Value) (n0 : T ≠ 88) (n1 : T ≠ 115) (n2 : T ≠ 118) (n3 : T ≠ 104) (o : Option Int) (ab av : Option Addr) (cb cv m : Nat) (ps : List (ByteArray × Nat)) (hk : ∀ wr, Ew wr ab m av bs ps vs → Calls Tryd.prog 76 #[.agg #[.slice ab bs.length cb, .map (some m), .slice av vs.length cv], .iface T X] wr (InR o wr)) (w : World) (hev : Ew w ab m av bs ps vs) : Calls Tryd.prog 50 #[.agg #[.slice ab bs.length cb, .map (some m), .slice av vs.length cv], .iface T X] w (InR o w) := by
  have FN := hide (fun (r : Ending) (w' : World) (z : Int) (q : Bool) (ho : z = (o).getD 0 ∧ q = (o).isSome) (h : r = .returned (.tuple #[.int .i64 z, .bool q])) (hb : Below w.heap.size w w') => inR_end ho h hb)
  generalize InR (o) w = R at *
  have B0 := hide (below_new w (.cells #[.slice ab bs.length cb, .map (some m), .slice av vs.length cv] 74))
  have G0 := hide (show (w.alloc (.cells #[.slice ab bs.length cb, .map (some m), .slice av vs.length cv] 74)).heap[w.heap.size]? = some (.cells #[.slice ab bs.length cb, .map (some m), .slice av vs.length cv] 74 (0, 0)) from Array.getElem?_push_size)
  have V0 := hide (hev.later (unhide B0))
  have t0 := taN_num T X n0
  have t1 := taN_sect T X n1
  have t2 := taN_glob T X n2
  have t3 := taN_neg T X n3
  have WK := hide hk
  unfold InR at WK
  clear hk hev n0 n1 n2 n3
  go_enter Tryd.func50, Tryd.ntmps50
  go_wp2_with (refine wpList_load_row rfl 74 _ rfl w.heap.size rfl 74 #[.slice ab bs.length cb, .map (some m), .slice av vs.length cv] (0, 0) _ (unhide G0) Tryd.underlying74 rfl (by kernel_rfl) ?_)
  generalize w.alloc (.cells #[.slice ab bs.length cb, .map (some m), .slice av vs.length cv] 74) = W at *
  refine (unhide WK _ (unhide V0)).mono ?_
  rintro r w1 ⟨rfl, hb1⟩
  have B1 := hide ((unhide B0).trans (hb1.mono (unhide B0).size))
  clear hb1 WK
  go_wp2
  (first | go_ret2 | go_ret | skip)
  exact unhide FN _ _ _ _ ⟨rfl, rfl⟩ rfl (unhide B1)
set_option maxHeartbeats 1000000 in
theorem wj_all (bs : List Int) (L : List ByteArray) (vs : List Int) (hB : bs.length ≤ 1099511627776) (hV : vs.length ≤ 1099511627776) (hL : L.length ≤ 1099511627776) : ∀ (d : Nat) (e : Ex), okF d false e = true → WoJ bs L vs e := by
  intro d
  induction d with
  | zero => intro e h; cases h
  | succ d ih =>
    intro e h
    rcases ok_cases h with ⟨n, hn, rfl⟩ | ⟨s, hs, rfl⟩ | rfl | ⟨a, ha, rfl⟩ | ⟨k, a, b, hk, ha, hb, rfl⟩ | ⟨n, hn, rfl⟩ | ⟨s, hs, rfl⟩
    · exact wj_num bs L vs hB hV hL n
    · exact wj_sym bs L vs hB hV hL s
    · exact wj_here bs L vs hB hV hL
    · exact wj_neg bs L vs a (ih a ha) (fun v hv => worth_in (seW_in bs) (glW_in L vs) d a v ha hv)
    · intro ab av cb cv m ps w hev hps
      have iha := fun wr (h : Ew wr ab m av bs ps vs) => ih a ha ab av cb cv m ps wr h hps
      have ihb := fun wr (h : Ew wr ab m av bs ps vs) => ih b hb ab av cb cv m ps wr h hps
      obtain ⟨t, x, e1⟩ := tv_if a
      obtain ⟨u, y, e2⟩ := tv_if b
      rw [e1] at iha
      rw [e2] at ihb
      have hn : ((worthX (seW bs) (glW L vs) a).isSome && (worthX (seW bs) (glW L vs) b).isSome) = false → worthX (seW bs) (glW L vs) ⟨k, 0, E0, [a, b]⟩ = none := fun h => by
        rw [worth_two]
        cases h1 : worthX (seW bs) (glW L vs) a with
        | none => rfl
        | some p =>
          cases h2 : worthX (seW bs) (glW L vs) b with
          | none => rfl
          | some q => rw [h1, h2] at h; cases h
      have hy : ∀ p q, worthX (seW bs) (glW L vs) a = some p → worthX (seW bs) (glW L vs) b = some q → (∀ w, Calls Tryd.prog 88 #[.int .i64 k, .int .i64 p, .int .i64 q] w (InR (worthX (seW bs) (glW L vs) ⟨k, 0, E0, [a, b]⟩) w)) := fun p q h1 h2 w => by
        rw [worth_two, h1, h2]
        refine (twoI_any k p q hk (worth_in (seW_in bs) (glW_in L vs) d a p ha h1) (worth_in (seW_in bs) (glW_in L vs) d b q hb h2) w).mono (fun r w' ⟨h3, h4⟩ => ⟨h4, by rw [h3]; exact Below.refl _ _⟩)
      rw [tv_two hk, e1, e2]
      generalize worthX (seW bs) (glW L vs) ⟨k, 0, E0, [a, b]⟩ = o at *
      generalize worthX (seW bs) (glW L vs) a = oa at *
      generalize worthX (seW bs) (glW L vs) b = ob at *
      clear ih ha hb h e1 e2
      have : k = 5 ∨ k = 6 ∨ k = 7 ∨ k = 8 ∨ k = 9 ∨ k = 10 := by omega
      rcases this with rfl | rfl | rfl | rfl | rfl | rfl
      · exact wj_pair bs vs 134 _ (by decide) (by decide) (by decide) (by decide) _ ab av cb cv m ps (fun wr h => wk_pair bs vs 134 5 t u x y (me_add (.iface t x) (.iface u y)) (fun w => kind_add 0 E0 t u x y w) _ _ _ ab av cb cv m ps iha ihb hn hy wr h) w hev
      · exact wj_pair bs vs 135 _ (by decide) (by decide) (by decide) (by decide) _ ab av cb cv m ps (fun wr h => wk_pair bs vs 135 6 t u x y (me_sub (.iface t x) (.iface u y)) (fun w => kind_sub 0 E0 t u x y w) _ _ _ ab av cb cv m ps iha ihb hn hy wr h) w hev
      · exact wj_pair bs vs 136 _ (by decide) (by decide) (by decide) (by decide) _ ab av cb cv m ps (fun wr h => wk_pair bs vs 136 7 t u x y (me_mul (.iface t x) (.iface u y)) (fun w => kind_mul 0 E0 t u x y w) _ _ _ ab av cb cv m ps iha ihb hn hy wr h) w hev
      · exact wj_pair bs vs 137 _ (by decide) (by decide) (by decide) (by decide) _ ab av cb cv m ps (fun wr h => wk_pair bs vs 137 8 t u x y (me_div (.iface t x) (.iface u y)) (fun w => kind_div 0 E0 t u x y w) _ _ _ ab av cb cv m ps iha ihb hn hy wr h) w hev
      · exact wj_pair bs vs 138 _ (by decide) (by decide) (by decide) (by decide) _ ab av cb cv m ps (fun wr h => wk_pair bs vs 138 9 t u x y (me_and (.iface t x) (.iface u y)) (fun w => kind_and 0 E0 t u x y w) _ _ _ ab av cb cv m ps iha ihb hn hy wr h) w hev
      · exact wj_pair bs vs 139 _ (by decide) (by decide) (by decide) (by decide) _ ab av cb cv m ps (fun wr h => wk_pair bs vs 139 10 t u x y (me_or (.iface t x) (.iface u y)) (fun w => kind_or 0 E0 t u x y w) _ _ _ ab av cb cv m ps iha ihb hn hy wr h) w hev
    · obtain ⟨j, rfl⟩ := Int.eq_ofNat_of_zero_le hn.1
      exact wj_sect bs L vs hB hV hL j (by have := hn.2; omega)
    · cases hp : plS L s with
      | none => exact wj_globn bs L vs hB hV hL s hp
      | some i => exact wj_globy bs L vs hB hV hL s i hp
end Go.Proofs.YtkolflcjkofleaaDoor

namespace Go.Proofs.YtkolflcjkofleaaDoor
open Go.ChangeShapes Go.WideShapes Go.ChangeAt Go.RowKit
set_option linter.unusedVariables false
set_option maxRecDepth 8000
set_option linter.unusedSimpArgs false

set_option maxHeartbeats 4000000 in
theorem worthI_no (bs : List Int) (L : List ByteArray) (vs : List Int) (hB : bs.length ≤ 1099511627776) (hV : vs.length ≤ 1099511627776) (hL : L.length ≤ 1099511627776) (e : Ex) (b : Option Addr) (cap : Nat) (ab an av : Option Addr) (cb cn cv : Nat) (w : World) (hr : RdX w 0 e b) (hz : e.sz ≤ 1048576) (ht : TabK w) (rb : RdN w ab bs) (rn : RdU w an L) (rv : RdN w av vs) (ho : okF 6 false e = false) : Calls Tryd.prog 14 #[.agg (e.cs b cap), .slice ab bs.length cb, .slice an L.length cn, .slice av vs.length cv] w (InR none w) := by
  have FN := hide (fun (r : Ending) (w' : World) (h : r = .returned (.tuple #[.int .i64 0, .bool false])) (hb : Below w.heap.size w w') => inR_end (o := none) ⟨rfl, rfl⟩ h hb)
  generalize InR none w = R at *
  have B0 := hide (below_new w (.cells #[.int .i64 e.k, .int .i64 e.n, .string e.s, .slice b e.l.length cap] 26))
  have G0 := hide (show (w.alloc (.cells #[.int .i64 e.k, .int .i64 e.n, .string e.s, .slice b e.l.length cap] 26)).heap[w.heap.size]? = some (.cells #[.int .i64 e.k, .int .i64 e.n, .string e.s, .slice b e.l.length cap] 26 (0, 0)) from Array.getElem?_push_size)
  have TM := hide (term_all 6 (by omega) e b cap _ (hr.later (unhide B0)) hz (ht.next (unhide B0)))
  unfold TermR at TM
  rw [ho] at TM
  unfold Ex.cs at TM ⊢
  clear hr hz ht ho rb rn rv
  go_enter Tryd.func14, Tryd.ntmps14
  go_wp2_with (refine wpList_load_row rfl 26 _ rfl w.heap.size rfl 26 #[.int .i64 e.k, .int .i64 e.n, .string e.s, .slice b e.l.length cap] (0, 0) _ (unhide G0) Tryd.underlying26 rfl (by kernel_rfl) ?_)
  generalize w.alloc (.cells #[.int .i64 e.k, .int .i64 e.n, .string e.s, .slice b e.l.length cap] 26) = W at *
  refine (unhide TM).mono ?_
  rintro r w1 ⟨v, rfl, _, hb1⟩
  have B1 := hide ((unhide B0).trans (hb1.mono (unhide B0).size))
  clear hb1
  go_wp2
  (first | go_ret2 | go_ret | skip)
  exact unhide FN _ _ rfl (unhide B1)
set_option maxHeartbeats 8000000 in
theorem worthI_yes (bs : List Int) (L : List ByteArray) (vs : List Int) (hB : bs.length ≤ 1099511627776) (hV : vs.length ≤ 1099511627776) (hL : L.length ≤ 1099511627776) (e : Ex) (b : Option Addr) (cap : Nat) (ab an av : Option Addr) (cb cn cv : Nat) (w : World) (hr : RdX w 0 e b) (hz : e.sz ≤ 1048576) (ht : TabK w) (rb : RdN w ab bs) (rn : RdU w an L) (rv : RdN w av vs) (ho : okF 6 false e = true) : Calls Tryd.prog 14 #[.agg (e.cs b cap), .slice ab bs.length cb, .slice an L.length cn, .slice av vs.length cv] w (InR (worthX (seW bs) (glW L vs) e) w) := by
  have FN := hide (fun (r : Ending) (w' : World) (z : Int) (q : Bool) (hq : z = (worthX (seW bs) (glW L vs) e).getD 0 ∧ q = (worthX (seW bs) (glW L vs) e).isSome) (h : r = .returned (.tuple #[.int .i64 z, .bool q])) (hb : Below w.heap.size w w') => inR_end hq h hb)
  have WJ := hide (fun (m : Nat) (ps : List (ByteArray × Nat)) (wr : World) (h : Ew wr ab m av bs ps vs) (hp : ∀ s, lkS ps s = plS L s) => wj_all bs L vs hB hV hL 6 e ho ab av cb cv m ps wr h hp)
  generalize InR (worthX (seW bs) (glW L vs) e) w = R at *
  unfold InR at WJ
  obtain ⟨te, xe, ee⟩ := tv_if e
  rw [ee] at WJ
  generalize worthX (seW bs) (glW L vs) e = o at *
  have B0 := hide (below_new w (.cells #[.int .i64 e.k, .int .i64 e.n, .string e.s, .slice b e.l.length cap] 26))
  have G0 := hide (show (w.alloc (.cells #[.int .i64 e.k, .int .i64 e.n, .string e.s, .slice b e.l.length cap] 26)).heap[w.heap.size]? = some (.cells #[.int .i64 e.k, .int .i64 e.n, .string e.s, .slice b e.l.length cap] 26 (0, 0)) from Array.getElem?_push_size)
  have TM := hide (term_all 6 (by omega) e b cap _ (hr.later (unhide B0)) hz (ht.next (unhide B0)))
  unfold TermR at TM
  rw [ho, ee] at TM
  simp only [forall_const] at TM
  have PL := hide (fun wr (h : Below w.heap.size w wr) => places_any an L.length cn L wr rfl hL (rn.later h))
  have RB := hide (fun wr (h : Below w.heap.size w wr) => rb.later h)
  have RV := hide (fun wr (h : Below w.heap.size w wr) => rv.later h)
  unfold Ex.cs at TM ⊢
  clear hr hz ht ho ee rb rn rv
  go_enter Tryd.func14, Tryd.ntmps14
  go_wp2_with (refine wpList_load_row rfl 26 _ rfl w.heap.size rfl 26 #[.int .i64 e.k, .int .i64 e.n, .string e.s, .slice b e.l.length cap] (0, 0) _ (unhide G0) Tryd.underlying26 rfl (by kernel_rfl) ?_)
  generalize w.alloc (.cells #[.int .i64 e.k, .int .i64 e.n, .string e.s, .slice b e.l.length cap] 26) = W at *
  refine (unhide TM).mono ?_
  rintro r w1 ⟨v, rfl, rfl, hb1⟩
  have B1 := hide ((unhide B0).trans (hb1.mono (unhide B0).size))
  clear hb1 TM B0 G0
  have P1 := hide (unhide PL w1 (unhide B1))
  go_wp2_with (go_at_call 49; refine (unhide P1).mono ?_; rintro r w2 ⟨pb, ps, rfl, hmp, hps, hge, hb2⟩; have B2 := hide ((unhide B1).trans (hb2.mono (unhide B1).size)); have W2 := hide (unhide WJ pb ps w2 ⟨unhide RB _ (unhide B2), hmp, unhide RV _ (unhide B2)⟩ hps); clear hmp hps hge hb2)
  refine (unhide W2).mono ?_
  rintro r w3 ⟨rfl, hb3⟩
  have B3 := hide ((unhide B2).trans (hb3.mono (unhide B2).size))
  clear hb3
  go_wp2
  (first | go_ret2 | go_ret | skip)
  exact unhide FN _ _ _ _ ⟨rfl, rfl⟩ rfl (unhide B3)
theorem worthI_any (bs : List Int) (L : List ByteArray) (vs : List Int) (hB : bs.length ≤ 1099511627776) (hV : vs.length ≤ 1099511627776) (hL : L.length ≤ 1099511627776) (e : Ex) (b : Option Addr) (cap : Nat) (ab an av : Option Addr) (cb cn cv : Nat) (w : World) (hr : RdX w 0 e b) (hz : e.sz ≤ 1048576) (ht : TabK w) (rb : RdN w ab bs) (rn : RdU w an L) (rv : RdN w av vs) : Calls Tryd.prog 14 #[.agg (e.cs b cap), .slice ab bs.length cb, .slice an L.length cn, .slice av vs.length cv] w (InR (worthA bs L vs e) w) := by
  unfold worthA
  cases ho : okF 6 false e with
  | false => rw [if_neg (by decide)]; exact worthI_no bs L vs hB hV hL e b cap ab an av cb cn cv w hr hz ht rb rn rv ho
  | true => rw [if_pos rfl]; exact worthI_yes bs L vs hB hV hL e b cap ab an av cb cn cv w hr hz ht rb rn rv ho
end Go.Proofs.YtkolflcjkofleaaDoor

namespace Go.Proofs.YtkolflcjkofleaaDoor
open Go.ChangeShapes Go.WideShapes Go.ChangeAt Go.RowKit
set_option linter.unusedVariables false
set_option maxRecDepth 8000

theorem made_cells (n : Nat) : (madeCells #[.int .i64 0, .int .i64 0, .string ⟨#[]⟩] (n * 3)).toList = cellsT (List.replicate n T0) := by
  apply List.ext_getElem?
  intro j
  have hl : (cellsT (List.replicate n T0)).length = n * 3 := by rw [cellsT_len, List.length_replicate]
  by_cases hj : j < n * 3
  · have hT : ∀ i, i < n → tAt (List.replicate n T0) i = T0 := fun i hi => by
      unfold tAt
      rw [List.getD_eq_getElem?_getD, List.getElem?_replicate, if_pos hi]
      rfl
    have hg := cellsT_get (List.replicate n T0) (j / 3) (by rw [List.length_replicate]; omega)
    rw [hT (j / 3) (by omega)] at hg
    have hm : (madeCells #[.int .i64 0, .int .i64 0, .string ⟨#[]⟩] (n * 3)).toList[j]? = some ((#[Value.int .i64 0, .int .i64 0, .string ⟨#[]⟩] : Array Value)[j % 3]!) := by
      simp [madeCells, hj]
    rw [hm]
    have h3 : j % 3 = 0 ∨ j % 3 = 1 ∨ j % 3 = 2 := by omega
    rcases h3 with h | h | h
    · have e : j = j / 3 * 3 := by omega
      rw [h]; conv => rhs; rw [e]
      rw [hg.1]; rfl
    · have e : j = j / 3 * 3 + 1 := by omega
      rw [h]; conv => rhs; rw [e]
      rw [hg.2.1]; rfl
    · have e : j = j / 3 * 3 + 2 := by omega
      rw [h]; conv => rhs; rw [e]
      rw [hg.2.2]; rfl
  · rw [List.getElem?_eq_none (by rw [Array.length_toList, size_madeCells]; omega), List.getElem?_eq_none (by omega)]
theorem fill_step (ts : List Tk) (k n : Nat) (hn : ts.length = n) (hk : k < n) : (ts.take k ++ List.replicate (n - k) T0).set k (tAt ts k) = ts.take (k + 1) ++ List.replicate (n - (k + 1)) T0 := by
  have e1 : (ts.take k).length = k := by rw [List.length_take]; omega
  have e2 : n - k = (n - (k + 1)) + 1 := by omega
  rw [List.set_append_right _ _ (by omega), e1, Nat.sub_self, e2, List.replicate_succ, List.set_cons_zero]
  rw [show ts.take (k + 1) = ts.take k ++ [ts[k]'(by omega)] from List.take_succ_eq_append_getElem (by omega)]
  unfold tAt
  rw [List.getD_eq_getElem?_getD, List.getElem?_eq_getElem (by omega), List.append_assoc]
  rfl
end Go.Proofs.YtkolflcjkofleaaDoor

namespace Go.Proofs.YtkolflcjkofleaaDoor
open Go.ChangeShapes Go.WideShapes Go.ChangeAt Go.RowKit
set_option linter.unusedVariables false
set_option maxRecDepth 8000

def d10 (x : Nat) : UInt8 := UInt8.ofNat (48 + x)
/-- The digits to the base 10, ahead of t, by so many steps. -/
def decG : Nat → Nat → List UInt8 → List UInt8
  | 0, _, t => t
  | n + 1, m, t => if m = 0 then t else decG n (m / 10) (d10 (m % 10) :: t)
theorem decG_more : ∀ (n k m : Nat) (t : List UInt8), m ≤ n → m ≤ k → decG n m t = decG k m t := by
  intro n
  induction n with
  | zero =>
    intro k m t hn hk
    obtain rfl : m = 0 := by omega
    cases k with
    | zero => rfl
    | succ k => rfl
  | succ n ih =>
    intro k m t hn hk
    by_cases h0 : m = 0
    · subst h0
      cases k with
      | zero => rfl
      | succ k => rfl
    · cases k with
      | zero => omega
      | succ k =>
        simp only [decG]
        rw [ih k (m / 10) _ (by omega) (by omega)]
/-- The digits to the base 10, ahead of t. -/
def decA (m : Nat) (t : List UInt8) : List UInt8 := decG m m t
theorem decA_0 (t : List UInt8) : decA 0 t = t := rfl
theorem decA_s {m : Nat} (h : m ≠ 0) (t : List UInt8) : decA m t = decA (m / 10) (d10 (m % 10) :: t) := by
  obtain ⟨n, rfl⟩ : ∃ n, m = n + 1 := ⟨m - 1, by omega⟩
  unfold decA
  rw [decG, if_neg h]
  exact decG_more _ _ _ _ (by omega) (Nat.le_refl _)
/-- The marks' text. -/
def mkTx (k : Nat) : ByteArray := ⟨#[109]⟩ ++ strOf (decA k [])
theorem one_conv10 (W : World) (d : Nat) (hd : d < 10) (x : Int) (hx : x = 48 + (d : Int)) (b : Nat) (hb : b = W.heap.size) : (convert 22 9 (.slice (some ⟨b, 0, none⟩) 1 1)).run Tryd.prog (W.alloc (.cells #[.int .u8 x] 5)) = .ok (.string (strOf [d10 d])) (W.alloc (.cells #[.int .u8 x] 5)) := by
  subst hb
  exact run_convert_bytes_back (P := Tryd.prog) (W.alloc (.cells #[.int .u8 x] 5)) 22 9 5 ⟨W.heap.size, 0, none⟩ 1 [d10 d] Tryd.underlying22 Tryd.underlying5 Tryd.underlying9 (fun j hj => by
    obtain rfl : j = 0 := by simp at hj; omega
    have e : ((d10 d).toNat : Int) = x := by unfold d10; simp; omega
    simp only [List.getElem_cons_zero, e]
    simp [Addr.add])
set_option maxHeartbeats 1000000 in
theorem markTx_any (k : Nat) (hk0 : 0 < k) (hk : k ≤ 16777216) (w : World) : Calls Tryd.prog 65 #[.int .i64 k] w fun e w' => e = .returned (.string (mkTx k)) ∧ Below w.heap.size w w' := by
  unfold mkTx
  obtain ⟨T, hT⟩ : ∃ T, decA k [] = T := ⟨_, rfl⟩
  have HT := hide hT
  rw [hT]
  clear hT
  go_enter Tryd.func65, Tryd.ntmps65
  go_wp2
  go_loopw [0, 3] (fun i s wr => ∃ (m : Nat) (t : List UInt8), m + t.length ≤ 16777216 ∧ i = .int .i64 m ∧ s = .string (strOf t) ∧ Hid (decA m t = T) ∧ Below w.heap.size w wr) (fun i _ _ => (intOf i).toNat)
  case atStart => exact ⟨k, [], by simp; omega, rfl, rfl, unhide HT, Below.refl _ _⟩
  case round =>
    clear HT
    obtain ⟨m, t, hm, rfl, rfl, hd, hb⟩ := hrel
    by_cases h0 : m = 0
    · subst h0
      have E := hide ((decA_0 t).symm.trans hd.out)
      have hsz : (strOf t).size ≤ 16777216 := by rw [strOf_size]; omega
      clear hd
      rw [unhide E] at hsz ⊢
      go_wp2
      go_ret
      exact ⟨rfl, hb⟩
    · have E := hide ((decA_s h0 t).symm.trans hd.out)
      have hc := one_conv10 wr (m % 10) (by omega) (48 + (m : Int) % 10) (by omega)
      have hsz : (strOf t).size ≤ 16777216 := by rw [strOf_size]; omega
      have hsz1 := strOf_size [d10 (m % 10)]
      have hp : (0 : Int) < (m : Int) := by omega
      have AP := hide (strOf_append [d10 (m % 10)] t)
      clear hd
      go_wp2
      go_roundw
      case rel => exact ⟨m / 10, d10 (m % 10) :: t, by rw [List.length_cons]; omega, by go_num, by rw [unhide AP]; rfl, unhide E, hb.alloc hb.size _⟩
      case measure => simp [intOf]; omega

def mT (i : Nat) : Tk := ⟨((1 + 3 * i : Nat) : Int), ((2 + 3 * i : Nat) : Int), mkTx (3 + 3 * i)⟩
/-- What the marks leave. -/
def marksT (n : Nat) : List Tk := (List.range n).map mT
theorem marksT_len (n : Nat) : (marksT n).length = n := by simp [marksT]
theorem marksT_at (n i : Nat) (h : i < n) : tAt (marksT n) i = mT i := by
  unfold tAt marksT
  rw [List.getD_eq_getElem?_getD, List.getElem?_map, List.getElem?_range h]
  rfl
theorem mark_stepT (ts : List Tk) (k : Nat) (h : k < ts.length) : (marksT k ++ ts.drop k).set k (mT k) = marksT (k + 1) ++ ts.drop (k + 1) := by
  have e1 : marksT (k + 1) = marksT k ++ [mT k] := by simp [marksT, List.range_succ]
  rw [List.set_append_right _ _ (by rw [marksT_len]; omega), marksT_len, Nat.sub_self, List.drop_eq_getElem_cons h, List.set_cons_zero, e1, List.append_assoc]
  rfl
end Go.Proofs.YtkolflcjkofleaaDoor

namespace Go.Proofs.YtkolflcjkofleaaDoor
open Go.ChangeShapes Go.WideShapes Go.ChangeAt Go.RowKit
set_option linter.unusedVariables false
set_option maxRecDepth 8000

/-- How many parts a term has, all within. -/
def Ex.ct : Ex → Nat
  | ⟨_, _, _, l⟩ => l.length + (l.map Ex.ct).sum
def ctX (l : List Ex) : Nat := l.length + (l.map Ex.ct).sum
theorem ct_is (e : Ex) : e.ct = ctX e.l := by obtain ⟨k, n, s, l⟩ := e; rw [Ex.ct]; rfl
theorem ctX_take (l : List Ex) (k : Nat) (h : k < l.length) : ctX (l.take (k + 1)) = ctX (l.take k) + 1 + (xAt l k).ct := by
  unfold ctX
  rw [List.take_succ_eq_append_getElem h, List.map_append, List.sum_append, List.length_append, xAt_get h]
  simp
  omega
theorem ctX_le (l : List Ex) (k : Nat) : ctX (l.take k) ≤ ctX l := by
  induction l generalizing k with
  | nil => simp [ctX]
  | cons a r ih =>
    cases k with
    | zero => simp [ctX]
    | succ k =>
      have := ih k
      unfold ctX at this ⊢
      simp only [List.take_succ_cons, List.map_cons, List.sum_cons, List.length_cons]
      omega
/-- Where the marks of a part begin. -/
def posX (l : List Ex) (k i : Nat) : Nat := k + 3 * ctX (l.take i)
theorem posX_0 (l : List Ex) (k : Nat) : posX l k 0 = k := by simp [posX, ctX]
theorem posX_s (l : List Ex) (k i : Nat) (h : i < l.length) : posX l k (i + 1) = posX l k i + 3 + 3 * (xAt l i).ct := by
  unfold posX
  rw [ctX_take l i h]
  omega
theorem posX_end (l : List Ex) (k : Nat) : posX l k l.length = k + 3 * ctX l := by unfold posX; rw [List.take_length]
theorem posX_le (l : List Ex) (k i : Nat) (h : i < l.length) : posX l k i + 3 + 3 * (xAt l i).ct ≤ k + 3 * ctX l := by
  rw [← posX_s l k i h]
  unfold posX
  have := ctX_le l (i + 1)
  omega
/-- A term whose parts are marked from k on. -/
def MkX : Ex → Nat → Ex → Prop
  | ⟨_, _, _, l⟩, k, e' => e'.l.length = l.length ∧ ∀ x ∈ l, ∀ i, l[i]? = some x → (xAt e'.l i).k = ((posX l k i : Nat) : Int) ∧ (xAt e'.l i).n = ((posX l k i + 1 : Nat) : Int) ∧ (xAt e'.l i).s = mkTx (posX l k i + 2) ∧ MkX x (posX l k i + 3) (xAt e'.l i)
def MkOne (l : List Ex) (k i : Nat) (y : Ex) : Prop := y.k = ((posX l k i : Nat) : Int) ∧ y.n = ((posX l k i + 1 : Nat) : Int) ∧ y.s = mkTx (posX l k i + 2) ∧ MkX (xAt l i) (posX l k i + 3) y
theorem MkX_eq (e : Ex) (k : Nat) (e' : Ex) : MkX e k e' ↔ (e'.l.length = e.l.length ∧ ∀ i, i < e.l.length → MkOne e.l k i (xAt e'.l i)) := by
  obtain ⟨ek, n, s, l⟩ := e
  rw [MkX]
  refine and_congr Iff.rfl ⟨fun h i hi => ?_, fun h x hx i hi => ?_⟩
  · exact h _ (xAt_mem hi) i (by rw [xAt_get hi]; exact List.getElem?_eq_getElem hi)
  · obtain ⟨hl, e⟩ := List.getElem?_eq_some_iff.1 hi
    have := h i hl
    unfold MkOne at this
    rw [xAt_get hl, e] at this
    exact this
theorem MkX.len {e : Ex} {k : Nat} {y : Ex} (h : MkX e k y) : y.l.length = e.l.length := ((MkX_eq e k y).1 h).1
theorem MkX.of {e : Ex} {k : Nat} {y z : Ex} (h : MkX e k y) (hl : z.l = y.l) : MkX e k z := by
  rw [MkX_eq] at h ⊢
  rw [hl]
  exact h
theorem xAt_set_eq {l : List Ex} {i : Nat} (h : i < l.length) (y : Ex) : xAt (l.set i y) i = y := by
  unfold xAt
  rw [List.getD_eq_getElem?_getD, List.getElem?_set_self h]
  rfl
theorem xAt_set_ne {l : List Ex} {i j : Nat} (h : i ≠ j) (y : Ex) : xAt (l.set i y) j = xAt l j := by
  unfold xAt
  rw [List.getD_eq_getElem?_getD, List.getD_eq_getElem?_getD, List.getElem?_set_ne h]
/-- Of lists whose members all differ no two share one. -/
theorem flat_apart : ∀ (Fs : List (List Nat)) (i j x : Nat), Fs.flatten.Nodup → i ≠ j → x ∈ Fs.getD i [] → x ∉ Fs.getD j [] := by
  intro Fs
  induction Fs with
  | nil => intro i j x _ _ h; simp at h
  | cons F r ih =>
    intro i j x hn hij hx hy
    rw [List.flatten_cons, List.nodup_append] at hn
    obtain ⟨h1, h2, h3⟩ := hn
    cases i with
    | zero =>
      cases j with
      | zero => exact hij rfl
      | succ j => exact h3 x (by simpa using hx) x (getD_flat (i := j) (by simpa using hy)) rfl
    | succ i =>
      cases j with
      | zero => exact h3 x (by simpa using hy) x (getD_flat (i := i) (by simpa using hx)) rfl
      | succ j => exact ih i j x h2 (by omega) (by simpa using hx) (by simpa using hy)
theorem flat_part : ∀ (Fs : List (List Nat)) (i : Nat), Fs.flatten.Nodup → (Fs.getD i []).Nodup := by
  intro Fs
  induction Fs with
  | nil => intro i _; simp
  | cons F r ih =>
    intro i hn
    rw [List.flatten_cons, List.nodup_append] at hn
    cases i with
    | zero => simpa using hn.1
    | succ i => simpa using ih i hn.2.1
/-- A row with one part turned, its parts within turned in their own blocks. -/
theorem OwOne.turn {wr w5 : World} {ys : List Ex} {b : Nat} {cs cs5 : Array Value} {Fs : List (List Nat)} {i : Nat} {y : Ex} {c : Option Addr} {cp : Nat}
    (hr : ∀ j, j < ys.length → OwOne wr cs j (xAt ys j) (Fs.getD j [])) (hn : (b :: Fs.flatten).Nodup) (hi : i < ys.length)
    (hs : ∀ j, j ≠ i * 4 → j ≠ i * 4 + 1 → j ≠ i * 4 + 2 → cs5[j]? = cs[j]?)
    (d0 : cs5[i * 4]? = some (.int .i64 y.k)) (d1 : cs5[i * 4 + 1]? = some (.int .i64 y.n)) (d2 : cs5[i * 4 + 2]? = some (.string y.s)) (d3 : cs5[i * 4 + 3]? = some (.slice c y.l.length cp)) (hx : OwX w5 y c (Fs.getD i []))
    (hk : ∀ g, g ∈ Fs.flatten → g ∉ Fs.getD i [] → w5.heap[g]? = wr.heap[g]?) : ∀ j, j < ys.length → OwOne w5 cs5 j (xAt (ys.set i y) j) (Fs.getD j []) := by
  rw [List.nodup_cons] at hn
  intro j hj
  by_cases hij : i = j
  · subst hij
    rw [xAt_set_eq hi]
    exact ⟨d0, d1, d2, c, cp, d3, hx⟩
  · rw [xAt_set_ne hij]
    obtain ⟨p0, p1, p2, c', cap', p3, p4⟩ := hr j hj
    exact ⟨(hs _ (by omega) (by omega) (by omega)).trans p0, (hs _ (by omega) (by omega) (by omega)).trans p1, (hs _ (by omega) (by omega) (by omega)).trans p2, c', cap', (hs _ (by omega) (by omega) (by omega)).trans p3, OwX.keep _ _ _ (fun g hg => hk g (getD_flat hg) (flat_apart _ _ _ _ hn.2 (Ne.symm hij) hg)) p4⟩
end Go.Proofs.YtkolflcjkofleaaDoor
