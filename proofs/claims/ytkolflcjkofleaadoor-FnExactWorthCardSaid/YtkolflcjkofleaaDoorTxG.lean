/- Contracts over this seat's translation, laid together; conditions stand as hypotheses of each. -/
import Derived.Test.YtkolflcjkofleaaDoorTxA
import Derived.Test.YtkolflcjkofleaaDoorTxB
import Derived.Test.YtkolflcjkofleaaDoorTxC
import Derived.Test.YtkolflcjkofleaaDoorTxE
import Derived.Test.YtkolflcjkofleaaDoorTxF
import Derived.Deep.RegionWith
import Derived.Laws.Rows
import Derived.Lib.Builder
import Derived.SliceStrings

namespace Go.Proofs.YtkolflcjkofleaaDoor
open Go.ChangeShapes Go.WideShapes Go.ChangeAt Go.RowKit
set_option linter.unusedVariables false
set_option maxRecDepth 8000
set_option linter.unusedSimpArgs false

/-- The numbers of sections, the names, their numbers, as they lie. -/
structure Ev (w : World) (gb gn gv : Nat) (bs : List Int) (L : List ByteArray) (vs : List Int) : Prop where
  b : ∀ i, i < bs.length → w.cell? ⟨gb, i, none⟩ = some (.int .i64 (nAt bs i))
  n : RdS w gn L
  v : ∀ i, i < vs.length → w.cell? ⟨gv, i, none⟩ = some (.int .i64 (nAt vs i))
  lb : gb < w.heap.size
  ln : gn < w.heap.size
  lv : gv < w.heap.size
theorem Ev.later {w w' : World} {gb gn gv : Nat} {bs : List Int} {L : List ByteArray} {vs : List Int} (h : Ev w gb gn gv bs L vs) (hb : Below w.heap.size w w') : Ev w' gb gn gv bs L vs :=
  ⟨fun i hi => (hb.cell (p := ⟨gb, i, none⟩) h.lb).trans (h.b i hi), fun i hi => (hb.cell (p := ⟨gn, i, none⟩) h.ln).trans (h.n i hi), fun i hi => (hb.cell (p := ⟨gv, i, none⟩) h.lv).trans (h.v i hi), Nat.lt_of_lt_of_le h.lb hb.size, Nat.lt_of_lt_of_le h.ln hb.size, Nat.lt_of_lt_of_le h.lv hb.size⟩
def seW (bs : List Int) (n : Int) : Option Int := if n < bs.length then some (wr (nAt bs n.toNat)) else none
def glW (L : List ByteArray) (vs : List Int) (s : ByteArray) : Option Int := if 0 ≤ atV L s ∧ atV L s < vs.length then some (wr (nAt vs (atV L s).toNat)) else none
theorem seW_in (bs : List Int) : ∀ n v, seW bs n = some v → 0 ≤ v ∧ v ≤ 65535 := by
  intro n v h
  unfold seW at h
  split at h
  · cases h; exact wr_in _
  · cases h
theorem glW_in (L : List ByteArray) (vs : List Int) : ∀ s v, glW L vs s = some v → 0 ≤ v ∧ v ≤ 65535 := by
  intro n v h
  unfold glW at h
  split at h
  · cases h; exact wr_in _
  · cases h
def WoP (bs : List Int) (L : List ByteArray) (vs : List Int) (e : Ex) : Prop := ∀ (b : Option Addr) (cap gb gn gv cb cn cv : Nat) (w : World), RdX w 0 e b → Ev w gb gn gv bs L vs → Calls Tryd.prog 63 #[.agg (e.cs b cap), .slice (some ⟨gb, 0, none⟩) bs.length cb, .slice (some ⟨gn, 0, none⟩) L.length cn, .slice (some ⟨gv, 0, none⟩) vs.length cv] w (InR (worthX (seW bs) (glW L vs) e) w)
set_option maxHeartbeats 4000000 in
theorem worth1 (n : Int) (s : ByteArray) (bs : List Int) (L : List ByteArray) (vs : List Int) (hL : L.length ≤ 1100000) (hB : bs.length ≤ 1099511627776) (hV : vs.length ≤ 1099511627776) : WoP bs L vs ⟨1, n, s, []⟩ := by
  intro b cap gb gn gv cb cn cv w hr hev
  have EQ := hide (show worthX (seW bs) (glW L vs) ⟨1, n, s, []⟩ = some n by exact worth_num n s)
  rw [unhide EQ]
  have B0 := hide (below_new w (.cells #[.int .i64 1, .int .i64 n, .string s, .slice b 0 cap] 26))
  have EV := hide (hev.later (unhide B0))
  generalize hX : InR _ w = X
  have HX := hide hX
  show Calls Tryd.prog 63 #[.agg #[.int .i64 1, .int .i64 n, .string s, .slice b 0 cap], .slice (some ⟨gb, 0, none⟩) bs.length cb, .slice (some ⟨gn, 0, none⟩) L.length cn, .slice (some ⟨gv, 0, none⟩) vs.length cv] w X
  clear hX hr hev EQ
  go_enter Tryd.func63, Tryd.ntmps63
  go_wp2
  rw [← unhide HX]
  exact ⟨rfl, unhide B0⟩
set_option maxHeartbeats 4000000 in
theorem worth2 (n : Int) (s : ByteArray) (bs : List Int) (L : List ByteArray) (vs : List Int) (hL : L.length ≤ 1100000) (hB : bs.length ≤ 1099511627776) (hV : vs.length ≤ 1099511627776) : WoP bs L vs ⟨2, n, s, []⟩ := by
  intro b cap gb gn gv cb cn cv w hr hev
  have EQ := hide (show worthX (seW bs) (glW L vs) ⟨2, n, s, []⟩ = none by exact worth_sym n s)
  rw [unhide EQ]
  have B0 := hide (below_new w (.cells #[.int .i64 2, .int .i64 n, .string s, .slice b 0 cap] 26))
  have EV := hide (hev.later (unhide B0))
  generalize hX : InR _ w = X
  have HX := hide hX
  show Calls Tryd.prog 63 #[.agg #[.int .i64 2, .int .i64 n, .string s, .slice b 0 cap], .slice (some ⟨gb, 0, none⟩) bs.length cb, .slice (some ⟨gn, 0, none⟩) L.length cn, .slice (some ⟨gv, 0, none⟩) vs.length cv] w X
  clear hX hr hev EQ
  go_enter Tryd.func63, Tryd.ntmps63
  go_wp2
  rw [← unhide HX]
  exact ⟨rfl, unhide B0⟩
set_option maxHeartbeats 4000000 in
theorem worth3 (n : Int) (s : ByteArray) (bs : List Int) (L : List ByteArray) (vs : List Int) (hL : L.length ≤ 1100000) (hB : bs.length ≤ 1099511627776) (hV : vs.length ≤ 1099511627776) : WoP bs L vs ⟨3, n, s, []⟩ := by
  intro b cap gb gn gv cb cn cv w hr hev
  have EQ := hide (show worthX (seW bs) (glW L vs) ⟨3, n, s, []⟩ = none by exact worth_here n s)
  rw [unhide EQ]
  have B0 := hide (below_new w (.cells #[.int .i64 3, .int .i64 n, .string s, .slice b 0 cap] 26))
  have EV := hide (hev.later (unhide B0))
  generalize hX : InR _ w = X
  have HX := hide hX
  show Calls Tryd.prog 63 #[.agg #[.int .i64 3, .int .i64 n, .string s, .slice b 0 cap], .slice (some ⟨gb, 0, none⟩) bs.length cb, .slice (some ⟨gn, 0, none⟩) L.length cn, .slice (some ⟨gv, 0, none⟩) vs.length cv] w X
  clear hX hr hev EQ
  go_enter Tryd.func63, Tryd.ntmps63
  go_wp2
  rw [← unhide HX]
  exact ⟨rfl, unhide B0⟩
set_option maxHeartbeats 4000000 in
theorem worth11n (n : Int) (s : ByteArray) (bs : List Int) (L : List ByteArray) (vs : List Int) (hL : L.length ≤ 1100000) (hB : bs.length ≤ 1099511627776) (hV : vs.length ≤ 1099511627776) (hn : ¬ n < (bs.length : Int)) : WoP bs L vs ⟨11, n, s, []⟩ := by
  intro b cap gb gn gv cb cn cv w hr hev
  have EQ := hide (show worthX (seW bs) (glW L vs) ⟨11, n, s, []⟩ = none by rw [worth_sect]; unfold seW; rw [if_neg hn])
  rw [unhide EQ]
  have B0 := hide (below_new w (.cells #[.int .i64 11, .int .i64 n, .string s, .slice b 0 cap] 26))
  have EV := hide (hev.later (unhide B0))
  generalize hX : InR _ w = X
  have HX := hide hX
  show Calls Tryd.prog 63 #[.agg #[.int .i64 11, .int .i64 n, .string s, .slice b 0 cap], .slice (some ⟨gb, 0, none⟩) bs.length cb, .slice (some ⟨gn, 0, none⟩) L.length cn, .slice (some ⟨gv, 0, none⟩) vs.length cv] w X
  have hn2 : (bs.length : Int) ≤ n := by omega
  clear hn
  generalize bs.length = lb at *
  clear hX hr hev EQ
  go_enter Tryd.func63, Tryd.ntmps63
  go_wp2
  rw [← unhide HX]
  exact ⟨rfl, unhide B0⟩
set_option maxHeartbeats 4000000 in
theorem worth11y (n : Nat) (s : ByteArray) (bs : List Int) (L : List ByteArray) (vs : List Int) (hL : L.length ≤ 1100000) (hB : bs.length ≤ 1099511627776) (hV : vs.length ≤ 1099511627776) (hn : n < bs.length) : WoP bs L vs ⟨11, (n : Int), s, []⟩ := by
  intro b cap gb gn gv cb cn cv w hr hev
  have EQ := hide (show worthX (seW bs) (glW L vs) ⟨11, (n : Int), s, []⟩ = some (nAt bs n % 65536) by rw [worth_sect]; unfold seW; rw [if_pos (by omega)]; rfl)
  rw [unhide EQ]
  have B0 := hide (below_new w (.cells #[.int .i64 11, .int .i64 (n : Int), .string s, .slice b 0 cap] 26))
  have EV := hide (hev.later (unhide B0))
  generalize hX : InR _ w = X
  have HX := hide hX
  show Calls Tryd.prog 63 #[.agg #[.int .i64 11, .int .i64 (n : Int), .string s, .slice b 0 cap], .slice (some ⟨gb, 0, none⟩) bs.length cb, .slice (some ⟨gn, 0, none⟩) L.length cn, .slice (some ⟨gv, 0, none⟩) vs.length cv] w X
  have hc := (unhide EV).b n hn
  have hn2 : ¬ (bs.length : Int) ≤ (n : Int) := by omega
  clear hX hr hev EQ
  go_enter Tryd.func63, Tryd.ntmps63
  go_wp2_with (go_at_call 83; refine (wrapS_any _ _).mono ?_; rintro e w' ⟨rfl, hw'⟩; rw [hw']; clear hw' w')
  rw [← unhide HX]
  exact ⟨rfl, unhide B0⟩
set_option maxHeartbeats 4000000 in
theorem worth12m (n : Int) (s : ByteArray) (bs : List Int) (L : List ByteArray) (vs : List Int) (hL : L.length ≤ 1100000) (hB : bs.length ≤ 1099511627776) (hV : vs.length ≤ 1099511627776) (hn : atV L s < 0) : WoP bs L vs ⟨12, n, s, []⟩ := by
  intro b cap gb gn gv cb cn cv w hr hev
  have EQ := hide (show worthX (seW bs) (glW L vs) ⟨12, n, s, []⟩ = none by rw [worth_glob]; unfold glW; rw [if_neg (fun h => by omega)])
  rw [unhide EQ]
  have B0 := hide (below_new w (.cells #[.int .i64 12, .int .i64 n, .string s, .slice b 0 cap] 26))
  have EV := hide (hev.later (unhide B0))
  generalize hX : InR _ w = X
  have HX := hide hX
  show Calls Tryd.prog 63 #[.agg #[.int .i64 12, .int .i64 n, .string s, .slice b 0 cap], .slice (some ⟨gb, 0, none⟩) bs.length cb, .slice (some ⟨gn, 0, none⟩) L.length cn, .slice (some ⟨gv, 0, none⟩) vs.length cv] w X
  have AT := hide (at_anyF L s gn L.length cn _ rfl hL (unhide EV).n)
  generalize atV L s = av at *
  clear hX hr hev EQ
  go_enter Tryd.func63, Tryd.ntmps63
  go_wp2_with (go_at_call 81; refine (unhide AT).mono ?_; rintro e w' ⟨rfl, hw'⟩; rw [hw']; clear hw' w')
  rw [← unhide HX]
  exact ⟨rfl, unhide B0⟩
set_option maxHeartbeats 4000000 in
theorem worth12g (n : Int) (s : ByteArray) (bs : List Int) (L : List ByteArray) (vs : List Int) (hL : L.length ≤ 1100000) (hB : bs.length ≤ 1099511627776) (hV : vs.length ≤ 1099511627776) (h0 : ¬ atV L s < 0) (hn : (vs.length : Int) ≤ atV L s) : WoP bs L vs ⟨12, n, s, []⟩ := by
  intro b cap gb gn gv cb cn cv w hr hev
  have EQ := hide (show worthX (seW bs) (glW L vs) ⟨12, n, s, []⟩ = none by rw [worth_glob]; unfold glW; rw [if_neg (fun h => by omega)])
  rw [unhide EQ]
  have B0 := hide (below_new w (.cells #[.int .i64 12, .int .i64 n, .string s, .slice b 0 cap] 26))
  have EV := hide (hev.later (unhide B0))
  generalize hX : InR _ w = X
  have HX := hide hX
  show Calls Tryd.prog 63 #[.agg #[.int .i64 12, .int .i64 n, .string s, .slice b 0 cap], .slice (some ⟨gb, 0, none⟩) bs.length cb, .slice (some ⟨gn, 0, none⟩) L.length cn, .slice (some ⟨gv, 0, none⟩) vs.length cv] w X
  have AT := hide (at_anyF L s gn L.length cn _ rfl hL (unhide EV).n)
  generalize atV L s = av at *
  clear hX hr hev EQ
  go_enter Tryd.func63, Tryd.ntmps63
  go_wp2_with (go_at_call 81; refine (unhide AT).mono ?_; rintro e w' ⟨rfl, hw'⟩; rw [hw']; clear hw' w')
  rw [← unhide HX]
  exact ⟨rfl, unhide B0⟩
set_option maxHeartbeats 4000000 in
theorem worth12y (n : Int) (s : ByteArray) (j : Nat) (bs : List Int) (L : List ByteArray) (vs : List Int) (hL : L.length ≤ 1100000) (hB : bs.length ≤ 1099511627776) (hV : vs.length ≤ 1099511627776) (hj : atV L s = j) (hn : j < vs.length) : WoP bs L vs ⟨12, n, s, []⟩ := by
  intro b cap gb gn gv cb cn cv w hr hev
  have EQ := hide (show worthX (seW bs) (glW L vs) ⟨12, n, s, []⟩ = some (nAt vs j % 65536) by rw [worth_glob]; unfold glW; rw [if_pos (by omega), hj]; rfl)
  rw [unhide EQ]
  have B0 := hide (below_new w (.cells #[.int .i64 12, .int .i64 n, .string s, .slice b 0 cap] 26))
  have EV := hide (hev.later (unhide B0))
  generalize hX : InR _ w = X
  have HX := hide hX
  show Calls Tryd.prog 63 #[.agg #[.int .i64 12, .int .i64 n, .string s, .slice b 0 cap], .slice (some ⟨gb, 0, none⟩) bs.length cb, .slice (some ⟨gn, 0, none⟩) L.length cn, .slice (some ⟨gv, 0, none⟩) vs.length cv] w X
  have AT := hide (at_anyF L s gn L.length cn _ rfl hL (unhide EV).n)
  rw [hj] at AT
  have hc := (unhide EV).v j hn
  have hn2 : ¬ (vs.length : Int) ≤ (j : Int) := by omega
  have hn3 : ¬ (j : Int) < 0 := by omega
  clear hj
  clear hX hr hev EQ
  go_enter Tryd.func63, Tryd.ntmps63
  go_wp2_with (first | (go_at_call 81; refine (unhide AT).mono ?_; rintro e w' ⟨rfl, hw'⟩; rw [hw']; clear hw' w') | (go_at_call 83; refine (wrapS_any _ _).mono ?_; rintro e w' ⟨rfl, hw'⟩; rw [hw']; clear hw' w'))
  rw [← unhide HX]
  exact ⟨rfl, unhide B0⟩
set_option maxHeartbeats 4000000 in
theorem worthS_neg (bs : List Int) (L : List ByteArray) (vs : List Int) (a : Ex) (iha : WoP bs L vs a) (hi : ∀ v, worthX (seW bs) (glW L vs) a = some v → 0 ≤ v ∧ v ≤ 65535) : WoP bs L vs ⟨4, 0, ⟨#[]⟩, [a]⟩ := by
  intro b cap gb gn gv cb cn cv w hr hev
  rw [worth_neg]
  obtain ⟨p, off, rfl, hpl, hc⟩ := hr.at (by simp)
  obtain ⟨c0, c1, c2, q0, qp0, c3, r0⟩ := hc 0 (by simp)
  have xa : xAt (Ex.mk 4 0 ⟨#[]⟩ [a]).l 0 = a := rfl
  rw [xa] at c0 c1 c2 c3 r0
  simp only [Nat.zero_mul, Nat.add_zero] at c0 c1 c2 c3
  have B0 := hide (below_new w (.cells #[.int .i64 4, .int .i64 0, .string ⟨#[]⟩, .slice (some ⟨p, off, none⟩) 1 cap] 26))
  have IA := hide (iha q0 qp0 gb gn gv cb cn cv _ (RdX.later r0 (unhide B0)) (hev.later (unhide B0)))
  have G0 := (show (w.alloc (.cells #[.int .i64 4, .int .i64 0, .string ⟨#[]⟩, .slice (some ⟨p, off, none⟩) 1 cap] 26)).heap[w.heap.size]? = some (.cells #[.int .i64 4, .int .i64 0, .string ⟨#[]⟩, .slice (some ⟨p, off, none⟩) 1 cap] 26 (0, 0)) from Array.getElem?_push_size)
  have R0 := hide G0
  have d0 := ((unhide B0).cell (p := ⟨p, off, none⟩) hpl).trans c0
  have d1 := ((unhide B0).cell (p := ⟨p, off + 1, none⟩) hpl).trans c1
  have d2 := ((unhide B0).cell (p := ⟨p, off + 2, none⟩) hpl).trans c2
  have d3 := ((unhide B0).cell (p := ⟨p, off + 3, none⟩) hpl).trans c3
  generalize worthX (seW bs) (glW L vs) a = o at *
  have ho : 0 ≤ o.getD 0 ∧ o.getD 0 ≤ 65535 := by
    cases o with
    | none => exact ⟨Int.le_refl _, show (0 : Int) ≤ 65535 by decide⟩
    | some v => exact hi v rfl
  have EQ := hide (show (o.map (fun v => wr (-v))).getD 0 = -(o.getD 0) % 65536 ∧ (o.map (fun v => wr (-v))).isSome = o.isSome by cases o <;> exact ⟨rfl, rfl⟩)
  generalize hX : InR _ w = X
  have HX := hide hX
  unfold InR at IA
  unfold Ex.cs at IA
  show Calls Tryd.prog 63 #[.agg #[.int .i64 4, .int .i64 0, .string ⟨#[]⟩, .slice (some ⟨p, off, none⟩) 1 cap], .slice (some ⟨gb, 0, none⟩) bs.length cb, .slice (some ⟨gn, 0, none⟩) L.length cn, .slice (some ⟨gv, 0, none⟩) vs.length cv] w X
  generalize hog : o.getD 0 = og at *
  generalize hos : o.isSome = os at *
  have HG := hide hog
  have HO := hide hos
  clear hX hr hc c0 c1 c2 c3 r0 iha hi xa hev G0 hog hos
  go_enter Tryd.func63, Tryd.ntmps63
  go_wp2_with fail
  generalize w.alloc (.cells #[.int .i64 4, .int .i64 0, .string ⟨#[]⟩, .slice (some ⟨p, off, none⟩) 1 cap] 26) = W at *
  clear d0 d1 d2 d3
  refine (unhide IA).mono ?_
  rintro r w1 ⟨rfl, hb1⟩
  have B1 := hide ((unhide B0).trans (hb1.mono (unhide B0).size))
  have z0 := Lib.cell_of_heap (row_keep (unhide R0) hb1) 0
  clear hb1 B0 R0 IA
  go_wp2_with (go_at_call 83; refine (wrapS_any _ _).mono ?_; rintro e w' ⟨rfl, hw'⟩; rw [hw']; clear hw' w')
  rw [← unhide HX]
  exact ⟨by rw [(unhide EQ).1, (unhide EQ).2]; rfl, unhide B1⟩
set_option maxHeartbeats 4000000 in
theorem worthS_nn (bs : List Int) (L : List ByteArray) (vs : List Int) (k : Int) (hk : 5 ≤ k ∧ k ≤ 10) (a b : Ex) (iha : WoP bs L vs a) (ihb : WoP bs L vs b) (va vb : Int) (ha : worthX (seW bs) (glW L vs) a = none) (hb : worthX (seW bs) (glW L vs) b = none) (ia : 0 ≤ va ∧ va ≤ 65535) (ib : 0 ≤ vb ∧ vb ≤ 65535) : WoP bs L vs ⟨k, 0, ⟨#[]⟩, [a, b]⟩ := by
  intro bb cap gb gn gv cb cn cv w hr hev
  have EQ := hide (show worthX (seW bs) (glW L vs) ⟨k, 0, ⟨#[]⟩, [a, b]⟩ = none by rw [worth_two, ha]; rfl)
  rw [unhide EQ]
  obtain ⟨p, off, rfl, hpl, hc⟩ := hr.at (by simp)
  obtain ⟨c0, c1, c2, q0, qp0, c3, r0⟩ := hc 0 (by simp)
  obtain ⟨e0, e1, e2, q1, qp1, e3, r1⟩ := hc 1 (by simp)
  have xa : xAt (Ex.mk k 0 ⟨#[]⟩ [a, b]).l 0 = a := rfl
  have xb : xAt (Ex.mk k 0 ⟨#[]⟩ [a, b]).l 1 = b := rfl
  rw [xa] at c0 c1 c2 c3 r0
  rw [xb] at e0 e1 e2 e3 r1
  simp only [Nat.zero_mul, Nat.add_zero, Nat.one_mul] at c0 c1 c2 c3 e0 e1 e2 e3
  have B0 := hide (below_new w (.cells #[.int .i64 k, .int .i64 0, .string ⟨#[]⟩, .slice (some ⟨p, off, none⟩) 2 cap] 26))
  have IA := hide (iha q0 qp0 gb gn gv cb cn cv _ (RdX.later r0 (unhide B0)) (hev.later (unhide B0)))
  have IB := hide (fun wr (h : Below w.heap.size w wr) => ihb q1 qp1 gb gn gv cb cn cv wr (RdX.later r1 h) (hev.later h))
  rw [ha] at IA
  rw [hb] at IB
  have R0 := hide (show (w.alloc (.cells #[.int .i64 k, .int .i64 0, .string ⟨#[]⟩, .slice (some ⟨p, off, none⟩) 2 cap] 26)).heap[w.heap.size]? = some (.cells #[.int .i64 k, .int .i64 0, .string ⟨#[]⟩, .slice (some ⟨p, off, none⟩) 2 cap] 26 (0, 0)) from Array.getElem?_push_size)
  have d0 := ((unhide B0).cell (p := ⟨p, off, none⟩) hpl).trans c0
  have d1 := ((unhide B0).cell (p := ⟨p, off + 1, none⟩) hpl).trans c1
  have d2 := ((unhide B0).cell (p := ⟨p, off + 2, none⟩) hpl).trans c2
  have d3 := ((unhide B0).cell (p := ⟨p, off + 3, none⟩) hpl).trans c3
  have E0' := hide (fun wr (h : Below w.heap.size w wr) => (h.cell (p := ⟨p, off + 4, none⟩) hpl).trans e0)
  have E1' := hide (fun wr (h : Below w.heap.size w wr) => (h.cell (p := ⟨p, off + 4 + 1, none⟩) hpl).trans e1)
  have E2' := hide (fun wr (h : Below w.heap.size w wr) => (h.cell (p := ⟨p, off + 4 + 2, none⟩) hpl).trans e2)
  have E3' := hide (fun wr (h : Below w.heap.size w wr) => (h.cell (p := ⟨p, off + 4 + 3, none⟩) hpl).trans e3)
  have k1 : (k == 1) = false := beq_eq_false_iff_ne.2 (by omega)
  have k2 : (k == 2) = false := beq_eq_false_iff_ne.2 (by omega)
  have k3 : (k == 3) = false := beq_eq_false_iff_ne.2 (by omega)
  have k4 : (k == 4) = false := beq_eq_false_iff_ne.2 (by omega)
  have k11 : (k == 11) = false := beq_eq_false_iff_ne.2 (by omega)
  have k12 : (k == 12) = false := beq_eq_false_iff_ne.2 (by omega)
  have TW := hide (fun wr => twoS_any k va vb hk ia ib wr)
  unfold TwoR at TW
  generalize hX : InR _ w = X
  have HX := hide hX
  unfold InR at IA IB
  simp only [Option.getD_some, Option.getD_none, Option.isSome_some, Option.isSome_none] at IA IB
  unfold Ex.cs at IA IB
  show Calls Tryd.prog 63 #[.agg #[.int .i64 k, .int .i64 0, .string ⟨#[]⟩, .slice (some ⟨p, off, none⟩) 2 cap], .slice (some ⟨gb, 0, none⟩) bs.length cb, .slice (some ⟨gn, 0, none⟩) L.length cn, .slice (some ⟨gv, 0, none⟩) vs.length cv] w X
  clear hX hr hc c0 c1 c2 c3 e0 e1 e2 e3 r0 r1 iha ihb xa xb hev ha hb EQ hk
  go_enter Tryd.func63, Tryd.ntmps63
  go_wp2_with fail
  generalize w.alloc (.cells #[.int .i64 k, .int .i64 0, .string ⟨#[]⟩, .slice (some ⟨p, off, none⟩) 2 cap] 26) = W at *
  clear d0 d1 d2 d3
  refine (unhide IA).mono ?_
  rintro r w1 ⟨rfl, hb1⟩
  have B1 := hide ((unhide B0).trans (hb1.mono (unhide B0).size))
  have R1 := hide (row_keep (unhide R0) hb1)
  have z0 := Lib.cell_of_heap (unhide R1) 0
  have z3 := Lib.cell_of_heap (unhide R1) 3
  have d0 := unhide E0' _ (unhide B1)
  have d1 := unhide E1' _ (unhide B1)
  have d2 := unhide E2' _ (unhide B1)
  have d3 := unhide E3' _ (unhide B1)
  have IB2 := hide (unhide IB _ (unhide B1))
  clear hb1 B0 R0 IA IB E0' E1' E2' E3'
  go_wp2_with fail
  clear d0 d1 d2 d3 z0 z3
  refine (unhide IB2).mono ?_
  rintro r w2 ⟨rfl, hb2⟩
  have B2 := hide ((unhide B1).trans (hb2.mono (unhide B1).size))
  have R2 := row_keep (unhide R1) hb2
  have z0 := Lib.cell_of_heap R2 0
  clear hb2 B1 R1 IB2 R2
  go_wp2_with (go_at_call 78; refine (unhide TW _).mono ?_; rintro r w' ⟨hw', rfl⟩; rw [hw']; clear hw' w')
  rw [← unhide HX]
  exact ⟨rfl, unhide B2⟩
set_option maxHeartbeats 4000000 in
theorem worthS_ns (bs : List Int) (L : List ByteArray) (vs : List Int) (k : Int) (hk : 5 ≤ k ∧ k ≤ 10) (a b : Ex) (iha : WoP bs L vs a) (ihb : WoP bs L vs b) (va vb : Int) (ha : worthX (seW bs) (glW L vs) a = none) (hb : worthX (seW bs) (glW L vs) b = some vb) (ia : 0 ≤ va ∧ va ≤ 65535) (ib : 0 ≤ vb ∧ vb ≤ 65535) : WoP bs L vs ⟨k, 0, ⟨#[]⟩, [a, b]⟩ := by
  intro bb cap gb gn gv cb cn cv w hr hev
  have EQ := hide (show worthX (seW bs) (glW L vs) ⟨k, 0, ⟨#[]⟩, [a, b]⟩ = none by rw [worth_two, ha]; rfl)
  rw [unhide EQ]
  obtain ⟨p, off, rfl, hpl, hc⟩ := hr.at (by simp)
  obtain ⟨c0, c1, c2, q0, qp0, c3, r0⟩ := hc 0 (by simp)
  obtain ⟨e0, e1, e2, q1, qp1, e3, r1⟩ := hc 1 (by simp)
  have xa : xAt (Ex.mk k 0 ⟨#[]⟩ [a, b]).l 0 = a := rfl
  have xb : xAt (Ex.mk k 0 ⟨#[]⟩ [a, b]).l 1 = b := rfl
  rw [xa] at c0 c1 c2 c3 r0
  rw [xb] at e0 e1 e2 e3 r1
  simp only [Nat.zero_mul, Nat.add_zero, Nat.one_mul] at c0 c1 c2 c3 e0 e1 e2 e3
  have B0 := hide (below_new w (.cells #[.int .i64 k, .int .i64 0, .string ⟨#[]⟩, .slice (some ⟨p, off, none⟩) 2 cap] 26))
  have IA := hide (iha q0 qp0 gb gn gv cb cn cv _ (RdX.later r0 (unhide B0)) (hev.later (unhide B0)))
  have IB := hide (fun wr (h : Below w.heap.size w wr) => ihb q1 qp1 gb gn gv cb cn cv wr (RdX.later r1 h) (hev.later h))
  rw [ha] at IA
  rw [hb] at IB
  have R0 := hide (show (w.alloc (.cells #[.int .i64 k, .int .i64 0, .string ⟨#[]⟩, .slice (some ⟨p, off, none⟩) 2 cap] 26)).heap[w.heap.size]? = some (.cells #[.int .i64 k, .int .i64 0, .string ⟨#[]⟩, .slice (some ⟨p, off, none⟩) 2 cap] 26 (0, 0)) from Array.getElem?_push_size)
  have d0 := ((unhide B0).cell (p := ⟨p, off, none⟩) hpl).trans c0
  have d1 := ((unhide B0).cell (p := ⟨p, off + 1, none⟩) hpl).trans c1
  have d2 := ((unhide B0).cell (p := ⟨p, off + 2, none⟩) hpl).trans c2
  have d3 := ((unhide B0).cell (p := ⟨p, off + 3, none⟩) hpl).trans c3
  have E0' := hide (fun wr (h : Below w.heap.size w wr) => (h.cell (p := ⟨p, off + 4, none⟩) hpl).trans e0)
  have E1' := hide (fun wr (h : Below w.heap.size w wr) => (h.cell (p := ⟨p, off + 4 + 1, none⟩) hpl).trans e1)
  have E2' := hide (fun wr (h : Below w.heap.size w wr) => (h.cell (p := ⟨p, off + 4 + 2, none⟩) hpl).trans e2)
  have E3' := hide (fun wr (h : Below w.heap.size w wr) => (h.cell (p := ⟨p, off + 4 + 3, none⟩) hpl).trans e3)
  have k1 : (k == 1) = false := beq_eq_false_iff_ne.2 (by omega)
  have k2 : (k == 2) = false := beq_eq_false_iff_ne.2 (by omega)
  have k3 : (k == 3) = false := beq_eq_false_iff_ne.2 (by omega)
  have k4 : (k == 4) = false := beq_eq_false_iff_ne.2 (by omega)
  have k11 : (k == 11) = false := beq_eq_false_iff_ne.2 (by omega)
  have k12 : (k == 12) = false := beq_eq_false_iff_ne.2 (by omega)
  have TW := hide (fun wr => twoS_any k va vb hk ia ib wr)
  unfold TwoR at TW
  generalize hX : InR _ w = X
  have HX := hide hX
  unfold InR at IA IB
  simp only [Option.getD_some, Option.getD_none, Option.isSome_some, Option.isSome_none] at IA IB
  unfold Ex.cs at IA IB
  show Calls Tryd.prog 63 #[.agg #[.int .i64 k, .int .i64 0, .string ⟨#[]⟩, .slice (some ⟨p, off, none⟩) 2 cap], .slice (some ⟨gb, 0, none⟩) bs.length cb, .slice (some ⟨gn, 0, none⟩) L.length cn, .slice (some ⟨gv, 0, none⟩) vs.length cv] w X
  clear hX hr hc c0 c1 c2 c3 e0 e1 e2 e3 r0 r1 iha ihb xa xb hev ha hb EQ hk
  go_enter Tryd.func63, Tryd.ntmps63
  go_wp2_with fail
  generalize w.alloc (.cells #[.int .i64 k, .int .i64 0, .string ⟨#[]⟩, .slice (some ⟨p, off, none⟩) 2 cap] 26) = W at *
  clear d0 d1 d2 d3
  refine (unhide IA).mono ?_
  rintro r w1 ⟨rfl, hb1⟩
  have B1 := hide ((unhide B0).trans (hb1.mono (unhide B0).size))
  have R1 := hide (row_keep (unhide R0) hb1)
  have z0 := Lib.cell_of_heap (unhide R1) 0
  have z3 := Lib.cell_of_heap (unhide R1) 3
  have d0 := unhide E0' _ (unhide B1)
  have d1 := unhide E1' _ (unhide B1)
  have d2 := unhide E2' _ (unhide B1)
  have d3 := unhide E3' _ (unhide B1)
  have IB2 := hide (unhide IB _ (unhide B1))
  clear hb1 B0 R0 IA IB E0' E1' E2' E3'
  go_wp2_with fail
  clear d0 d1 d2 d3 z0 z3
  refine (unhide IB2).mono ?_
  rintro r w2 ⟨rfl, hb2⟩
  have B2 := hide ((unhide B1).trans (hb2.mono (unhide B1).size))
  have R2 := row_keep (unhide R1) hb2
  have z0 := Lib.cell_of_heap R2 0
  clear hb2 B1 R1 IB2 R2
  go_wp2_with (go_at_call 78; refine (unhide TW _).mono ?_; rintro r w' ⟨hw', rfl⟩; rw [hw']; clear hw' w')
  rw [← unhide HX]
  exact ⟨rfl, unhide B2⟩
set_option maxHeartbeats 4000000 in
theorem worthS_sn (bs : List Int) (L : List ByteArray) (vs : List Int) (k : Int) (hk : 5 ≤ k ∧ k ≤ 10) (a b : Ex) (iha : WoP bs L vs a) (ihb : WoP bs L vs b) (va vb : Int) (ha : worthX (seW bs) (glW L vs) a = some va) (hb : worthX (seW bs) (glW L vs) b = none) (ia : 0 ≤ va ∧ va ≤ 65535) (ib : 0 ≤ vb ∧ vb ≤ 65535) : WoP bs L vs ⟨k, 0, ⟨#[]⟩, [a, b]⟩ := by
  intro bb cap gb gn gv cb cn cv w hr hev
  have EQ := hide (show worthX (seW bs) (glW L vs) ⟨k, 0, ⟨#[]⟩, [a, b]⟩ = none by rw [worth_two, ha, hb]; rfl)
  rw [unhide EQ]
  obtain ⟨p, off, rfl, hpl, hc⟩ := hr.at (by simp)
  obtain ⟨c0, c1, c2, q0, qp0, c3, r0⟩ := hc 0 (by simp)
  obtain ⟨e0, e1, e2, q1, qp1, e3, r1⟩ := hc 1 (by simp)
  have xa : xAt (Ex.mk k 0 ⟨#[]⟩ [a, b]).l 0 = a := rfl
  have xb : xAt (Ex.mk k 0 ⟨#[]⟩ [a, b]).l 1 = b := rfl
  rw [xa] at c0 c1 c2 c3 r0
  rw [xb] at e0 e1 e2 e3 r1
  simp only [Nat.zero_mul, Nat.add_zero, Nat.one_mul] at c0 c1 c2 c3 e0 e1 e2 e3
  have B0 := hide (below_new w (.cells #[.int .i64 k, .int .i64 0, .string ⟨#[]⟩, .slice (some ⟨p, off, none⟩) 2 cap] 26))
  have IA := hide (iha q0 qp0 gb gn gv cb cn cv _ (RdX.later r0 (unhide B0)) (hev.later (unhide B0)))
  have IB := hide (fun wr (h : Below w.heap.size w wr) => ihb q1 qp1 gb gn gv cb cn cv wr (RdX.later r1 h) (hev.later h))
  rw [ha] at IA
  rw [hb] at IB
  have R0 := hide (show (w.alloc (.cells #[.int .i64 k, .int .i64 0, .string ⟨#[]⟩, .slice (some ⟨p, off, none⟩) 2 cap] 26)).heap[w.heap.size]? = some (.cells #[.int .i64 k, .int .i64 0, .string ⟨#[]⟩, .slice (some ⟨p, off, none⟩) 2 cap] 26 (0, 0)) from Array.getElem?_push_size)
  have d0 := ((unhide B0).cell (p := ⟨p, off, none⟩) hpl).trans c0
  have d1 := ((unhide B0).cell (p := ⟨p, off + 1, none⟩) hpl).trans c1
  have d2 := ((unhide B0).cell (p := ⟨p, off + 2, none⟩) hpl).trans c2
  have d3 := ((unhide B0).cell (p := ⟨p, off + 3, none⟩) hpl).trans c3
  have E0' := hide (fun wr (h : Below w.heap.size w wr) => (h.cell (p := ⟨p, off + 4, none⟩) hpl).trans e0)
  have E1' := hide (fun wr (h : Below w.heap.size w wr) => (h.cell (p := ⟨p, off + 4 + 1, none⟩) hpl).trans e1)
  have E2' := hide (fun wr (h : Below w.heap.size w wr) => (h.cell (p := ⟨p, off + 4 + 2, none⟩) hpl).trans e2)
  have E3' := hide (fun wr (h : Below w.heap.size w wr) => (h.cell (p := ⟨p, off + 4 + 3, none⟩) hpl).trans e3)
  have k1 : (k == 1) = false := beq_eq_false_iff_ne.2 (by omega)
  have k2 : (k == 2) = false := beq_eq_false_iff_ne.2 (by omega)
  have k3 : (k == 3) = false := beq_eq_false_iff_ne.2 (by omega)
  have k4 : (k == 4) = false := beq_eq_false_iff_ne.2 (by omega)
  have k11 : (k == 11) = false := beq_eq_false_iff_ne.2 (by omega)
  have k12 : (k == 12) = false := beq_eq_false_iff_ne.2 (by omega)
  have TW := hide (fun wr => twoS_any k va vb hk ia ib wr)
  unfold TwoR at TW
  generalize hX : InR _ w = X
  have HX := hide hX
  unfold InR at IA IB
  simp only [Option.getD_some, Option.getD_none, Option.isSome_some, Option.isSome_none] at IA IB
  unfold Ex.cs at IA IB
  show Calls Tryd.prog 63 #[.agg #[.int .i64 k, .int .i64 0, .string ⟨#[]⟩, .slice (some ⟨p, off, none⟩) 2 cap], .slice (some ⟨gb, 0, none⟩) bs.length cb, .slice (some ⟨gn, 0, none⟩) L.length cn, .slice (some ⟨gv, 0, none⟩) vs.length cv] w X
  clear hX hr hc c0 c1 c2 c3 e0 e1 e2 e3 r0 r1 iha ihb xa xb hev ha hb EQ hk
  go_enter Tryd.func63, Tryd.ntmps63
  go_wp2_with fail
  generalize w.alloc (.cells #[.int .i64 k, .int .i64 0, .string ⟨#[]⟩, .slice (some ⟨p, off, none⟩) 2 cap] 26) = W at *
  clear d0 d1 d2 d3
  refine (unhide IA).mono ?_
  rintro r w1 ⟨rfl, hb1⟩
  have B1 := hide ((unhide B0).trans (hb1.mono (unhide B0).size))
  have R1 := hide (row_keep (unhide R0) hb1)
  have z0 := Lib.cell_of_heap (unhide R1) 0
  have z3 := Lib.cell_of_heap (unhide R1) 3
  have d0 := unhide E0' _ (unhide B1)
  have d1 := unhide E1' _ (unhide B1)
  have d2 := unhide E2' _ (unhide B1)
  have d3 := unhide E3' _ (unhide B1)
  have IB2 := hide (unhide IB _ (unhide B1))
  clear hb1 B0 R0 IA IB E0' E1' E2' E3'
  go_wp2_with fail
  clear d0 d1 d2 d3 z0 z3
  refine (unhide IB2).mono ?_
  rintro r w2 ⟨rfl, hb2⟩
  have B2 := hide ((unhide B1).trans (hb2.mono (unhide B1).size))
  have R2 := row_keep (unhide R1) hb2
  have z0 := Lib.cell_of_heap R2 0
  clear hb2 B1 R1 IB2 R2
  go_wp2_with (go_at_call 78; refine (unhide TW _).mono ?_; rintro r w' ⟨hw', rfl⟩; rw [hw']; clear hw' w')
  rw [← unhide HX]
  exact ⟨rfl, unhide B2⟩
set_option maxHeartbeats 4000000 in
theorem worthS_ss (bs : List Int) (L : List ByteArray) (vs : List Int) (k : Int) (hk : 5 ≤ k ∧ k ≤ 10) (a b : Ex) (iha : WoP bs L vs a) (ihb : WoP bs L vs b) (va vb : Int) (ha : worthX (seW bs) (glW L vs) a = some va) (hb : worthX (seW bs) (glW L vs) b = some vb) (ia : 0 ≤ va ∧ va ≤ 65535) (ib : 0 ≤ vb ∧ vb ≤ 65535) : WoP bs L vs ⟨k, 0, ⟨#[]⟩, [a, b]⟩ := by
  intro bb cap gb gn gv cb cn cv w hr hev
  have EQ := hide (show worthX (seW bs) (glW L vs) ⟨k, 0, ⟨#[]⟩, [a, b]⟩ = two11 k va vb by rw [worth_two, ha, hb]; rfl)
  rw [unhide EQ]
  obtain ⟨p, off, rfl, hpl, hc⟩ := hr.at (by simp)
  obtain ⟨c0, c1, c2, q0, qp0, c3, r0⟩ := hc 0 (by simp)
  obtain ⟨e0, e1, e2, q1, qp1, e3, r1⟩ := hc 1 (by simp)
  have xa : xAt (Ex.mk k 0 ⟨#[]⟩ [a, b]).l 0 = a := rfl
  have xb : xAt (Ex.mk k 0 ⟨#[]⟩ [a, b]).l 1 = b := rfl
  rw [xa] at c0 c1 c2 c3 r0
  rw [xb] at e0 e1 e2 e3 r1
  simp only [Nat.zero_mul, Nat.add_zero, Nat.one_mul] at c0 c1 c2 c3 e0 e1 e2 e3
  have B0 := hide (below_new w (.cells #[.int .i64 k, .int .i64 0, .string ⟨#[]⟩, .slice (some ⟨p, off, none⟩) 2 cap] 26))
  have IA := hide (iha q0 qp0 gb gn gv cb cn cv _ (RdX.later r0 (unhide B0)) (hev.later (unhide B0)))
  have IB := hide (fun wr (h : Below w.heap.size w wr) => ihb q1 qp1 gb gn gv cb cn cv wr (RdX.later r1 h) (hev.later h))
  rw [ha] at IA
  rw [hb] at IB
  have R0 := hide (show (w.alloc (.cells #[.int .i64 k, .int .i64 0, .string ⟨#[]⟩, .slice (some ⟨p, off, none⟩) 2 cap] 26)).heap[w.heap.size]? = some (.cells #[.int .i64 k, .int .i64 0, .string ⟨#[]⟩, .slice (some ⟨p, off, none⟩) 2 cap] 26 (0, 0)) from Array.getElem?_push_size)
  have d0 := ((unhide B0).cell (p := ⟨p, off, none⟩) hpl).trans c0
  have d1 := ((unhide B0).cell (p := ⟨p, off + 1, none⟩) hpl).trans c1
  have d2 := ((unhide B0).cell (p := ⟨p, off + 2, none⟩) hpl).trans c2
  have d3 := ((unhide B0).cell (p := ⟨p, off + 3, none⟩) hpl).trans c3
  have E0' := hide (fun wr (h : Below w.heap.size w wr) => (h.cell (p := ⟨p, off + 4, none⟩) hpl).trans e0)
  have E1' := hide (fun wr (h : Below w.heap.size w wr) => (h.cell (p := ⟨p, off + 4 + 1, none⟩) hpl).trans e1)
  have E2' := hide (fun wr (h : Below w.heap.size w wr) => (h.cell (p := ⟨p, off + 4 + 2, none⟩) hpl).trans e2)
  have E3' := hide (fun wr (h : Below w.heap.size w wr) => (h.cell (p := ⟨p, off + 4 + 3, none⟩) hpl).trans e3)
  have k1 : (k == 1) = false := beq_eq_false_iff_ne.2 (by omega)
  have k2 : (k == 2) = false := beq_eq_false_iff_ne.2 (by omega)
  have k3 : (k == 3) = false := beq_eq_false_iff_ne.2 (by omega)
  have k4 : (k == 4) = false := beq_eq_false_iff_ne.2 (by omega)
  have k11 : (k == 11) = false := beq_eq_false_iff_ne.2 (by omega)
  have k12 : (k == 12) = false := beq_eq_false_iff_ne.2 (by omega)
  have TW := hide (fun wr => twoS_any k va vb hk ia ib wr)
  unfold TwoR at TW
  generalize hX : InR _ w = X
  have HX := hide hX
  unfold InR at IA IB
  simp only [Option.getD_some, Option.getD_none, Option.isSome_some, Option.isSome_none] at IA IB
  unfold Ex.cs at IA IB
  show Calls Tryd.prog 63 #[.agg #[.int .i64 k, .int .i64 0, .string ⟨#[]⟩, .slice (some ⟨p, off, none⟩) 2 cap], .slice (some ⟨gb, 0, none⟩) bs.length cb, .slice (some ⟨gn, 0, none⟩) L.length cn, .slice (some ⟨gv, 0, none⟩) vs.length cv] w X
  clear hX hr hc c0 c1 c2 c3 e0 e1 e2 e3 r0 r1 iha ihb xa xb hev ha hb EQ hk
  go_enter Tryd.func63, Tryd.ntmps63
  go_wp2_with fail
  generalize w.alloc (.cells #[.int .i64 k, .int .i64 0, .string ⟨#[]⟩, .slice (some ⟨p, off, none⟩) 2 cap] 26) = W at *
  clear d0 d1 d2 d3
  refine (unhide IA).mono ?_
  rintro r w1 ⟨rfl, hb1⟩
  have B1 := hide ((unhide B0).trans (hb1.mono (unhide B0).size))
  have R1 := hide (row_keep (unhide R0) hb1)
  have z0 := Lib.cell_of_heap (unhide R1) 0
  have z3 := Lib.cell_of_heap (unhide R1) 3
  have d0 := unhide E0' _ (unhide B1)
  have d1 := unhide E1' _ (unhide B1)
  have d2 := unhide E2' _ (unhide B1)
  have d3 := unhide E3' _ (unhide B1)
  have IB2 := hide (unhide IB _ (unhide B1))
  clear hb1 B0 R0 IA IB E0' E1' E2' E3'
  go_wp2_with fail
  clear d0 d1 d2 d3 z0 z3
  refine (unhide IB2).mono ?_
  rintro r w2 ⟨rfl, hb2⟩
  have B2 := hide ((unhide B1).trans (hb2.mono (unhide B1).size))
  have R2 := row_keep (unhide R1) hb2
  have z0 := Lib.cell_of_heap R2 0
  clear hb2 B1 R1 IB2 R2
  go_wp2_with (go_at_call 78; refine (unhide TW _).mono ?_; rintro r w' ⟨hw', rfl⟩; rw [hw']; clear hw' w')
  rw [← unhide HX]
  exact ⟨rfl, unhide B2⟩
end Go.Proofs.YtkolflcjkofleaaDoor

namespace Go.Proofs.YtkolflcjkofleaaDoor
open Go.ChangeShapes Go.WideShapes Go.ChangeAt Go.RowKit
set_option linter.unusedVariables false
set_option maxRecDepth 8000
set_option linter.unusedSimpArgs false

/-- What is known elsewhere, as it lies. -/
structure Ew (w : World) (ab : Option Addr) (m : Nat) (av : Option Addr) (bs : List Int) (ps : List (ByteArray × Nat)) (vs : List Int) : Prop where
  b : RdN w ab bs
  m : IsMs w m ps
  v : RdN w av vs
theorem Ew.later {w w' : World} {ab av : Option Addr} {m : Nat} {bs vs : List Int} {ps : List (ByteArray × Nat)} (h : Ew w ab m av bs ps vs) (hb : Below w.heap.size w w') : Ew w' ab m av bs ps vs := ⟨h.b.later hb, h.m.later hb, h.v.later hb⟩
theorem inR_end {o : Option Int} {w w' : World} {r : Ending} {n : Int} {q : Bool} (ho : n = o.getD 0 ∧ q = o.isSome) (hr : r = .returned (.tuple #[.int .i64 n, .bool q])) (hb : Below w.heap.size w w') : InR o w r w' := ⟨by rw [hr, ho.1, ho.2], hb⟩
set_option maxHeartbeats 2000000 in
theorem wordAt_no (a : Option Addr) (n cap i : Nat) (hm : n ≤ 1099511627776) (hi : n ≤ i) (hi2 : i ≤ 1099511627776) (w : World) : Calls Tryd.prog 74 #[.slice a n cap, .int .i64 (i : Nat)] w (InR none w) := by
  have FN := hide (fun (r : Ending) (w' : World) (h : r = .returned (.tuple #[.int .i64 0, .bool false])) (hb : Below w.heap.size w w') => inR_end (o := none) ⟨rfl, rfl⟩ h hb)
  generalize InR none w = R at *
  have h1 : (n : Int) ≤ (i : Int) := by omega
  go_enter Tryd.func74, Tryd.ntmps74
  go_wp2
  (first | go_ret2 | go_ret | skip)
  exact unhide FN _ _ rfl (Below.refl _ _)
set_option maxHeartbeats 2000000 in
theorem wordAt_yes (a : Option Addr) (n cap i : Nat) (hm : n ≤ 1099511627776) (hi : i < n) (xs : List Int) (hl : xs.length = n) (w : World) (hr : RdN w a xs) : Calls Tryd.prog 74 #[.slice a n cap, .int .i64 (i : Nat)] w (InR (some (wr (nAt xs i))) w) := by
  have FN := hide (fun (r : Ending) (w' : World) (h : r = .returned (.tuple #[.int .i64 (wr (nAt xs i)), .bool true])) (hb : Below w.heap.size w w') => inR_end (o := some (wr (nAt xs i))) ⟨rfl, rfl⟩ h hb)
  generalize InR (some (wr (nAt xs i))) w = R at *
  unfold wr at FN
  have h1 : ¬ (n : Int) ≤ (i : Int) := by omega
  rcases hr with rfl | ⟨b, off, rfl, hb, hc⟩
  · simp at hl; omega
  have hcx := hc i (by omega)
  generalize nAt xs i = x at *
  clear hc hl
  go_enter Tryd.func74, Tryd.ntmps74
  go_wp2_with (go_at_call 75; refine (wrapI_any _ _).mono ?_; rintro e w0 ⟨rfl, hw0⟩; rw [hw0]; clear hw0 w0)
  (first | go_ret2 | go_ret | skip)
  exact unhide FN _ _ rfl (Below.refl _ _)
theorem wordAt_any (a : Option Addr) (cap i : Nat) (xs : List Int) (hm : xs.length ≤ 1099511627776) (hi : i ≤ 1099511627776) (w : World) (hr : RdN w a xs) : Calls Tryd.prog 74 #[.slice a xs.length cap, .int .i64 (i : Nat)] w (InR (seW xs i) w) := by
  by_cases h : i < xs.length
  · rw [show seW xs (i : Nat) = some (wr (nAt xs i)) by unfold seW; rw [if_pos (by omega)]; rfl]
    exact wordAt_yes a _ cap i hm h xs rfl w hr
  · rw [show seW xs (i : Nat) = none by unfold seW; rw [if_neg (by omega)]]
    exact wordAt_no a _ cap i hm (by omega) hi w
/-- What (worths).of answers of a term, whatever is known elsewhere. -/
def WoJ (bs : List Int) (L : List ByteArray) (vs : List Int) (e : Ex) : Prop := ∀ (ab av : Option Addr) (cb cv m : Nat) (ps : List (ByteArray × Nat)) (w : World), Ew w ab m av bs ps vs → (∀ s, lkS ps s = plS L s) → Calls Tryd.prog 50 #[.agg #[.slice ab bs.length cb, .map (some m), .slice av vs.length cv], tv e] w (InR (worthX (seW bs) (glW L vs) e) w)
theorem glW_pl (L : List ByteArray) (vs : List Int) (s : ByteArray) : glW L vs s = (plS L s).bind (fun i => seW vs (i : Nat)) := by
  unfold glW
  rw [plS_at]
  cases plS L s with
  | none => simp
  | some i =>
    simp only [Option.map_some, Option.getD_some, Option.bind_some, seW]
    by_cases h : (i : Int) < vs.length
    · rw [if_pos ⟨by omega, h⟩, if_pos h]
    · rw [if_neg (fun q => h q.2), if_neg h]
theorem pl_lt {L : List ByteArray} {s : ByteArray} {i : Nat} (h : plS L s = some i) : i < L.length := by
  unfold plS at h
  rw [List.findIdx?_eq_some_iff_getElem] at h
  exact h.1
set_option maxHeartbeats 4000000 in
theorem wj_num (bs : List Int) (L : List ByteArray) (vs : List Int) (hB : bs.length ≤ 1099511627776) (hV : vs.length ≤ 1099511627776) (hL : L.length ≤ 1099511627776) (n : Int) : WoJ bs L vs (⟨1, n, E0, []⟩) := by
  intro ab av cb cv m ps w hev hps
  rw [tv_num, show worthX (seW bs) (glW L vs) (⟨1, n, E0, []⟩) = some n from worth_num _ _]
  have FN := hide (fun (r : Ending) (w' : World) (z : Int) (q : Bool) (ho : z = (some n).getD 0 ∧ q = (some n).isSome) (h : r = .returned (.tuple #[.int .i64 z, .bool q])) (hb : Below w.heap.size w w') => inR_end ho h hb)
  generalize InR (some n) w = R at *
  have B0 := hide (below_new w (.cells #[.slice ab bs.length cb, .map (some m), .slice av vs.length cv] 74))
  have G0 := hide (show (w.alloc (.cells #[.slice ab bs.length cb, .map (some m), .slice av vs.length cv] 74)).heap[w.heap.size]? = some (.cells #[.slice ab bs.length cb, .map (some m), .slice av vs.length cv] 74 (0, 0)) from Array.getElem?_push_size)
  have V0 := hide (hev.later (unhide B0))
  clear hev
  have t1 := taY_num (.agg #[.int .i64 n])
  have T := hide (two_resG w (.cells #[.slice ab bs.length cb, .map (some m), .slice av vs.length cv] 74) (.cells #[.int .i64 n] 88))
  go_enter Tryd.func50, Tryd.ntmps50
  go_wp2
  (first | (generalize (w.alloc (.cells #[.slice ab bs.length cb, .map (some m), .slice av vs.length cv] 74)).alloc (.cells #[.int .i64 n] 88) = W at *; have c0 := Lib.cell_of_heap (unhide T).2.2 0; go_region; go_wp2) | skip)
  (first | go_ret2 | go_ret | skip)
  exact unhide FN _ _ _ _ ⟨rfl, rfl⟩ rfl (by first | exact below_dr (unhide T).1 | exact (unhide T).1)
set_option maxHeartbeats 4000000 in
theorem wj_sect (bs : List Int) (L : List ByteArray) (vs : List Int) (hB : bs.length ≤ 1099511627776) (hV : vs.length ≤ 1099511627776) (hL : L.length ≤ 1099511627776) (n : Nat) (hn : n ≤ 9) : WoJ bs L vs (⟨11, (n : Int), E0, []⟩) := by
  intro ab av cb cv m ps w hev hps
  rw [tv_sect, show worthX (seW bs) (glW L vs) (⟨11, (n : Int), E0, []⟩) = seW bs (n : Int) from worth_sect _ _]
  have FN := hide (fun (r : Ending) (w' : World) (z : Int) (q : Bool) (ho : z = (seW bs (n : Int)).getD 0 ∧ q = (seW bs (n : Int)).isSome) (h : r = .returned (.tuple #[.int .i64 z, .bool q])) (hb : Below w.heap.size w w') => inR_end ho h hb)
  generalize InR (seW bs (n : Int)) w = R at *
  have B0 := hide (below_new w (.cells #[.slice ab bs.length cb, .map (some m), .slice av vs.length cv] 74))
  have G0 := hide (show (w.alloc (.cells #[.slice ab bs.length cb, .map (some m), .slice av vs.length cv] 74)).heap[w.heap.size]? = some (.cells #[.slice ab bs.length cb, .map (some m), .slice av vs.length cv] 74 (0, 0)) from Array.getElem?_push_size)
  have V0 := hide (hev.later (unhide B0))
  clear hev
  have t0 := taN_num 115 (.agg #[.int .i64 (n : Int)]) (by decide)
  have t1 := taY_sect (.agg #[.int .i64 (n : Int)])
  have T := hide (two_resG w (.cells #[.slice ab bs.length cb, .map (some m), .slice av vs.length cv] 74) (.cells #[.int .i64 (n : Int)] 115))
  have WA := hide (fun wr (h : Ew wr ab m av bs ps vs) => wordAt_any ab cb n bs hB (by omega) wr h.b)
  unfold InR at WA
  have V1 := hide ((unhide V0).later (below_new _ (.cells #[.int .i64 (n : Int)] 115)))
  generalize seW bs (n : Int) = o at *
  go_enter Tryd.func50, Tryd.ntmps50
  go_wp2_with fail
  generalize (w.alloc (.cells #[.slice ab bs.length cb, .map (some m), .slice av vs.length cv] 74)).alloc (.cells #[.int .i64 (n : Int)] 115) = W at *
  refine (unhide WA _ (unhide V1)).mono ?_
  rintro r w1 ⟨rfl, hb1⟩
  have B1 := hide ((unhide T).1.trans (hb1.mono (unhide T).1.size))
  clear hb1
  go_wp2
  (first | go_ret2 | go_ret | skip)
  exact unhide FN _ _ _ _ ⟨rfl, rfl⟩ rfl (unhide B1)
set_option maxHeartbeats 4000000 in
theorem wj_globn (bs : List Int) (L : List ByteArray) (vs : List Int) (hB : bs.length ≤ 1099511627776) (hV : vs.length ≤ 1099511627776) (hL : L.length ≤ 1099511627776) (s : ByteArray) (hp : plS L s = none) : WoJ bs L vs (⟨12, 0, s, []⟩) := by
  intro ab av cb cv m ps w hev hps
  rw [tv_glob, show worthX (seW bs) (glW L vs) (⟨12, 0, s, []⟩) = none from (by rw [worth_glob, glW_pl, hp]; rfl)]
  have FN := hide (fun (r : Ending) (w' : World) (z : Int) (q : Bool) (ho : z = (none).getD 0 ∧ q = (none).isSome) (h : r = .returned (.tuple #[.int .i64 z, .bool q])) (hb : Below w.heap.size w w') => inR_end ho h hb)
  generalize InR (none) w = R at *
  have B0 := hide (below_new w (.cells #[.slice ab bs.length cb, .map (some m), .slice av vs.length cv] 74))
  have G0 := hide (show (w.alloc (.cells #[.slice ab bs.length cb, .map (some m), .slice av vs.length cv] 74)).heap[w.heap.size]? = some (.cells #[.slice ab bs.length cb, .map (some m), .slice av vs.length cv] 74 (0, 0)) from Array.getElem?_push_size)
  have V0 := hide (hev.later (unhide B0))
  clear hev
  have t0 := taN_num 118 (.agg #[.string s]) (by decide)
  have t2 := taN_sect 118 (.agg #[.string s]) (by decide)
  have t1 := taY_glob (.agg #[.string s])
  have T := hide (two_resG w (.cells #[.slice ab bs.length cb, .map (some m), .slice av vs.length cv] 74) (.cells #[.string s] 118))
  have V1 := hide ((unhide V0).later (below_new _ (.cells #[.string s] 118)))
  have LK := run_lookS (unhide V1).m s
  rw [hps, hp] at LK
  simp only [Option.getD_none, Option.isSome_none, Option.getD_some, Option.isSome_some] at LK
  clear hp hps
  go_enter Tryd.func50, Tryd.ntmps50
  go_wp2
  (first | go_ret2 | go_ret | skip)
  exact unhide FN _ _ _ _ ⟨rfl, rfl⟩ rfl (unhide T).1
set_option maxHeartbeats 4000000 in
theorem wj_globy (bs : List Int) (L : List ByteArray) (vs : List Int) (hB : bs.length ≤ 1099511627776) (hV : vs.length ≤ 1099511627776) (hL : L.length ≤ 1099511627776) (s : ByteArray) (i : Nat) (hp : plS L s = some i) : WoJ bs L vs (⟨12, 0, s, []⟩) := by
  intro ab av cb cv m ps w hev hps
  rw [tv_glob, show worthX (seW bs) (glW L vs) (⟨12, 0, s, []⟩) = seW vs (i : Int) from (by rw [worth_glob, glW_pl, hp]; rfl)]
  have FN := hide (fun (r : Ending) (w' : World) (z : Int) (q : Bool) (ho : z = (seW vs (i : Int)).getD 0 ∧ q = (seW vs (i : Int)).isSome) (h : r = .returned (.tuple #[.int .i64 z, .bool q])) (hb : Below w.heap.size w w') => inR_end ho h hb)
  generalize InR (seW vs (i : Int)) w = R at *
  have B0 := hide (below_new w (.cells #[.slice ab bs.length cb, .map (some m), .slice av vs.length cv] 74))
  have G0 := hide (show (w.alloc (.cells #[.slice ab bs.length cb, .map (some m), .slice av vs.length cv] 74)).heap[w.heap.size]? = some (.cells #[.slice ab bs.length cb, .map (some m), .slice av vs.length cv] 74 (0, 0)) from Array.getElem?_push_size)
  have V0 := hide (hev.later (unhide B0))
  clear hev
  have t0 := taN_num 118 (.agg #[.string s]) (by decide)
  have t2 := taN_sect 118 (.agg #[.string s]) (by decide)
  have t1 := taY_glob (.agg #[.string s])
  have T := hide (two_resG w (.cells #[.slice ab bs.length cb, .map (some m), .slice av vs.length cv] 74) (.cells #[.string s] 118))
  have V1 := hide ((unhide V0).later (below_new _ (.cells #[.string s] 118)))
  have LK := run_lookS (unhide V1).m s
  rw [hps, hp] at LK
  simp only [Option.getD_none, Option.isSome_none, Option.getD_some, Option.isSome_some] at LK
  have WA := hide (fun wr (h : Ew wr ab m av bs ps vs) => wordAt_any av cv i vs hV (by have := pl_lt hp; omega) wr h.v)
  unfold InR at WA
  generalize seW vs (i : Int) = o at *
  clear hp hps
  go_enter Tryd.func50, Tryd.ntmps50
  go_wp2_with fail
  generalize (w.alloc (.cells #[.slice ab bs.length cb, .map (some m), .slice av vs.length cv] 74)).alloc (.cells #[.string s] 118) = W at *
  refine (unhide WA _ (unhide V1)).mono ?_
  rintro r w1 ⟨rfl, hb1⟩
  have B1 := hide ((unhide T).1.trans (hb1.mono (unhide T).1.size))
  clear hb1 LK
  go_wp2
  (first | go_ret2 | go_ret | skip)
  exact unhide FN _ _ _ _ ⟨rfl, rfl⟩ rfl (unhide B1)
/-- What (worths).ofPair answers. -/
def WoK (bs : List Int) (L : List ByteArray) (vs : List Int) (e : Ex) : Prop := ∀ (ab av : Option Addr) (cb cv m : Nat) (ps : List (ByteArray × Nat)) (w : World), Ew w ab m av bs ps vs → (∀ s, lkS ps s = plS L s) → Calls Tryd.prog 76 #[.agg #[.slice ab bs.length cb, .map (some m), .slice av vs.length cv], tv e] w (InR (worthX (seW bs) (glW L vs) e) w)
set_option maxHeartbeats 4000000 in
theorem wk_sym (bs : List Int) (L : List ByteArray) (vs : List Int) (hB : bs.length ≤ 1099511627776) (hV : vs.length ≤ 1099511627776) (hL : L.length ≤ 1099511627776) (s : ByteArray) : WoK bs L vs (⟨2, 0, s, []⟩) := by
  intro ab av cb cv m ps w hev hps
  rw [tv_sym, show worthX (seW bs) (glW L vs) (⟨2, 0, s, []⟩) = none from worth_sym _ _]
  have FN := hide (fun (r : Ending) (w' : World) (z : Int) (q : Bool) (ho : z = (none).getD 0 ∧ q = (none).isSome) (h : r = .returned (.tuple #[.int .i64 z, .bool q])) (hb : Below w.heap.size w w') => inR_end ho h hb)
  generalize InR (none) w = R at *
  have B0 := hide (below_new w (.cells #[.slice ab bs.length cb, .map (some m), .slice av vs.length cv] 74))
  have G0 := hide (show (w.alloc (.cells #[.slice ab bs.length cb, .map (some m), .slice av vs.length cv] 74)).heap[w.heap.size]? = some (.cells #[.slice ab bs.length cb, .map (some m), .slice av vs.length cv] 74 (0, 0)) from Array.getElem?_push_size)
  have V0 := hide (hev.later (unhide B0))
  clear hev
  have m0 := me_sym (.string s)
  have P0 := hide (parts0 (w.alloc (.cells #[.slice ab bs.length cb, .map (some m), .slice av vs.length cv] 74)))
  go_enter Tryd.func76, Tryd.ntmps76
  go_wp2_with (go_at_call 121; refine (unhide P0).mono ?_; rintro r w1 ⟨rfl, hb1⟩; have B1 := hide ((unhide B0).trans (hb1.mono (unhide B0).size)); clear hb1)
  (first | go_ret2 | go_ret | skip)
  exact unhide FN _ _ _ _ ⟨rfl, rfl⟩ rfl (unhide B1)
set_option maxHeartbeats 4000000 in
theorem wj_sym (bs : List Int) (L : List ByteArray) (vs : List Int) (hB : bs.length ≤ 1099511627776) (hV : vs.length ≤ 1099511627776) (hL : L.length ≤ 1099511627776) (s : ByteArray) : WoJ bs L vs (⟨2, 0, s, []⟩) := by
  intro ab av cb cv m ps w hev hps
  rw [tv_sym, show worthX (seW bs) (glW L vs) (⟨2, 0, s, []⟩) = none from worth_sym _ _]
  have FN := hide (fun (r : Ending) (w' : World) (z : Int) (q : Bool) (ho : z = (none).getD 0 ∧ q = (none).isSome) (h : r = .returned (.tuple #[.int .i64 z, .bool q])) (hb : Below w.heap.size w w') => inR_end ho h hb)
  generalize InR (none) w = R at *
  have B0 := hide (below_new w (.cells #[.slice ab bs.length cb, .map (some m), .slice av vs.length cv] 74))
  have G0 := hide (show (w.alloc (.cells #[.slice ab bs.length cb, .map (some m), .slice av vs.length cv] 74)).heap[w.heap.size]? = some (.cells #[.slice ab bs.length cb, .map (some m), .slice av vs.length cv] 74 (0, 0)) from Array.getElem?_push_size)
  have V0 := hide (hev.later (unhide B0))
  clear hev
  have t0 := taN_num 117 (.agg #[.string s]) (by decide)
  have t1 := taN_sect 117 (.agg #[.string s]) (by decide)
  have t2 := taN_glob 117 (.agg #[.string s]) (by decide)
  have t3 := taN_neg 117 (.agg #[.string s]) (by decide)
  have WK := hide (wk_sym bs L vs hB hV hL s ab av cb cv m ps _ (unhide V0) hps)
  rw [tv_sym, worth_sym] at WK
  unfold InR at WK
  clear hps
  go_enter Tryd.func50, Tryd.ntmps50
  go_wp2_with (refine wpList_load_row rfl 74 _ rfl w.heap.size rfl 74 #[.slice ab bs.length cb, .map (some m), .slice av vs.length cv] (0, 0) _ (unhide G0) Tryd.underlying74 rfl (by kernel_rfl) ?_)
  generalize w.alloc (.cells #[.slice ab bs.length cb, .map (some m), .slice av vs.length cv] 74) = W at *
  refine (unhide WK).mono ?_
  rintro r w1 ⟨rfl, hb1⟩
  have B1 := hide ((unhide B0).trans (hb1.mono (unhide B0).size))
  clear hb1 WK
  go_wp2
  (first | go_ret2 | go_ret | skip)
  exact unhide FN _ _ _ _ ⟨rfl, rfl⟩ rfl (unhide B1)
set_option maxHeartbeats 4000000 in
theorem wk_here (bs : List Int) (L : List ByteArray) (vs : List Int) (hB : bs.length ≤ 1099511627776) (hV : vs.length ≤ 1099511627776) (hL : L.length ≤ 1099511627776)  : WoK bs L vs (⟨3, 0, E0, []⟩) := by
  intro ab av cb cv m ps w hev hps
  rw [tv_here, show worthX (seW bs) (glW L vs) (⟨3, 0, E0, []⟩) = none from worth_here _ _]
  have FN := hide (fun (r : Ending) (w' : World) (z : Int) (q : Bool) (ho : z = (none).getD 0 ∧ q = (none).isSome) (h : r = .returned (.tuple #[.int .i64 z, .bool q])) (hb : Below w.heap.size w w') => inR_end ho h hb)
  generalize InR (none) w = R at *
  have B0 := hide (below_new w (.cells #[.slice ab bs.length cb, .map (some m), .slice av vs.length cv] 74))
  have G0 := hide (show (w.alloc (.cells #[.slice ab bs.length cb, .map (some m), .slice av vs.length cv] 74)).heap[w.heap.size]? = some (.cells #[.slice ab bs.length cb, .map (some m), .slice av vs.length cv] 74 (0, 0)) from Array.getElem?_push_size)
  have V0 := hide (hev.later (unhide B0))
  clear hev
  have m0 := me_here
  have P0 := hide (parts0 (w.alloc (.cells #[.slice ab bs.length cb, .map (some m), .slice av vs.length cv] 74)))
  go_enter Tryd.func76, Tryd.ntmps76
  go_wp2_with (go_at_call 121; refine (unhide P0).mono ?_; rintro r w1 ⟨rfl, hb1⟩; have B1 := hide ((unhide B0).trans (hb1.mono (unhide B0).size)); clear hb1)
  (first | go_ret2 | go_ret | skip)
  exact unhide FN _ _ _ _ ⟨rfl, rfl⟩ rfl (unhide B1)
set_option maxHeartbeats 4000000 in
theorem wj_here (bs : List Int) (L : List ByteArray) (vs : List Int) (hB : bs.length ≤ 1099511627776) (hV : vs.length ≤ 1099511627776) (hL : L.length ≤ 1099511627776)  : WoJ bs L vs (⟨3, 0, E0, []⟩) := by
  intro ab av cb cv m ps w hev hps
  rw [tv_here, show worthX (seW bs) (glW L vs) (⟨3, 0, E0, []⟩) = none from worth_here _ _]
  have FN := hide (fun (r : Ending) (w' : World) (z : Int) (q : Bool) (ho : z = (none).getD 0 ∧ q = (none).isSome) (h : r = .returned (.tuple #[.int .i64 z, .bool q])) (hb : Below w.heap.size w w') => inR_end ho h hb)
  generalize InR (none) w = R at *
  have B0 := hide (below_new w (.cells #[.slice ab bs.length cb, .map (some m), .slice av vs.length cv] 74))
  have G0 := hide (show (w.alloc (.cells #[.slice ab bs.length cb, .map (some m), .slice av vs.length cv] 74)).heap[w.heap.size]? = some (.cells #[.slice ab bs.length cb, .map (some m), .slice av vs.length cv] 74 (0, 0)) from Array.getElem?_push_size)
  have V0 := hide (hev.later (unhide B0))
  clear hev
  have t0 := taN_num 130 (.agg #[]) (by decide)
  have t1 := taN_sect 130 (.agg #[]) (by decide)
  have t2 := taN_glob 130 (.agg #[]) (by decide)
  have t3 := taN_neg 130 (.agg #[]) (by decide)
  have WK := hide (wk_here bs L vs hB hV hL  ab av cb cv m ps _ (unhide V0) hps)
  rw [tv_here, worth_here] at WK
  unfold InR at WK
  clear hps
  go_enter Tryd.func50, Tryd.ntmps50
  go_wp2_with (refine wpList_load_row rfl 74 _ rfl w.heap.size rfl 74 #[.slice ab bs.length cb, .map (some m), .slice av vs.length cv] (0, 0) _ (unhide G0) Tryd.underlying74 rfl (by kernel_rfl) ?_)
  generalize w.alloc (.cells #[.slice ab bs.length cb, .map (some m), .slice av vs.length cv] 74) = W at *
  refine (unhide WK).mono ?_
  rintro r w1 ⟨rfl, hb1⟩
  have B1 := hide ((unhide B0).trans (hb1.mono (unhide B0).size))
  clear hb1 WK
  go_wp2
  (first | go_ret2 | go_ret | skip)
  exact unhide FN _ _ _ _ ⟨rfl, rfl⟩ rfl (unhide B1)
end Go.Proofs.YtkolflcjkofleaaDoor

namespace Go.Proofs.YtkolflcjkofleaaDoor
open Go.ChangeShapes Go.WideShapes Go.ChangeAt Go.RowKit
set_option linter.unusedVariables false
set_option maxRecDepth 8000
set_option linter.unusedSimpArgs false

theorem worthS_all (bs : List Int) (L : List ByteArray) (vs : List Int) (hL : L.length ≤ 1100000) (hB : bs.length ≤ 1099511627776) (hV : vs.length ≤ 1099511627776) : ∀ (d : Nat) (e : Ex), okF d false e = true → WoP bs L vs e := by
  intro d
  induction d with
  | zero => intro e h; rw [okF] at h; cases h
  | succ d ih =>
    intro e h
    rcases ok_sev h with ⟨n, hn, rfl⟩ | ⟨s, hs, rfl⟩ | rfl | ⟨n, hn, rfl⟩ | ⟨s, hs, rfl⟩ | ⟨a, ha, rfl⟩ | ⟨k, a, b, hk, ha, hb, rfl⟩
    · exact worth1 n _ bs L vs hL hB hV
    · exact worth2 0 s bs L vs hL hB hV
    · exact worth3 0 _ bs L vs hL hB hV
    · by_cases hl : n < (bs.length : Int)
      · obtain ⟨m, rfl⟩ : ∃ m : Nat, n = m := ⟨n.toNat, by omega⟩
        exact worth11y m _ bs L vs hL hB hV (by omega)
      · exact worth11n n _ bs L vs hL hB hV hl
    · by_cases h0 : atV L s < 0
      · exact worth12m 0 s bs L vs hL hB hV h0
      · by_cases hl : (vs.length : Int) ≤ atV L s
        · exact worth12g 0 s bs L vs hL hB hV h0 hl
        · obtain ⟨m, hm⟩ : ∃ m : Nat, atV L s = m := ⟨(atV L s).toNat, by omega⟩
          exact worth12y 0 s m bs L vs hL hB hV hm (by omega)
    · exact worthS_neg bs L vs a (ih a ha) (fun v hv => worth_in (seW_in bs) (glW_in L vs) d a v ha hv)
    · cases wa : worthX (seW bs) (glW L vs) a with
      | none =>
        cases wb : worthX (seW bs) (glW L vs) b with
        | none => exact worthS_nn bs L vs k hk a b (ih a ha) (ih b hb) 0 0 wa wb (by decide) (by decide)
        | some vb => exact worthS_ns bs L vs k hk a b (ih a ha) (ih b hb) 0 vb wa wb (by decide) (worth_in (seW_in bs) (glW_in L vs) d b vb hb wb)
      | some va =>
        cases wb : worthX (seW bs) (glW L vs) b with
        | none => exact worthS_sn bs L vs k hk a b (ih a ha) (ih b hb) va 0 wa wb (worth_in (seW_in bs) (glW_in L vs) d a va ha wa) (by decide)
        | some vb => exact worthS_ss bs L vs k hk a b (ih a ha) (ih b hb) va vb wa wb (worth_in (seW_in bs) (glW_in L vs) d a va ha wa) (worth_in (seW_in bs) (glW_in L vs) d b vb hb wb)
/-- What Worth answers. -/
def worthA (bs : List Int) (L : List ByteArray) (vs : List Int) (e : Ex) : Option Int := if okF 6 false e = true then worthX (seW bs) (glW L vs) e else none
set_option maxHeartbeats 4000000 in
theorem worthA_no (bs : List Int) (L : List ByteArray) (vs : List Int) (hL : L.length ≤ 1100000) (hB : bs.length ≤ 1099511627776) (hV : vs.length ≤ 1099511627776) (e : Ex) (b : Option Addr) (cap gb gn gv cb cn cv : Nat) (w : World) (hr : RdX w 0 e b) (hev : Ev w gb gn gv bs L vs) (hz : e.sz ≤ 1048576) (ho : okF 6 false e = false) : Calls Tryd.prog 24 #[.agg (e.cs b cap), .slice (some ⟨gb, 0, none⟩) bs.length cb, .slice (some ⟨gn, 0, none⟩) L.length cn, .slice (some ⟨gv, 0, none⟩) vs.length cv] w (InR (worthA bs L vs e) w) := by
  have EQ := hide (show worthA bs L vs e = none by unfold worthA; rw [if_neg (by rw [ho]; decide)])
  rw [unhide EQ]
  have B0 := hide (below_new w (.cells #[.int .i64 e.k, .int .i64 e.n, .string e.s, .slice b e.l.length cap] 26))
  have R0 := hide (show (w.alloc (.cells #[.int .i64 e.k, .int .i64 e.n, .string e.s, .slice b e.l.length cap] 26)).heap[w.heap.size]? = some (.cells #[.int .i64 e.k, .int .i64 e.n, .string e.s, .slice b e.l.length cap] 26 (0, 0)) from Array.getElem?_push_size)
  have OK := hide (okS_any e b cap _ (hr.later (unhide B0)) hz)
  rw [ho] at OK
  generalize hX : InR _ w = X
  have HX := hide hX
  unfold Ex.cs at OK ⊢
  clear hX hr hev hz ho EQ
  go_enter Tryd.func24, Tryd.ntmps24
  go_wp2_with fail
  generalize w.alloc (.cells #[.int .i64 e.k, .int .i64 e.n, .string e.s, .slice b e.l.length cap] 26) = W at *
  refine (unhide OK).mono ?_
  rintro r w1 ⟨rfl, hb1⟩
  have B1 := hide ((unhide B0).trans (hb1.mono (unhide B0).size))
  have R1 := hide (row_keep (unhide R0) hb1)
  clear hb1 B0 R0 OK
  go_wp2
  rw [← unhide HX]
  exact ⟨rfl, unhide B1⟩
set_option maxHeartbeats 4000000 in
theorem worthA_n (bs : List Int) (L : List ByteArray) (vs : List Int) (hL : L.length ≤ 1100000) (hB : bs.length ≤ 1099511627776) (hV : vs.length ≤ 1099511627776) (e : Ex) (b : Option Addr) (cap gb gn gv cb cn cv : Nat) (w : World) (hr : RdX w 0 e b) (hev : Ev w gb gn gv bs L vs) (hz : e.sz ≤ 1048576) (ho : okF 6 false e = true) (hv : worthX (seW bs) (glW L vs) e = none) : Calls Tryd.prog 24 #[.agg (e.cs b cap), .slice (some ⟨gb, 0, none⟩) bs.length cb, .slice (some ⟨gn, 0, none⟩) L.length cn, .slice (some ⟨gv, 0, none⟩) vs.length cv] w (InR (worthA bs L vs e) w) := by
  have EQ := hide (show worthA bs L vs e = none by unfold worthA; rw [if_pos ho, hv])
  rw [unhide EQ]
  have B0 := hide (below_new w (.cells #[.int .i64 e.k, .int .i64 e.n, .string e.s, .slice b e.l.length cap] 26))
  have R0 := hide (show (w.alloc (.cells #[.int .i64 e.k, .int .i64 e.n, .string e.s, .slice b e.l.length cap] 26)).heap[w.heap.size]? = some (.cells #[.int .i64 e.k, .int .i64 e.n, .string e.s, .slice b e.l.length cap] 26 (0, 0)) from Array.getElem?_push_size)
  have OK := hide (okS_any e b cap _ (hr.later (unhide B0)) hz)
  rw [ho] at OK
  have WO := hide (fun wr (h : Below w.heap.size w wr) => worthS_all bs L vs hL hB hV 6 e ho b cap gb gn gv cb cn cv wr (hr.later h) (hev.later h))
  rw [hv] at WO
  unfold InR at WO
  simp only [Option.getD_some, Option.getD_none, Option.isSome_some, Option.isSome_none] at WO
  unfold Ex.cs at WO
  generalize hX : InR _ w = X
  have HX := hide hX
  unfold Ex.cs at OK ⊢
  clear hX hr hev hz ho EQ hv
  go_enter Tryd.func24, Tryd.ntmps24
  go_wp2_with fail
  generalize w.alloc (.cells #[.int .i64 e.k, .int .i64 e.n, .string e.s, .slice b e.l.length cap] 26) = W at *
  refine (unhide OK).mono ?_
  rintro r w1 ⟨rfl, hb1⟩
  have B1 := hide ((unhide B0).trans (hb1.mono (unhide B0).size))
  have R1 := hide (row_keep (unhide R0) hb1)
  clear hb1 B0 R0 OK
  have W1 := hide (unhide WO w1 (unhide B1))
  clear WO
  go_wp2_with (refine wpList_load_row rfl 26 _ rfl w.heap.size rfl 26 #[.int .i64 e.k, .int .i64 e.n, .string e.s, .slice b e.l.length cap] (0, 0) _ (unhide R1) Tryd.underlying26 rfl (by kernel_rfl) ?_)
  refine (unhide W1).mono ?_
  rintro r w2 ⟨rfl, hb2⟩
  have B2 := hide ((unhide B1).trans (hb2.mono (unhide B1).size))
  clear hb2 B1 R1 W1
  go_wp2
  rw [← unhide HX]
  exact ⟨rfl, unhide B2⟩
set_option maxHeartbeats 4000000 in
theorem worthA_y (bs : List Int) (L : List ByteArray) (vs : List Int) (hL : L.length ≤ 1100000) (hB : bs.length ≤ 1099511627776) (hV : vs.length ≤ 1099511627776) (e : Ex) (b : Option Addr) (cap gb gn gv cb cn cv : Nat) (w : World) (hr : RdX w 0 e b) (hev : Ev w gb gn gv bs L vs) (hz : e.sz ≤ 1048576) (ho : okF 6 false e = true) (v : Int) (hv : worthX (seW bs) (glW L vs) e = some v) : Calls Tryd.prog 24 #[.agg (e.cs b cap), .slice (some ⟨gb, 0, none⟩) bs.length cb, .slice (some ⟨gn, 0, none⟩) L.length cn, .slice (some ⟨gv, 0, none⟩) vs.length cv] w (InR (worthA bs L vs e) w) := by
  have EQ := hide (show worthA bs L vs e = some v by unfold worthA; rw [if_pos ho, hv])
  rw [unhide EQ]
  have B0 := hide (below_new w (.cells #[.int .i64 e.k, .int .i64 e.n, .string e.s, .slice b e.l.length cap] 26))
  have R0 := hide (show (w.alloc (.cells #[.int .i64 e.k, .int .i64 e.n, .string e.s, .slice b e.l.length cap] 26)).heap[w.heap.size]? = some (.cells #[.int .i64 e.k, .int .i64 e.n, .string e.s, .slice b e.l.length cap] 26 (0, 0)) from Array.getElem?_push_size)
  have OK := hide (okS_any e b cap _ (hr.later (unhide B0)) hz)
  rw [ho] at OK
  have WO := hide (fun wr (h : Below w.heap.size w wr) => worthS_all bs L vs hL hB hV 6 e ho b cap gb gn gv cb cn cv wr (hr.later h) (hev.later h))
  rw [hv] at WO
  unfold InR at WO
  simp only [Option.getD_some, Option.getD_none, Option.isSome_some, Option.isSome_none] at WO
  unfold Ex.cs at WO
  generalize hX : InR _ w = X
  have HX := hide hX
  unfold Ex.cs at OK ⊢
  clear hX hr hev hz ho EQ hv
  go_enter Tryd.func24, Tryd.ntmps24
  go_wp2_with fail
  generalize w.alloc (.cells #[.int .i64 e.k, .int .i64 e.n, .string e.s, .slice b e.l.length cap] 26) = W at *
  refine (unhide OK).mono ?_
  rintro r w1 ⟨rfl, hb1⟩
  have B1 := hide ((unhide B0).trans (hb1.mono (unhide B0).size))
  have R1 := hide (row_keep (unhide R0) hb1)
  clear hb1 B0 R0 OK
  have W1 := hide (unhide WO w1 (unhide B1))
  clear WO
  go_wp2_with (refine wpList_load_row rfl 26 _ rfl w.heap.size rfl 26 #[.int .i64 e.k, .int .i64 e.n, .string e.s, .slice b e.l.length cap] (0, 0) _ (unhide R1) Tryd.underlying26 rfl (by kernel_rfl) ?_)
  refine (unhide W1).mono ?_
  rintro r w2 ⟨rfl, hb2⟩
  have B2 := hide ((unhide B1).trans (hb2.mono (unhide B1).size))
  clear hb2 B1 R1 W1
  go_wp2
  rw [← unhide HX]
  exact ⟨rfl, unhide B2⟩
theorem worthA_any (bs : List Int) (L : List ByteArray) (vs : List Int) (hL : L.length ≤ 1100000) (hB : bs.length ≤ 1099511627776) (hV : vs.length ≤ 1099511627776) (e : Ex) (b : Option Addr) (cap gb gn gv cb cn cv : Nat) (w : World) (hr : RdX w 0 e b) (hev : Ev w gb gn gv bs L vs) (hz : e.sz ≤ 1048576) : Calls Tryd.prog 24 #[.agg (e.cs b cap), .slice (some ⟨gb, 0, none⟩) bs.length cb, .slice (some ⟨gn, 0, none⟩) L.length cn, .slice (some ⟨gv, 0, none⟩) vs.length cv] w (InR (worthA bs L vs e) w) := by
  cases ho : okF 6 false e with
  | false => exact worthA_no bs L vs hL hB hV e b cap gb gn gv cb cn cv w hr hev hz ho
  | true =>
    cases hv : worthX (seW bs) (glW L vs) e with
    | none => exact worthA_n bs L vs hL hB hV e b cap gb gn gv cb cn cv w hr hev hz ho hv
    | some v => exact worthA_y bs L vs hL hB hV e b cap gb gn gv cb cn cv w hr hev hz ho v hv
end Go.Proofs.YtkolflcjkofleaaDoor

namespace Go.Proofs.YtkolflcjkofleaaDoor
open Go.ChangeShapes Go.WideShapes Go.ChangeAt Go.RowKit
set_option linter.unusedVariables false
set_option maxRecDepth 8000
set_option linter.unusedSimpArgs false

set_option maxHeartbeats 4000000 in
theorem wj_neg (bs : List Int) (L : List ByteArray) (vs : List Int) (a : Ex) (iha : WoJ bs L vs a) (hi : ∀ v, worthX (seW bs) (glW L vs) a = some v → 0 ≤ v ∧ v ≤ 65535) : WoJ bs L vs ⟨4, 0, E0, [a]⟩ := by
  intro ab av cb cv m ps w hev hps
  rw [tv_neg, worth_neg]
  have IH := hide (fun wr (h : Ew wr ab m av bs ps vs) => iha ab av cb cv m ps wr h hps)
  unfold InR at IH
  obtain ⟨t, x, e1⟩ := tv_if a
  rw [e1] at IH ⊢
  have hi2 : 0 ≤ (worthX (seW bs) (glW L vs) a).getD 0 ∧ (worthX (seW bs) (glW L vs) a).getD 0 ≤ 65535 := by
    cases h : worthX (seW bs) (glW L vs) a with
    | none => simp
    | some v => exact hi v h
  have hO : wr (-((worthX (seW bs) (glW L vs) a).getD 0)) = ((worthX (seW bs) (glW L vs) a).map (fun v => wr (-v))).getD 0 ∧ (worthX (seW bs) (glW L vs) a).isSome = ((worthX (seW bs) (glW L vs) a).map (fun v => wr (-v))).isSome := by
    cases worthX (seW bs) (glW L vs) a with
    | none => exact ⟨rfl, rfl⟩
    | some v => exact ⟨rfl, rfl⟩
  have FN := hide (fun (r : Ending) (w' : World) (z : Int) (q : Bool) (ho : z = ((worthX (seW bs) (glW L vs) a).map (fun v => wr (-v))).getD 0 ∧ q = ((worthX (seW bs) (glW L vs) a).map (fun v => wr (-v))).isSome) (h : r = .returned (.tuple #[.int .i64 z, .bool q])) (hb : Below w.heap.size w w') => inR_end ho h hb)
  generalize InR ((worthX (seW bs) (glW L vs) a).map (fun v => wr (-v))) w = R at *
  have B0 := hide (below_new w (.cells #[.slice ab bs.length cb, .map (some m), .slice av vs.length cv] 74))
  have G0 := hide (show (w.alloc (.cells #[.slice ab bs.length cb, .map (some m), .slice av vs.length cv] 74)).heap[w.heap.size]? = some (.cells #[.slice ab bs.length cb, .map (some m), .slice av vs.length cv] 74 (0, 0)) from Array.getElem?_push_size)
  have V0 := hide (hev.later (unhide B0))
  have HO := hide hO
  clear hev hps hi iha hO e1
  generalize (Option.map (fun v => wr (-v)) (worthX (seW bs) (glW L vs) a)) = oo at *
  unfold wr at HO
  generalize (worthX (seW bs) (glW L vs) a).getD 0 = z at *
  generalize (worthX (seW bs) (glW L vs) a).isSome = q at *
  have t0 := taN_num 104 (.agg #[.iface t x]) (by decide)
  have t1 := taN_sect 104 (.agg #[.iface t x]) (by decide)
  have t2 := taN_glob 104 (.agg #[.iface t x]) (by decide)
  have t3 := taY_neg (.agg #[.iface t x])
  have T := hide (two_resG w (.cells #[.slice ab bs.length cb, .map (some m), .slice av vs.length cv] 74) (.cells #[.iface t x] 104))
  have V1 := hide ((unhide V0).later (below_new _ (.cells #[.iface t x] 104)))
  go_enter Tryd.func50, Tryd.ntmps50
  go_wp2_with (refine wpList_load_row rfl 74 _ rfl w.heap.size rfl 74 #[.slice ab bs.length cb, .map (some m), .slice av vs.length cv] (0, 0) _ ((unhide T).2.1) Tryd.underlying74 rfl (by kernel_rfl) ?_)
  generalize (w.alloc (.cells #[.slice ab bs.length cb, .map (some m), .slice av vs.length cv] 74)).alloc (.cells #[.iface t x] 104) = W at *
  refine (unhide IH _ (unhide V1)).mono ?_
  rintro r w1 ⟨rfl, hb1⟩
  have B1 := hide ((unhide T).1.trans (hb1.mono (unhide T).1.size))
  clear hb1 IH T V1 V0 G0 B0
  go_wp2_with (go_at_call 75; refine (wrapI_any _ _).mono ?_; rintro e w0 ⟨rfl, hw0⟩; rw [hw0]; clear hw0 w0)
  (first | (go_region_with (go_at_call 75; refine (wrapI_any _ _).mono ?_; rintro e w0 ⟨rfl, hw0⟩; rw [hw0]; clear hw0 w0); go_wp2) | skip)
  (first | go_ret2 | go_ret | skip)
  exact unhide FN _ _ _ _ (unhide HO) rfl (by first | exact unhide B1 | exact below_dr (unhide B1))
set_option maxHeartbeats 8000000 in
theorem wk_pair (bs vs : List Int) (T : TypeId) (k : Int) (t u : TypeId) (x y : Value) (me : ∀ w, (method 271 T (.agg #[.iface t x, .iface u y]) "loop.example/g00329/impl.parts").run Tryd.prog w = .ok (123, .agg #[.iface t x, .iface u y]) w) (kd : ∀ w, Calls Tryd.prog 71 #[.iface T (.agg #[.iface t x, .iface u y])] w fun r w' => r = .returned (.int .i64 k) ∧ w' = w) (oa ob o : Option Int) (ab av : Option Addr) (cb cv m : Nat) (ps : List (ByteArray × Nat)) (ha : ∀ wr, Ew wr ab m av bs ps vs → Calls Tryd.prog 50 #[.agg #[.slice ab bs.length cb, .map (some m), .slice av vs.length cv], .iface t x] wr (InR oa wr)) (hb : ∀ wr, Ew wr ab m av bs ps vs → Calls Tryd.prog 50 #[.agg #[.slice ab bs.length cb, .map (some m), .slice av vs.length cv], .iface u y] wr (InR ob wr)) (hn : (oa.isSome && ob.isSome) = false → o = none) (hy : ∀ p q, oa = some p → ob = some q → (∀ w, Calls Tryd.prog 88 #[.int .i64 k, .int .i64 p, .int .i64 q] w (InR o w))) (w : World) (hev : Ew w ab m av bs ps vs) : Calls Tryd.prog 76 #[.agg #[.slice ab bs.length cb, .map (some m), .slice av vs.length cv], .iface T (.agg #[.iface t x, .iface u y])] w (InR o w) := by
  have FN := hide (fun (r : Ending) (w' : World) (z : Int) (q : Bool) (ho : z = (o).getD 0 ∧ q = (o).isSome) (h : r = .returned (.tuple #[.int .i64 z, .bool q])) (hb : Below w.heap.size w w') => inR_end ho h hb)
  generalize InR (o) w = R at *
  have B0 := hide (below_new w (.cells #[.slice ab bs.length cb, .map (some m), .slice av vs.length cv] 74))
  have G0 := hide (show (w.alloc (.cells #[.slice ab bs.length cb, .map (some m), .slice av vs.length cv] 74)).heap[w.heap.size]? = some (.cells #[.slice ab bs.length cb, .map (some m), .slice av vs.length cv] 74 (0, 0)) from Array.getElem?_push_size)
  have V0 := hide (hev.later (unhide B0))
  have HA := hide ha
  have HB := hide hb
  unfold InR at HA HB
  have P0 := hide (parts2 t u x y (w.alloc (.cells #[.slice ab bs.length cb, .map (some m), .slice av vs.length cv] 74)))
  have HN := hide hn
  have HY := hide hy
  unfold InR at HY
  have KD := hide kd
  clear hev ha hb hn hy kd
  go_enter Tryd.func76, Tryd.ntmps76
  go_wp2_with fail
  generalize w.alloc (.cells #[.slice ab bs.length cb, .map (some m), .slice av vs.length cv] 74) = W at *
  refine (unhide P0).mono ?_
  rintro r w1 ⟨g, rfl, hg, hb1⟩
  have B1 := hide ((unhide B0).trans (hb1.mono (unhide B0).size))
  have G1 := hide (row_keep (unhide G0) hb1)
  have V1 := hide ((unhide V0).later hb1)
  have L1 := hide hg
  clear hb1 hg B0 G0 V0 P0
  go_wp2_with fail
  have ya : ∀ y : Sub w1.heap.size w1, y.w.cell? ⟨w.heap.size, 0, none⟩ = some (.slice ab bs.length cb) := fun y => (y.h.cell (p := ⟨w.heap.size, 0, none⟩) (Array.getElem?_eq_some_iff.1 (unhide G1)).1).trans (Lib.cell_of_heap (unhide G1) 0)
  have yb : ∀ y : Sub w1.heap.size w1, y.w.cell? ⟨w.heap.size, 1, none⟩ = some (.map (some m)) := fun y => (y.h.cell (p := ⟨w.heap.size, 1, none⟩) (Array.getElem?_eq_some_iff.1 (unhide G1)).1).trans (Lib.cell_of_heap (unhide G1) 1)
  have yc : ∀ y : Sub w1.heap.size w1, y.w.cell? ⟨w.heap.size, 2, none⟩ = some (.slice av vs.length cv) := fun y => (y.h.cell (p := ⟨w.heap.size, 2, none⟩) (Array.getElem?_eq_some_iff.1 (unhide G1)).1).trans (Lib.cell_of_heap (unhide G1) 2)
  have yd : ∀ z : Sub w1.heap.size w1, z.w.cell? ⟨g, 0, none⟩ = some (.iface t x) := fun z => (z.h.cell (p := ⟨g, 0, none⟩) (Array.getElem?_eq_some_iff.1 (unhide L1)).1).trans (Lib.cell_of_heap (unhide L1) 0)
  have ne := Sub.ne w1.heap.size w1
  have HZ := hide (Nat.le_refl w1.heap.size)
  have CA := hide (fun y : Sub w1.heap.size w1 => unhide HA y.w ((unhide V1).later y.h))
  refine wp_region_sub (⟨w1, Below.refl _ _⟩ : Sub w1.heap.size w1) (by kernel_rfl) (by kernel_rfl) ?_
  (repeat (go_big_quiet_step (first | (go_at_call 50; exact Sub.call (unhide HZ) (unhide CA _)))))
  refine wpQuiet_nil ?_
  rintro ⟨w2, hb2⟩
  simp only
  have B2 := hide ((unhide B1).trans (hb2.mono (unhide B1).size))
  have G2 := hide (row_keep (unhide G1) hb2)
  have V2 := hide ((unhide V1).later hb2)
  have L2 := hide (row_keep (unhide L1) hb2)
  clear hb2 ya yb yc yd ne HZ CA B1 G1 V1 L1
  go_wp2_with fail
  have ya : ∀ y : Sub w2.heap.size w2, y.w.cell? ⟨w.heap.size, 0, none⟩ = some (.slice ab bs.length cb) := fun y => (y.h.cell (p := ⟨w.heap.size, 0, none⟩) (Array.getElem?_eq_some_iff.1 (unhide G2)).1).trans (Lib.cell_of_heap (unhide G2) 0)
  have yb : ∀ y : Sub w2.heap.size w2, y.w.cell? ⟨w.heap.size, 1, none⟩ = some (.map (some m)) := fun y => (y.h.cell (p := ⟨w.heap.size, 1, none⟩) (Array.getElem?_eq_some_iff.1 (unhide G2)).1).trans (Lib.cell_of_heap (unhide G2) 1)
  have yc : ∀ y : Sub w2.heap.size w2, y.w.cell? ⟨w.heap.size, 2, none⟩ = some (.slice av vs.length cv) := fun y => (y.h.cell (p := ⟨w.heap.size, 2, none⟩) (Array.getElem?_eq_some_iff.1 (unhide G2)).1).trans (Lib.cell_of_heap (unhide G2) 2)
  have yd : ∀ z : Sub w2.heap.size w2, z.w.cell? ⟨g, 1, none⟩ = some (.iface u y) := fun z => (z.h.cell (p := ⟨g, 1, none⟩) (Array.getElem?_eq_some_iff.1 (unhide L2)).1).trans (Lib.cell_of_heap (unhide L2) 1)
  have ne := Sub.ne w2.heap.size w2
  have HZ := hide (Nat.le_refl w2.heap.size)
  have CA := hide (fun y : Sub w2.heap.size w2 => unhide HB y.w ((unhide V2).later y.h))
  refine wp_region_sub (⟨w2, Below.refl _ _⟩ : Sub w2.heap.size w2) (by kernel_rfl) (by kernel_rfl) ?_
  (repeat (go_big_quiet_step (first | (go_at_call 50; exact Sub.call (unhide HZ) (unhide CA _)))))
  refine wpQuiet_nil ?_
  rintro ⟨w3, hb3⟩
  simp only
  have B3 := hide ((unhide B2).trans (hb3.mono (unhide B2).size))
  have G3 := hide (row_keep (unhide G2) hb3)
  have V3 := hide ((unhide V2).later hb3)
  have L3 := hide (row_keep (unhide L2) hb3)
  clear hb3 ya yb yc yd ne HZ CA B2 G2 V2 L2
  cases oa with
  | none =>
    have E := unhide HN rfl
    subst E
    simp only [Option.getD_none, Option.isSome_none]
    clear HY HN
    generalize ob.getD 0 = zb
    generalize ob.isSome = qb
    cases qb <;> (go_wp2; (first | go_ret2 | go_ret | skip); exact unhide FN _ _ _ _ ⟨rfl, rfl⟩ rfl (unhide B3))
  | some p =>
    cases ob with
    | none =>
      have E := unhide HN rfl
      subst E
      simp only [Option.getD_none, Option.isSome_none, Option.getD_some, Option.isSome_some]
      clear HY HN
      go_wp2
      (first | go_ret2 | go_ret | skip)
      exact unhide FN _ _ _ _ ⟨rfl, rfl⟩ rfl (unhide B3)
    | some q =>
      have TW := hide (unhide HY p q rfl rfl)
      simp only [Option.getD_some, Option.isSome_some]
      clear HY HN
      go_wp2_with (go_at_call 71; refine (unhide KD _).mono ?_; rintro e w0 ⟨rfl, hw0⟩; rw [hw0]; clear hw0 w0)
      refine (unhide TW _).mono ?_
      rintro r w4 ⟨rfl, hb4⟩
      have B4 := hide ((unhide B3).trans (hb4.mono (unhide B3).size))
      clear hb4
      go_wp2
      (first | go_ret2 | go_ret | skip)
      exact unhide FN _ _ _ _ ⟨rfl, rfl⟩ rfl (unhide B4)
set_option maxHeartbeats 4000000 in
theorem wj_pair (bs vs : List Int) (T : TypeId) (X : Value) (n0 : T ≠ 88) (n1 : T ≠ 115) (n2 : T ≠ 118) (n3 : T ≠ 104) (o : Option Int) (ab av : Option Addr) (cb cv m : Nat) (ps : List (ByteArray × Nat)) (hk : ∀ wr, Ew wr ab m av bs ps vs → Calls Tryd.prog 76 #[.agg #[.slice ab bs.length cb, .map (some m), .slice av vs.length cv], .iface T X] wr (InR o wr)) (w : World) (hev : Ew w ab m av bs ps vs) : Calls Tryd.prog 50 #[.agg #[.slice ab bs.length cb, .map (some m), .slice av vs.length cv], .iface T X] w (InR o w) := by
  have FN := hide (fun (r : Ending) (w' : World) (z : Int) (q : Bool) (ho : z = (o).getD 0 ∧ q = (o).isSome) (h : r = .returned (.tuple #[.int .i64 z, .bool q])) (hb : Below w.heap.size w w') => inR_end ho h hb)
  generalize InR (o) w = R at *
  have B0 := hide (below_new w (.cells #[.slice ab bs.length cb, .map (some m), .slice av vs.length cv] 74))
  have G0 := hide (show (w.alloc (.cells #[.slice ab bs.length cb, .map (some m), .slice av vs.length cv] 74)).heap[w.heap.size]? = some (.cells #[.slice ab bs.length cb, .map (some m), .slice av vs.length cv] 74 (0, 0)) from Array.getElem?_push_size)
  have V0 := hide (hev.later (unhide B0))
  have t0 := taN_num T X n0
  have t1 := taN_sect T X n1
  have t2 := taN_glob T X n2
  have t3 := taN_neg T X n3
  have WK := hide hk
  unfold InR at WK
  clear hk hev n0 n1 n2 n3
  go_enter Tryd.func50, Tryd.ntmps50
  go_wp2_with (refine wpList_load_row rfl 74 _ rfl w.heap.size rfl 74 #[.slice ab bs.length cb, .map (some m), .slice av vs.length cv] (0, 0) _ (unhide G0) Tryd.underlying74 rfl (by kernel_rfl) ?_)
  generalize w.alloc (.cells #[.slice ab bs.length cb, .map (some m), .slice av vs.length cv] 74) = W at *
  refine (unhide WK _ (unhide V0)).mono ?_
  rintro r w1 ⟨rfl, hb1⟩
  have B1 := hide ((unhide B0).trans (hb1.mono (unhide B0).size))
  clear hb1 WK
  go_wp2
  (first | go_ret2 | go_ret | skip)
  exact unhide FN _ _ _ _ ⟨rfl, rfl⟩ rfl (unhide B1)
set_option maxHeartbeats 1000000 in
theorem wj_all (bs : List Int) (L : List ByteArray) (vs : List Int) (hB : bs.length ≤ 1099511627776) (hV : vs.length ≤ 1099511627776) (hL : L.length ≤ 1099511627776) : ∀ (d : Nat) (e : Ex), okF d false e = true → WoJ bs L vs e := by
  intro d
  induction d with
  | zero => intro e h; cases h
  | succ d ih =>
    intro e h
    rcases ok_cases h with ⟨n, hn, rfl⟩ | ⟨s, hs, rfl⟩ | rfl | ⟨a, ha, rfl⟩ | ⟨k, a, b, hk, ha, hb, rfl⟩ | ⟨n, hn, rfl⟩ | ⟨s, hs, rfl⟩
    · exact wj_num bs L vs hB hV hL n
    · exact wj_sym bs L vs hB hV hL s
    · exact wj_here bs L vs hB hV hL
    · exact wj_neg bs L vs a (ih a ha) (fun v hv => worth_in (seW_in bs) (glW_in L vs) d a v ha hv)
    · intro ab av cb cv m ps w hev hps
      have iha := fun wr (h : Ew wr ab m av bs ps vs) => ih a ha ab av cb cv m ps wr h hps
      have ihb := fun wr (h : Ew wr ab m av bs ps vs) => ih b hb ab av cb cv m ps wr h hps
      obtain ⟨t, x, e1⟩ := tv_if a
      obtain ⟨u, y, e2⟩ := tv_if b
      rw [e1] at iha
      rw [e2] at ihb
      have hn : ((worthX (seW bs) (glW L vs) a).isSome && (worthX (seW bs) (glW L vs) b).isSome) = false → worthX (seW bs) (glW L vs) ⟨k, 0, E0, [a, b]⟩ = none := fun h => by
        rw [worth_two]
        cases h1 : worthX (seW bs) (glW L vs) a with
        | none => rfl
        | some p =>
          cases h2 : worthX (seW bs) (glW L vs) b with
          | none => rfl
          | some q => rw [h1, h2] at h; cases h
      have hy : ∀ p q, worthX (seW bs) (glW L vs) a = some p → worthX (seW bs) (glW L vs) b = some q → (∀ w, Calls Tryd.prog 88 #[.int .i64 k, .int .i64 p, .int .i64 q] w (InR (worthX (seW bs) (glW L vs) ⟨k, 0, E0, [a, b]⟩) w)) := fun p q h1 h2 w => by
        rw [worth_two, h1, h2]
        refine (twoI_any k p q hk (worth_in (seW_in bs) (glW_in L vs) d a p ha h1) (worth_in (seW_in bs) (glW_in L vs) d b q hb h2) w).mono (fun r w' ⟨h3, h4⟩ => ⟨h4, by rw [h3]; exact Below.refl _ _⟩)
      rw [tv_two hk, e1, e2]
      generalize worthX (seW bs) (glW L vs) ⟨k, 0, E0, [a, b]⟩ = o at *
      generalize worthX (seW bs) (glW L vs) a = oa at *
      generalize worthX (seW bs) (glW L vs) b = ob at *
      clear ih ha hb h e1 e2
      have : k = 5 ∨ k = 6 ∨ k = 7 ∨ k = 8 ∨ k = 9 ∨ k = 10 := by omega
      rcases this with rfl | rfl | rfl | rfl | rfl | rfl
      · exact wj_pair bs vs 134 _ (by decide) (by decide) (by decide) (by decide) _ ab av cb cv m ps (fun wr h => wk_pair bs vs 134 5 t u x y (me_add (.iface t x) (.iface u y)) (fun w => kind_add 0 E0 t u x y w) _ _ _ ab av cb cv m ps iha ihb hn hy wr h) w hev
      · exact wj_pair bs vs 135 _ (by decide) (by decide) (by decide) (by decide) _ ab av cb cv m ps (fun wr h => wk_pair bs vs 135 6 t u x y (me_sub (.iface t x) (.iface u y)) (fun w => kind_sub 0 E0 t u x y w) _ _ _ ab av cb cv m ps iha ihb hn hy wr h) w hev
      · exact wj_pair bs vs 136 _ (by decide) (by decide) (by decide) (by decide) _ ab av cb cv m ps (fun wr h => wk_pair bs vs 136 7 t u x y (me_mul (.iface t x) (.iface u y)) (fun w => kind_mul 0 E0 t u x y w) _ _ _ ab av cb cv m ps iha ihb hn hy wr h) w hev
      · exact wj_pair bs vs 137 _ (by decide) (by decide) (by decide) (by decide) _ ab av cb cv m ps (fun wr h => wk_pair bs vs 137 8 t u x y (me_div (.iface t x) (.iface u y)) (fun w => kind_div 0 E0 t u x y w) _ _ _ ab av cb cv m ps iha ihb hn hy wr h) w hev
      · exact wj_pair bs vs 138 _ (by decide) (by decide) (by decide) (by decide) _ ab av cb cv m ps (fun wr h => wk_pair bs vs 138 9 t u x y (me_and (.iface t x) (.iface u y)) (fun w => kind_and 0 E0 t u x y w) _ _ _ ab av cb cv m ps iha ihb hn hy wr h) w hev
      · exact wj_pair bs vs 139 _ (by decide) (by decide) (by decide) (by decide) _ ab av cb cv m ps (fun wr h => wk_pair bs vs 139 10 t u x y (me_or (.iface t x) (.iface u y)) (fun w => kind_or 0 E0 t u x y w) _ _ _ ab av cb cv m ps iha ihb hn hy wr h) w hev
    · obtain ⟨j, rfl⟩ := Int.eq_ofNat_of_zero_le hn.1
      exact wj_sect bs L vs hB hV hL j (by have := hn.2; omega)
    · cases hp : plS L s with
      | none => exact wj_globn bs L vs hB hV hL s hp
      | some i => exact wj_globy bs L vs hB hV hL s i hp
end Go.Proofs.YtkolflcjkofleaaDoor

namespace Go.Proofs.YtkolflcjkofleaaDoor
open Go.ChangeShapes Go.WideShapes Go.ChangeAt Go.RowKit
set_option linter.unusedVariables false
set_option maxRecDepth 8000
set_option linter.unusedSimpArgs false

set_option maxHeartbeats 4000000 in
theorem worthI_no (bs : List Int) (L : List ByteArray) (vs : List Int) (hB : bs.length ≤ 1099511627776) (hV : vs.length ≤ 1099511627776) (hL : L.length ≤ 1099511627776) (e : Ex) (b : Option Addr) (cap : Nat) (ab an av : Option Addr) (cb cn cv : Nat) (w : World) (hr : RdX w 0 e b) (hz : e.sz ≤ 1048576) (ht : TabK w) (rb : RdN w ab bs) (rn : RdU w an L) (rv : RdN w av vs) (ho : okF 6 false e = false) : Calls Tryd.prog 14 #[.agg (e.cs b cap), .slice ab bs.length cb, .slice an L.length cn, .slice av vs.length cv] w (InR none w) := by
  have FN := hide (fun (r : Ending) (w' : World) (h : r = .returned (.tuple #[.int .i64 0, .bool false])) (hb : Below w.heap.size w w') => inR_end (o := none) ⟨rfl, rfl⟩ h hb)
  generalize InR none w = R at *
  have B0 := hide (below_new w (.cells #[.int .i64 e.k, .int .i64 e.n, .string e.s, .slice b e.l.length cap] 26))
  have G0 := hide (show (w.alloc (.cells #[.int .i64 e.k, .int .i64 e.n, .string e.s, .slice b e.l.length cap] 26)).heap[w.heap.size]? = some (.cells #[.int .i64 e.k, .int .i64 e.n, .string e.s, .slice b e.l.length cap] 26 (0, 0)) from Array.getElem?_push_size)
  have TM := hide (term_all 6 (by omega) e b cap _ (hr.later (unhide B0)) hz (ht.next (unhide B0)))
  unfold TermR at TM
  rw [ho] at TM
  unfold Ex.cs at TM ⊢
  clear hr hz ht ho rb rn rv
  go_enter Tryd.func14, Tryd.ntmps14
  go_wp2_with (refine wpList_load_row rfl 26 _ rfl w.heap.size rfl 26 #[.int .i64 e.k, .int .i64 e.n, .string e.s, .slice b e.l.length cap] (0, 0) _ (unhide G0) Tryd.underlying26 rfl (by kernel_rfl) ?_)
  generalize w.alloc (.cells #[.int .i64 e.k, .int .i64 e.n, .string e.s, .slice b e.l.length cap] 26) = W at *
  refine (unhide TM).mono ?_
  rintro r w1 ⟨v, rfl, _, hb1⟩
  have B1 := hide ((unhide B0).trans (hb1.mono (unhide B0).size))
  clear hb1
  go_wp2
  (first | go_ret2 | go_ret | skip)
  exact unhide FN _ _ rfl (unhide B1)
set_option maxHeartbeats 8000000 in
theorem worthI_yes (bs : List Int) (L : List ByteArray) (vs : List Int) (hB : bs.length ≤ 1099511627776) (hV : vs.length ≤ 1099511627776) (hL : L.length ≤ 1099511627776) (e : Ex) (b : Option Addr) (cap : Nat) (ab an av : Option Addr) (cb cn cv : Nat) (w : World) (hr : RdX w 0 e b) (hz : e.sz ≤ 1048576) (ht : TabK w) (rb : RdN w ab bs) (rn : RdU w an L) (rv : RdN w av vs) (ho : okF 6 false e = true) : Calls Tryd.prog 14 #[.agg (e.cs b cap), .slice ab bs.length cb, .slice an L.length cn, .slice av vs.length cv] w (InR (worthX (seW bs) (glW L vs) e) w) := by
  have FN := hide (fun (r : Ending) (w' : World) (z : Int) (q : Bool) (hq : z = (worthX (seW bs) (glW L vs) e).getD 0 ∧ q = (worthX (seW bs) (glW L vs) e).isSome) (h : r = .returned (.tuple #[.int .i64 z, .bool q])) (hb : Below w.heap.size w w') => inR_end hq h hb)
  have WJ := hide (fun (m : Nat) (ps : List (ByteArray × Nat)) (wr : World) (h : Ew wr ab m av bs ps vs) (hp : ∀ s, lkS ps s = plS L s) => wj_all bs L vs hB hV hL 6 e ho ab av cb cv m ps wr h hp)
  generalize InR (worthX (seW bs) (glW L vs) e) w = R at *
  unfold InR at WJ
  obtain ⟨te, xe, ee⟩ := tv_if e
  rw [ee] at WJ
  generalize worthX (seW bs) (glW L vs) e = o at *
  have B0 := hide (below_new w (.cells #[.int .i64 e.k, .int .i64 e.n, .string e.s, .slice b e.l.length cap] 26))
  have G0 := hide (show (w.alloc (.cells #[.int .i64 e.k, .int .i64 e.n, .string e.s, .slice b e.l.length cap] 26)).heap[w.heap.size]? = some (.cells #[.int .i64 e.k, .int .i64 e.n, .string e.s, .slice b e.l.length cap] 26 (0, 0)) from Array.getElem?_push_size)
  have TM := hide (term_all 6 (by omega) e b cap _ (hr.later (unhide B0)) hz (ht.next (unhide B0)))
  unfold TermR at TM
  rw [ho, ee] at TM
  simp only [forall_const] at TM
  have PL := hide (fun wr (h : Below w.heap.size w wr) => places_any an L.length cn L wr rfl hL (rn.later h))
  have RB := hide (fun wr (h : Below w.heap.size w wr) => rb.later h)
  have RV := hide (fun wr (h : Below w.heap.size w wr) => rv.later h)
  unfold Ex.cs at TM ⊢
  clear hr hz ht ho ee rb rn rv
  go_enter Tryd.func14, Tryd.ntmps14
  go_wp2_with (refine wpList_load_row rfl 26 _ rfl w.heap.size rfl 26 #[.int .i64 e.k, .int .i64 e.n, .string e.s, .slice b e.l.length cap] (0, 0) _ (unhide G0) Tryd.underlying26 rfl (by kernel_rfl) ?_)
  generalize w.alloc (.cells #[.int .i64 e.k, .int .i64 e.n, .string e.s, .slice b e.l.length cap] 26) = W at *
  refine (unhide TM).mono ?_
  rintro r w1 ⟨v, rfl, rfl, hb1⟩
  have B1 := hide ((unhide B0).trans (hb1.mono (unhide B0).size))
  clear hb1 TM B0 G0
  have P1 := hide (unhide PL w1 (unhide B1))
  go_wp2_with (go_at_call 49; refine (unhide P1).mono ?_; rintro r w2 ⟨pb, ps, rfl, hmp, hps, hge, hb2⟩; have B2 := hide ((unhide B1).trans (hb2.mono (unhide B1).size)); have W2 := hide (unhide WJ pb ps w2 ⟨unhide RB _ (unhide B2), hmp, unhide RV _ (unhide B2)⟩ hps); clear hmp hps hge hb2)
  refine (unhide W2).mono ?_
  rintro r w3 ⟨rfl, hb3⟩
  have B3 := hide ((unhide B2).trans (hb3.mono (unhide B2).size))
  clear hb3
  go_wp2
  (first | go_ret2 | go_ret | skip)
  exact unhide FN _ _ _ _ ⟨rfl, rfl⟩ rfl (unhide B3)
theorem worthI_any (bs : List Int) (L : List ByteArray) (vs : List Int) (hB : bs.length ≤ 1099511627776) (hV : vs.length ≤ 1099511627776) (hL : L.length ≤ 1099511627776) (e : Ex) (b : Option Addr) (cap : Nat) (ab an av : Option Addr) (cb cn cv : Nat) (w : World) (hr : RdX w 0 e b) (hz : e.sz ≤ 1048576) (ht : TabK w) (rb : RdN w ab bs) (rn : RdU w an L) (rv : RdN w av vs) : Calls Tryd.prog 14 #[.agg (e.cs b cap), .slice ab bs.length cb, .slice an L.length cn, .slice av vs.length cv] w (InR (worthA bs L vs e) w) := by
  unfold worthA
  cases ho : okF 6 false e with
  | false => rw [if_neg (by decide)]; exact worthI_no bs L vs hB hV hL e b cap ab an av cb cn cv w hr hz ht rb rn rv ho
  | true => rw [if_pos rfl]; exact worthI_yes bs L vs hB hV hL e b cap ab an av cb cn cv w hr hz ht rb rn rv ho
end Go.Proofs.YtkolflcjkofleaaDoor

namespace Go.Proofs.YtkolflcjkofleaaDoor
open Go.ChangeShapes Go.WideShapes Go.ChangeAt Go.RowKit
set_option linter.unusedVariables false
set_option maxRecDepth 8000

set_option maxHeartbeats 1000000 in
theorem toXS_of (e : Ex) (ih : ∀ i, i < e.l.length → ToP (xAt e.l i)) (b : Option Addr) (cap : Nat) (w : World) (hr : RdX w 0 e b) (hz : e.sz ≤ 1048576) : Calls Tryd.prog 34 #[.slice b e.l.length cap] w fun r w' => r = .returned (.slice (some ⟨w.heap.size, 0, none⟩) e.l.length e.l.length) ∧ NewX w' w.heap.size e (some ⟨w.heap.size, 0, none⟩) ∧ Below w.heap.size w w' := by
  have hsz := sz_is e
  have RD := hide (fun (w' : World) (M : Nat) (h : DoneX w' w.heap.size e.l e.l.length e.l.length e.l.length M) => DoneX.new h)
  rw [RdX_eq] at hr
  have hp : ∀ i, i < e.l.length → (xAt e.l i).sz ≤ 1048576 := fun i hi => by have := sz_part hi; omega
  have hm : e.l.length ≤ 1048576 := by omega
  clear hsz hz
  generalize hR : (fun w' => NewX w' w.heap.size e (some ⟨w.heap.size, 0, none⟩)) = R
  have hR' : ∀ w', NewX w' w.heap.size e (some ⟨w.heap.size, 0, none⟩) = R w' := fun w' => congrFun hR w'
  simp only [hR'] at RD ⊢
  clear hR hR'
  generalize e.l = l at *
  obtain ⟨len, hl⟩ : ∃ len, l.length = len := ⟨_, rfl⟩
  rw [hl] at hm ih hr hp RD ⊢
  obtain ⟨i0, hi, hz0, hz1, hz2⟩ := info_parts infoX
  obtain ⟨w1, hmk, hown, hgr⟩ := run_make_full (P := Tryd.prog) w w.heap.size 24 26 i0 _ 4 Tryd.underlying24 hi hz0 hz1 .i64 .i64 len (by rw [hz2]; omega) (by unfold maxLen; omega) (Nat.le_refl _)
  have O0 := hide (show DoneX w1 w.heap.size l len len 0 w1.heap.size from ⟨_, [], hown, rfl, List.nodup_nil, (fun b hb => by simp at hb), (fun i hi => by omega)⟩)
  have B0 := hide ((Below.refl w.heap.size w).grown hgr (Nat.le_refl _) (fun k h => by cases h))
  have G0 := hide (World.ownsRow.lt hown w.heap.size rfl).2
  clear hown hgr
  go_enter Tryd.func34, Tryd.ntmps34
  go_wp2
  clear hmk
  go_loopw [4] (fun i wr => ∃ k : Nat, k ≤ len ∧ i = .int .i64 k ∧ DoneX wr w.heap.size l len len k wr.heap.size ∧ w.heap.size < wr.heap.size ∧ Below w.heap.size w wr) (fun i _ => len - (intOf i).toNat)
  case atStart => exact ⟨0, Nat.zero_le _, rfl, unhide O0, unhide G0, unhide B0⟩
  case round =>
    clear O0 B0 G0
    obtain ⟨k, hk, rfl, ho, hgl, hb⟩ := hrel
    by_cases hlt : k < len
    · rcases hr with h0 | ⟨b, off, rfl, _, hbl, hc⟩
      · rw [h0] at hl; simp at hl; omega
      obtain ⟨c0, c1, c2, c, cap', c3, c4⟩ := hc k (by omega)
      have d0 : wr.cell? ⟨b, off + k * 4, none⟩ = _ := (hb.cell (p := ⟨b, _, none⟩) hbl).trans c0
      have d1 : wr.cell? ⟨b, off + k * 4 + 1, none⟩ = _ := (hb.cell (p := ⟨b, _, none⟩) hbl).trans c1
      have d2 : wr.cell? ⟨b, off + k * 4 + 2, none⟩ = _ := (hb.cell (p := ⟨b, _, none⟩) hbl).trans c2
      have d3 : wr.cell? ⟨b, off + k * 4 + 3, none⟩ = _ := (hb.cell (p := ⟨b, _, none⟩) hbl).trans c3
      have HT := hide (ih k hlt c cap' wr (c4.later hb) (hp k hlt))
      have PT := hide (fun (w2 : World) (hz2 : wr.heap.size ≤ w2.heap.size) (h : DoneX w2 w.heap.size l len len k wr.heap.size) (q : Option Addr) (cp : Nat) (hq : NewX w2 wr.heap.size (xAt l k) q) => h.put hlt hgl hz2 q cp hq (Nat.le_refl _))
      have O1 := hide ho
      have B1 := hide hb
      have ZB := hide hb.size
      have GL := hide hgl
      clear c0 c1 c2 c3 c4 hc ho hb hgl
      unfold Ex.cs at HT
      generalize (xAt l k).s = ss at d2 HT PT
      generalize (xAt l k).k = kk at d0 HT PT
      generalize (xAt l k).n = nn at d1 HT PT
      generalize (xAt l k).l.length = ll at d3 HT PT
      go_wp2_with fail
      refine (unhide HT).mono ?_
      rintro e w2 ⟨q, cq, rfl, hq, hb2⟩
      have O2 := hide ((unhide O1).later hb2)
      have B2 := hide ((unhide B1).trans (hb2.mono (unhide ZB)))
      have G2 := hide (Nat.lt_of_lt_of_le (unhide GL) hb2.size)
      have PP := hide (unhide PT w2 hb2.size (unhide O2) q cq hq)
      obtain ⟨cs, _, own2, _⟩ := unhide O2
      have hcl : cs.length = len * 4 := own2.1
      obtain ⟨v0, e0⟩ : ∃ v, cs[k * 4]? = some v := ⟨_, List.getElem?_eq_getElem (by omega)⟩
      obtain ⟨v1, e1⟩ : ∃ v, cs[k * 4 + 1]? = some v := ⟨_, List.getElem?_eq_getElem (by omega)⟩
      obtain ⟨v2, e2⟩ : ∃ v, cs[k * 4 + 2]? = some v := ⟨_, List.getElem?_eq_getElem (by omega)⟩
      obtain ⟨v3, e3⟩ : ∃ v, cs[k * 4 + 3]? = some v := ⟨_, List.getElem?_eq_getElem (by omega)⟩
      have c0 := (World.ownsRow.cellAt own2 (k * 4) (by omega)).trans e0
      have c1 := (World.ownsRow.cellAt own2 (k * 4 + 1) (by omega)).trans e1
      have c2 := (World.ownsRow.cellAt own2 (k * 4 + 2) (by omega)).trans e2
      have c3 := (World.ownsRow.cellAt own2 (k * 4 + 3) (by omega)).trans e3
      have f0 := World.ownsRow.frozenAt own2 (k * 4)
      have f1 := World.ownsRow.frozenAt own2 (k * 4 + 1)
      have f2 := World.ownsRow.frozenAt own2 (k * 4 + 2)
      have f3 := World.ownsRow.frozenAt own2 (k * 4 + 3)
      clear own2 hb2 O1 B1 HT PT O2 d0 d1 d2 d3 e0 e1 e2 e3 hq hcl
      go_wp2
      go_roundw
      case rel => exact ⟨k + 1, by omega, by go_num, by simpa using unhide PP, by simpa using unhide G2, ((((unhide B2).setCell (p := ⟨w.heap.size, _, none⟩) (Nat.le_refl _) _).setCell (p := ⟨w.heap.size, _, none⟩) (Nat.le_refl _) _).setCell (p := ⟨w.heap.size, _, none⟩) (Nat.le_refl _) _).setCell (p := ⟨w.heap.size, _, none⟩) (Nat.le_refl _) _⟩
      case measure => simp [intOf]; omega
    · obtain rfl : k = len := by omega
      have R1 := hide (unhide RD wr _ ho)
      clear ho
      go_wp2
      go_ret
      exact ⟨rfl, unhide R1, hb⟩
end Go.Proofs.YtkolflcjkofleaaDoor

namespace Go.Proofs.YtkolflcjkofleaaDoor
open Go.ChangeShapes Go.WideShapes Go.ChangeAt Go.RowKit
set_option linter.unusedVariables false
set_option maxRecDepth 8000
theorem three_new (w : World) (o1 o2 o3 : Obj) : Below w.heap.size w (((w.alloc o1).alloc o2).alloc o3) ∧ (((w.alloc o1).alloc o2).alloc o3).heap[w.heap.size + 1]? = some o2 ∧ (((w.alloc o1).alloc o2).alloc o3).heap[w.heap.size + 1 + 1]? = some o3 := by
  have h1 : (w.alloc o1).heap.size = w.heap.size + 1 := by simp
  have h2 : ((w.alloc o1).alloc o2).heap.size = w.heap.size + 1 + 1 := by simp
  have p2 : ((w.alloc o1).alloc o2).heap[w.heap.size + 1]? = some o2 := by rw [← h1]; exact Array.getElem?_push_size
  refine ⟨(((Below.refl _ _).alloc (Nat.le_refl _) _).alloc (by simp) _).alloc (by simp; omega) _, ?_, ?_⟩
  · exact ((Below.refl ((w.alloc o1).alloc o2).heap.size _).alloc (Nat.le_refl _) o3).block _ (by simp) |>.trans p2
  · rw [← h2]; exact Array.getElem?_push_size
theorem row4_set {w : World} {g : Nat} {u0 u1 u2 u3 : Value} {t : TypeId} (h : w.heap[g]? = some (.cells #[u0, u1, u2, u3] t (0, 0))) (v0 v1 v2 v3 : Value) : ((((w.setCell ⟨g, 0, none⟩ v0).setCell ⟨g, 1, none⟩ v1).setCell ⟨g, 2, none⟩ v2).setCell ⟨g, 3, none⟩ v3).heap[g]? = some (.cells #[v0, v1, v2, v3] t (0, 0)) :=
  heap_setCell_same _ g 3 _ t v3 (heap_setCell_same _ g 2 _ t v2 (heap_setCell_same _ g 1 _ t v1 (heap_setCell_same _ g 0 _ t v0 h)))
set_option maxHeartbeats 1000000 in
theorem toX_any (e : Ex) : ToP e := by
  induction e using Ex.ind with
  | h k n s l ih =>
    intro b cap w hr hz
    have e2 : (Ex.mk k n s l).l = l := rfl
    obtain ⟨W, hW⟩ : ∃ W, ((w.alloc (.cells #[.int .i64 k, .int .i64 n, .string s, .slice b l.length cap] 44)).alloc (.cells #[.int .i64 0, .int .i64 0, .string ⟨#[]⟩, .slice none 0 0] 26)).alloc (.cells #[.int .i64 k, .int .i64 n, .string s, .slice none 0 0] 26) = W := ⟨_, rfl⟩
    obtain ⟨hb, hg1, hg2⟩ := three_new w (.cells #[.int .i64 k, .int .i64 n, .string s, .slice b l.length cap] 44) (.cells #[.int .i64 0, .int .i64 0, .string ⟨#[]⟩, .slice none 0 0] 26) (.cells #[.int .i64 k, .int .i64 n, .string s, .slice none 0 0] 26)
    have hsz : w.heap.size + 3 = W.heap.size := by rw [← hW]; simp
    rw [hW] at hb hg1 hg2
    have HC := toXS_of ⟨k, n, s, l⟩ (fun i hi => ih _ (xAt_mem hi)) b cap W (hr.later hb) hz
    rw [e2] at HC
    have HD := HC.mono (R' := fun r w' => ∃ g, r = .returned (.slice (some ⟨g, 0, none⟩) l.length l.length) ∧ NewX w' (w.heap.size + 3) ⟨k, n, s, l⟩ (some ⟨g, 0, none⟩) ∧ Below w.heap.size w w' ∧ w'.heap[w.heap.size + 1]? = some (.cells #[.int .i64 0, .int .i64 0, .string ⟨#[]⟩, .slice none 0 0] 26 (0, 0)) ∧ w'.heap[w.heap.size + 1 + 1]? = some (.cells #[.int .i64 k, .int .i64 n, .string s, .slice none 0 0] 26 (0, 0))) (by
      rintro r w' ⟨rfl, h1, h2⟩
      exact ⟨_, rfl, h1.lower (by omega), hb.trans (h2.mono (by omega)), (h2.block _ (by omega)).trans hg1, (h2.block _ (by omega)).trans hg2⟩)
    have HH := hide HD
    rw [← hW] at HH
    unfold Ex.cs
    simp only
    clear hr hz ih HC HD hb hg1 hg2 hW hsz e2 W
    generalize hll : l.length = ll at *
    go_enter Tryd.func27, Tryd.ntmps27
    go_wp2_with fail
    refine (unhide HH).mono ?_
    rintro r w2 ⟨g, rfl, hrd, hb2, hg1, hg2⟩
    have a0 := Lib.cell_of_heap hg1 0
    have a1 := Lib.cell_of_heap hg1 1
    have a2 := Lib.cell_of_heap hg1 2
    have a3 := Lib.cell_of_heap hg1 3
    have b0 := Lib.cell_of_heap hg2 0
    have b1 := Lib.cell_of_heap hg2 1
    have b2 := Lib.cell_of_heap hg2 2
    have b3 := Lib.cell_of_heap hg2 3
    have f0 := Lib.frozen_of_heap hg1 0
    have f1 := Lib.frozen_of_heap hg1 1
    have f2 := Lib.frozen_of_heap hg1 2
    have f3 := Lib.frozen_of_heap hg1 3
    have f4 := Lib.frozen_of_heap hg2 3
    clear HH
    have hg3 : (w2.setCell ⟨w.heap.size + 1 + 1, 3, none⟩ (.slice (some ⟨g, 0, none⟩) ll ll)).heap[w.heap.size + 1]? = _ := (heap_setCell_other w2 ⟨w.heap.size + 1 + 1, 3, none⟩ (w.heap.size + 1) (.slice (some ⟨g, 0, none⟩) ll ll) (by simp)).trans hg1
    have H1 := hide (fun v0 v1 v2 v3 => row4_set hg3 v0 v1 v2 v3)
    have R := hide (fun u v0 v1 v2 v3 => ((((hrd.far ⟨w.heap.size + 1 + 1, 3, none⟩ u (by simp)).far ⟨w.heap.size + 1, 0, none⟩ v0 (by simp)).far ⟨w.heap.size + 1, 1, none⟩ v1 (by simp)).far ⟨w.heap.size + 1, 2, none⟩ v2 (by simp)).far ⟨w.heap.size + 1, 3, none⟩ v3 (by simp))
    have B := hide (fun u v0 v1 v2 v3 => ((((hb2.setCell (p := ⟨w.heap.size + 1 + 1, 3, none⟩) (by simp; omega) u).setCell (p := ⟨w.heap.size + 1, 0, none⟩) (by simp) v0).setCell (p := ⟨w.heap.size + 1, 1, none⟩) (by simp) v1).setCell (p := ⟨w.heap.size + 1, 2, none⟩) (by simp) v2).setCell (p := ⟨w.heap.size + 1, 3, none⟩) (by simp) v3)
    clear hrd hb2 hg3
    go_wp2
    refine bodyPost_ret (results_cell_row (P := Tryd.prog) rfl _ _ (w.heap.size + 1) 26 #[.int .i64 k, .int .i64 n, .string s, .slice (some ⟨g, 0, none⟩) ll ll] (0, 0) _ rfl (unhide H1 _ _ _ _) Tryd.underlying26 rfl (by kernel_rfl)) rfl ?_
    exact ⟨_, _, rfl, (unhide R _ _ _ _ _).lower (by omega), unhide B _ _ _ _ _⟩
end Go.Proofs.YtkolflcjkofleaaDoor

namespace Go.Proofs.YtkolflcjkofleaaDoor
open Go.ChangeShapes Go.WideShapes Go.ChangeAt Go.RowKit
set_option linter.unusedVariables false
set_option maxRecDepth 8000

def EqP (e : Ex) : Prop := ∀ (a b : Option Addr) (c1 c2 : Nat) (w : World), RdX w 0 e a → RdX w 0 e b → e.sz ≤ 1048576 → Calls Tryd.prog 28 #[.agg (e.cs a c1), .agg (e.cs b c2)] w fun r w' => r = .returned (.bool true) ∧ Below w.heap.size w w'
set_option maxHeartbeats 1000000 in
theorem eqXS_of (e : Ex) (ih : ∀ i, i < e.l.length → EqP (xAt e.l i)) (a b : Option Addr) (c1 c2 : Nat) (w : World) (h1 : RdX w 0 e a) (h2 : RdX w 0 e b) (hz : e.sz ≤ 1048576) :
    Calls Tryd.prog 36 #[.slice a e.l.length c1, .slice b e.l.length c2] w fun r w' => r = .returned (.bool true) ∧ Below w.heap.size w w' := by
  have hsz := sz_is e
  rw [RdX_eq] at h1 h2
  have hp : ∀ i, i < e.l.length → (xAt e.l i).sz ≤ 1048576 := fun i hi => by have := sz_part hi; omega
  have hm : e.l.length ≤ 1048576 := by omega
  clear hsz hz
  generalize e.l = l at *
  obtain ⟨len, hl⟩ : ∃ len, l.length = len := ⟨_, rfl⟩
  rw [hl] at hm ih h1 h2 hp ⊢
  go_enter Tryd.func36, Tryd.ntmps36
  go_wp2
  go_loopw [5] (fun i wr => ∃ (k : Nat) (y : Sub w.heap.size w), k ≤ len ∧ i = .int .i64 k ∧ wr = y.w) (fun i _ => len - (intOf i).toNat)
  case atStart => exact ⟨0, ⟨w, Below.refl _ _⟩, Nat.zero_le _, rfl, rfl⟩
  case round =>
    obtain ⟨k, x, hk, rfl, rfl⟩ := hrel
    by_cases hlt : k < len
    · rcases h1 with h0 | ⟨p, po, rfl, _, hp1, hpc⟩
      · rw [h0] at hl; simp at hl; omega
      rcases h2 with h0 | ⟨q, qo, rfl, _, hq1, hqc⟩
      · rw [h0] at hl; simp at hl; omega
      obtain ⟨e0, e1, e2, pc, pp, e3, e4⟩ := hpc k (by omega)
      obtain ⟨g0, g1, g2, qc, qp, g3, g4⟩ := hqc k (by omega)
      have d0 : ∀ y : Sub w.heap.size w, y.w.cell? ⟨p, po + k * 4, none⟩ = _ := fun y => (y.h.cell (p := ⟨p, _, none⟩) hp1).trans e0
      have d1 : ∀ y : Sub w.heap.size w, y.w.cell? ⟨p, po + k * 4 + 1, none⟩ = _ := fun y => (y.h.cell (p := ⟨p, _, none⟩) hp1).trans e1
      have d2 : ∀ y : Sub w.heap.size w, y.w.cell? ⟨p, po + k * 4 + 2, none⟩ = _ := fun y => (y.h.cell (p := ⟨p, _, none⟩) hp1).trans e2
      have d3 : ∀ y : Sub w.heap.size w, y.w.cell? ⟨p, po + k * 4 + 3, none⟩ = _ := fun y => (y.h.cell (p := ⟨p, _, none⟩) hp1).trans e3
      have f0 : ∀ y : Sub w.heap.size w, y.w.cell? ⟨q, qo + k * 4, none⟩ = _ := fun y => (y.h.cell (p := ⟨q, _, none⟩) hq1).trans g0
      have f1 : ∀ y : Sub w.heap.size w, y.w.cell? ⟨q, qo + k * 4 + 1, none⟩ = _ := fun y => (y.h.cell (p := ⟨q, _, none⟩) hq1).trans g1
      have f2 : ∀ y : Sub w.heap.size w, y.w.cell? ⟨q, qo + k * 4 + 2, none⟩ = _ := fun y => (y.h.cell (p := ⟨q, _, none⟩) hq1).trans g2
      have f3 : ∀ y : Sub w.heap.size w, y.w.cell? ⟨q, qo + k * 4 + 3, none⟩ = _ := fun y => (y.h.cell (p := ⟨q, _, none⟩) hq1).trans g3
      have HE := hide (fun y : Sub w.heap.size w => ih k hlt pc qc pp qp y.w (e4.later y.h) (g4.later y.h) (hp k hlt))
      have ne := Sub.ne w.heap.size w
      have HZ := hide (Nat.le_refl w.heap.size)
      clear e0 e1 e2 e3 e4 g0 g1 g2 g3 g4 hpc hqc ih hp
      unfold Ex.cs at HE
      generalize (xAt l k).s = ss at *
      generalize (xAt l k).k = kk at *
      generalize (xAt l k).n = nn at *
      generalize (xAt l k).l.length = ll at *
      go_wp2_with fail
      refine wp_region_sub x (by kernel_rfl) (by kernel_rfl) ?_
      repeat (go_big_quiet_step (first | (go_at_call 28; exact Sub.call (unhide HZ) (unhide HE _))))
      refine wpQuiet_nil ?_
      intro y
      go_wp2
      go_roundw
      case rel => exact ⟨k + 1, y, by omega, by go_num, rfl⟩
      case measure => simp [intOf]; omega
    · go_wp2
      go_ret
      exact ⟨rfl, x.h⟩
set_option maxHeartbeats 1000000 in
theorem eqX_same (e : Ex) : EqP e := by
  induction e using Ex.ind with
  | h k n s l ih =>
    intro a b c1 c2 w h1 h2 hz
    have e2 : (Ex.mk k n s l).l = l := rfl
    have hbW : Below w.heap.size w ((w.alloc (.cells #[.int .i64 k, .int .i64 n, .string s, .slice a l.length c1] 26)).alloc (.cells #[.int .i64 k, .int .i64 n, .string s, .slice b l.length c2] 26)) := ((Below.refl _ _).alloc (Nat.le_refl _) _).alloc (by simp) _
    have HZ := eqXS_of ⟨k, n, s, l⟩ (fun i hi => ih _ (xAt_mem hi)) a b c1 c2 _ (h1.later hbW) (h2.later hbW) hz
    rw [e2] at HZ
    have HS := hide (HZ.mono (R' := fun r w' => r = .returned (.bool true) ∧ Below w.heap.size w w') (by rintro r w' ⟨rfl, h⟩; exact ⟨rfl, hbW.trans (h.mono hbW.size)⟩))
    unfold Ex.cs
    simp only
    clear h1 h2 hz ih HZ hbW e2
    generalize l.length = ll at *
    go_enter Tryd.func28, Tryd.ntmps28
    go_wp2_with (go_at_call 36; refine (unhide HS).mono ?_; rintro e w1 ⟨rfl, hb1⟩)
    go_ret
    exact ⟨rfl, hb1⟩
end Go.Proofs.YtkolflcjkofleaaDoor

namespace Go.Proofs.YtkolflcjkofleaaDoor
open Go.ChangeShapes Go.WideShapes Go.ChangeAt Go.RowKit
set_option linter.unusedVariables false
set_option maxRecDepth 8000

/-- What is known of a list of texts that came in. -/
structure IsU (W : World) (a : Option Addr) (len : Nat) (L : List ByteArray) : Prop where
  hlen : L.length = len
  max : len ≤ 9223372036854775807
  each : ∀ i, i < len → (tAtS L i).size ≤ 9223372036854775807
  rd : RdU W a L
section
variable {H : Type} {enc : TypeId × Value → H} {W : World} {b0 base : Nat} {spare : TypeId → Bool} {held : Bool}
theorem open_strs {r : Reach} {v : Value} {d : DataW H} {p : List MemPlace} (hv : Value.okWide Tryd.prog W r b0 31 v) (h : DataW.Trod enc Tryd.prog W base spare held 31 v d p) : ∃ a len cap L, v = .slice a len cap ∧ IsU W a len L := by
  obtain ⟨a, len, cap, rfl⟩ := okWide_slice Tryd.underlying31 hv
  obtain ⟨fuel, hf⟩ := h
  rcases open_strings Tryd.underlying31 Tryd.underlying9 (by kernel_rfl) hf with ⟨hcs, _⟩ | ⟨x, l, c, ss, hcs, _, hl, hm, hz, _, hcell, hsz⟩
  · simp [Value.cells] at hcs
    obtain ⟨rfl, rfl, rfl⟩ := hcs
    exact ⟨none, 0, 0, [], rfl, rfl, by omega, fun i hi => by omega, .inl rfl⟩
  · simp [Value.cells] at hcs
    obtain ⟨rfl, rfl, rfl⟩ := hcs
    have hlz : len ≤ ss.length := by rw [hz]; split <;> omega
    have hL : (ss.take len).length = len := by simp; omega
    have hat : ∀ i, i < len → tAtS (ss.take len) i = ss.getD i ByteArray.empty := fun i hi => by
      unfold tAtS
      rw [List.getD_eq_getElem?_getD, List.getElem?_take_of_lt hi, List.getElem?_eq_getElem (by omega), List.getD_eq_getElem?_getD, List.getElem?_eq_getElem (by omega)]
      rfl
    have hmem : ∀ i, i < len → (ss.getD i ByteArray.empty).size ≤ maxLen := fun i hi => by
      rw [List.getD_eq_getElem?_getD, List.getElem?_eq_getElem (by omega)]
      exact hsz _ (List.getElem_mem _)
    refine ⟨some x, len, cap, ss.take len, rfl, hL, by unfold maxLen at hm; omega, fun i hi => by rw [hat i hi]; have := hmem i hi; unfold maxLen at this; omega, ?_⟩
    by_cases h0 : len = 0
    · subst h0; exact .inl (by simp)
    · right
      obtain ⟨b, off, spot⟩ := x
      have h00 := hcell 0 (by omega)
      have hspot : spot = none := by simpa [Addr.add] using World.cell?_spot h00
      subst hspot
      have hadd : ∀ j, (⟨b, off, none⟩ : Addr).add j = ⟨b, off + j, none⟩ := fun j => by
        unfold Addr.add
        by_cases hj : j = 0
        · subst hj; simp
        · simp [hj]
      refine ⟨b, off, rfl, World.block_lt_of_cell? W _ h00, fun i hi => ?_⟩
      rw [hL] at hi
      rw [hat i hi]
      have h3 := hcell i (by omega)
      rw [hadd] at h3
      exact h3
theorem open_exs {r : Reach} {v : Value} {d : DataW H} {p : List MemPlace} (hv : Value.okWide Tryd.prog W r b0 42 v) (h : DataW.Trod enc Tryd.prog W base spare held 42 v d p) : ∃ (e : Ex) (b : Option Addr) (cap : Nat), v = .slice b e.l.length cap ∧ RdX W 0 e b ∧ Fit e := by
  obtain ⟨a0, len, cap, rfl⟩ := okWide_slice Tryd.underlying42 hv
  obtain ⟨fuel, hf⟩ := h
  have hc : Tryd.prog.cellsOf 44 = 4 := by kernel_rfl
  rcases DataW.trod_slice Tryd.underlying42 hf with ⟨hcs, _⟩ | ⟨a, l0, c0, elems, rest, q, hq, hcs, _, hb, hl, hm, hel, hx, _, _⟩
  · simp [Value.cells] at hcs
    obtain ⟨rfl, rfl, rfl⟩ := hcs
    exact ⟨⟨0, 0, E0, []⟩, none, 0, rfl, (RdX_eq _ _ _ _).2 (.inl rfl), (Fit_eq _).2 ⟨by decide, by simp, fun i hi => by simp at hi⟩⟩
  · simp [Value.cells] at hcs
    obtain ⟨rfl, rfl, rfl⟩ := hcs
    have each : ∀ i, i < len → ∃ t : Ex, (W.cell? (a.add (i * 4)) = some (.int .i64 t.k) ∧ W.cell? (a.add (i * 4 + 1)) = some (.int .i64 t.n) ∧ W.cell? (a.add (i * 4 + 2)) = some (.string t.s) ∧ ∃ c cap, W.cell? (a.add (i * 4 + 3)) = some (.slice c t.l.length cap) ∧ RdX W 0 t c) ∧ Fit t := fun i hi => by
      have h4 := hx i hi
      rw [List.getElem?_eq_getElem (by omega), Option.bind_eq_some_iff] at h4
      obtain ⟨cs', p1, p2⟩ := h4
      rw [hc] at p1
      obtain ⟨_, hlen', hcell⟩ := World.cells?_some p1
      obtain ⟨t, c, cap', hcs', hrd, hft⟩ := trod_ex _ cs' _ p2
      refine ⟨t, ⟨?_, ?_, ?_, c, cap', ?_, hrd⟩, hft⟩
      · have e := hcell 0 (by omega); rw [_root_.Go.Deep.add_add, hcs'] at e; simpa using e
      · have e := hcell 1 (by omega); rw [_root_.Go.Deep.add_add, hcs'] at e; simpa using e
      · have e := hcell 2 (by omega); rw [_root_.Go.Deep.add_add, hcs'] at e; simpa using e
      · have e := hcell 3 (by omega); rw [_root_.Go.Deep.add_add, hcs'] at e; simpa using e
    obtain ⟨T, hT⟩ := @_root_.Go.Deep.choose_lt Ex ⟨X0⟩ _ _ each
    have hL : ((List.range len).map T).length = len := by simp
    have hat : ∀ i, i < len → xAt ((List.range len).map T) i = T i := fun i hi => by
      unfold xAt
      rw [List.getD_eq_getElem?_getD, List.getElem?_map, List.getElem?_range hi]
      rfl
    refine ⟨⟨0, 0, E0, (List.range len).map T⟩, some a, cap, by simp [hL], (RdX_eq _ _ _ _).2 ?_, (Fit_eq _).2 ⟨show E0.size ≤ 9223372036854775807 by decide, ?_, fun i hi => ?_⟩⟩
    · by_cases h0 : len = 0
      · subst h0; exact .inl rfl
      · right
        obtain ⟨b, off, spot⟩ := a
        have h00 := (hT 0 (by omega)).1.1
        have hspot : spot = none := by simpa [Addr.add] using World.cell?_spot h00
        subst hspot
        have hadd : ∀ j, (⟨b, off, none⟩ : Addr).add j = ⟨b, off + j, none⟩ := fun j => by
          unfold Addr.add
          by_cases hj : j = 0
          · subst hj; simp
          · simp [hj]
        refine ⟨b, off, rfl, Nat.zero_le _, World.block_lt_of_cell? W _ h00, fun i hi => ?_⟩
        have hi : i < len := by simpa using hi
        show OneX W 0 b (off + i * 4) (xAt ((List.range len).map T) i)
        rw [hat i hi]
        have h3 := (hT i hi).1
        rw [hadd, hadd, hadd, hadd] at h3
        exact h3
    · show ((List.range len).map T).length ≤ _
      rw [hL]; unfold maxLen at hm; omega
    · have hi : i < len := by simpa using hi
      show Fit (xAt ((List.range len).map T) i)
      rw [hat i hi]
      exact (hT i hi).2
end
end Go.Proofs.YtkolflcjkofleaaDoor

namespace Go.Proofs.YtkolflcjkofleaaDoor
open Go.ChangeShapes Go.WideShapes Go.ChangeAt Go.RowKit
set_option linter.unusedVariables false
set_option maxRecDepth 8000

theorem rdn_of_row {w : World} {a : Option Addr} {len cap : Nat} {zs : List Int} (h : IsRow .i64 w a len cap zs) : ∃ xs : List Int, xs.length = len ∧ len ≤ 9223372036854775807 ∧ RdN w a xs := by
  rcases h with ⟨rfl, rfl, rfl, rfl⟩ | ⟨x, rfl, hl, hm, hz, hc, hw⟩
  · exact ⟨[], rfl, by omega, .inl rfl⟩
  · have hL : (zs.take len).length = len := by simp; omega
    refine ⟨zs.take len, hL, by unfold maxLen at hm; omega, ?_⟩
    by_cases h0 : len = 0
    · subst h0; exact .inl (by simp)
    · right
      obtain ⟨b, off, spot⟩ := x
      have h00 := hc 0 (by omega)
      have hspot : spot = none := by simpa [Addr.add] using World.cell?_spot h00
      subst hspot
      have hadd : ∀ j, (⟨b, off, none⟩ : Addr).add j = ⟨b, off + j, none⟩ := fun j => by
        unfold Addr.add
        by_cases hj : j = 0
        · subst hj; simp
        · simp [hj]
      refine ⟨b, off, rfl, World.block_lt_of_cell? w _ h00, fun i hi => ?_⟩
      rw [hL] at hi
      have h3 := hc i (by omega)
      rw [hadd] at h3
      rw [h3]
      unfold nAt
      rw [List.getD_eq_getElem?_getD, List.getD_eq_getElem?_getD, List.getElem?_take_of_lt hi]
theorem rdu_of_own {w : World} {B g cap : Nat} {L : List ByteArray} (h : OwnS w B (.slice (some ⟨g, 0, none⟩) L.length cap) L) : RdU w (some ⟨g, 0, none⟩) L := by
  by_cases h0 : L = []
  · exact .inl h0
  · refine .inr ⟨g, 0, rfl, (World.ownsRow.lt h g rfl).2, fun i hi => ?_⟩
    have := h.cells i hi
    rw [Nat.zero_add]
    exact this
theorem own_n {w : World} {B g n cap : Nat} {xs : List Int} (h : OwnN w B (.slice (some ⟨g, 0, none⟩) n cap) xs) : g < w.heap.size ∧ ∀ i, i < xs.length → w.cell? ⟨g, i, none⟩ = some (.int .i64 (nAt xs i)) := by
  refine ⟨(h.lt (g := g) rfl).2, fun i hi => ?_⟩
  rcases h.rd1 with rfl | ⟨b, off, e, hb, hc⟩
  · simp at hi
  · cases e
    have := hc i hi
    rw [Nat.zero_add] at this
    exact this
theorem ev_of {w : World} {B1 B2 B3 gb gn gv n1 c1 c2 n3 c3 : Nat} {bs vs : List Int} {L : List ByteArray} (h1 : OwnN w B1 (.slice (some ⟨gb, 0, none⟩) n1 c1) bs) (h2 : OwnS w B2 (.slice (some ⟨gn, 0, none⟩) L.length c2) L) (h3 : OwnN w B3 (.slice (some ⟨gv, 0, none⟩) n3 c3) vs) : Ev w gb gn gv bs L vs :=
  ⟨(own_n h1).2, h2.cells, (own_n h3).2, (own_n h1).1, (World.ownsRow.lt h2 gn rfl).2, (own_n h3).1⟩
theorem OwnS.later {w w' : World} {B g n cap : Nat} {L : List ByteArray} (h : OwnS w B (.slice (some ⟨g, 0, none⟩) n cap) L) (hb : Below w.heap.size w w') : OwnS w' B (.slice (some ⟨g, 0, none⟩) n cap) L := by
  obtain ⟨h1, h2⟩ := h
  refine ⟨h1, ?_⟩
  rcases h2 with h2 | ⟨g', cap', cur, e, q1, q2, q3⟩
  · exact .inl h2
  · cases e
    exact .inr ⟨g, cap, cur, rfl, q1, (hb.block _ (Array.getElem?_eq_some_iff.1 q2).1).trans q2, q3⟩
end Go.Proofs.YtkolflcjkofleaaDoor
