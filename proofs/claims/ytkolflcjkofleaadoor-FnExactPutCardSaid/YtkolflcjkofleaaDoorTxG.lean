/- Contracts over this seat's translation, laid together; conditions stand as hypotheses of each. -/
import Derived.Test.YtkolflcjkofleaaDoorTxA
import Derived.Test.YtkolflcjkofleaaDoorTxF

namespace Go.Proofs.YtkolflcjkofleaaDoor
open Go.ChangeShapes Go.WideShapes Go.ChangeAt Go.RowKit
set_option linter.unusedVariables false
set_option maxRecDepth 8000

set_option maxHeartbeats 400000 in
theorem at_anyF (L : List ByteArray) (s : ByteArray) (g n cap : Nat) (w : World) (hn : L.length = n) (hm : n ≤ 1100000) (hr : RdS w g L) : Calls Tryd.prog 81 #[.slice (some ⟨g, 0, none⟩) n cap, .string s] w fun e w' => e = .returned (.int .i64 (atV L s)) ∧ w' = w := by
  obtain ⟨v, hv⟩ : ∃ v, atV L s = v := ⟨_, rfl⟩
  have HIT := hide (fun k (hk : k < n) hm he => (atV_hit (L := L) (s := s) (k := k) (by omega) hm he).symm.trans hv)
  have MISS := hide (fun (h : ∀ k, k < n → eqS (L.getD k E0) s = false) => (atV_no (L := L) (s := s) (hasS_miss (fun k hk => h k (by omega)))).symm.trans hv)
  have RD := hide (fun j (hj : j < n) => hr j (by omega))
  rw [hv]
  clear hv hr
  go_enter Tryd.func81, Tryd.ntmps81
  go_wp2
  go_loop [5] (fun i => ∃ k : Nat, i = .int .i64 k ∧ k ≤ n ∧ Hid (∀ j, j < k → eqS (L.getD j E0) s = false)) (fun i => n - (intOf i).toNat)
  case atStart => exact ⟨0, rfl, by omega, fun j hj => by omega⟩
  case round =>
    obtain ⟨k, rfl, hk, hd⟩ := hrel
    by_cases hlt : k < n
    · have hc := unhide RD k hlt
      have H1 := hide (unhide HIT k hlt hd.out)
      have H2 := hide (show eqS (L.getD k E0) s = false → ∀ j, j < k + 1 → eqS (L.getD j E0) s = false from fun h j hj => by
        by_cases e : j = k
        · subst e; exact h
        · exact hd.out j (by omega))
      generalize L.getD k E0 = T at hc H1 H2
      clear hd
      cases hq : (T.toList == s.toList)
      · have E := hide (unhide H2 hq)
        clear H1 H2
        go_wp2
        go_round
        case rel => exact ⟨k + 1, by go_num, by omega, unhide E⟩
        case measure => simp [intOf]; omega
      · have E := hide (unhide H1 hq)
        clear H1 H2
        go_wp2
        go_ret
        exact ⟨by rw [← unhide E]; rfl, rfl⟩
    · have E := hide (unhide MISS (fun j hj => hd.out j (by omega)))
      clear hd
      go_wp2
      go_ret
      exact ⟨by rw [← unhide E]; rfl, rfl⟩
end Go.Proofs.YtkolflcjkofleaaDoor

namespace Go.Proofs.YtkolflcjkofleaaDoor
open Go.ChangeShapes Go.WideShapes Go.ChangeAt Go.RowKit
set_option linter.unusedVariables false
set_option maxRecDepth 8000
set_option linter.unusedSimpArgs false

/-- The numbers of sections, the names, their numbers, as they lie. -/
structure Ev (w : World) (gb gn gv : Nat) (bs : List Int) (L : List ByteArray) (vs : List Int) : Prop where
  b : ∀ i, i < bs.length → w.cell? ⟨gb, i, none⟩ = some (.int .i64 (nAt bs i))
  n : RdS w gn L
  v : ∀ i, i < vs.length → w.cell? ⟨gv, i, none⟩ = some (.int .i64 (nAt vs i))
  lb : gb < w.heap.size
  ln : gn < w.heap.size
  lv : gv < w.heap.size
theorem Ev.later {w w' : World} {gb gn gv : Nat} {bs : List Int} {L : List ByteArray} {vs : List Int} (h : Ev w gb gn gv bs L vs) (hb : Below w.heap.size w w') : Ev w' gb gn gv bs L vs :=
  ⟨fun i hi => (hb.cell (p := ⟨gb, i, none⟩) h.lb).trans (h.b i hi), fun i hi => (hb.cell (p := ⟨gn, i, none⟩) h.ln).trans (h.n i hi), fun i hi => (hb.cell (p := ⟨gv, i, none⟩) h.lv).trans (h.v i hi), Nat.lt_of_lt_of_le h.lb hb.size, Nat.lt_of_lt_of_le h.ln hb.size, Nat.lt_of_lt_of_le h.lv hb.size⟩
def seW (bs : List Int) (n : Int) : Option Int := if n < bs.length then some (wr (nAt bs n.toNat)) else none
def glW (L : List ByteArray) (vs : List Int) (s : ByteArray) : Option Int := if 0 ≤ atV L s ∧ atV L s < vs.length then some (wr (nAt vs (atV L s).toNat)) else none
theorem seW_in (bs : List Int) : ∀ n v, seW bs n = some v → 0 ≤ v ∧ v ≤ 65535 := by
  intro n v h
  unfold seW at h
  split at h
  · cases h; exact wr_in _
  · cases h
theorem glW_in (L : List ByteArray) (vs : List Int) : ∀ s v, glW L vs s = some v → 0 ≤ v ∧ v ≤ 65535 := by
  intro n v h
  unfold glW at h
  split at h
  · cases h; exact wr_in _
  · cases h
def WoP (bs : List Int) (L : List ByteArray) (vs : List Int) (e : Ex) : Prop := ∀ (b : Option Addr) (cap gb gn gv cb cn cv : Nat) (w : World), RdX w 0 e b → Ev w gb gn gv bs L vs → Calls Tryd.prog 63 #[.agg (e.cs b cap), .slice (some ⟨gb, 0, none⟩) bs.length cb, .slice (some ⟨gn, 0, none⟩) L.length cn, .slice (some ⟨gv, 0, none⟩) vs.length cv] w (InR (worthX (seW bs) (glW L vs) e) w)
set_option maxHeartbeats 4000000 in
theorem worth1 (n : Int) (s : ByteArray) (bs : List Int) (L : List ByteArray) (vs : List Int) (hL : L.length ≤ 1100000) (hB : bs.length ≤ 1099511627776) (hV : vs.length ≤ 1099511627776) : WoP bs L vs ⟨1, n, s, []⟩ := by
  intro b cap gb gn gv cb cn cv w hr hev
  have EQ := hide (show worthX (seW bs) (glW L vs) ⟨1, n, s, []⟩ = some n by exact worth_num n s)
  rw [unhide EQ]
  have B0 := hide (below_new w (.cells #[.int .i64 1, .int .i64 n, .string s, .slice b 0 cap] 26))
  have EV := hide (hev.later (unhide B0))
  generalize hX : InR _ w = X
  have HX := hide hX
  show Calls Tryd.prog 63 #[.agg #[.int .i64 1, .int .i64 n, .string s, .slice b 0 cap], .slice (some ⟨gb, 0, none⟩) bs.length cb, .slice (some ⟨gn, 0, none⟩) L.length cn, .slice (some ⟨gv, 0, none⟩) vs.length cv] w X
  clear hX hr hev EQ
  go_enter Tryd.func63, Tryd.ntmps63
  go_wp2
  rw [← unhide HX]
  exact ⟨rfl, unhide B0⟩
set_option maxHeartbeats 4000000 in
theorem worth2 (n : Int) (s : ByteArray) (bs : List Int) (L : List ByteArray) (vs : List Int) (hL : L.length ≤ 1100000) (hB : bs.length ≤ 1099511627776) (hV : vs.length ≤ 1099511627776) : WoP bs L vs ⟨2, n, s, []⟩ := by
  intro b cap gb gn gv cb cn cv w hr hev
  have EQ := hide (show worthX (seW bs) (glW L vs) ⟨2, n, s, []⟩ = none by exact worth_sym n s)
  rw [unhide EQ]
  have B0 := hide (below_new w (.cells #[.int .i64 2, .int .i64 n, .string s, .slice b 0 cap] 26))
  have EV := hide (hev.later (unhide B0))
  generalize hX : InR _ w = X
  have HX := hide hX
  show Calls Tryd.prog 63 #[.agg #[.int .i64 2, .int .i64 n, .string s, .slice b 0 cap], .slice (some ⟨gb, 0, none⟩) bs.length cb, .slice (some ⟨gn, 0, none⟩) L.length cn, .slice (some ⟨gv, 0, none⟩) vs.length cv] w X
  clear hX hr hev EQ
  go_enter Tryd.func63, Tryd.ntmps63
  go_wp2
  rw [← unhide HX]
  exact ⟨rfl, unhide B0⟩
set_option maxHeartbeats 4000000 in
theorem worth3 (n : Int) (s : ByteArray) (bs : List Int) (L : List ByteArray) (vs : List Int) (hL : L.length ≤ 1100000) (hB : bs.length ≤ 1099511627776) (hV : vs.length ≤ 1099511627776) : WoP bs L vs ⟨3, n, s, []⟩ := by
  intro b cap gb gn gv cb cn cv w hr hev
  have EQ := hide (show worthX (seW bs) (glW L vs) ⟨3, n, s, []⟩ = none by exact worth_here n s)
  rw [unhide EQ]
  have B0 := hide (below_new w (.cells #[.int .i64 3, .int .i64 n, .string s, .slice b 0 cap] 26))
  have EV := hide (hev.later (unhide B0))
  generalize hX : InR _ w = X
  have HX := hide hX
  show Calls Tryd.prog 63 #[.agg #[.int .i64 3, .int .i64 n, .string s, .slice b 0 cap], .slice (some ⟨gb, 0, none⟩) bs.length cb, .slice (some ⟨gn, 0, none⟩) L.length cn, .slice (some ⟨gv, 0, none⟩) vs.length cv] w X
  clear hX hr hev EQ
  go_enter Tryd.func63, Tryd.ntmps63
  go_wp2
  rw [← unhide HX]
  exact ⟨rfl, unhide B0⟩
set_option maxHeartbeats 4000000 in
theorem worth11n (n : Int) (s : ByteArray) (bs : List Int) (L : List ByteArray) (vs : List Int) (hL : L.length ≤ 1100000) (hB : bs.length ≤ 1099511627776) (hV : vs.length ≤ 1099511627776) (hn : ¬ n < (bs.length : Int)) : WoP bs L vs ⟨11, n, s, []⟩ := by
  intro b cap gb gn gv cb cn cv w hr hev
  have EQ := hide (show worthX (seW bs) (glW L vs) ⟨11, n, s, []⟩ = none by rw [worth_sect]; unfold seW; rw [if_neg hn])
  rw [unhide EQ]
  have B0 := hide (below_new w (.cells #[.int .i64 11, .int .i64 n, .string s, .slice b 0 cap] 26))
  have EV := hide (hev.later (unhide B0))
  generalize hX : InR _ w = X
  have HX := hide hX
  show Calls Tryd.prog 63 #[.agg #[.int .i64 11, .int .i64 n, .string s, .slice b 0 cap], .slice (some ⟨gb, 0, none⟩) bs.length cb, .slice (some ⟨gn, 0, none⟩) L.length cn, .slice (some ⟨gv, 0, none⟩) vs.length cv] w X
  have hn2 : (bs.length : Int) ≤ n := by omega
  clear hn
  generalize bs.length = lb at *
  clear hX hr hev EQ
  go_enter Tryd.func63, Tryd.ntmps63
  go_wp2
  rw [← unhide HX]
  exact ⟨rfl, unhide B0⟩
set_option maxHeartbeats 4000000 in
theorem worth11y (n : Nat) (s : ByteArray) (bs : List Int) (L : List ByteArray) (vs : List Int) (hL : L.length ≤ 1100000) (hB : bs.length ≤ 1099511627776) (hV : vs.length ≤ 1099511627776) (hn : n < bs.length) : WoP bs L vs ⟨11, (n : Int), s, []⟩ := by
  intro b cap gb gn gv cb cn cv w hr hev
  have EQ := hide (show worthX (seW bs) (glW L vs) ⟨11, (n : Int), s, []⟩ = some (nAt bs n % 65536) by rw [worth_sect]; unfold seW; rw [if_pos (by omega)]; rfl)
  rw [unhide EQ]
  have B0 := hide (below_new w (.cells #[.int .i64 11, .int .i64 (n : Int), .string s, .slice b 0 cap] 26))
  have EV := hide (hev.later (unhide B0))
  generalize hX : InR _ w = X
  have HX := hide hX
  show Calls Tryd.prog 63 #[.agg #[.int .i64 11, .int .i64 (n : Int), .string s, .slice b 0 cap], .slice (some ⟨gb, 0, none⟩) bs.length cb, .slice (some ⟨gn, 0, none⟩) L.length cn, .slice (some ⟨gv, 0, none⟩) vs.length cv] w X
  have hc := (unhide EV).b n hn
  have hn2 : ¬ (bs.length : Int) ≤ (n : Int) := by omega
  clear hX hr hev EQ
  go_enter Tryd.func63, Tryd.ntmps63
  go_wp2_with (go_at_call 83; refine (wrapS_any _ _).mono ?_; rintro e w' ⟨rfl, hw'⟩; rw [hw']; clear hw' w')
  rw [← unhide HX]
  exact ⟨rfl, unhide B0⟩
set_option maxHeartbeats 4000000 in
theorem worth12m (n : Int) (s : ByteArray) (bs : List Int) (L : List ByteArray) (vs : List Int) (hL : L.length ≤ 1100000) (hB : bs.length ≤ 1099511627776) (hV : vs.length ≤ 1099511627776) (hn : atV L s < 0) : WoP bs L vs ⟨12, n, s, []⟩ := by
  intro b cap gb gn gv cb cn cv w hr hev
  have EQ := hide (show worthX (seW bs) (glW L vs) ⟨12, n, s, []⟩ = none by rw [worth_glob]; unfold glW; rw [if_neg (fun h => by omega)])
  rw [unhide EQ]
  have B0 := hide (below_new w (.cells #[.int .i64 12, .int .i64 n, .string s, .slice b 0 cap] 26))
  have EV := hide (hev.later (unhide B0))
  generalize hX : InR _ w = X
  have HX := hide hX
  show Calls Tryd.prog 63 #[.agg #[.int .i64 12, .int .i64 n, .string s, .slice b 0 cap], .slice (some ⟨gb, 0, none⟩) bs.length cb, .slice (some ⟨gn, 0, none⟩) L.length cn, .slice (some ⟨gv, 0, none⟩) vs.length cv] w X
  have AT := hide (at_anyF L s gn L.length cn _ rfl hL (unhide EV).n)
  generalize atV L s = av at *
  clear hX hr hev EQ
  go_enter Tryd.func63, Tryd.ntmps63
  go_wp2_with (go_at_call 81; refine (unhide AT).mono ?_; rintro e w' ⟨rfl, hw'⟩; rw [hw']; clear hw' w')
  rw [← unhide HX]
  exact ⟨rfl, unhide B0⟩
set_option maxHeartbeats 4000000 in
theorem worth12g (n : Int) (s : ByteArray) (bs : List Int) (L : List ByteArray) (vs : List Int) (hL : L.length ≤ 1100000) (hB : bs.length ≤ 1099511627776) (hV : vs.length ≤ 1099511627776) (h0 : ¬ atV L s < 0) (hn : (vs.length : Int) ≤ atV L s) : WoP bs L vs ⟨12, n, s, []⟩ := by
  intro b cap gb gn gv cb cn cv w hr hev
  have EQ := hide (show worthX (seW bs) (glW L vs) ⟨12, n, s, []⟩ = none by rw [worth_glob]; unfold glW; rw [if_neg (fun h => by omega)])
  rw [unhide EQ]
  have B0 := hide (below_new w (.cells #[.int .i64 12, .int .i64 n, .string s, .slice b 0 cap] 26))
  have EV := hide (hev.later (unhide B0))
  generalize hX : InR _ w = X
  have HX := hide hX
  show Calls Tryd.prog 63 #[.agg #[.int .i64 12, .int .i64 n, .string s, .slice b 0 cap], .slice (some ⟨gb, 0, none⟩) bs.length cb, .slice (some ⟨gn, 0, none⟩) L.length cn, .slice (some ⟨gv, 0, none⟩) vs.length cv] w X
  have AT := hide (at_anyF L s gn L.length cn _ rfl hL (unhide EV).n)
  generalize atV L s = av at *
  clear hX hr hev EQ
  go_enter Tryd.func63, Tryd.ntmps63
  go_wp2_with (go_at_call 81; refine (unhide AT).mono ?_; rintro e w' ⟨rfl, hw'⟩; rw [hw']; clear hw' w')
  rw [← unhide HX]
  exact ⟨rfl, unhide B0⟩
set_option maxHeartbeats 4000000 in
theorem worth12y (n : Int) (s : ByteArray) (j : Nat) (bs : List Int) (L : List ByteArray) (vs : List Int) (hL : L.length ≤ 1100000) (hB : bs.length ≤ 1099511627776) (hV : vs.length ≤ 1099511627776) (hj : atV L s = j) (hn : j < vs.length) : WoP bs L vs ⟨12, n, s, []⟩ := by
  intro b cap gb gn gv cb cn cv w hr hev
  have EQ := hide (show worthX (seW bs) (glW L vs) ⟨12, n, s, []⟩ = some (nAt vs j % 65536) by rw [worth_glob]; unfold glW; rw [if_pos (by omega), hj]; rfl)
  rw [unhide EQ]
  have B0 := hide (below_new w (.cells #[.int .i64 12, .int .i64 n, .string s, .slice b 0 cap] 26))
  have EV := hide (hev.later (unhide B0))
  generalize hX : InR _ w = X
  have HX := hide hX
  show Calls Tryd.prog 63 #[.agg #[.int .i64 12, .int .i64 n, .string s, .slice b 0 cap], .slice (some ⟨gb, 0, none⟩) bs.length cb, .slice (some ⟨gn, 0, none⟩) L.length cn, .slice (some ⟨gv, 0, none⟩) vs.length cv] w X
  have AT := hide (at_anyF L s gn L.length cn _ rfl hL (unhide EV).n)
  rw [hj] at AT
  have hc := (unhide EV).v j hn
  have hn2 : ¬ (vs.length : Int) ≤ (j : Int) := by omega
  have hn3 : ¬ (j : Int) < 0 := by omega
  clear hj
  clear hX hr hev EQ
  go_enter Tryd.func63, Tryd.ntmps63
  go_wp2_with (first | (go_at_call 81; refine (unhide AT).mono ?_; rintro e w' ⟨rfl, hw'⟩; rw [hw']; clear hw' w') | (go_at_call 83; refine (wrapS_any _ _).mono ?_; rintro e w' ⟨rfl, hw'⟩; rw [hw']; clear hw' w'))
  rw [← unhide HX]
  exact ⟨rfl, unhide B0⟩
set_option maxHeartbeats 4000000 in
theorem worthS_neg (bs : List Int) (L : List ByteArray) (vs : List Int) (a : Ex) (iha : WoP bs L vs a) (hi : ∀ v, worthX (seW bs) (glW L vs) a = some v → 0 ≤ v ∧ v ≤ 65535) : WoP bs L vs ⟨4, 0, ⟨#[]⟩, [a]⟩ := by
  intro b cap gb gn gv cb cn cv w hr hev
  rw [worth_neg]
  obtain ⟨p, off, rfl, hpl, hc⟩ := hr.at (by simp)
  obtain ⟨c0, c1, c2, q0, qp0, c3, r0⟩ := hc 0 (by simp)
  have xa : xAt (Ex.mk 4 0 ⟨#[]⟩ [a]).l 0 = a := rfl
  rw [xa] at c0 c1 c2 c3 r0
  simp only [Nat.zero_mul, Nat.add_zero] at c0 c1 c2 c3
  have B0 := hide (below_new w (.cells #[.int .i64 4, .int .i64 0, .string ⟨#[]⟩, .slice (some ⟨p, off, none⟩) 1 cap] 26))
  have IA := hide (iha q0 qp0 gb gn gv cb cn cv _ (RdX.later r0 (unhide B0)) (hev.later (unhide B0)))
  have G0 := (show (w.alloc (.cells #[.int .i64 4, .int .i64 0, .string ⟨#[]⟩, .slice (some ⟨p, off, none⟩) 1 cap] 26)).heap[w.heap.size]? = some (.cells #[.int .i64 4, .int .i64 0, .string ⟨#[]⟩, .slice (some ⟨p, off, none⟩) 1 cap] 26 (0, 0)) from Array.getElem?_push_size)
  have R0 := hide G0
  have d0 := ((unhide B0).cell (p := ⟨p, off, none⟩) hpl).trans c0
  have d1 := ((unhide B0).cell (p := ⟨p, off + 1, none⟩) hpl).trans c1
  have d2 := ((unhide B0).cell (p := ⟨p, off + 2, none⟩) hpl).trans c2
  have d3 := ((unhide B0).cell (p := ⟨p, off + 3, none⟩) hpl).trans c3
  generalize worthX (seW bs) (glW L vs) a = o at *
  have ho : 0 ≤ o.getD 0 ∧ o.getD 0 ≤ 65535 := by
    cases o with
    | none => exact ⟨Int.le_refl _, show (0 : Int) ≤ 65535 by decide⟩
    | some v => exact hi v rfl
  have EQ := hide (show (o.map (fun v => wr (-v))).getD 0 = -(o.getD 0) % 65536 ∧ (o.map (fun v => wr (-v))).isSome = o.isSome by cases o <;> exact ⟨rfl, rfl⟩)
  generalize hX : InR _ w = X
  have HX := hide hX
  unfold InR at IA
  unfold Ex.cs at IA
  show Calls Tryd.prog 63 #[.agg #[.int .i64 4, .int .i64 0, .string ⟨#[]⟩, .slice (some ⟨p, off, none⟩) 1 cap], .slice (some ⟨gb, 0, none⟩) bs.length cb, .slice (some ⟨gn, 0, none⟩) L.length cn, .slice (some ⟨gv, 0, none⟩) vs.length cv] w X
  generalize hog : o.getD 0 = og at *
  generalize hos : o.isSome = os at *
  have HG := hide hog
  have HO := hide hos
  clear hX hr hc c0 c1 c2 c3 r0 iha hi xa hev G0 hog hos
  go_enter Tryd.func63, Tryd.ntmps63
  go_wp2_with fail
  generalize w.alloc (.cells #[.int .i64 4, .int .i64 0, .string ⟨#[]⟩, .slice (some ⟨p, off, none⟩) 1 cap] 26) = W at *
  clear d0 d1 d2 d3
  refine (unhide IA).mono ?_
  rintro r w1 ⟨rfl, hb1⟩
  have B1 := hide ((unhide B0).trans (hb1.mono (unhide B0).size))
  have z0 := Lib.cell_of_heap (row_keep (unhide R0) hb1) 0
  clear hb1 B0 R0 IA
  go_wp2_with (go_at_call 83; refine (wrapS_any _ _).mono ?_; rintro e w' ⟨rfl, hw'⟩; rw [hw']; clear hw' w')
  rw [← unhide HX]
  exact ⟨by rw [(unhide EQ).1, (unhide EQ).2]; rfl, unhide B1⟩
set_option maxHeartbeats 4000000 in
theorem worthS_nn (bs : List Int) (L : List ByteArray) (vs : List Int) (k : Int) (hk : 5 ≤ k ∧ k ≤ 10) (a b : Ex) (iha : WoP bs L vs a) (ihb : WoP bs L vs b) (va vb : Int) (ha : worthX (seW bs) (glW L vs) a = none) (hb : worthX (seW bs) (glW L vs) b = none) (ia : 0 ≤ va ∧ va ≤ 65535) (ib : 0 ≤ vb ∧ vb ≤ 65535) : WoP bs L vs ⟨k, 0, ⟨#[]⟩, [a, b]⟩ := by
  intro bb cap gb gn gv cb cn cv w hr hev
  have EQ := hide (show worthX (seW bs) (glW L vs) ⟨k, 0, ⟨#[]⟩, [a, b]⟩ = none by rw [worth_two, ha]; rfl)
  rw [unhide EQ]
  obtain ⟨p, off, rfl, hpl, hc⟩ := hr.at (by simp)
  obtain ⟨c0, c1, c2, q0, qp0, c3, r0⟩ := hc 0 (by simp)
  obtain ⟨e0, e1, e2, q1, qp1, e3, r1⟩ := hc 1 (by simp)
  have xa : xAt (Ex.mk k 0 ⟨#[]⟩ [a, b]).l 0 = a := rfl
  have xb : xAt (Ex.mk k 0 ⟨#[]⟩ [a, b]).l 1 = b := rfl
  rw [xa] at c0 c1 c2 c3 r0
  rw [xb] at e0 e1 e2 e3 r1
  simp only [Nat.zero_mul, Nat.add_zero, Nat.one_mul] at c0 c1 c2 c3 e0 e1 e2 e3
  have B0 := hide (below_new w (.cells #[.int .i64 k, .int .i64 0, .string ⟨#[]⟩, .slice (some ⟨p, off, none⟩) 2 cap] 26))
  have IA := hide (iha q0 qp0 gb gn gv cb cn cv _ (RdX.later r0 (unhide B0)) (hev.later (unhide B0)))
  have IB := hide (fun wr (h : Below w.heap.size w wr) => ihb q1 qp1 gb gn gv cb cn cv wr (RdX.later r1 h) (hev.later h))
  rw [ha] at IA
  rw [hb] at IB
  have R0 := hide (show (w.alloc (.cells #[.int .i64 k, .int .i64 0, .string ⟨#[]⟩, .slice (some ⟨p, off, none⟩) 2 cap] 26)).heap[w.heap.size]? = some (.cells #[.int .i64 k, .int .i64 0, .string ⟨#[]⟩, .slice (some ⟨p, off, none⟩) 2 cap] 26 (0, 0)) from Array.getElem?_push_size)
  have d0 := ((unhide B0).cell (p := ⟨p, off, none⟩) hpl).trans c0
  have d1 := ((unhide B0).cell (p := ⟨p, off + 1, none⟩) hpl).trans c1
  have d2 := ((unhide B0).cell (p := ⟨p, off + 2, none⟩) hpl).trans c2
  have d3 := ((unhide B0).cell (p := ⟨p, off + 3, none⟩) hpl).trans c3
  have E0' := hide (fun wr (h : Below w.heap.size w wr) => (h.cell (p := ⟨p, off + 4, none⟩) hpl).trans e0)
  have E1' := hide (fun wr (h : Below w.heap.size w wr) => (h.cell (p := ⟨p, off + 4 + 1, none⟩) hpl).trans e1)
  have E2' := hide (fun wr (h : Below w.heap.size w wr) => (h.cell (p := ⟨p, off + 4 + 2, none⟩) hpl).trans e2)
  have E3' := hide (fun wr (h : Below w.heap.size w wr) => (h.cell (p := ⟨p, off + 4 + 3, none⟩) hpl).trans e3)
  have k1 : (k == 1) = false := beq_eq_false_iff_ne.2 (by omega)
  have k2 : (k == 2) = false := beq_eq_false_iff_ne.2 (by omega)
  have k3 : (k == 3) = false := beq_eq_false_iff_ne.2 (by omega)
  have k4 : (k == 4) = false := beq_eq_false_iff_ne.2 (by omega)
  have k11 : (k == 11) = false := beq_eq_false_iff_ne.2 (by omega)
  have k12 : (k == 12) = false := beq_eq_false_iff_ne.2 (by omega)
  have TW := hide (fun wr => twoS_any k va vb hk ia ib wr)
  unfold TwoR at TW
  generalize hX : InR _ w = X
  have HX := hide hX
  unfold InR at IA IB
  simp only [Option.getD_some, Option.getD_none, Option.isSome_some, Option.isSome_none] at IA IB
  unfold Ex.cs at IA IB
  show Calls Tryd.prog 63 #[.agg #[.int .i64 k, .int .i64 0, .string ⟨#[]⟩, .slice (some ⟨p, off, none⟩) 2 cap], .slice (some ⟨gb, 0, none⟩) bs.length cb, .slice (some ⟨gn, 0, none⟩) L.length cn, .slice (some ⟨gv, 0, none⟩) vs.length cv] w X
  clear hX hr hc c0 c1 c2 c3 e0 e1 e2 e3 r0 r1 iha ihb xa xb hev ha hb EQ hk
  go_enter Tryd.func63, Tryd.ntmps63
  go_wp2_with fail
  generalize w.alloc (.cells #[.int .i64 k, .int .i64 0, .string ⟨#[]⟩, .slice (some ⟨p, off, none⟩) 2 cap] 26) = W at *
  clear d0 d1 d2 d3
  refine (unhide IA).mono ?_
  rintro r w1 ⟨rfl, hb1⟩
  have B1 := hide ((unhide B0).trans (hb1.mono (unhide B0).size))
  have R1 := hide (row_keep (unhide R0) hb1)
  have z0 := Lib.cell_of_heap (unhide R1) 0
  have z3 := Lib.cell_of_heap (unhide R1) 3
  have d0 := unhide E0' _ (unhide B1)
  have d1 := unhide E1' _ (unhide B1)
  have d2 := unhide E2' _ (unhide B1)
  have d3 := unhide E3' _ (unhide B1)
  have IB2 := hide (unhide IB _ (unhide B1))
  clear hb1 B0 R0 IA IB E0' E1' E2' E3'
  go_wp2_with fail
  clear d0 d1 d2 d3 z0 z3
  refine (unhide IB2).mono ?_
  rintro r w2 ⟨rfl, hb2⟩
  have B2 := hide ((unhide B1).trans (hb2.mono (unhide B1).size))
  have R2 := row_keep (unhide R1) hb2
  have z0 := Lib.cell_of_heap R2 0
  clear hb2 B1 R1 IB2 R2
  go_wp2_with (go_at_call 78; refine (unhide TW _).mono ?_; rintro r w' ⟨hw', rfl⟩; rw [hw']; clear hw' w')
  rw [← unhide HX]
  exact ⟨rfl, unhide B2⟩
set_option maxHeartbeats 4000000 in
theorem worthS_ns (bs : List Int) (L : List ByteArray) (vs : List Int) (k : Int) (hk : 5 ≤ k ∧ k ≤ 10) (a b : Ex) (iha : WoP bs L vs a) (ihb : WoP bs L vs b) (va vb : Int) (ha : worthX (seW bs) (glW L vs) a = none) (hb : worthX (seW bs) (glW L vs) b = some vb) (ia : 0 ≤ va ∧ va ≤ 65535) (ib : 0 ≤ vb ∧ vb ≤ 65535) : WoP bs L vs ⟨k, 0, ⟨#[]⟩, [a, b]⟩ := by
  intro bb cap gb gn gv cb cn cv w hr hev
  have EQ := hide (show worthX (seW bs) (glW L vs) ⟨k, 0, ⟨#[]⟩, [a, b]⟩ = none by rw [worth_two, ha]; rfl)
  rw [unhide EQ]
  obtain ⟨p, off, rfl, hpl, hc⟩ := hr.at (by simp)
  obtain ⟨c0, c1, c2, q0, qp0, c3, r0⟩ := hc 0 (by simp)
  obtain ⟨e0, e1, e2, q1, qp1, e3, r1⟩ := hc 1 (by simp)
  have xa : xAt (Ex.mk k 0 ⟨#[]⟩ [a, b]).l 0 = a := rfl
  have xb : xAt (Ex.mk k 0 ⟨#[]⟩ [a, b]).l 1 = b := rfl
  rw [xa] at c0 c1 c2 c3 r0
  rw [xb] at e0 e1 e2 e3 r1
  simp only [Nat.zero_mul, Nat.add_zero, Nat.one_mul] at c0 c1 c2 c3 e0 e1 e2 e3
  have B0 := hide (below_new w (.cells #[.int .i64 k, .int .i64 0, .string ⟨#[]⟩, .slice (some ⟨p, off, none⟩) 2 cap] 26))
  have IA := hide (iha q0 qp0 gb gn gv cb cn cv _ (RdX.later r0 (unhide B0)) (hev.later (unhide B0)))
  have IB := hide (fun wr (h : Below w.heap.size w wr) => ihb q1 qp1 gb gn gv cb cn cv wr (RdX.later r1 h) (hev.later h))
  rw [ha] at IA
  rw [hb] at IB
  have R0 := hide (show (w.alloc (.cells #[.int .i64 k, .int .i64 0, .string ⟨#[]⟩, .slice (some ⟨p, off, none⟩) 2 cap] 26)).heap[w.heap.size]? = some (.cells #[.int .i64 k, .int .i64 0, .string ⟨#[]⟩, .slice (some ⟨p, off, none⟩) 2 cap] 26 (0, 0)) from Array.getElem?_push_size)
  have d0 := ((unhide B0).cell (p := ⟨p, off, none⟩) hpl).trans c0
  have d1 := ((unhide B0).cell (p := ⟨p, off + 1, none⟩) hpl).trans c1
  have d2 := ((unhide B0).cell (p := ⟨p, off + 2, none⟩) hpl).trans c2
  have d3 := ((unhide B0).cell (p := ⟨p, off + 3, none⟩) hpl).trans c3
  have E0' := hide (fun wr (h : Below w.heap.size w wr) => (h.cell (p := ⟨p, off + 4, none⟩) hpl).trans e0)
  have E1' := hide (fun wr (h : Below w.heap.size w wr) => (h.cell (p := ⟨p, off + 4 + 1, none⟩) hpl).trans e1)
  have E2' := hide (fun wr (h : Below w.heap.size w wr) => (h.cell (p := ⟨p, off + 4 + 2, none⟩) hpl).trans e2)
  have E3' := hide (fun wr (h : Below w.heap.size w wr) => (h.cell (p := ⟨p, off + 4 + 3, none⟩) hpl).trans e3)
  have k1 : (k == 1) = false := beq_eq_false_iff_ne.2 (by omega)
  have k2 : (k == 2) = false := beq_eq_false_iff_ne.2 (by omega)
  have k3 : (k == 3) = false := beq_eq_false_iff_ne.2 (by omega)
  have k4 : (k == 4) = false := beq_eq_false_iff_ne.2 (by omega)
  have k11 : (k == 11) = false := beq_eq_false_iff_ne.2 (by omega)
  have k12 : (k == 12) = false := beq_eq_false_iff_ne.2 (by omega)
  have TW := hide (fun wr => twoS_any k va vb hk ia ib wr)
  unfold TwoR at TW
  generalize hX : InR _ w = X
  have HX := hide hX
  unfold InR at IA IB
  simp only [Option.getD_some, Option.getD_none, Option.isSome_some, Option.isSome_none] at IA IB
  unfold Ex.cs at IA IB
  show Calls Tryd.prog 63 #[.agg #[.int .i64 k, .int .i64 0, .string ⟨#[]⟩, .slice (some ⟨p, off, none⟩) 2 cap], .slice (some ⟨gb, 0, none⟩) bs.length cb, .slice (some ⟨gn, 0, none⟩) L.length cn, .slice (some ⟨gv, 0, none⟩) vs.length cv] w X
  clear hX hr hc c0 c1 c2 c3 e0 e1 e2 e3 r0 r1 iha ihb xa xb hev ha hb EQ hk
  go_enter Tryd.func63, Tryd.ntmps63
  go_wp2_with fail
  generalize w.alloc (.cells #[.int .i64 k, .int .i64 0, .string ⟨#[]⟩, .slice (some ⟨p, off, none⟩) 2 cap] 26) = W at *
  clear d0 d1 d2 d3
  refine (unhide IA).mono ?_
  rintro r w1 ⟨rfl, hb1⟩
  have B1 := hide ((unhide B0).trans (hb1.mono (unhide B0).size))
  have R1 := hide (row_keep (unhide R0) hb1)
  have z0 := Lib.cell_of_heap (unhide R1) 0
  have z3 := Lib.cell_of_heap (unhide R1) 3
  have d0 := unhide E0' _ (unhide B1)
  have d1 := unhide E1' _ (unhide B1)
  have d2 := unhide E2' _ (unhide B1)
  have d3 := unhide E3' _ (unhide B1)
  have IB2 := hide (unhide IB _ (unhide B1))
  clear hb1 B0 R0 IA IB E0' E1' E2' E3'
  go_wp2_with fail
  clear d0 d1 d2 d3 z0 z3
  refine (unhide IB2).mono ?_
  rintro r w2 ⟨rfl, hb2⟩
  have B2 := hide ((unhide B1).trans (hb2.mono (unhide B1).size))
  have R2 := row_keep (unhide R1) hb2
  have z0 := Lib.cell_of_heap R2 0
  clear hb2 B1 R1 IB2 R2
  go_wp2_with (go_at_call 78; refine (unhide TW _).mono ?_; rintro r w' ⟨hw', rfl⟩; rw [hw']; clear hw' w')
  rw [← unhide HX]
  exact ⟨rfl, unhide B2⟩
set_option maxHeartbeats 4000000 in
theorem worthS_sn (bs : List Int) (L : List ByteArray) (vs : List Int) (k : Int) (hk : 5 ≤ k ∧ k ≤ 10) (a b : Ex) (iha : WoP bs L vs a) (ihb : WoP bs L vs b) (va vb : Int) (ha : worthX (seW bs) (glW L vs) a = some va) (hb : worthX (seW bs) (glW L vs) b = none) (ia : 0 ≤ va ∧ va ≤ 65535) (ib : 0 ≤ vb ∧ vb ≤ 65535) : WoP bs L vs ⟨k, 0, ⟨#[]⟩, [a, b]⟩ := by
  intro bb cap gb gn gv cb cn cv w hr hev
  have EQ := hide (show worthX (seW bs) (glW L vs) ⟨k, 0, ⟨#[]⟩, [a, b]⟩ = none by rw [worth_two, ha, hb]; rfl)
  rw [unhide EQ]
  obtain ⟨p, off, rfl, hpl, hc⟩ := hr.at (by simp)
  obtain ⟨c0, c1, c2, q0, qp0, c3, r0⟩ := hc 0 (by simp)
  obtain ⟨e0, e1, e2, q1, qp1, e3, r1⟩ := hc 1 (by simp)
  have xa : xAt (Ex.mk k 0 ⟨#[]⟩ [a, b]).l 0 = a := rfl
  have xb : xAt (Ex.mk k 0 ⟨#[]⟩ [a, b]).l 1 = b := rfl
  rw [xa] at c0 c1 c2 c3 r0
  rw [xb] at e0 e1 e2 e3 r1
  simp only [Nat.zero_mul, Nat.add_zero, Nat.one_mul] at c0 c1 c2 c3 e0 e1 e2 e3
  have B0 := hide (below_new w (.cells #[.int .i64 k, .int .i64 0, .string ⟨#[]⟩, .slice (some ⟨p, off, none⟩) 2 cap] 26))
  have IA := hide (iha q0 qp0 gb gn gv cb cn cv _ (RdX.later r0 (unhide B0)) (hev.later (unhide B0)))
  have IB := hide (fun wr (h : Below w.heap.size w wr) => ihb q1 qp1 gb gn gv cb cn cv wr (RdX.later r1 h) (hev.later h))
  rw [ha] at IA
  rw [hb] at IB
  have R0 := hide (show (w.alloc (.cells #[.int .i64 k, .int .i64 0, .string ⟨#[]⟩, .slice (some ⟨p, off, none⟩) 2 cap] 26)).heap[w.heap.size]? = some (.cells #[.int .i64 k, .int .i64 0, .string ⟨#[]⟩, .slice (some ⟨p, off, none⟩) 2 cap] 26 (0, 0)) from Array.getElem?_push_size)
  have d0 := ((unhide B0).cell (p := ⟨p, off, none⟩) hpl).trans c0
  have d1 := ((unhide B0).cell (p := ⟨p, off + 1, none⟩) hpl).trans c1
  have d2 := ((unhide B0).cell (p := ⟨p, off + 2, none⟩) hpl).trans c2
  have d3 := ((unhide B0).cell (p := ⟨p, off + 3, none⟩) hpl).trans c3
  have E0' := hide (fun wr (h : Below w.heap.size w wr) => (h.cell (p := ⟨p, off + 4, none⟩) hpl).trans e0)
  have E1' := hide (fun wr (h : Below w.heap.size w wr) => (h.cell (p := ⟨p, off + 4 + 1, none⟩) hpl).trans e1)
  have E2' := hide (fun wr (h : Below w.heap.size w wr) => (h.cell (p := ⟨p, off + 4 + 2, none⟩) hpl).trans e2)
  have E3' := hide (fun wr (h : Below w.heap.size w wr) => (h.cell (p := ⟨p, off + 4 + 3, none⟩) hpl).trans e3)
  have k1 : (k == 1) = false := beq_eq_false_iff_ne.2 (by omega)
  have k2 : (k == 2) = false := beq_eq_false_iff_ne.2 (by omega)
  have k3 : (k == 3) = false := beq_eq_false_iff_ne.2 (by omega)
  have k4 : (k == 4) = false := beq_eq_false_iff_ne.2 (by omega)
  have k11 : (k == 11) = false := beq_eq_false_iff_ne.2 (by omega)
  have k12 : (k == 12) = false := beq_eq_false_iff_ne.2 (by omega)
  have TW := hide (fun wr => twoS_any k va vb hk ia ib wr)
  unfold TwoR at TW
  generalize hX : InR _ w = X
  have HX := hide hX
  unfold InR at IA IB
  simp only [Option.getD_some, Option.getD_none, Option.isSome_some, Option.isSome_none] at IA IB
  unfold Ex.cs at IA IB
  show Calls Tryd.prog 63 #[.agg #[.int .i64 k, .int .i64 0, .string ⟨#[]⟩, .slice (some ⟨p, off, none⟩) 2 cap], .slice (some ⟨gb, 0, none⟩) bs.length cb, .slice (some ⟨gn, 0, none⟩) L.length cn, .slice (some ⟨gv, 0, none⟩) vs.length cv] w X
  clear hX hr hc c0 c1 c2 c3 e0 e1 e2 e3 r0 r1 iha ihb xa xb hev ha hb EQ hk
  go_enter Tryd.func63, Tryd.ntmps63
  go_wp2_with fail
  generalize w.alloc (.cells #[.int .i64 k, .int .i64 0, .string ⟨#[]⟩, .slice (some ⟨p, off, none⟩) 2 cap] 26) = W at *
  clear d0 d1 d2 d3
  refine (unhide IA).mono ?_
  rintro r w1 ⟨rfl, hb1⟩
  have B1 := hide ((unhide B0).trans (hb1.mono (unhide B0).size))
  have R1 := hide (row_keep (unhide R0) hb1)
  have z0 := Lib.cell_of_heap (unhide R1) 0
  have z3 := Lib.cell_of_heap (unhide R1) 3
  have d0 := unhide E0' _ (unhide B1)
  have d1 := unhide E1' _ (unhide B1)
  have d2 := unhide E2' _ (unhide B1)
  have d3 := unhide E3' _ (unhide B1)
  have IB2 := hide (unhide IB _ (unhide B1))
  clear hb1 B0 R0 IA IB E0' E1' E2' E3'
  go_wp2_with fail
  clear d0 d1 d2 d3 z0 z3
  refine (unhide IB2).mono ?_
  rintro r w2 ⟨rfl, hb2⟩
  have B2 := hide ((unhide B1).trans (hb2.mono (unhide B1).size))
  have R2 := row_keep (unhide R1) hb2
  have z0 := Lib.cell_of_heap R2 0
  clear hb2 B1 R1 IB2 R2
  go_wp2_with (go_at_call 78; refine (unhide TW _).mono ?_; rintro r w' ⟨hw', rfl⟩; rw [hw']; clear hw' w')
  rw [← unhide HX]
  exact ⟨rfl, unhide B2⟩
set_option maxHeartbeats 4000000 in
theorem worthS_ss (bs : List Int) (L : List ByteArray) (vs : List Int) (k : Int) (hk : 5 ≤ k ∧ k ≤ 10) (a b : Ex) (iha : WoP bs L vs a) (ihb : WoP bs L vs b) (va vb : Int) (ha : worthX (seW bs) (glW L vs) a = some va) (hb : worthX (seW bs) (glW L vs) b = some vb) (ia : 0 ≤ va ∧ va ≤ 65535) (ib : 0 ≤ vb ∧ vb ≤ 65535) : WoP bs L vs ⟨k, 0, ⟨#[]⟩, [a, b]⟩ := by
  intro bb cap gb gn gv cb cn cv w hr hev
  have EQ := hide (show worthX (seW bs) (glW L vs) ⟨k, 0, ⟨#[]⟩, [a, b]⟩ = two11 k va vb by rw [worth_two, ha, hb]; rfl)
  rw [unhide EQ]
  obtain ⟨p, off, rfl, hpl, hc⟩ := hr.at (by simp)
  obtain ⟨c0, c1, c2, q0, qp0, c3, r0⟩ := hc 0 (by simp)
  obtain ⟨e0, e1, e2, q1, qp1, e3, r1⟩ := hc 1 (by simp)
  have xa : xAt (Ex.mk k 0 ⟨#[]⟩ [a, b]).l 0 = a := rfl
  have xb : xAt (Ex.mk k 0 ⟨#[]⟩ [a, b]).l 1 = b := rfl
  rw [xa] at c0 c1 c2 c3 r0
  rw [xb] at e0 e1 e2 e3 r1
  simp only [Nat.zero_mul, Nat.add_zero, Nat.one_mul] at c0 c1 c2 c3 e0 e1 e2 e3
  have B0 := hide (below_new w (.cells #[.int .i64 k, .int .i64 0, .string ⟨#[]⟩, .slice (some ⟨p, off, none⟩) 2 cap] 26))
  have IA := hide (iha q0 qp0 gb gn gv cb cn cv _ (RdX.later r0 (unhide B0)) (hev.later (unhide B0)))
  have IB := hide (fun wr (h : Below w.heap.size w wr) => ihb q1 qp1 gb gn gv cb cn cv wr (RdX.later r1 h) (hev.later h))
  rw [ha] at IA
  rw [hb] at IB
  have R0 := hide (show (w.alloc (.cells #[.int .i64 k, .int .i64 0, .string ⟨#[]⟩, .slice (some ⟨p, off, none⟩) 2 cap] 26)).heap[w.heap.size]? = some (.cells #[.int .i64 k, .int .i64 0, .string ⟨#[]⟩, .slice (some ⟨p, off, none⟩) 2 cap] 26 (0, 0)) from Array.getElem?_push_size)
  have d0 := ((unhide B0).cell (p := ⟨p, off, none⟩) hpl).trans c0
  have d1 := ((unhide B0).cell (p := ⟨p, off + 1, none⟩) hpl).trans c1
  have d2 := ((unhide B0).cell (p := ⟨p, off + 2, none⟩) hpl).trans c2
  have d3 := ((unhide B0).cell (p := ⟨p, off + 3, none⟩) hpl).trans c3
  have E0' := hide (fun wr (h : Below w.heap.size w wr) => (h.cell (p := ⟨p, off + 4, none⟩) hpl).trans e0)
  have E1' := hide (fun wr (h : Below w.heap.size w wr) => (h.cell (p := ⟨p, off + 4 + 1, none⟩) hpl).trans e1)
  have E2' := hide (fun wr (h : Below w.heap.size w wr) => (h.cell (p := ⟨p, off + 4 + 2, none⟩) hpl).trans e2)
  have E3' := hide (fun wr (h : Below w.heap.size w wr) => (h.cell (p := ⟨p, off + 4 + 3, none⟩) hpl).trans e3)
  have k1 : (k == 1) = false := beq_eq_false_iff_ne.2 (by omega)
  have k2 : (k == 2) = false := beq_eq_false_iff_ne.2 (by omega)
  have k3 : (k == 3) = false := beq_eq_false_iff_ne.2 (by omega)
  have k4 : (k == 4) = false := beq_eq_false_iff_ne.2 (by omega)
  have k11 : (k == 11) = false := beq_eq_false_iff_ne.2 (by omega)
  have k12 : (k == 12) = false := beq_eq_false_iff_ne.2 (by omega)
  have TW := hide (fun wr => twoS_any k va vb hk ia ib wr)
  unfold TwoR at TW
  generalize hX : InR _ w = X
  have HX := hide hX
  unfold InR at IA IB
  simp only [Option.getD_some, Option.getD_none, Option.isSome_some, Option.isSome_none] at IA IB
  unfold Ex.cs at IA IB
  show Calls Tryd.prog 63 #[.agg #[.int .i64 k, .int .i64 0, .string ⟨#[]⟩, .slice (some ⟨p, off, none⟩) 2 cap], .slice (some ⟨gb, 0, none⟩) bs.length cb, .slice (some ⟨gn, 0, none⟩) L.length cn, .slice (some ⟨gv, 0, none⟩) vs.length cv] w X
  clear hX hr hc c0 c1 c2 c3 e0 e1 e2 e3 r0 r1 iha ihb xa xb hev ha hb EQ hk
  go_enter Tryd.func63, Tryd.ntmps63
  go_wp2_with fail
  generalize w.alloc (.cells #[.int .i64 k, .int .i64 0, .string ⟨#[]⟩, .slice (some ⟨p, off, none⟩) 2 cap] 26) = W at *
  clear d0 d1 d2 d3
  refine (unhide IA).mono ?_
  rintro r w1 ⟨rfl, hb1⟩
  have B1 := hide ((unhide B0).trans (hb1.mono (unhide B0).size))
  have R1 := hide (row_keep (unhide R0) hb1)
  have z0 := Lib.cell_of_heap (unhide R1) 0
  have z3 := Lib.cell_of_heap (unhide R1) 3
  have d0 := unhide E0' _ (unhide B1)
  have d1 := unhide E1' _ (unhide B1)
  have d2 := unhide E2' _ (unhide B1)
  have d3 := unhide E3' _ (unhide B1)
  have IB2 := hide (unhide IB _ (unhide B1))
  clear hb1 B0 R0 IA IB E0' E1' E2' E3'
  go_wp2_with fail
  clear d0 d1 d2 d3 z0 z3
  refine (unhide IB2).mono ?_
  rintro r w2 ⟨rfl, hb2⟩
  have B2 := hide ((unhide B1).trans (hb2.mono (unhide B1).size))
  have R2 := row_keep (unhide R1) hb2
  have z0 := Lib.cell_of_heap R2 0
  clear hb2 B1 R1 IB2 R2
  go_wp2_with (go_at_call 78; refine (unhide TW _).mono ?_; rintro r w' ⟨hw', rfl⟩; rw [hw']; clear hw' w')
  rw [← unhide HX]
  exact ⟨rfl, unhide B2⟩
end Go.Proofs.YtkolflcjkofleaaDoor

namespace Go.Proofs.YtkolflcjkofleaaDoor
open Go.ChangeShapes Go.WideShapes Go.ChangeAt Go.RowKit
set_option linter.unusedVariables false
set_option maxRecDepth 8000
set_option linter.unusedSimpArgs false

theorem worthS_all (bs : List Int) (L : List ByteArray) (vs : List Int) (hL : L.length ≤ 1100000) (hB : bs.length ≤ 1099511627776) (hV : vs.length ≤ 1099511627776) : ∀ (d : Nat) (e : Ex), okF d false e = true → WoP bs L vs e := by
  intro d
  induction d with
  | zero => intro e h; rw [okF] at h; cases h
  | succ d ih =>
    intro e h
    rcases ok_sev h with ⟨n, hn, rfl⟩ | ⟨s, hs, rfl⟩ | rfl | ⟨n, hn, rfl⟩ | ⟨s, hs, rfl⟩ | ⟨a, ha, rfl⟩ | ⟨k, a, b, hk, ha, hb, rfl⟩
    · exact worth1 n _ bs L vs hL hB hV
    · exact worth2 0 s bs L vs hL hB hV
    · exact worth3 0 _ bs L vs hL hB hV
    · by_cases hl : n < (bs.length : Int)
      · obtain ⟨m, rfl⟩ : ∃ m : Nat, n = m := ⟨n.toNat, by omega⟩
        exact worth11y m _ bs L vs hL hB hV (by omega)
      · exact worth11n n _ bs L vs hL hB hV hl
    · by_cases h0 : atV L s < 0
      · exact worth12m 0 s bs L vs hL hB hV h0
      · by_cases hl : (vs.length : Int) ≤ atV L s
        · exact worth12g 0 s bs L vs hL hB hV h0 hl
        · obtain ⟨m, hm⟩ : ∃ m : Nat, atV L s = m := ⟨(atV L s).toNat, by omega⟩
          exact worth12y 0 s m bs L vs hL hB hV hm (by omega)
    · exact worthS_neg bs L vs a (ih a ha) (fun v hv => worth_in (seW_in bs) (glW_in L vs) d a v ha hv)
    · cases wa : worthX (seW bs) (glW L vs) a with
      | none =>
        cases wb : worthX (seW bs) (glW L vs) b with
        | none => exact worthS_nn bs L vs k hk a b (ih a ha) (ih b hb) 0 0 wa wb (by decide) (by decide)
        | some vb => exact worthS_ns bs L vs k hk a b (ih a ha) (ih b hb) 0 vb wa wb (by decide) (worth_in (seW_in bs) (glW_in L vs) d b vb hb wb)
      | some va =>
        cases wb : worthX (seW bs) (glW L vs) b with
        | none => exact worthS_sn bs L vs k hk a b (ih a ha) (ih b hb) va 0 wa wb (worth_in (seW_in bs) (glW_in L vs) d a va ha wa) (by decide)
        | some vb => exact worthS_ss bs L vs k hk a b (ih a ha) (ih b hb) va vb wa wb (worth_in (seW_in bs) (glW_in L vs) d a va ha wa) (worth_in (seW_in bs) (glW_in L vs) d b vb hb wb)
/-- What Worth answers. -/
def worthA (bs : List Int) (L : List ByteArray) (vs : List Int) (e : Ex) : Option Int := if okF 6 false e = true then worthX (seW bs) (glW L vs) e else none
set_option maxHeartbeats 4000000 in
theorem worthA_no (bs : List Int) (L : List ByteArray) (vs : List Int) (hL : L.length ≤ 1100000) (hB : bs.length ≤ 1099511627776) (hV : vs.length ≤ 1099511627776) (e : Ex) (b : Option Addr) (cap gb gn gv cb cn cv : Nat) (w : World) (hr : RdX w 0 e b) (hev : Ev w gb gn gv bs L vs) (hz : e.sz ≤ 1048576) (ho : okF 6 false e = false) : Calls Tryd.prog 24 #[.agg (e.cs b cap), .slice (some ⟨gb, 0, none⟩) bs.length cb, .slice (some ⟨gn, 0, none⟩) L.length cn, .slice (some ⟨gv, 0, none⟩) vs.length cv] w (InR (worthA bs L vs e) w) := by
  have EQ := hide (show worthA bs L vs e = none by unfold worthA; rw [if_neg (by rw [ho]; decide)])
  rw [unhide EQ]
  have B0 := hide (below_new w (.cells #[.int .i64 e.k, .int .i64 e.n, .string e.s, .slice b e.l.length cap] 26))
  have R0 := hide (show (w.alloc (.cells #[.int .i64 e.k, .int .i64 e.n, .string e.s, .slice b e.l.length cap] 26)).heap[w.heap.size]? = some (.cells #[.int .i64 e.k, .int .i64 e.n, .string e.s, .slice b e.l.length cap] 26 (0, 0)) from Array.getElem?_push_size)
  have OK := hide (okS_any e b cap _ (hr.later (unhide B0)) hz)
  rw [ho] at OK
  generalize hX : InR _ w = X
  have HX := hide hX
  unfold Ex.cs at OK ⊢
  clear hX hr hev hz ho EQ
  go_enter Tryd.func24, Tryd.ntmps24
  go_wp2_with fail
  generalize w.alloc (.cells #[.int .i64 e.k, .int .i64 e.n, .string e.s, .slice b e.l.length cap] 26) = W at *
  refine (unhide OK).mono ?_
  rintro r w1 ⟨rfl, hb1⟩
  have B1 := hide ((unhide B0).trans (hb1.mono (unhide B0).size))
  have R1 := hide (row_keep (unhide R0) hb1)
  clear hb1 B0 R0 OK
  go_wp2
  rw [← unhide HX]
  exact ⟨rfl, unhide B1⟩
set_option maxHeartbeats 4000000 in
theorem worthA_n (bs : List Int) (L : List ByteArray) (vs : List Int) (hL : L.length ≤ 1100000) (hB : bs.length ≤ 1099511627776) (hV : vs.length ≤ 1099511627776) (e : Ex) (b : Option Addr) (cap gb gn gv cb cn cv : Nat) (w : World) (hr : RdX w 0 e b) (hev : Ev w gb gn gv bs L vs) (hz : e.sz ≤ 1048576) (ho : okF 6 false e = true) (hv : worthX (seW bs) (glW L vs) e = none) : Calls Tryd.prog 24 #[.agg (e.cs b cap), .slice (some ⟨gb, 0, none⟩) bs.length cb, .slice (some ⟨gn, 0, none⟩) L.length cn, .slice (some ⟨gv, 0, none⟩) vs.length cv] w (InR (worthA bs L vs e) w) := by
  have EQ := hide (show worthA bs L vs e = none by unfold worthA; rw [if_pos ho, hv])
  rw [unhide EQ]
  have B0 := hide (below_new w (.cells #[.int .i64 e.k, .int .i64 e.n, .string e.s, .slice b e.l.length cap] 26))
  have R0 := hide (show (w.alloc (.cells #[.int .i64 e.k, .int .i64 e.n, .string e.s, .slice b e.l.length cap] 26)).heap[w.heap.size]? = some (.cells #[.int .i64 e.k, .int .i64 e.n, .string e.s, .slice b e.l.length cap] 26 (0, 0)) from Array.getElem?_push_size)
  have OK := hide (okS_any e b cap _ (hr.later (unhide B0)) hz)
  rw [ho] at OK
  have WO := hide (fun wr (h : Below w.heap.size w wr) => worthS_all bs L vs hL hB hV 6 e ho b cap gb gn gv cb cn cv wr (hr.later h) (hev.later h))
  rw [hv] at WO
  unfold InR at WO
  simp only [Option.getD_some, Option.getD_none, Option.isSome_some, Option.isSome_none] at WO
  unfold Ex.cs at WO
  generalize hX : InR _ w = X
  have HX := hide hX
  unfold Ex.cs at OK ⊢
  clear hX hr hev hz ho EQ hv
  go_enter Tryd.func24, Tryd.ntmps24
  go_wp2_with fail
  generalize w.alloc (.cells #[.int .i64 e.k, .int .i64 e.n, .string e.s, .slice b e.l.length cap] 26) = W at *
  refine (unhide OK).mono ?_
  rintro r w1 ⟨rfl, hb1⟩
  have B1 := hide ((unhide B0).trans (hb1.mono (unhide B0).size))
  have R1 := hide (row_keep (unhide R0) hb1)
  clear hb1 B0 R0 OK
  have W1 := hide (unhide WO w1 (unhide B1))
  clear WO
  go_wp2_with (refine wpList_load_row rfl 26 _ rfl w.heap.size rfl 26 #[.int .i64 e.k, .int .i64 e.n, .string e.s, .slice b e.l.length cap] (0, 0) _ (unhide R1) Tryd.underlying26 rfl (by kernel_rfl) ?_)
  refine (unhide W1).mono ?_
  rintro r w2 ⟨rfl, hb2⟩
  have B2 := hide ((unhide B1).trans (hb2.mono (unhide B1).size))
  clear hb2 B1 R1 W1
  go_wp2
  rw [← unhide HX]
  exact ⟨rfl, unhide B2⟩
set_option maxHeartbeats 4000000 in
theorem worthA_y (bs : List Int) (L : List ByteArray) (vs : List Int) (hL : L.length ≤ 1100000) (hB : bs.length ≤ 1099511627776) (hV : vs.length ≤ 1099511627776) (e : Ex) (b : Option Addr) (cap gb gn gv cb cn cv : Nat) (w : World) (hr : RdX w 0 e b) (hev : Ev w gb gn gv bs L vs) (hz : e.sz ≤ 1048576) (ho : okF 6 false e = true) (v : Int) (hv : worthX (seW bs) (glW L vs) e = some v) : Calls Tryd.prog 24 #[.agg (e.cs b cap), .slice (some ⟨gb, 0, none⟩) bs.length cb, .slice (some ⟨gn, 0, none⟩) L.length cn, .slice (some ⟨gv, 0, none⟩) vs.length cv] w (InR (worthA bs L vs e) w) := by
  have EQ := hide (show worthA bs L vs e = some v by unfold worthA; rw [if_pos ho, hv])
  rw [unhide EQ]
  have B0 := hide (below_new w (.cells #[.int .i64 e.k, .int .i64 e.n, .string e.s, .slice b e.l.length cap] 26))
  have R0 := hide (show (w.alloc (.cells #[.int .i64 e.k, .int .i64 e.n, .string e.s, .slice b e.l.length cap] 26)).heap[w.heap.size]? = some (.cells #[.int .i64 e.k, .int .i64 e.n, .string e.s, .slice b e.l.length cap] 26 (0, 0)) from Array.getElem?_push_size)
  have OK := hide (okS_any e b cap _ (hr.later (unhide B0)) hz)
  rw [ho] at OK
  have WO := hide (fun wr (h : Below w.heap.size w wr) => worthS_all bs L vs hL hB hV 6 e ho b cap gb gn gv cb cn cv wr (hr.later h) (hev.later h))
  rw [hv] at WO
  unfold InR at WO
  simp only [Option.getD_some, Option.getD_none, Option.isSome_some, Option.isSome_none] at WO
  unfold Ex.cs at WO
  generalize hX : InR _ w = X
  have HX := hide hX
  unfold Ex.cs at OK ⊢
  clear hX hr hev hz ho EQ hv
  go_enter Tryd.func24, Tryd.ntmps24
  go_wp2_with fail
  generalize w.alloc (.cells #[.int .i64 e.k, .int .i64 e.n, .string e.s, .slice b e.l.length cap] 26) = W at *
  refine (unhide OK).mono ?_
  rintro r w1 ⟨rfl, hb1⟩
  have B1 := hide ((unhide B0).trans (hb1.mono (unhide B0).size))
  have R1 := hide (row_keep (unhide R0) hb1)
  clear hb1 B0 R0 OK
  have W1 := hide (unhide WO w1 (unhide B1))
  clear WO
  go_wp2_with (refine wpList_load_row rfl 26 _ rfl w.heap.size rfl 26 #[.int .i64 e.k, .int .i64 e.n, .string e.s, .slice b e.l.length cap] (0, 0) _ (unhide R1) Tryd.underlying26 rfl (by kernel_rfl) ?_)
  refine (unhide W1).mono ?_
  rintro r w2 ⟨rfl, hb2⟩
  have B2 := hide ((unhide B1).trans (hb2.mono (unhide B1).size))
  clear hb2 B1 R1 W1
  go_wp2
  rw [← unhide HX]
  exact ⟨rfl, unhide B2⟩
theorem worthA_any (bs : List Int) (L : List ByteArray) (vs : List Int) (hL : L.length ≤ 1100000) (hB : bs.length ≤ 1099511627776) (hV : vs.length ≤ 1099511627776) (e : Ex) (b : Option Addr) (cap gb gn gv cb cn cv : Nat) (w : World) (hr : RdX w 0 e b) (hev : Ev w gb gn gv bs L vs) (hz : e.sz ≤ 1048576) : Calls Tryd.prog 24 #[.agg (e.cs b cap), .slice (some ⟨gb, 0, none⟩) bs.length cb, .slice (some ⟨gn, 0, none⟩) L.length cn, .slice (some ⟨gv, 0, none⟩) vs.length cv] w (InR (worthA bs L vs e) w) := by
  cases ho : okF 6 false e with
  | false => exact worthA_no bs L vs hL hB hV e b cap gb gn gv cb cn cv w hr hev hz ho
  | true =>
    cases hv : worthX (seW bs) (glW L vs) e with
    | none => exact worthA_n bs L vs hL hB hV e b cap gb gn gv cb cn cv w hr hev hz ho hv
    | some v => exact worthA_y bs L vs hL hB hV e b cap gb gn gv cb cn cv w hr hev hz ho v hv
end Go.Proofs.YtkolflcjkofleaaDoor

namespace Go.Proofs.YtkolflcjkofleaaDoor
open Go.ChangeShapes Go.WideShapes Go.ChangeAt Go.RowKit
set_option linter.unusedVariables false
set_option maxRecDepth 8000
set_option linter.unusedSimpArgs false

/-- A term with another in the place of where it stands, and values for names; by its parts. -/
def putC (here : Ex) (L : List ByteArray) (vals : List Ex) (k n : Int) (s : ByteArray) (l : List Ex) : Ex :=
  if k = 3 then here else if k = 2 ∧ 0 ≤ atV L s then xAt vals (atV L s).toNat else ⟨k, n, s, l⟩
def putX (here : Ex) (L : List ByteArray) (vals : List Ex) : Ex → Ex
  | ⟨k, n, s, l⟩ => putC here L vals k n s (l.map (putX here L vals))
theorem putX_eq (here : Ex) (L : List ByteArray) (vals : List Ex) (k n : Int) (s : ByteArray) (l : List Ex) : putX here L vals ⟨k, n, s, l⟩ = putC here L vals k n s (l.map (putX here L vals)) := by rw [putX]
/-- What is put, and where, as it lies. -/
structure Pv (w : World) (here : Ex) (hb : Option Addr) (gn : Nat) (L : List ByteArray) (va : Option Addr) (vals : List Ex) : Prop where
  h : RdX w 0 here hb
  n : RdS w gn L
  ln : gn < w.heap.size
  v : RdX w 0 ⟨0, 0, E0, vals⟩ va
theorem Pv.later {w w' : World} {here : Ex} {hb va : Option Addr} {gn : Nat} {L : List ByteArray} {vals : List Ex} (h : Pv w here hb gn L va vals) (hbel : Below w.heap.size w w') : Pv w' here hb gn L va vals :=
  ⟨h.h.later hbel, fun i hi => (hbel.cell (p := ⟨gn, i, none⟩) h.ln).trans (h.n i hi), Nat.lt_of_lt_of_le h.ln hbel.size, h.v.later hbel⟩
/-- What is put can be counted. -/
structure Pk (here : Ex) (L : List ByteArray) (vals : List Ex) : Prop where
  h : here.sz ≤ 1048576
  n : L.length ≤ 1100000
  v : ∀ i, i < vals.length → (xAt vals i).sz ≤ 1048576
  l : L.length = vals.length
def PuP (here : Ex) (L : List ByteArray) (vals : List Ex) (e : Ex) : Prop := ∀ (b hb va : Option Addr) (cap hcp gn vcp : Nat) (w : World), RdX w 0 e b → Pv w here hb gn L va vals → Calls Tryd.prog 54 #[.agg (e.cs b cap), .agg (here.cs hb hcp), .slice (some ⟨gn, 0, none⟩) L.length L.length, .slice va vals.length vcp] w (GiR (putX here L vals e) (Up w) w)
theorem atV_lt {L : List ByteArray} {s : ByteArray} {j : Nat} (h : atV L s = j) : j < L.length := by
  unfold atV at h
  split at h
  · rename_i hs
    have h1 : L.findIdx (fun t => eqS t s) = j := by omega
    rw [← h1]
    rw [hasS_iff] at hs
    exact List.findIdx_lt_length_of_exists ⟨s, hs, (eqS_iff _ _).2 rfl⟩
  · omega
theorem up_oy {w : World} {b : Nat} (h : w.heap.size + 3 ≤ b) : Oy w (Up w) b := ⟨Nat.le_trans (Nat.le_add_right _ _) h, .inr h⟩
set_option maxHeartbeats 4000000 in
theorem putS_here (here : Ex) (L : List ByteArray) (vals : List Ex) (pk : Pk here L vals) (n : Int) (s : ByteArray) (l : List Ex) : PuP here L vals ⟨3, n, s, l⟩ := by
  intro b hb va cap hcp gn vcp w hr hv
  have EQ := hide (show putX here L vals ⟨3, n, s, l⟩ = here by rw [putX_eq]; rfl)
  rw [unhide EQ]
  have X0 := hide (By.new w #[.int .i64 3, .int .i64 n, .string s, .slice b l.length cap] #[.int .i64 here.k, .int .i64 here.n, .string here.s, .slice hb here.l.length hcp])
  have CP := hide (copyS_any here hb hcp _ (hv.h.later (unhide X0).bel) pk.h)
  generalize hX : GiR _ (Up w) w = X
  have HX := hide hX
  unfold GiR at CP
  unfold Ex.cs at CP ⊢
  show Calls Tryd.prog 54 #[.agg #[.int .i64 3, .int .i64 n, .string s, .slice b l.length cap], .agg #[.int .i64 here.k, .int .i64 here.n, .string here.s, .slice hb here.l.length hcp], .slice (some ⟨gn, 0, none⟩) L.length L.length, .slice va vals.length vcp] w X
  clear hX hr hv EQ pk
  go_enter Tryd.func54, Tryd.ntmps54
  go_wp2_with fail
  generalize ((w.alloc (.cells #[.int .i64 3, .int .i64 n, .string s, .slice b l.length cap] 26)).alloc (.cells #[.int .i64 here.k, .int .i64 here.n, .string here.s, .slice hb here.l.length hcp] 26)).alloc (.cells #[.int .i64 0, .int .i64 0, .string ⟨#[]⟩, .slice none 0 0] 26) = W at *
  refine (unhide CP).mono ?_
  rintro r w1 ⟨c, cp, rfl, hx, hb1⟩
  have hzW := (unhide X0).lt
  have X1 := hide ((unhide X0).later hb1)
  have A1 := hide (hx.mono (fun b h => up_oy (w := w) (b := b) (Nat.le_trans hzW h)))
  clear hx hb1 X0 CP
  go_wp2_with (refine wpList_store_row rfl 26 _ _ rfl (w.heap.size + 2) #[.int .i64 here.k, .int .i64 here.n, .string here.s, .slice c here.l.length cp] rfl rfl 26 _ ((unhide X1).res) szE rfl (ex_one _ _ _ _ _ _) ?_)
  refine bodyPost_ret (results_cell_row (P := Tryd.prog) rfl _ _ (w.heap.size + 2) 26 #[.int .i64 here.k, .int .i64 here.n, .string here.s, .slice c here.l.length cp] (0, 0) _ rfl (setRow_heap _ _ _ _ _ _ ((unhide X1).res)) Tryd.underlying26 rfl szE) rfl ?_
  rw [← unhide HX]
  exact (unhide X1).end (unhide A1) _
set_option maxHeartbeats 4000000 in
theorem putS_hit (here : Ex) (L : List ByteArray) (vals : List Ex) (pk : Pk here L vals) (n : Int) (s : ByteArray) (l : List Ex) (j : Nat) (hj : atV L s = j) : PuP here L vals ⟨2, n, s, l⟩ := by
  intro b hb va cap hcp gn vcp w hr hv
  have hjl := atV_lt hj
  have hjv : j < vals.length := by have := pk.l; omega
  have EQ := hide (show putX here L vals ⟨2, n, s, l⟩ = xAt vals j by rw [putX_eq]; unfold putC; rw [if_neg (by decide), if_pos ⟨rfl, by omega⟩, hj]; rfl)
  rw [unhide EQ]
  have X0 := hide (By.new w #[.int .i64 2, .int .i64 n, .string s, .slice b l.length cap] #[.int .i64 here.k, .int .i64 here.n, .string here.s, .slice hb here.l.length hcp])
  have hv0 := hv.later (unhide X0).bel
  have AT := hide (at_anyF L s gn L.length L.length _ rfl pk.n hv0.n)
  rw [hj] at AT
  obtain ⟨p, off, rfl, hpl, hc⟩ := hv0.v.at (by intro e; rw [show vals = [] from e] at hjv; simp at hjv)
  obtain ⟨c0, c1, c2, q, qp, c3, r0⟩ := hc j hjv
  have CP := hide (copyS_any (xAt vals j) q qp _ r0 (pk.v j hjv))
  generalize hX : GiR _ (Up w) w = X
  have HX := hide hX
  unfold GiR at CP
  unfold Ex.cs at CP ⊢
  have xe : xAt (Ex.mk 0 0 E0 vals).l j = xAt vals j := rfl
  rw [xe] at c0 c1 c2 c3
  have hlv : vals.length ≤ 1100000 := by have := pk.l; have := pk.n; omega
  show Calls Tryd.prog 54 #[.agg #[.int .i64 2, .int .i64 n, .string s, .slice b l.length cap], .agg #[.int .i64 here.k, .int .i64 here.n, .string here.s, .slice hb here.l.length hcp], .slice (some ⟨gn, 0, none⟩) L.length L.length, .slice (some ⟨p, off, none⟩) vals.length vcp] w X
  clear hX hr hv hv0 EQ pk hc r0 xe hj
  go_enter Tryd.func54, Tryd.ntmps54
  go_wp2_with (go_at_call 81; refine (unhide AT).mono ?_; rintro e w' ⟨rfl, hw'⟩; rw [hw']; clear hw' w')
  generalize ((w.alloc (.cells #[.int .i64 2, .int .i64 n, .string s, .slice b l.length cap] 26)).alloc (.cells #[.int .i64 here.k, .int .i64 here.n, .string here.s, .slice hb here.l.length hcp] 26)).alloc (.cells #[.int .i64 0, .int .i64 0, .string ⟨#[]⟩, .slice none 0 0] 26) = W at *
  clear c0 c1 c2 c3
  refine (unhide CP).mono ?_
  rintro r w1 ⟨c, cp, rfl, hx, hb1⟩
  have hzW := (unhide X0).lt
  have X1 := hide ((unhide X0).later hb1)
  have A1 := hide (hx.mono (fun b h => up_oy (w := w) (b := b) (Nat.le_trans hzW h)))
  clear hx hb1 X0 CP AT
  generalize xAt vals j = y at *
  go_wp2_with (refine wpList_store_row rfl 26 _ _ rfl (w.heap.size + 2) #[.int .i64 y.k, .int .i64 y.n, .string y.s, .slice c y.l.length cp] rfl rfl 26 _ ((unhide X1).res) szE rfl (ex_one _ _ _ _ _ _) ?_)
  refine bodyPost_ret (results_cell_row (P := Tryd.prog) rfl _ _ (w.heap.size + 2) 26 #[.int .i64 y.k, .int .i64 y.n, .string y.s, .slice c y.l.length cp] (0, 0) _ rfl (setRow_heap _ _ _ _ _ _ ((unhide X1).res)) Tryd.underlying26 rfl szE) rfl ?_
  rw [← unhide HX]
  exact (unhide X1).end (unhide A1) _
end Go.Proofs.YtkolflcjkofleaaDoor

namespace Go.Proofs.YtkolflcjkofleaaDoor
open Go.ChangeShapes Go.WideShapes Go.ChangeAt Go.RowKit
set_option linter.unusedVariables false
set_option maxRecDepth 8000
set_option linter.unusedSimpArgs false

/-- The rows of l11Put: two arguments, what is answered, the term that is filled. -/
structure Pz (w wr : World) (pe ph : Array Value) (k n : Int) (s : ByteArray) (v : Value) : Prop where
  bel : Below w.heap.size w wr
  lt : w.heap.size + 4 ≤ wr.heap.size
  be : wr.heap[w.heap.size]? = some (.cells pe 26 (0, 0))
  bh : wr.heap[w.heap.size + 1]? = some (.cells ph 26 (0, 0))
  res : wr.heap[w.heap.size + 2]? = some (.cells #[.int .i64 0, .int .i64 0, .string ⟨#[]⟩, .slice none 0 0] 26 (0, 0))
  out : wr.heap[w.heap.size + 3]? = some (.cells #[.int .i64 k, .int .i64 n, .string s, v] 26 (0, 0))
section
variable {w wr w' : World} {pe ph : Array Value} {k n : Int} {s : ByteArray} {v : Value}
theorem Pz.later (h : Pz w wr pe ph k n s v) (hb : Below wr.heap.size wr w') : Pz w w' pe ph k n s v := ⟨h.bel.trans (hb.mono h.bel.size), Nat.le_trans h.lt hb.size, row_keep h.be hb, row_keep h.bh hb, row_keep h.res hb, row_keep h.out hb⟩
theorem Pz.grown {o : Option Nat} (h : Pz w wr pe ph k n s v) (hg : wr.grownBy w' o) (ho : ∀ g, o = some g → w.heap.size + 4 ≤ g) : Pz w w' pe ph k n s v := by
  have ne : ∀ b, b < w.heap.size + 4 → some b ≠ o := fun b hb e => by have := ho b e.symm; omega
  have kp : ∀ b o', b < w.heap.size + 4 → wr.heap[b]? = some o' → w'.heap[b]? = some o' := fun b o' hb h0 => (hg.block _ (Array.getElem?_eq_some_iff.1 h0).1 (ne _ hb)).trans h0
  exact ⟨h.bel.grown hg h.bel.size (fun q e => by have := ho q e; omega), Nat.le_trans h.lt hg.size, kp _ _ (by omega) h.be, kp _ _ (by omega) h.bh, kp _ _ (by omega) h.res, kp _ _ (by omega) h.out⟩
theorem Pz.set3 (h : Pz w wr pe ph k n s v) (x : Value) : Pz w (wr.setCell ⟨w.heap.size + 3, 3, none⟩ x) pe ph k n s x := by
  have ne : ∀ b, b < w.heap.size + 3 → (wr.setCell ⟨w.heap.size + 3, 3, none⟩ x).heap[b]? = wr.heap[b]? := fun b hb => heap_setCell_other wr ⟨w.heap.size + 3, 3, none⟩ b _ (fun e => by have e' : b = w.heap.size + 3 := e; omega)
  refine ⟨h.bel.setCell (p := ⟨w.heap.size + 3, 3, none⟩) (by show w.heap.size ≤ w.heap.size + 3; omega) _, by simp; exact h.lt, (ne _ (by omega)).trans h.be, (ne _ (by omega)).trans h.bh, (ne _ (by omega)).trans h.res, ?_⟩
  rw [heap_setCell_same wr (w.heap.size + 3) 3 _ 26 x h.out]
  rfl
theorem Pz.new (w : World) (pe ph : Array Value) : Pz w ((((w.alloc (.cells pe 26)).alloc (.cells ph 26)).alloc (.cells #[.int .i64 0, .int .i64 0, .string ⟨#[]⟩, .slice none 0 0] 26)).alloc (.cells #[.int .i64 k, .int .i64 n, .string s, v] 26)) pe ph k n s v := by
  have hy := By.new w pe ph
  have hb := below_new (((w.alloc (.cells pe 26)).alloc (.cells ph 26)).alloc (.cells #[.int .i64 0, .int .i64 0, .string ⟨#[]⟩, .slice none 0 0] 26)) (.cells #[.int .i64 k, .int .i64 n, .string s, v] 26)
  have h3 : (((w.alloc (.cells pe 26)).alloc (.cells ph 26)).alloc (.cells #[.int .i64 0, .int .i64 0, .string ⟨#[]⟩, .slice none 0 0] 26)).heap.size = w.heap.size + 3 := by simp
  have hz := hy.later hb
  refine ⟨hz.bel, by simp, hz.boxa, hz.boxb, hz.res, ?_⟩
  rw [← h3]; exact Array.getElem?_push_size
end
theorem ApX.upto {w : World} {B k M M' : Nat} {l : List Ex} {v : Value} (h : ApX w B l k v M) (hM : M ≤ M') : ApX w B l k v M' := by
  obtain ⟨cs, Fs, h1, h2, h3, h4, h5, h6⟩ := h
  exact ⟨cs, Fs, h1, fun g hg => Nat.lt_of_lt_of_le (h2 g hg) hM, h3, h4, fun b hb => ⟨(h5 b hb).1, Nat.lt_of_lt_of_le (h5 b hb).2.1 hM, (h5 b hb).2.2⟩, h6⟩
theorem put_fin {k m : Int} {s : ByteArray} {l : List Ex} {w w' : World} {a : Option Addr} {n cp M : Nat} {pe ph : Array Value} (row : Array Value) (hc : Pz w w' pe ph k m s (.slice a n cp)) (h : ApX w' (w.heap.size + 4) l l.length (.slice a n cp) M) : GiR ⟨k, m, s, l⟩ (Up w) w (.returned (.agg #[.int .i64 k, .int .i64 m, .string s, .slice a n cp])) (w'.setRow (w.heap.size + 2) row) := by
  obtain ⟨hd, rfl⟩ := h.done k m s
  exact ⟨a, cp, rfl, (PX.row (g := w.heap.size + 2) hd row (by show ¬ (w.heap.size + 4 ≤ w.heap.size + 2); omega)).mono (Q := Up w) (fun b (hb : w.heap.size + 4 ≤ b) => by show w.heap.size ≤ b; omega), hc.bel.grown (grownBy_row _) hc.bel.size (fun k e => by cases e; omega)⟩
theorem xAt_map (f : Ex → Ex) (l : List Ex) (i : Nat) (h : i < l.length) : xAt (l.map f) i = f (xAt l i) := by
  unfold xAt
  rw [List.getD_eq_getElem?_getD, List.getD_eq_getElem?_getD, List.getElem?_map, List.getElem?_eq_getElem h]
  rfl
set_option maxHeartbeats 16000000 in
theorem putS_oth (here : Ex) (L : List ByteArray) (vals : List Ex) (pk : Pk here L vals) (k n : Int) (s : ByteArray) (l : List Ex) (hlen : l.length ≤ 1100000) (ih : ∀ i, i < l.length → PuP here L vals (xAt l i)) (h3 : (k == 3) = false) (h2 : (k == 2) = false) : PuP here L vals ⟨k, n, s, l⟩ := by
  intro b hb va cap hcp gn vcp w hr hv
  have EQ := hide (show putX here L vals ⟨k, n, s, l⟩ = ⟨k, n, s, l.map (putX here L vals)⟩ by rw [putX_eq]; unfold putC; rw [if_neg (beq_eq_false_iff_ne.1 h3), if_neg (fun h => beq_eq_false_iff_ne.1 h2 h.1)])
  rw [unhide EQ]
  have hrr := (RdX_eq _ _ _ _).1 hr
  have PV := hide (fun wr (h : Below w.heap.size w wr) => hv.later h)
  have FN := hide (fun (w' : World) (a : Option Addr) (n' cp : Nat) (pe ph row : Array Value) (M : Nat) => put_fin (k := k) (m := n) (s := s) (l := l.map (putX here L vals)) (w := w) (w' := w') (a := a) (n := n') (cp := cp) (pe := pe) (ph := ph) (M := M) row)
  generalize hX : GiR _ (Up w) w = X at *
  have hml : (l.map (putX here L vals)).length = l.length := List.length_map _
  rw [hml] at FN
  have XM := hide (fun i (h : i < l.length) => xAt_map (putX here L vals) l i h)
  generalize l.map (putX here L vals) = l' at *
  obtain ⟨len, hle⟩ : ∃ len, l.length = len := ⟨_, rfl⟩
  have IH := hide (fun i (h : i < l.length) (b' : Option Addr) (cap' : Nat) wr (h1 : RdX wr 0 (xAt l i) b') (h2 : Below w.heap.size w wr) => ih i h b' hb va cap' hcp gn vcp wr h1 (unhide PV wr h2))
  unfold Ex.cs at IH ⊢
  have hrl : l = [] ∨ ∃ p off, b = some ⟨p, off, none⟩ ∧ p < w.heap.size ∧ ∀ i, i < l.length → OneX w 0 p (off + i * 4) (xAt l i) := by
    rcases hrr with h | ⟨p, off, ha, _, hp, hc⟩
    · exact .inl h
    · exact .inr ⟨p, off, ha, hp, hc⟩
  show Calls Tryd.prog 54 #[.agg #[.int .i64 k, .int .i64 n, .string s, .slice b l.length cap], .agg #[.int .i64 here.k, .int .i64 here.n, .string here.s, .slice hb here.l.length hcp], .slice (some ⟨gn, 0, none⟩) L.length L.length, .slice va vals.length vcp] w X
  rw [hle] at hlen FN XM IH ⊢
  generalize here.k = hk at *
  generalize here.n = hn at *
  generalize here.s = hs at *
  generalize here.l.length = hl at *
  obtain ⟨i0, hi, hz0, hz1, hz2⟩ := info_parts infoX
  have C0 := hide (Pz.new (k := k) (n := n) (s := s) (v := .slice none 0 0) w #[.int .i64 k, .int .i64 n, .string s, .slice b len cap] #[.int .i64 hk, .int .i64 hn, .string hs, .slice hb hl hcp])
  clear hX hr hv EQ pk ih hrr hml
  go_enter Tryd.func54, Tryd.ntmps54
  go_wp2
  generalize (((w.alloc (.cells #[.int .i64 k, .int .i64 n, .string s, .slice b len cap] 26)).alloc (.cells #[.int .i64 hk, .int .i64 hn, .string hs, .slice hb hl hcp] 26)).alloc (.cells #[.int .i64 0, .int .i64 0, .string ⟨#[]⟩, .slice none 0 0] 26)).alloc (.cells #[.int .i64 k, .int .i64 n, .string s, .slice none 0 0] 26) = W at *
  go_loopw [11] (fun i wr => ∃ (j : Nat) (v : Value), j ≤ len ∧ i = .int .i64 j ∧ Pz w wr #[.int .i64 k, .int .i64 n, .string s, .slice b len cap] #[.int .i64 hk, .int .i64 hn, .string hs, .slice hb hl hcp] k n s v ∧ ApX wr (w.heap.size + 4) l' j v wr.heap.size) (fun i _ => len - (intOf i).toNat)
  case atStart => exact ⟨0, _, Nat.zero_le _, rfl, unhide C0, ApX.nil _ _ _ _⟩
  case round =>
    clear C0
    obtain ⟨i, v, hij, rfl, hcz, hap⟩ := hrel
    have b3 := Lib.cell_of_heap hcz.be 3
    by_cases hlt : i < len
    · rcases hrl with h0 | ⟨p, off, rfl, hpl, hc⟩
      · rw [h0] at hle; simp at hle; omega
      obtain ⟨c0, c1, c2, c, ca, c3, c4⟩ := hc i (by omega)
      have hbd : Below w.heap.size w wr.drew := hcz.bel.trans ((below_drew (w := wr)).mono hcz.bel.size)
      have HT := hide (fun wx (h : Below w.heap.size w wx) => unhide IH i hlt c ca wx (c4.later h) h)
      have hx := unhide XM i hlt
      have AS := hide (fun (w1 w2 : World) (g cp M M' : Nat) (q : Option Addr) (cq : Nat) cs Fs h1 h2 h3 h4 h5 h6 hx hBM hM hM' ho hg hw => ApX.step (w := w1) (w' := w2) (B := w.heap.size + 4) (k := i) (M := M) (M' := M') (l := l') (v := v) (cs := cs) (Fs := Fs) (q := q) (cp := cq) (g := g) (cap := cp) h1 h2 h3 h4 h5 h6 hx hBM hM hM' ho hg hw)
      unfold GiR Ex.cs at HT
      unfold exL at AS
      rw [← hx] at HT
      generalize xAt l' i = x at *
      generalize (xAt l i).k = ak at *
      generalize (xAt l i).n = an at *
      generalize (xAt l i).s = asx at *
      generalize (xAt l i).l.length = al at *
      have AS2 := hide (unhide AS)
      generalize x.k = xk at HT AS2
      generalize x.n = xn at HT AS2
      generalize x.s = xs at HT AS2
      generalize x.l.length = xl at HT AS2
      clear AS
      have AS := hide (unhide AS2)
      have D0 := hide (show (fun v => v.heap[w.heap.size]? = some (.cells #[.int .i64 k, .int .i64 n, .string s, .slice (some ⟨p, off, none⟩) len cap] 26 (0, 0)) ∧ v.heap[w.heap.size + 1]? = some (.cells #[.int .i64 hk, .int .i64 hn, .string hs, .slice hb hl hcp] 26 (0, 0)) ∧ (v.cell? ⟨p, off + i * 4, none⟩ = some (.int .i64 ak) ∧ v.cell? ⟨p, off + i * 4 + 1, none⟩ = some (.int .i64 an) ∧ v.cell? ⟨p, off + i * 4 + 2, none⟩ = some (.string asx) ∧ v.cell? ⟨p, off + i * 4 + 3, none⟩ = some (.slice c al ca))) wr.drew from ⟨hcz.be, hcz.bh, ⟨(hbd.cell (p := ⟨p, _, none⟩) hpl).trans c0, (hbd.cell (p := ⟨p, _, none⟩) hpl).trans c1, (hbd.cell (p := ⟨p, _, none⟩) hpl).trans c2, (hbd.cell (p := ⟨p, _, none⟩) hpl).trans c3⟩⟩)
      have CZ0 := hide (hcz.later (below_drew (w := wr)))
      have AP0 := hide (hap.later (below_drew (w := wr)) (Nat.le_refl _))
      have M0 := hide (show wr.heap.size ≤ wr.drew.heap.size from Nat.le_refl _)
      have hplW : p < wr.drew.heap.size := Nat.lt_of_lt_of_le hpl hbd.size
      have BD := hide hbd
      have WL := hide hcz.lt
      clear c0 c1 c2 c3 c4 hc hcz hap hx AS2 IH XM hbd FN
      go_wp2_with fail
      refine wp_region_held_drew (S := fun v => v.heap[w.heap.size]? = some (.cells #[.int .i64 k, .int .i64 n, .string s, .slice (some ⟨p, off, none⟩) len cap] 26 (0, 0)) ∧ v.heap[w.heap.size + 1]? = some (.cells #[.int .i64 hk, .int .i64 hn, .string hs, .slice hb hl hcp] 26 (0, 0)) ∧ (v.cell? ⟨p, off + i * 4, none⟩ = some (.int .i64 ak) ∧ v.cell? ⟨p, off + i * 4 + 1, none⟩ = some (.int .i64 an) ∧ v.cell? ⟨p, off + i * 4 + 2, none⟩ = some (.string asx) ∧ v.cell? ⟨p, off + i * 4 + 3, none⟩ = some (.slice c al ca))) (by kernel_rfl) (unhide D0) (fun hS => ?_)
      have HS := hide hS
      clear hS b3
      generalize hV0 : wr.drew = V0 at *
      have HV := hide (show V0.heap.size = wr.heap.size by rw [← hV0]; rfl)
      clear hV0
      refine wpAnyH_take (i := 0) (v := .pointer (some ⟨w.heap.size, 3, none⟩)) rfl (by kernel_rfl) (by kernel_rfl) (by kernel_rfl) (fun _ _ _ h => h) (Or.inl ⟨by rfl, fun w hc => ?_⟩) (unhide HS) ?_
      · clear hc; go_simp
      go_simp
      refine wpAnyH_take (i := 1) (v := .slice (some ⟨p, off, none⟩) len cap) rfl (by kernel_rfl) (by kernel_rfl) (by kernel_rfl) (fun _ _ _ h => h) (Or.inl ⟨by rfl, fun w hc => ?_⟩) (unhide HS) ?_
      · have q := Lib.cell_of_heap hc.1 3; clear hc; go_simp
      go_simp
      refine wpAnyH_take (i := 2) (v := .int .i64 i) rfl (by kernel_rfl) (by kernel_rfl) (by kernel_rfl) (fun _ _ _ h => h) (Or.inl ⟨by rfl, fun w hc => ?_⟩) (unhide HS) ?_
      · clear hc; go_simp
      go_simp
      refine wpAnyH_take (i := 3) (v := .pointer (some ⟨p, off + i * 4, none⟩)) rfl (by kernel_rfl) (by kernel_rfl) (by kernel_rfl) (fun _ _ _ h => h) (Or.inl ⟨by rfl, fun w hc => ?_⟩) (unhide HS) ?_
      · clear hc; go_simp
      go_simp
      refine wpAnyH_take (i := 4) (v := .agg #[.int .i64 ak, .int .i64 an, .string asx, .slice c al ca]) rfl (by kernel_rfl) (by kernel_rfl) (by kernel_rfl) (fun _ _ _ h => h) (Or.inl ⟨by rfl, fun w hc => ?_⟩) (unhide HS) ?_
      · obtain ⟨_, _, h0, h1, h2, h3⟩ := hc; go_simp
      go_simp
      refine wpAnyH_take (i := 5) (v := .agg #[.int .i64 hk, .int .i64 hn, .string hs, .slice hb hl hcp]) rfl (by kernel_rfl) (by kernel_rfl) (by kernel_rfl) (fun _ _ _ h => h) (yields_loadG (by rfl) 26 _ rfl (w.heap.size + 1) rfl 26 #[.int .i64 hk, .int .i64 hn, .string hs, .slice hb hl hcp] _ (fun w h => h.2.1) Tryd.underlying26 rfl (by kernel_rfl)) (unhide HS) ?_
      go_simp
      refine wpAnyH_take (i := 6) (v := .slice (some ⟨gn, 0, none⟩) L.length L.length) rfl (by kernel_rfl) (by kernel_rfl) (by kernel_rfl) (fun _ _ _ h => h) (Or.inl ⟨by rfl, fun w hc => ?_⟩) (unhide HS) ?_
      · clear hc; go_simp
      go_simp
      refine wpAnyH_take (i := 7) (v := .slice va vals.length vcp) rfl (by kernel_rfl) (by kernel_rfl) (by kernel_rfl) (fun _ _ _ h => h) (Or.inl ⟨by rfl, fun w hc => ?_⟩) (unhide HS) ?_
      · clear hc; go_simp
      go_simp
      refine wpAnyH_ready (rs := [8, 9]) (by kernel_rfl) (by simp) ?_
      refine AllReadyH.cons rfl (fun K2 hK => ?_) (AllReadyH.cons rfl (fun K2 hK => ?_) AllReadyH.nil)
      · go_simp
        refine (unhide HT V0 (unhide BD)).mono ?_
        rintro r w1 ⟨q, cq, rfl, hq, hb1⟩
        refine hK.out _ _ (⟨row_keep (unhide D0).1 hb1, row_keep (unhide D0).2.1 hb1, ⟨(hb1.cell (p := ⟨p, _, none⟩) hplW).trans (unhide D0).2.2.1, (hb1.cell (p := ⟨p, _, none⟩) hplW).trans (unhide D0).2.2.2.1, (hb1.cell (p := ⟨p, _, none⟩) hplW).trans (unhide D0).2.2.2.2.1, (hb1.cell (p := ⟨p, _, none⟩) hplW).trans (unhide D0).2.2.2.2.2⟩⟩) (fun hS => ?_)
        clear HS
        have HS := hide hS
        clear hS hK K2
        have HQ := hide (show NewX w1 V0.heap.size x q from hq).half
        have HB1 := hide hb1
        clear hq hb1
        refine wpAnyH_ready (rs := [9]) (by kernel_rfl) (by simp) ?_
        refine AllReadyH.cons rfl (fun K2 hK => ?_) AllReadyH.nil
        go_simp
        have hb2 := below_new w1 (.cells #[.int .i64 0, .int .i64 0, .string ⟨#[]⟩, .slice none 0 0] 26)
        have hb12 := (unhide HB1).trans (hb2.mono (unhide HB1).size)
        refine hK.out _ _ (⟨row_keep (unhide D0).1 hb12, row_keep (unhide D0).2.1 hb12, ⟨(hb12.cell (p := ⟨p, _, none⟩) hplW).trans (unhide D0).2.2.1, (hb12.cell (p := ⟨p, _, none⟩) hplW).trans (unhide D0).2.2.2.1, (hb12.cell (p := ⟨p, _, none⟩) hplW).trans (unhide D0).2.2.2.2.1, (hb12.cell (p := ⟨p, _, none⟩) hplW).trans (unhide D0).2.2.2.2.2⟩⟩) (fun hS => ?_)
        clear HS
        have HS := hide hS
        clear hS hK K2
        have GZ := hide (show (w1.alloc (.cells #[.int .i64 0, .int .i64 0, .string ⟨#[]⟩, .slice none 0 0] 26)).heap[w1.heap.size]? = some (.cells #[.int .i64 0, .int .i64 0, .string ⟨#[]⟩, .slice none 0 0] 26 (0, 0)) from Array.getElem?_push_size)
        have BV := hide hb12
        have GXL := hide (show V0.heap.size ≤ w1.heap.size from (unhide HB1).size)
        have HG := hide (show ∀ w3 : World, (∀ b, b ≠ w1.heap.size → w3.heap[b]? = (w1.alloc (.cells #[.int .i64 0, .int .i64 0, .string ⟨#[]⟩, .slice none 0 0] 26)).heap[b]?) → HalfX w3 V0.heap.size w1.heap.size x q from fun w3 h => by
          obtain ⟨F, f1, f2, f3⟩ := (unhide HQ).later hb2
          exact ⟨F, OwX.keep x q F (fun b hF => h b (by have := (f3 b hF).2; omega)) f1, f2, f3⟩)
        have M01 := hide (show wr.heap.size ≤ V0.heap.size from unhide M0)
        have BM := hide (show w.heap.size + 4 ≤ V0.heap.size by rw [unhide HV]; exact unhide WL)
        have M12 := hide (show V0.heap.size ≤ w1.heap.size from (unhide HB1).size)
        have M1s := hide (show V0.heap.size ≤ (w1.alloc (.cells #[.int .i64 0, .int .i64 0, .string ⟨#[]⟩, .slice none 0 0] 26)).heap.size from hb12.size)
        have M2w := hide (show w1.heap.size ≤ (w1.alloc (.cells #[.int .i64 0, .int .i64 0, .string ⟨#[]⟩, .slice none 0 0] 26)).heap.size from hb2.size)
        clear HQ hb2 hb12 HB1
        generalize w1.alloc (.cells #[.int .i64 0, .int .i64 0, .string ⟨#[]⟩, .slice none 0 0] 26) = w2 at *
        refine wpAnyH_ready (rs := [10]) (by kernel_rfl) (by simp) ?_
        refine AllReadyH.cons rfl (fun K2 hK => ?_) AllReadyH.nil
        rw [if_pos (by rfl)]
        refine wp_store_row 26 _ _ rfl (w1.heap.size) #[.int .i64 xk, .int .i64 xn, .string xs, .slice q xl cq] rfl rfl 26 _ (unhide GZ) szE rfl (ex_one _ _ _ _ _ _) ?_
        have hbs := hide (show Below V0.heap.size V0 (w2.setRow (w1.heap.size) #[.int .i64 xk, .int .i64 xn, .string xs, .slice q xl cq]) from (unhide BV).grown (grownBy_row _) (unhide BV).size (fun q e => by cases e; exact unhide GXL))
        refine hK.out _ _ (⟨row_keep (unhide D0).1 (unhide hbs), row_keep (unhide D0).2.1 (unhide hbs), ⟨((unhide hbs).cell (p := ⟨p, _, none⟩) hplW).trans (unhide D0).2.2.1, ((unhide hbs).cell (p := ⟨p, _, none⟩) hplW).trans (unhide D0).2.2.2.1, ((unhide hbs).cell (p := ⟨p, _, none⟩) hplW).trans (unhide D0).2.2.2.2.1, ((unhide hbs).cell (p := ⟨p, _, none⟩) hplW).trans (unhide D0).2.2.2.2.2⟩⟩) (fun hS => ?_)
        clear HS
        have HS := hide hS
        clear hS hK K2
        have C3 := hide ((unhide CZ0).later (unhide hbs))
        have A3 := hide (((unhide AP0).later (unhide hbs) (unhide M0)).upto (show wr.heap.size ≤ V0.heap.size from unhide M01))
        have G3 := hide (setRow_heap w2 (w1.heap.size) _ #[.int .i64 xk, .int .i64 xn, .string xs, .slice q xl cq] _ _ (unhide GZ))
        have H3 := hide (unhide HG (w2.setRow (w1.heap.size) #[.int .i64 xk, .int .i64 xn, .string xs, .slice q xl cq]) (fun b hne => setRow_other w2 (w1.heap.size) b #[.int .i64 xk, .int .i64 xn, .string xs, .slice q xl cq] hne))
        have zs : (w2.setRow (w1.heap.size) #[.int .i64 xk, .int .i64 xn, .string xs, .slice q xl cq]).heap.size = w2.heap.size := by simp [World.setRow]
        have M3 := hide (show V0.heap.size ≤ (w2.setRow (w1.heap.size) #[.int .i64 xk, .int .i64 xn, .string xs, .slice q xl cq]).heap.size by rw [zs]; exact unhide M1s)
        have M2s := hide (show w1.heap.size ≤ (w2.setRow (w1.heap.size) #[.int .i64 xk, .int .i64 xn, .string xs, .slice q xl cq]).heap.size by rw [zs]; exact unhide M2w)
        clear hbs GZ HG BV CZ0 AP0 D0 zs
        generalize w2.setRow (w1.heap.size) #[.int .i64 xk, .int .i64 xn, .string xs, .slice q xl cq] = w3 at *
        refine wpAnyH_done (by kernel_rfl) ?_ _
        clear HS
        have o3 := Lib.cell_of_heap (unhide C3).out 3
        have hb4 := below_new w3 (.cells #[.int .i64 xk, .int .i64 xn, .string xs, .slice q xl cq] 26)
        have C4 := hide ((unhide C3).later hb4)
        have A4 := hide ((unhide A3).later hb4 (unhide M3))
        have CN := hide (cell_newF w3 #[.int .i64 xk, .int .i64 xn, .string xs, .slice q xl cq] 26)
        have HX4 := hide ((unhide H3).later hb4)
        have hz4 : (w3.alloc (.cells #[.int .i64 xk, .int .i64 xn, .string xs, .slice q xl cq] 26)).heap.size = w3.heap.size + 1 := by simp
        have SZ := hide hz4
        obtain ⟨cs, Fs, a1, a2, a3, a4, a5, a6⟩ := unhide A4
        have OW := hide a1
        have SPP := hide (fun w2 g cp => unhide AS (w3.alloc (.cells #[.int .i64 xk, .int .i64 xn, .string xs, .slice q xl cq] 26)) w2 g cp (V0.heap.size) (w1.heap.size) q cq cs Fs a1 a2 a3 a4 a5 a6 (unhide HX4) (unhide BM) (unhide M12) (by have := unhide M2s; omega))
        have BA := hide (show w.heap.size + 4 ≤ (w3.alloc (.cells #[.int .i64 xk, .int .i64 xn, .string xs, .slice q xl cq] 26)).heap.size from (unhide C4).lt)
        have WB := hide (show ∀ g, v.ownBlock = some g → w.heap.size + 4 ≤ g from fun g hg => (World.ownsRow.lt a1 g hg).1)
        have ON := hide (show ∀ u ∈ ([.int .i64 xk, .int .i64 xn, .string xs, .slice q xl cq] : List Value), u.oneCell' = true by intro u hu; simp only [List.mem_cons, List.not_mem_nil, or_false] at hu; rcases hu with rfl | rfl | rfl | rfl <;> rfl)
        clear a1 a2 a3 a4 a5 a6 A4 AS HX4 hb4 hz4 A3 H3
        go_wp2_with (first | (refine wpList_load_row rfl 26 _ rfl w1.heap.size rfl 26 #[.int .i64 xk, .int .i64 xn, .string xs, .slice q xl cq] (0, 0) _ (unhide G3) Tryd.underlying26 rfl (by kernel_rfl) ?_) | (at_builtin; go_must (refine wpList_append_to rfl (.tmp 56) (.tmp 58) 24 rfl (w.heap.size + 4) 26 i0 (.agg #[.int .i64 0, .int .i64 0, .string ⟨#[]⟩, .slice none 0 0]) 4 56 Tryd.underlying24 hi hz0 hz1 hz2 rfl (by decide) v i cs rfl (unhide OW) ⟨w3.heap.size, 0, none⟩ 1 1 [.int .i64 xk, .int .i64 xn, .string xs, .slice q xl cq] rfl rfl (unhide CN) (unhide ON) (by unfold maxLen; omega) (by omega) (unhide BA) (by omega) ?_; intro g4 cap4 w4 hown4 hgrow4 hwh4; have A5 := hide (unhide SPP w4 g4 cap4 hown4 hgrow4 hwh4); have C5 := (unhide C4).grown hgrow4 (unhide WB); have f4 : w4.frozen? ⟨w.heap.size + 3, 3, none⟩ = false := (by simp [World.frozen?, C5.out]); have o4 := Lib.cell_of_heap C5.out 3; have C6 := hide (C5.set3 (.slice (some ⟨g4, 0, none⟩) (i + 1 : Nat) cap4)); clear hown4 hgrow4 hwh4 C5)))
        go_roundw
        case rel => exact ⟨i + 1, _, by omega, by go_num, unhide C6, by
          rw [show (w4.setCell ⟨w.heap.size + 3, 3, none⟩ (.slice (some ⟨g4, 0, none⟩) (i + 1 : Nat) cap4)).heap.size = w4.heap.size by simp]
          exact (unhide A5).far ⟨w.heap.size + 3, 3, none⟩ _ (by show w.heap.size + 3 < w.heap.size + 4; omega)⟩
        case measure => simp [intOf]; omega
      · go_simp
        have hb1 := below_new V0 (.cells #[.int .i64 0, .int .i64 0, .string ⟨#[]⟩, .slice none 0 0] 26)
        have gz1 := (show (V0.alloc (.cells #[.int .i64 0, .int .i64 0, .string ⟨#[]⟩, .slice none 0 0] 26)).heap[V0.heap.size]? = some (.cells #[.int .i64 0, .int .i64 0, .string ⟨#[]⟩, .slice none 0 0] 26 (0, 0)) from Array.getElem?_push_size)
        have zl : V0.heap.size < (V0.alloc (.cells #[.int .i64 0, .int .i64 0, .string ⟨#[]⟩, .slice none 0 0] 26)).heap.size := by simp
        refine hK.out _ _ (⟨row_keep (unhide D0).1 hb1, row_keep (unhide D0).2.1 hb1, ⟨(hb1.cell (p := ⟨p, _, none⟩) hplW).trans (unhide D0).2.2.1, (hb1.cell (p := ⟨p, _, none⟩) hplW).trans (unhide D0).2.2.2.1, (hb1.cell (p := ⟨p, _, none⟩) hplW).trans (unhide D0).2.2.2.2.1, (hb1.cell (p := ⟨p, _, none⟩) hplW).trans (unhide D0).2.2.2.2.2⟩⟩) (fun hS => ?_)
        clear HS
        have HS := hide hS
        clear hS hK K2
        have HB1 := hide hb1
        have GZ1 := hide gz1
        have ZL := hide zl
        clear hb1 gz1 zl
        generalize V0.alloc (.cells #[.int .i64 0, .int .i64 0, .string ⟨#[]⟩, .slice none 0 0] 26) = w1 at *
        have BD1 := hide ((unhide BD).trans ((unhide HB1).mono (unhide BD).size))
        refine wpAnyH_ready (rs := [8]) (by kernel_rfl) (by simp) ?_
        refine AllReadyH.cons rfl (fun K2 hK => ?_) AllReadyH.nil
        go_simp
        refine (unhide HT w1 (unhide BD1)).mono ?_
        rintro r w2 ⟨q, cq, rfl, hq, hb2⟩
        have hb12 := (unhide HB1).trans (hb2.mono (unhide HB1).size)
        refine hK.out _ _ (⟨row_keep (unhide D0).1 hb12, row_keep (unhide D0).2.1 hb12, ⟨(hb12.cell (p := ⟨p, _, none⟩) hplW).trans (unhide D0).2.2.1, (hb12.cell (p := ⟨p, _, none⟩) hplW).trans (unhide D0).2.2.2.1, (hb12.cell (p := ⟨p, _, none⟩) hplW).trans (unhide D0).2.2.2.2.1, (hb12.cell (p := ⟨p, _, none⟩) hplW).trans (unhide D0).2.2.2.2.2⟩⟩) (fun hS => ?_)
        clear HS
        have HS := hide hS
        clear hS hK K2
        have GZ := hide (row_keep (unhide GZ1) hb2)
        have BV := hide hb12
        have GXL := hide (Nat.le_refl V0.heap.size)
        have HG := hide (show ∀ w3 : World, (∀ b, b ≠ V0.heap.size → w3.heap[b]? = w2.heap[b]?) → HalfX w3 w1.heap.size w2.heap.size x q from fun w3 h => by
          obtain ⟨F, f1, f2, f3⟩ := (show NewX w2 w1.heap.size x q from hq).half
          exact ⟨F, OwX.keep x q F (fun b hF => h b (by have := (f3 b hF).1; have := unhide ZL; omega)) f1, f2, f3⟩)
        have M01 := hide (show wr.heap.size ≤ w1.heap.size from Nat.le_trans (unhide M0) (unhide HB1).size)
        have BM := hide (show w.heap.size + 4 ≤ w1.heap.size by have := unhide HV; have := unhide WL; have := (unhide HB1).size; omega)
        have M12 := hide (show w1.heap.size ≤ w2.heap.size from hb2.size)
        have M1s := hide (show w1.heap.size ≤ w2.heap.size from hb2.size)
        have M2w := hide (show w2.heap.size ≤ w2.heap.size from Nat.le_refl _)
        clear hq hb2 hb12 HB1 GZ1 ZL BD1
        obtain ⟨m2, hm2⟩ : ∃ m2, w2.heap.size = m2 := ⟨_, rfl⟩
        rw [hm2] at HG M12 M2w
        have HM2 := hide hm2
        clear hm2
        refine wpAnyH_ready (rs := [10]) (by kernel_rfl) (by simp) ?_
        refine AllReadyH.cons rfl (fun K2 hK => ?_) AllReadyH.nil
        rw [if_pos (by rfl)]
        refine wp_store_row 26 _ _ rfl (V0.heap.size) #[.int .i64 xk, .int .i64 xn, .string xs, .slice q xl cq] rfl rfl 26 _ (unhide GZ) szE rfl (ex_one _ _ _ _ _ _) ?_
        have hbs := hide (show Below V0.heap.size V0 (w2.setRow (V0.heap.size) #[.int .i64 xk, .int .i64 xn, .string xs, .slice q xl cq]) from (unhide BV).grown (grownBy_row _) (unhide BV).size (fun q e => by cases e; exact unhide GXL))
        refine hK.out _ _ (⟨row_keep (unhide D0).1 (unhide hbs), row_keep (unhide D0).2.1 (unhide hbs), ⟨((unhide hbs).cell (p := ⟨p, _, none⟩) hplW).trans (unhide D0).2.2.1, ((unhide hbs).cell (p := ⟨p, _, none⟩) hplW).trans (unhide D0).2.2.2.1, ((unhide hbs).cell (p := ⟨p, _, none⟩) hplW).trans (unhide D0).2.2.2.2.1, ((unhide hbs).cell (p := ⟨p, _, none⟩) hplW).trans (unhide D0).2.2.2.2.2⟩⟩) (fun hS => ?_)
        clear HS
        have HS := hide hS
        clear hS hK K2
        have C3 := hide ((unhide CZ0).later (unhide hbs))
        have A3 := hide (((unhide AP0).later (unhide hbs) (unhide M0)).upto (show wr.heap.size ≤ w1.heap.size from unhide M01))
        have G3 := hide (setRow_heap w2 (V0.heap.size) _ #[.int .i64 xk, .int .i64 xn, .string xs, .slice q xl cq] _ _ (unhide GZ))
        have H3 := hide (unhide HG (w2.setRow (V0.heap.size) #[.int .i64 xk, .int .i64 xn, .string xs, .slice q xl cq]) (fun b hne => setRow_other w2 (V0.heap.size) b #[.int .i64 xk, .int .i64 xn, .string xs, .slice q xl cq] hne))
        have zs : (w2.setRow (V0.heap.size) #[.int .i64 xk, .int .i64 xn, .string xs, .slice q xl cq]).heap.size = w2.heap.size := by simp [World.setRow]
        have M3 := hide (show w1.heap.size ≤ (w2.setRow (V0.heap.size) #[.int .i64 xk, .int .i64 xn, .string xs, .slice q xl cq]).heap.size by rw [zs]; exact unhide M1s)
        have M2s := hide (show m2 ≤ (w2.setRow (V0.heap.size) #[.int .i64 xk, .int .i64 xn, .string xs, .slice q xl cq]).heap.size by rw [zs, unhide HM2]; exact unhide M2w)
        clear hbs GZ HG BV CZ0 AP0 D0 zs
        generalize w2.setRow (V0.heap.size) #[.int .i64 xk, .int .i64 xn, .string xs, .slice q xl cq] = w3 at *
        refine wpAnyH_done (by kernel_rfl) ?_ _
        clear HS
        have o3 := Lib.cell_of_heap (unhide C3).out 3
        have hb4 := below_new w3 (.cells #[.int .i64 xk, .int .i64 xn, .string xs, .slice q xl cq] 26)
        have C4 := hide ((unhide C3).later hb4)
        have A4 := hide ((unhide A3).later hb4 (unhide M3))
        have CN := hide (cell_newF w3 #[.int .i64 xk, .int .i64 xn, .string xs, .slice q xl cq] 26)
        have HX4 := hide ((unhide H3).later hb4)
        have hz4 : (w3.alloc (.cells #[.int .i64 xk, .int .i64 xn, .string xs, .slice q xl cq] 26)).heap.size = w3.heap.size + 1 := by simp
        have SZ := hide hz4
        obtain ⟨cs, Fs, a1, a2, a3, a4, a5, a6⟩ := unhide A4
        have OW := hide a1
        have SPP := hide (fun w2 g cp => unhide AS (w3.alloc (.cells #[.int .i64 xk, .int .i64 xn, .string xs, .slice q xl cq] 26)) w2 g cp (w1.heap.size) (m2) q cq cs Fs a1 a2 a3 a4 a5 a6 (unhide HX4) (unhide BM) (unhide M12) (by have := unhide M2s; omega))
        have BA := hide (show w.heap.size + 4 ≤ (w3.alloc (.cells #[.int .i64 xk, .int .i64 xn, .string xs, .slice q xl cq] 26)).heap.size from (unhide C4).lt)
        have WB := hide (show ∀ g, v.ownBlock = some g → w.heap.size + 4 ≤ g from fun g hg => (World.ownsRow.lt a1 g hg).1)
        have ON := hide (show ∀ u ∈ ([.int .i64 xk, .int .i64 xn, .string xs, .slice q xl cq] : List Value), u.oneCell' = true by intro u hu; simp only [List.mem_cons, List.not_mem_nil, or_false] at hu; rcases hu with rfl | rfl | rfl | rfl <;> rfl)
        clear a1 a2 a3 a4 a5 a6 A4 AS HX4 hb4 hz4 A3 H3
        go_wp2_with (first | (refine wpList_load_row rfl 26 _ rfl V0.heap.size rfl 26 #[.int .i64 xk, .int .i64 xn, .string xs, .slice q xl cq] (0, 0) _ (unhide G3) Tryd.underlying26 rfl (by kernel_rfl) ?_) | (at_builtin; go_must (refine wpList_append_to rfl (.tmp 56) (.tmp 58) 24 rfl (w.heap.size + 4) 26 i0 (.agg #[.int .i64 0, .int .i64 0, .string ⟨#[]⟩, .slice none 0 0]) 4 56 Tryd.underlying24 hi hz0 hz1 hz2 rfl (by decide) v i cs rfl (unhide OW) ⟨w3.heap.size, 0, none⟩ 1 1 [.int .i64 xk, .int .i64 xn, .string xs, .slice q xl cq] rfl rfl (unhide CN) (unhide ON) (by unfold maxLen; omega) (by omega) (unhide BA) (by omega) ?_; intro g4 cap4 w4 hown4 hgrow4 hwh4; have A5 := hide (unhide SPP w4 g4 cap4 hown4 hgrow4 hwh4); have C5 := (unhide C4).grown hgrow4 (unhide WB); have f4 : w4.frozen? ⟨w.heap.size + 3, 3, none⟩ = false := (by simp [World.frozen?, C5.out]); have o4 := Lib.cell_of_heap C5.out 3; have C6 := hide (C5.set3 (.slice (some ⟨g4, 0, none⟩) (i + 1 : Nat) cap4)); clear hown4 hgrow4 hwh4 C5)))
        go_roundw
        case rel => exact ⟨i + 1, _, by omega, by go_num, unhide C6, by
          rw [show (w4.setCell ⟨w.heap.size + 3, 3, none⟩ (.slice (some ⟨g4, 0, none⟩) (i + 1 : Nat) cap4)).heap.size = w4.heap.size by simp]
          exact (unhide A5).far ⟨w.heap.size + 3, 3, none⟩ _ (by show w.heap.size + 3 < w.heap.size + 4; omega)⟩
        case measure => simp [intOf]; omega
    · obtain rfl : i = len := by omega
      obtain ⟨a5, n5, c5, rfl⟩ : ∃ a n c, v = .slice a n c := by
        obtain ⟨_, _, ⟨_, ⟨e, _⟩ | ⟨g, cap', cur, e, _⟩⟩, _⟩ := hap
        · exact ⟨_, _, _, e⟩
        · exact ⟨_, _, _, e⟩
      have CZ := hide hcz
      have AP := hide hap
      clear hcz hap
      go_wp2_with (first | (refine wpList_load_row rfl 26 _ rfl (w.heap.size + 3) rfl 26 #[.int .i64 k, .int .i64 n, .string s, .slice a5 n5 c5] (0, 0) _ ((unhide CZ).out) Tryd.underlying26 rfl (by kernel_rfl) ?_) | (refine wpList_store_row rfl 26 _ _ rfl (w.heap.size + 2) #[.int .i64 k, .int .i64 n, .string s, .slice a5 n5 c5] rfl rfl 26 _ (unhide CZ).res szE rfl (ex_one _ _ _ _ _ _) ?_))
      refine bodyPost_ret (results_cell_row (P := Tryd.prog) rfl _ _ (w.heap.size + 2) 26 #[.int .i64 k, .int .i64 n, .string s, .slice a5 n5 c5] (0, 0) _ rfl (setRow_heap _ _ _ _ _ _ (unhide CZ).res) Tryd.underlying26 rfl szE) rfl ?_
      exact unhide FN _ _ _ _ _ _ _ _ (unhide CZ) (unhide AP)
set_option maxHeartbeats 16000000 in
theorem putS_mis (here : Ex) (L : List ByteArray) (vals : List Ex) (pk : Pk here L vals) (k n : Int) (s : ByteArray) (l : List Ex) (hlen : l.length ≤ 1100000) (ih : ∀ i, i < l.length → PuP here L vals (xAt l i)) (h3 : (k == 3) = false) (h2 : (k == 2) = true) (hat : atV L s < 0) : PuP here L vals ⟨k, n, s, l⟩ := by
  intro b hb va cap hcp gn vcp w hr hv
  have EQ := hide (show putX here L vals ⟨k, n, s, l⟩ = ⟨k, n, s, l.map (putX here L vals)⟩ by rw [putX_eq]; unfold putC; rw [if_neg (beq_eq_false_iff_ne.1 h3), if_neg (fun h => by omega)])
  rw [unhide EQ]
  have hrr := (RdX_eq _ _ _ _).1 hr
  have PV := hide (fun wr (h : Below w.heap.size w wr) => hv.later h)
  have FN := hide (fun (w' : World) (a : Option Addr) (n' cp : Nat) (pe ph row : Array Value) (M : Nat) => put_fin (k := k) (m := n) (s := s) (l := l.map (putX here L vals)) (w := w) (w' := w') (a := a) (n := n') (cp := cp) (pe := pe) (ph := ph) (M := M) row)
  generalize hX : GiR _ (Up w) w = X at *
  have hml : (l.map (putX here L vals)).length = l.length := List.length_map _
  rw [hml] at FN
  have XM := hide (fun i (h : i < l.length) => xAt_map (putX here L vals) l i h)
  generalize l.map (putX here L vals) = l' at *
  obtain ⟨len, hle⟩ : ∃ len, l.length = len := ⟨_, rfl⟩
  have IH := hide (fun i (h : i < l.length) (b' : Option Addr) (cap' : Nat) wr (h1 : RdX wr 0 (xAt l i) b') (h2 : Below w.heap.size w wr) => ih i h b' hb va cap' hcp gn vcp wr h1 (unhide PV wr h2))
  unfold Ex.cs at IH ⊢
  have hrl : l = [] ∨ ∃ p off, b = some ⟨p, off, none⟩ ∧ p < w.heap.size ∧ ∀ i, i < l.length → OneX w 0 p (off + i * 4) (xAt l i) := by
    rcases hrr with h | ⟨p, off, ha, _, hp, hc⟩
    · exact .inl h
    · exact .inr ⟨p, off, ha, hp, hc⟩
  show Calls Tryd.prog 54 #[.agg #[.int .i64 k, .int .i64 n, .string s, .slice b l.length cap], .agg #[.int .i64 here.k, .int .i64 here.n, .string here.s, .slice hb here.l.length hcp], .slice (some ⟨gn, 0, none⟩) L.length L.length, .slice va vals.length vcp] w X
  rw [hle] at hlen FN XM IH ⊢
  generalize here.k = hk at *
  generalize here.n = hn at *
  generalize here.s = hs at *
  generalize here.l.length = hl at *
  obtain ⟨i0, hi, hz0, hz1, hz2⟩ := info_parts infoX
  have C0 := hide (Pz.new (k := k) (n := n) (s := s) (v := .slice none 0 0) w #[.int .i64 k, .int .i64 n, .string s, .slice b len cap] #[.int .i64 hk, .int .i64 hn, .string hs, .slice hb hl hcp])
  have AT := hide (fun wr (h : Below w.heap.size w wr) => at_anyF L s gn L.length L.length wr rfl pk.n (unhide PV wr h).n)
  have BY := hide (By.new w #[.int .i64 k, .int .i64 n, .string s, .slice b len cap] #[.int .i64 hk, .int .i64 hn, .string hs, .slice hb hl hcp]).bel
  generalize atV L s = av at *
  clear hX hr hv EQ pk ih hrr hml
  go_enter Tryd.func54, Tryd.ntmps54
  go_wp2_with (go_at_call 81; refine (unhide AT _ (unhide BY)).mono ?_; rintro e w' ⟨rfl, hw'⟩; rw [hw']; clear hw' w')
  generalize (((w.alloc (.cells #[.int .i64 k, .int .i64 n, .string s, .slice b len cap] 26)).alloc (.cells #[.int .i64 hk, .int .i64 hn, .string hs, .slice hb hl hcp] 26)).alloc (.cells #[.int .i64 0, .int .i64 0, .string ⟨#[]⟩, .slice none 0 0] 26)).alloc (.cells #[.int .i64 k, .int .i64 n, .string s, .slice none 0 0] 26) = W at *
  go_loopw [11] (fun i wr => ∃ (j : Nat) (v : Value), j ≤ len ∧ i = .int .i64 j ∧ Pz w wr #[.int .i64 k, .int .i64 n, .string s, .slice b len cap] #[.int .i64 hk, .int .i64 hn, .string hs, .slice hb hl hcp] k n s v ∧ ApX wr (w.heap.size + 4) l' j v wr.heap.size) (fun i _ => len - (intOf i).toNat)
  case atStart => exact ⟨0, _, Nat.zero_le _, rfl, unhide C0, ApX.nil _ _ _ _⟩
  case round =>
    clear C0
    obtain ⟨i, v, hij, rfl, hcz, hap⟩ := hrel
    have b3 := Lib.cell_of_heap hcz.be 3
    by_cases hlt : i < len
    · rcases hrl with h0 | ⟨p, off, rfl, hpl, hc⟩
      · rw [h0] at hle; simp at hle; omega
      obtain ⟨c0, c1, c2, c, ca, c3, c4⟩ := hc i (by omega)
      have hbd : Below w.heap.size w wr.drew := hcz.bel.trans ((below_drew (w := wr)).mono hcz.bel.size)
      have HT := hide (fun wx (h : Below w.heap.size w wx) => unhide IH i hlt c ca wx (c4.later h) h)
      have hx := unhide XM i hlt
      have AS := hide (fun (w1 w2 : World) (g cp M M' : Nat) (q : Option Addr) (cq : Nat) cs Fs h1 h2 h3 h4 h5 h6 hx hBM hM hM' ho hg hw => ApX.step (w := w1) (w' := w2) (B := w.heap.size + 4) (k := i) (M := M) (M' := M') (l := l') (v := v) (cs := cs) (Fs := Fs) (q := q) (cp := cq) (g := g) (cap := cp) h1 h2 h3 h4 h5 h6 hx hBM hM hM' ho hg hw)
      unfold GiR Ex.cs at HT
      unfold exL at AS
      rw [← hx] at HT
      generalize xAt l' i = x at *
      generalize (xAt l i).k = ak at *
      generalize (xAt l i).n = an at *
      generalize (xAt l i).s = asx at *
      generalize (xAt l i).l.length = al at *
      have AS2 := hide (unhide AS)
      generalize x.k = xk at HT AS2
      generalize x.n = xn at HT AS2
      generalize x.s = xs at HT AS2
      generalize x.l.length = xl at HT AS2
      clear AS
      have AS := hide (unhide AS2)
      have D0 := hide (show (fun v => v.heap[w.heap.size]? = some (.cells #[.int .i64 k, .int .i64 n, .string s, .slice (some ⟨p, off, none⟩) len cap] 26 (0, 0)) ∧ v.heap[w.heap.size + 1]? = some (.cells #[.int .i64 hk, .int .i64 hn, .string hs, .slice hb hl hcp] 26 (0, 0)) ∧ (v.cell? ⟨p, off + i * 4, none⟩ = some (.int .i64 ak) ∧ v.cell? ⟨p, off + i * 4 + 1, none⟩ = some (.int .i64 an) ∧ v.cell? ⟨p, off + i * 4 + 2, none⟩ = some (.string asx) ∧ v.cell? ⟨p, off + i * 4 + 3, none⟩ = some (.slice c al ca))) wr.drew from ⟨hcz.be, hcz.bh, ⟨(hbd.cell (p := ⟨p, _, none⟩) hpl).trans c0, (hbd.cell (p := ⟨p, _, none⟩) hpl).trans c1, (hbd.cell (p := ⟨p, _, none⟩) hpl).trans c2, (hbd.cell (p := ⟨p, _, none⟩) hpl).trans c3⟩⟩)
      have CZ0 := hide (hcz.later (below_drew (w := wr)))
      have AP0 := hide (hap.later (below_drew (w := wr)) (Nat.le_refl _))
      have M0 := hide (show wr.heap.size ≤ wr.drew.heap.size from Nat.le_refl _)
      have hplW : p < wr.drew.heap.size := Nat.lt_of_lt_of_le hpl hbd.size
      have BD := hide hbd
      have WL := hide hcz.lt
      clear c0 c1 c2 c3 c4 hc hcz hap hx AS2 IH XM hbd FN
      go_wp2_with fail
      refine wp_region_held_drew (S := fun v => v.heap[w.heap.size]? = some (.cells #[.int .i64 k, .int .i64 n, .string s, .slice (some ⟨p, off, none⟩) len cap] 26 (0, 0)) ∧ v.heap[w.heap.size + 1]? = some (.cells #[.int .i64 hk, .int .i64 hn, .string hs, .slice hb hl hcp] 26 (0, 0)) ∧ (v.cell? ⟨p, off + i * 4, none⟩ = some (.int .i64 ak) ∧ v.cell? ⟨p, off + i * 4 + 1, none⟩ = some (.int .i64 an) ∧ v.cell? ⟨p, off + i * 4 + 2, none⟩ = some (.string asx) ∧ v.cell? ⟨p, off + i * 4 + 3, none⟩ = some (.slice c al ca))) (by kernel_rfl) (unhide D0) (fun hS => ?_)
      have HS := hide hS
      clear hS b3
      generalize hV0 : wr.drew = V0 at *
      have HV := hide (show V0.heap.size = wr.heap.size by rw [← hV0]; rfl)
      clear hV0
      refine wpAnyH_take (i := 0) (v := .pointer (some ⟨w.heap.size, 3, none⟩)) rfl (by kernel_rfl) (by kernel_rfl) (by kernel_rfl) (fun _ _ _ h => h) (Or.inl ⟨by rfl, fun w hc => ?_⟩) (unhide HS) ?_
      · clear hc; go_simp
      go_simp
      refine wpAnyH_take (i := 1) (v := .slice (some ⟨p, off, none⟩) len cap) rfl (by kernel_rfl) (by kernel_rfl) (by kernel_rfl) (fun _ _ _ h => h) (Or.inl ⟨by rfl, fun w hc => ?_⟩) (unhide HS) ?_
      · have q := Lib.cell_of_heap hc.1 3; clear hc; go_simp
      go_simp
      refine wpAnyH_take (i := 2) (v := .int .i64 i) rfl (by kernel_rfl) (by kernel_rfl) (by kernel_rfl) (fun _ _ _ h => h) (Or.inl ⟨by rfl, fun w hc => ?_⟩) (unhide HS) ?_
      · clear hc; go_simp
      go_simp
      refine wpAnyH_take (i := 3) (v := .pointer (some ⟨p, off + i * 4, none⟩)) rfl (by kernel_rfl) (by kernel_rfl) (by kernel_rfl) (fun _ _ _ h => h) (Or.inl ⟨by rfl, fun w hc => ?_⟩) (unhide HS) ?_
      · clear hc; go_simp
      go_simp
      refine wpAnyH_take (i := 4) (v := .agg #[.int .i64 ak, .int .i64 an, .string asx, .slice c al ca]) rfl (by kernel_rfl) (by kernel_rfl) (by kernel_rfl) (fun _ _ _ h => h) (Or.inl ⟨by rfl, fun w hc => ?_⟩) (unhide HS) ?_
      · obtain ⟨_, _, h0, h1, h2, h3⟩ := hc; go_simp
      go_simp
      refine wpAnyH_take (i := 5) (v := .agg #[.int .i64 hk, .int .i64 hn, .string hs, .slice hb hl hcp]) rfl (by kernel_rfl) (by kernel_rfl) (by kernel_rfl) (fun _ _ _ h => h) (yields_loadG (by rfl) 26 _ rfl (w.heap.size + 1) rfl 26 #[.int .i64 hk, .int .i64 hn, .string hs, .slice hb hl hcp] _ (fun w h => h.2.1) Tryd.underlying26 rfl (by kernel_rfl)) (unhide HS) ?_
      go_simp
      refine wpAnyH_take (i := 6) (v := .slice (some ⟨gn, 0, none⟩) L.length L.length) rfl (by kernel_rfl) (by kernel_rfl) (by kernel_rfl) (fun _ _ _ h => h) (Or.inl ⟨by rfl, fun w hc => ?_⟩) (unhide HS) ?_
      · clear hc; go_simp
      go_simp
      refine wpAnyH_take (i := 7) (v := .slice va vals.length vcp) rfl (by kernel_rfl) (by kernel_rfl) (by kernel_rfl) (fun _ _ _ h => h) (Or.inl ⟨by rfl, fun w hc => ?_⟩) (unhide HS) ?_
      · clear hc; go_simp
      go_simp
      refine wpAnyH_ready (rs := [8, 9]) (by kernel_rfl) (by simp) ?_
      refine AllReadyH.cons rfl (fun K2 hK => ?_) (AllReadyH.cons rfl (fun K2 hK => ?_) AllReadyH.nil)
      · go_simp
        refine (unhide HT V0 (unhide BD)).mono ?_
        rintro r w1 ⟨q, cq, rfl, hq, hb1⟩
        refine hK.out _ _ (⟨row_keep (unhide D0).1 hb1, row_keep (unhide D0).2.1 hb1, ⟨(hb1.cell (p := ⟨p, _, none⟩) hplW).trans (unhide D0).2.2.1, (hb1.cell (p := ⟨p, _, none⟩) hplW).trans (unhide D0).2.2.2.1, (hb1.cell (p := ⟨p, _, none⟩) hplW).trans (unhide D0).2.2.2.2.1, (hb1.cell (p := ⟨p, _, none⟩) hplW).trans (unhide D0).2.2.2.2.2⟩⟩) (fun hS => ?_)
        clear HS
        have HS := hide hS
        clear hS hK K2
        have HQ := hide (show NewX w1 V0.heap.size x q from hq).half
        have HB1 := hide hb1
        clear hq hb1
        refine wpAnyH_ready (rs := [9]) (by kernel_rfl) (by simp) ?_
        refine AllReadyH.cons rfl (fun K2 hK => ?_) AllReadyH.nil
        go_simp
        have hb2 := below_new w1 (.cells #[.int .i64 0, .int .i64 0, .string ⟨#[]⟩, .slice none 0 0] 26)
        have hb12 := (unhide HB1).trans (hb2.mono (unhide HB1).size)
        refine hK.out _ _ (⟨row_keep (unhide D0).1 hb12, row_keep (unhide D0).2.1 hb12, ⟨(hb12.cell (p := ⟨p, _, none⟩) hplW).trans (unhide D0).2.2.1, (hb12.cell (p := ⟨p, _, none⟩) hplW).trans (unhide D0).2.2.2.1, (hb12.cell (p := ⟨p, _, none⟩) hplW).trans (unhide D0).2.2.2.2.1, (hb12.cell (p := ⟨p, _, none⟩) hplW).trans (unhide D0).2.2.2.2.2⟩⟩) (fun hS => ?_)
        clear HS
        have HS := hide hS
        clear hS hK K2
        have GZ := hide (show (w1.alloc (.cells #[.int .i64 0, .int .i64 0, .string ⟨#[]⟩, .slice none 0 0] 26)).heap[w1.heap.size]? = some (.cells #[.int .i64 0, .int .i64 0, .string ⟨#[]⟩, .slice none 0 0] 26 (0, 0)) from Array.getElem?_push_size)
        have BV := hide hb12
        have GXL := hide (show V0.heap.size ≤ w1.heap.size from (unhide HB1).size)
        have HG := hide (show ∀ w3 : World, (∀ b, b ≠ w1.heap.size → w3.heap[b]? = (w1.alloc (.cells #[.int .i64 0, .int .i64 0, .string ⟨#[]⟩, .slice none 0 0] 26)).heap[b]?) → HalfX w3 V0.heap.size w1.heap.size x q from fun w3 h => by
          obtain ⟨F, f1, f2, f3⟩ := (unhide HQ).later hb2
          exact ⟨F, OwX.keep x q F (fun b hF => h b (by have := (f3 b hF).2; omega)) f1, f2, f3⟩)
        have M01 := hide (show wr.heap.size ≤ V0.heap.size from unhide M0)
        have BM := hide (show w.heap.size + 4 ≤ V0.heap.size by rw [unhide HV]; exact unhide WL)
        have M12 := hide (show V0.heap.size ≤ w1.heap.size from (unhide HB1).size)
        have M1s := hide (show V0.heap.size ≤ (w1.alloc (.cells #[.int .i64 0, .int .i64 0, .string ⟨#[]⟩, .slice none 0 0] 26)).heap.size from hb12.size)
        have M2w := hide (show w1.heap.size ≤ (w1.alloc (.cells #[.int .i64 0, .int .i64 0, .string ⟨#[]⟩, .slice none 0 0] 26)).heap.size from hb2.size)
        clear HQ hb2 hb12 HB1
        generalize w1.alloc (.cells #[.int .i64 0, .int .i64 0, .string ⟨#[]⟩, .slice none 0 0] 26) = w2 at *
        refine wpAnyH_ready (rs := [10]) (by kernel_rfl) (by simp) ?_
        refine AllReadyH.cons rfl (fun K2 hK => ?_) AllReadyH.nil
        rw [if_pos (by rfl)]
        refine wp_store_row 26 _ _ rfl (w1.heap.size) #[.int .i64 xk, .int .i64 xn, .string xs, .slice q xl cq] rfl rfl 26 _ (unhide GZ) szE rfl (ex_one _ _ _ _ _ _) ?_
        have hbs := hide (show Below V0.heap.size V0 (w2.setRow (w1.heap.size) #[.int .i64 xk, .int .i64 xn, .string xs, .slice q xl cq]) from (unhide BV).grown (grownBy_row _) (unhide BV).size (fun q e => by cases e; exact unhide GXL))
        refine hK.out _ _ (⟨row_keep (unhide D0).1 (unhide hbs), row_keep (unhide D0).2.1 (unhide hbs), ⟨((unhide hbs).cell (p := ⟨p, _, none⟩) hplW).trans (unhide D0).2.2.1, ((unhide hbs).cell (p := ⟨p, _, none⟩) hplW).trans (unhide D0).2.2.2.1, ((unhide hbs).cell (p := ⟨p, _, none⟩) hplW).trans (unhide D0).2.2.2.2.1, ((unhide hbs).cell (p := ⟨p, _, none⟩) hplW).trans (unhide D0).2.2.2.2.2⟩⟩) (fun hS => ?_)
        clear HS
        have HS := hide hS
        clear hS hK K2
        have C3 := hide ((unhide CZ0).later (unhide hbs))
        have A3 := hide (((unhide AP0).later (unhide hbs) (unhide M0)).upto (show wr.heap.size ≤ V0.heap.size from unhide M01))
        have G3 := hide (setRow_heap w2 (w1.heap.size) _ #[.int .i64 xk, .int .i64 xn, .string xs, .slice q xl cq] _ _ (unhide GZ))
        have H3 := hide (unhide HG (w2.setRow (w1.heap.size) #[.int .i64 xk, .int .i64 xn, .string xs, .slice q xl cq]) (fun b hne => setRow_other w2 (w1.heap.size) b #[.int .i64 xk, .int .i64 xn, .string xs, .slice q xl cq] hne))
        have zs : (w2.setRow (w1.heap.size) #[.int .i64 xk, .int .i64 xn, .string xs, .slice q xl cq]).heap.size = w2.heap.size := by simp [World.setRow]
        have M3 := hide (show V0.heap.size ≤ (w2.setRow (w1.heap.size) #[.int .i64 xk, .int .i64 xn, .string xs, .slice q xl cq]).heap.size by rw [zs]; exact unhide M1s)
        have M2s := hide (show w1.heap.size ≤ (w2.setRow (w1.heap.size) #[.int .i64 xk, .int .i64 xn, .string xs, .slice q xl cq]).heap.size by rw [zs]; exact unhide M2w)
        clear hbs GZ HG BV CZ0 AP0 D0 zs
        generalize w2.setRow (w1.heap.size) #[.int .i64 xk, .int .i64 xn, .string xs, .slice q xl cq] = w3 at *
        refine wpAnyH_done (by kernel_rfl) ?_ _
        clear HS
        have o3 := Lib.cell_of_heap (unhide C3).out 3
        have hb4 := below_new w3 (.cells #[.int .i64 xk, .int .i64 xn, .string xs, .slice q xl cq] 26)
        have C4 := hide ((unhide C3).later hb4)
        have A4 := hide ((unhide A3).later hb4 (unhide M3))
        have CN := hide (cell_newF w3 #[.int .i64 xk, .int .i64 xn, .string xs, .slice q xl cq] 26)
        have HX4 := hide ((unhide H3).later hb4)
        have hz4 : (w3.alloc (.cells #[.int .i64 xk, .int .i64 xn, .string xs, .slice q xl cq] 26)).heap.size = w3.heap.size + 1 := by simp
        have SZ := hide hz4
        obtain ⟨cs, Fs, a1, a2, a3, a4, a5, a6⟩ := unhide A4
        have OW := hide a1
        have SPP := hide (fun w2 g cp => unhide AS (w3.alloc (.cells #[.int .i64 xk, .int .i64 xn, .string xs, .slice q xl cq] 26)) w2 g cp (V0.heap.size) (w1.heap.size) q cq cs Fs a1 a2 a3 a4 a5 a6 (unhide HX4) (unhide BM) (unhide M12) (by have := unhide M2s; omega))
        have BA := hide (show w.heap.size + 4 ≤ (w3.alloc (.cells #[.int .i64 xk, .int .i64 xn, .string xs, .slice q xl cq] 26)).heap.size from (unhide C4).lt)
        have WB := hide (show ∀ g, v.ownBlock = some g → w.heap.size + 4 ≤ g from fun g hg => (World.ownsRow.lt a1 g hg).1)
        have ON := hide (show ∀ u ∈ ([.int .i64 xk, .int .i64 xn, .string xs, .slice q xl cq] : List Value), u.oneCell' = true by intro u hu; simp only [List.mem_cons, List.not_mem_nil, or_false] at hu; rcases hu with rfl | rfl | rfl | rfl <;> rfl)
        clear a1 a2 a3 a4 a5 a6 A4 AS HX4 hb4 hz4 A3 H3
        go_wp2_with (first | (refine wpList_load_row rfl 26 _ rfl w1.heap.size rfl 26 #[.int .i64 xk, .int .i64 xn, .string xs, .slice q xl cq] (0, 0) _ (unhide G3) Tryd.underlying26 rfl (by kernel_rfl) ?_) | (at_builtin; go_must (refine wpList_append_to rfl (.tmp 56) (.tmp 58) 24 rfl (w.heap.size + 4) 26 i0 (.agg #[.int .i64 0, .int .i64 0, .string ⟨#[]⟩, .slice none 0 0]) 4 56 Tryd.underlying24 hi hz0 hz1 hz2 rfl (by decide) v i cs rfl (unhide OW) ⟨w3.heap.size, 0, none⟩ 1 1 [.int .i64 xk, .int .i64 xn, .string xs, .slice q xl cq] rfl rfl (unhide CN) (unhide ON) (by unfold maxLen; omega) (by omega) (unhide BA) (by omega) ?_; intro g4 cap4 w4 hown4 hgrow4 hwh4; have A5 := hide (unhide SPP w4 g4 cap4 hown4 hgrow4 hwh4); have C5 := (unhide C4).grown hgrow4 (unhide WB); have f4 : w4.frozen? ⟨w.heap.size + 3, 3, none⟩ = false := (by simp [World.frozen?, C5.out]); have o4 := Lib.cell_of_heap C5.out 3; have C6 := hide (C5.set3 (.slice (some ⟨g4, 0, none⟩) (i + 1 : Nat) cap4)); clear hown4 hgrow4 hwh4 C5)))
        go_roundw
        case rel => exact ⟨i + 1, _, by omega, by go_num, unhide C6, by
          rw [show (w4.setCell ⟨w.heap.size + 3, 3, none⟩ (.slice (some ⟨g4, 0, none⟩) (i + 1 : Nat) cap4)).heap.size = w4.heap.size by simp]
          exact (unhide A5).far ⟨w.heap.size + 3, 3, none⟩ _ (by show w.heap.size + 3 < w.heap.size + 4; omega)⟩
        case measure => simp [intOf]; omega
      · go_simp
        have hb1 := below_new V0 (.cells #[.int .i64 0, .int .i64 0, .string ⟨#[]⟩, .slice none 0 0] 26)
        have gz1 := (show (V0.alloc (.cells #[.int .i64 0, .int .i64 0, .string ⟨#[]⟩, .slice none 0 0] 26)).heap[V0.heap.size]? = some (.cells #[.int .i64 0, .int .i64 0, .string ⟨#[]⟩, .slice none 0 0] 26 (0, 0)) from Array.getElem?_push_size)
        have zl : V0.heap.size < (V0.alloc (.cells #[.int .i64 0, .int .i64 0, .string ⟨#[]⟩, .slice none 0 0] 26)).heap.size := by simp
        refine hK.out _ _ (⟨row_keep (unhide D0).1 hb1, row_keep (unhide D0).2.1 hb1, ⟨(hb1.cell (p := ⟨p, _, none⟩) hplW).trans (unhide D0).2.2.1, (hb1.cell (p := ⟨p, _, none⟩) hplW).trans (unhide D0).2.2.2.1, (hb1.cell (p := ⟨p, _, none⟩) hplW).trans (unhide D0).2.2.2.2.1, (hb1.cell (p := ⟨p, _, none⟩) hplW).trans (unhide D0).2.2.2.2.2⟩⟩) (fun hS => ?_)
        clear HS
        have HS := hide hS
        clear hS hK K2
        have HB1 := hide hb1
        have GZ1 := hide gz1
        have ZL := hide zl
        clear hb1 gz1 zl
        generalize V0.alloc (.cells #[.int .i64 0, .int .i64 0, .string ⟨#[]⟩, .slice none 0 0] 26) = w1 at *
        have BD1 := hide ((unhide BD).trans ((unhide HB1).mono (unhide BD).size))
        refine wpAnyH_ready (rs := [8]) (by kernel_rfl) (by simp) ?_
        refine AllReadyH.cons rfl (fun K2 hK => ?_) AllReadyH.nil
        go_simp
        refine (unhide HT w1 (unhide BD1)).mono ?_
        rintro r w2 ⟨q, cq, rfl, hq, hb2⟩
        have hb12 := (unhide HB1).trans (hb2.mono (unhide HB1).size)
        refine hK.out _ _ (⟨row_keep (unhide D0).1 hb12, row_keep (unhide D0).2.1 hb12, ⟨(hb12.cell (p := ⟨p, _, none⟩) hplW).trans (unhide D0).2.2.1, (hb12.cell (p := ⟨p, _, none⟩) hplW).trans (unhide D0).2.2.2.1, (hb12.cell (p := ⟨p, _, none⟩) hplW).trans (unhide D0).2.2.2.2.1, (hb12.cell (p := ⟨p, _, none⟩) hplW).trans (unhide D0).2.2.2.2.2⟩⟩) (fun hS => ?_)
        clear HS
        have HS := hide hS
        clear hS hK K2
        have GZ := hide (row_keep (unhide GZ1) hb2)
        have BV := hide hb12
        have GXL := hide (Nat.le_refl V0.heap.size)
        have HG := hide (show ∀ w3 : World, (∀ b, b ≠ V0.heap.size → w3.heap[b]? = w2.heap[b]?) → HalfX w3 w1.heap.size w2.heap.size x q from fun w3 h => by
          obtain ⟨F, f1, f2, f3⟩ := (show NewX w2 w1.heap.size x q from hq).half
          exact ⟨F, OwX.keep x q F (fun b hF => h b (by have := (f3 b hF).1; have := unhide ZL; omega)) f1, f2, f3⟩)
        have M01 := hide (show wr.heap.size ≤ w1.heap.size from Nat.le_trans (unhide M0) (unhide HB1).size)
        have BM := hide (show w.heap.size + 4 ≤ w1.heap.size by have := unhide HV; have := unhide WL; have := (unhide HB1).size; omega)
        have M12 := hide (show w1.heap.size ≤ w2.heap.size from hb2.size)
        have M1s := hide (show w1.heap.size ≤ w2.heap.size from hb2.size)
        have M2w := hide (show w2.heap.size ≤ w2.heap.size from Nat.le_refl _)
        clear hq hb2 hb12 HB1 GZ1 ZL BD1
        obtain ⟨m2, hm2⟩ : ∃ m2, w2.heap.size = m2 := ⟨_, rfl⟩
        rw [hm2] at HG M12 M2w
        have HM2 := hide hm2
        clear hm2
        refine wpAnyH_ready (rs := [10]) (by kernel_rfl) (by simp) ?_
        refine AllReadyH.cons rfl (fun K2 hK => ?_) AllReadyH.nil
        rw [if_pos (by rfl)]
        refine wp_store_row 26 _ _ rfl (V0.heap.size) #[.int .i64 xk, .int .i64 xn, .string xs, .slice q xl cq] rfl rfl 26 _ (unhide GZ) szE rfl (ex_one _ _ _ _ _ _) ?_
        have hbs := hide (show Below V0.heap.size V0 (w2.setRow (V0.heap.size) #[.int .i64 xk, .int .i64 xn, .string xs, .slice q xl cq]) from (unhide BV).grown (grownBy_row _) (unhide BV).size (fun q e => by cases e; exact unhide GXL))
        refine hK.out _ _ (⟨row_keep (unhide D0).1 (unhide hbs), row_keep (unhide D0).2.1 (unhide hbs), ⟨((unhide hbs).cell (p := ⟨p, _, none⟩) hplW).trans (unhide D0).2.2.1, ((unhide hbs).cell (p := ⟨p, _, none⟩) hplW).trans (unhide D0).2.2.2.1, ((unhide hbs).cell (p := ⟨p, _, none⟩) hplW).trans (unhide D0).2.2.2.2.1, ((unhide hbs).cell (p := ⟨p, _, none⟩) hplW).trans (unhide D0).2.2.2.2.2⟩⟩) (fun hS => ?_)
        clear HS
        have HS := hide hS
        clear hS hK K2
        have C3 := hide ((unhide CZ0).later (unhide hbs))
        have A3 := hide (((unhide AP0).later (unhide hbs) (unhide M0)).upto (show wr.heap.size ≤ w1.heap.size from unhide M01))
        have G3 := hide (setRow_heap w2 (V0.heap.size) _ #[.int .i64 xk, .int .i64 xn, .string xs, .slice q xl cq] _ _ (unhide GZ))
        have H3 := hide (unhide HG (w2.setRow (V0.heap.size) #[.int .i64 xk, .int .i64 xn, .string xs, .slice q xl cq]) (fun b hne => setRow_other w2 (V0.heap.size) b #[.int .i64 xk, .int .i64 xn, .string xs, .slice q xl cq] hne))
        have zs : (w2.setRow (V0.heap.size) #[.int .i64 xk, .int .i64 xn, .string xs, .slice q xl cq]).heap.size = w2.heap.size := by simp [World.setRow]
        have M3 := hide (show w1.heap.size ≤ (w2.setRow (V0.heap.size) #[.int .i64 xk, .int .i64 xn, .string xs, .slice q xl cq]).heap.size by rw [zs]; exact unhide M1s)
        have M2s := hide (show m2 ≤ (w2.setRow (V0.heap.size) #[.int .i64 xk, .int .i64 xn, .string xs, .slice q xl cq]).heap.size by rw [zs, unhide HM2]; exact unhide M2w)
        clear hbs GZ HG BV CZ0 AP0 D0 zs
        generalize w2.setRow (V0.heap.size) #[.int .i64 xk, .int .i64 xn, .string xs, .slice q xl cq] = w3 at *
        refine wpAnyH_done (by kernel_rfl) ?_ _
        clear HS
        have o3 := Lib.cell_of_heap (unhide C3).out 3
        have hb4 := below_new w3 (.cells #[.int .i64 xk, .int .i64 xn, .string xs, .slice q xl cq] 26)
        have C4 := hide ((unhide C3).later hb4)
        have A4 := hide ((unhide A3).later hb4 (unhide M3))
        have CN := hide (cell_newF w3 #[.int .i64 xk, .int .i64 xn, .string xs, .slice q xl cq] 26)
        have HX4 := hide ((unhide H3).later hb4)
        have hz4 : (w3.alloc (.cells #[.int .i64 xk, .int .i64 xn, .string xs, .slice q xl cq] 26)).heap.size = w3.heap.size + 1 := by simp
        have SZ := hide hz4
        obtain ⟨cs, Fs, a1, a2, a3, a4, a5, a6⟩ := unhide A4
        have OW := hide a1
        have SPP := hide (fun w2 g cp => unhide AS (w3.alloc (.cells #[.int .i64 xk, .int .i64 xn, .string xs, .slice q xl cq] 26)) w2 g cp (w1.heap.size) (m2) q cq cs Fs a1 a2 a3 a4 a5 a6 (unhide HX4) (unhide BM) (unhide M12) (by have := unhide M2s; omega))
        have BA := hide (show w.heap.size + 4 ≤ (w3.alloc (.cells #[.int .i64 xk, .int .i64 xn, .string xs, .slice q xl cq] 26)).heap.size from (unhide C4).lt)
        have WB := hide (show ∀ g, v.ownBlock = some g → w.heap.size + 4 ≤ g from fun g hg => (World.ownsRow.lt a1 g hg).1)
        have ON := hide (show ∀ u ∈ ([.int .i64 xk, .int .i64 xn, .string xs, .slice q xl cq] : List Value), u.oneCell' = true by intro u hu; simp only [List.mem_cons, List.not_mem_nil, or_false] at hu; rcases hu with rfl | rfl | rfl | rfl <;> rfl)
        clear a1 a2 a3 a4 a5 a6 A4 AS HX4 hb4 hz4 A3 H3
        go_wp2_with (first | (refine wpList_load_row rfl 26 _ rfl V0.heap.size rfl 26 #[.int .i64 xk, .int .i64 xn, .string xs, .slice q xl cq] (0, 0) _ (unhide G3) Tryd.underlying26 rfl (by kernel_rfl) ?_) | (at_builtin; go_must (refine wpList_append_to rfl (.tmp 56) (.tmp 58) 24 rfl (w.heap.size + 4) 26 i0 (.agg #[.int .i64 0, .int .i64 0, .string ⟨#[]⟩, .slice none 0 0]) 4 56 Tryd.underlying24 hi hz0 hz1 hz2 rfl (by decide) v i cs rfl (unhide OW) ⟨w3.heap.size, 0, none⟩ 1 1 [.int .i64 xk, .int .i64 xn, .string xs, .slice q xl cq] rfl rfl (unhide CN) (unhide ON) (by unfold maxLen; omega) (by omega) (unhide BA) (by omega) ?_; intro g4 cap4 w4 hown4 hgrow4 hwh4; have A5 := hide (unhide SPP w4 g4 cap4 hown4 hgrow4 hwh4); have C5 := (unhide C4).grown hgrow4 (unhide WB); have f4 : w4.frozen? ⟨w.heap.size + 3, 3, none⟩ = false := (by simp [World.frozen?, C5.out]); have o4 := Lib.cell_of_heap C5.out 3; have C6 := hide (C5.set3 (.slice (some ⟨g4, 0, none⟩) (i + 1 : Nat) cap4)); clear hown4 hgrow4 hwh4 C5)))
        go_roundw
        case rel => exact ⟨i + 1, _, by omega, by go_num, unhide C6, by
          rw [show (w4.setCell ⟨w.heap.size + 3, 3, none⟩ (.slice (some ⟨g4, 0, none⟩) (i + 1 : Nat) cap4)).heap.size = w4.heap.size by simp]
          exact (unhide A5).far ⟨w.heap.size + 3, 3, none⟩ _ (by show w.heap.size + 3 < w.heap.size + 4; omega)⟩
        case measure => simp [intOf]; omega
    · obtain rfl : i = len := by omega
      obtain ⟨a5, n5, c5, rfl⟩ : ∃ a n c, v = .slice a n c := by
        obtain ⟨_, _, ⟨_, ⟨e, _⟩ | ⟨g, cap', cur, e, _⟩⟩, _⟩ := hap
        · exact ⟨_, _, _, e⟩
        · exact ⟨_, _, _, e⟩
      have CZ := hide hcz
      have AP := hide hap
      clear hcz hap
      go_wp2_with (first | (refine wpList_load_row rfl 26 _ rfl (w.heap.size + 3) rfl 26 #[.int .i64 k, .int .i64 n, .string s, .slice a5 n5 c5] (0, 0) _ ((unhide CZ).out) Tryd.underlying26 rfl (by kernel_rfl) ?_) | (refine wpList_store_row rfl 26 _ _ rfl (w.heap.size + 2) #[.int .i64 k, .int .i64 n, .string s, .slice a5 n5 c5] rfl rfl 26 _ (unhide CZ).res szE rfl (ex_one _ _ _ _ _ _) ?_))
      refine bodyPost_ret (results_cell_row (P := Tryd.prog) rfl _ _ (w.heap.size + 2) 26 #[.int .i64 k, .int .i64 n, .string s, .slice a5 n5 c5] (0, 0) _ rfl (setRow_heap _ _ _ _ _ _ (unhide CZ).res) Tryd.underlying26 rfl szE) rfl ?_
      exact unhide FN _ _ _ _ _ _ _ _ (unhide CZ) (unhide AP)
theorem sz_parts (k n : Int) (s : ByteArray) (l : List Ex) : l.length ≤ (Ex.mk k n s l).sz ∧ ∀ x ∈ l, x.sz ≤ (Ex.mk k n s l).sz := by
  rw [Ex.sz_eq]
  refine ⟨by omega, fun x hx => ?_⟩
  have : x.sz ≤ (l.map Ex.sz).sum := by
    clear k n s
    induction l with
    | nil => cases hx
    | cons a r ih =>
      simp only [List.map_cons, List.sum_cons]
      rcases List.mem_cons.1 hx with rfl | hx
      · omega
      · have := ih hx; omega
  omega
theorem putS_any (here : Ex) (L : List ByteArray) (vals : List Ex) (pk : Pk here L vals) (e : Ex) : e.sz ≤ 1100000 → PuP here L vals e := by
  induction e using Ex.ind with
  | h k n s l ih =>
    intro hz
    obtain ⟨h1, h2⟩ := sz_parts k n s l
    have ihs : ∀ i, i < l.length → PuP here L vals (xAt l i) := fun i hi => ih _ (xAt_mem hi) (Nat.le_trans (h2 _ (xAt_mem hi)) hz)
    cases k3 : (k == 3) with
    | true => obtain rfl : k = 3 := beq_iff_eq.1 k3; exact putS_here here L vals pk n s l
    | false =>
      cases k2 : (k == 2) with
      | false => exact putS_oth here L vals pk k n s l (by omega) ihs k3 k2
      | true =>
        by_cases ha : atV L s < 0
        · exact putS_mis here L vals pk k n s l (by omega) ihs k3 k2 ha
        · obtain rfl : k = 2 := beq_iff_eq.1 k2
          obtain ⟨j, hj⟩ : ∃ j : Nat, atV L s = j := ⟨(atV L s).toNat, by omega⟩
          exact putS_hit here L vals pk n s l j hj
end Go.Proofs.YtkolflcjkofleaaDoor
