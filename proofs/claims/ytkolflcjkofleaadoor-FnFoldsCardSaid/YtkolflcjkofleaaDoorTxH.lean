/- Contracts over this seat's translation, laid together; conditions stand as hypotheses of each. -/
import Derived.Test.YtkolflcjkofleaaDoorTxA
import Derived.Test.YtkolflcjkofleaaDoorTxD
import Derived.Test.YtkolflcjkofleaaDoorTxF
import Derived.Test.YtkolflcjkofleaaDoorTxG
import Derived.Deep.RegionWith

namespace Go.Proofs.YtkolflcjkofleaaDoor
open Go.ChangeShapes Go.WideShapes Go.ChangeAt Go.RowKit
set_option linter.unusedVariables false
set_option maxRecDepth 8000
set_option linter.unusedSimpArgs false

/-- A number answered, or none. -/
def InR (o : Option Int) (w : World) (r : Ending) (w' : World) : Prop := r = .returned (.tuple #[.int .i64 (o.getD 0), .bool o.isSome]) ∧ Below w.heap.size w w'
set_option maxHeartbeats 4000000 in
theorem known_no (e : Ex) (b : Option Addr) (cap : Nat) (w : World) (hr : RdX w 0 e b) (hz : e.sz ≤ 1048576) (ho : okF 6 false e = false) : Calls Tryd.prog 20 #[.agg (e.cs b cap)] w (InR (knownA e) w) := by
  have EQ := hide (show knownA e = none by unfold knownA; rw [if_neg (fun h => by rw [ho] at h; exact absurd h.1 (by decide))])
  rw [unhide EQ]
  have hb0 := below_new w (.cells #[.int .i64 e.k, .int .i64 e.n, .string e.s, .slice b e.l.length cap] 26)
  have G0 := (show (w.alloc (.cells #[.int .i64 e.k, .int .i64 e.n, .string e.s, .slice b e.l.length cap] 26)).heap[w.heap.size]? = some (.cells #[.int .i64 e.k, .int .i64 e.n, .string e.s, .slice b e.l.length cap] 26 (0, 0)) from Array.getElem?_push_size)
  have FO := hide (foldA_any e b cap _ (hr.later hb0) hz)
  have OK := hide (fun wr (h : Below w.heap.size w wr) => okS_any e b cap wr (hr.later h) hz)
  rw [ho] at OK
  have B0 := hide hb0
  have R0 := hide G0
  generalize hX : InR _ w = X
  have HX := hide hX
  unfold GiR at FO
  unfold Ex.cs at FO OK ⊢
  generalize foldA e = x at *
  clear hX hr hz ho EQ hb0 G0
  go_enter Tryd.func20, Tryd.ntmps20
  go_wp2_with fail
  generalize w.alloc (.cells #[.int .i64 e.k, .int .i64 e.n, .string e.s, .slice b e.l.length cap] 26) = W at *
  refine (unhide FO).mono ?_
  rintro r w1 ⟨c1, cp1, rfl, hx, hb1⟩
  clear hx
  have B1 := (unhide B0).trans (hb1.mono (unhide B0).size)
  have R1 := row_keep (unhide R0) hb1
  have hb2 := below_new w1 (.cells #[.int .i64 x.k, .int .i64 x.n, .string x.s, .slice c1 x.l.length cp1] 26)
  have B2 := hide (B1.trans (hb2.mono B1.size))
  have R2 := hide (row_keep R1 hb2)
  have G2 := hide (show (w1.alloc (.cells #[.int .i64 x.k, .int .i64 x.n, .string x.s, .slice c1 x.l.length cp1] 26)).heap[w1.heap.size]? = some (.cells #[.int .i64 x.k, .int .i64 x.n, .string x.s, .slice c1 x.l.length cp1] 26 (0, 0)) from Array.getElem?_push_size)
  have O2 := hide (unhide OK _ (unhide B2))
  clear hb1 hb2 B1 R1 B0 R0 FO OK
  go_wp2_with (refine wpList_load_row rfl 26 _ rfl w.heap.size rfl 26 #[.int .i64 e.k, .int .i64 e.n, .string e.s, .slice b e.l.length cap] (0, 0) _ (unhide R2) Tryd.underlying26 rfl (by kernel_rfl) ?_)
  generalize w1.alloc (.cells #[.int .i64 x.k, .int .i64 x.n, .string x.s, .slice c1 x.l.length cp1] 26) = w2 at *
  generalize w1.heap.size = g1 at *
  refine (unhide O2).mono ?_
  rintro r w3 ⟨rfl, hb3⟩
  have B3 := hide ((unhide B2).trans (hb3.mono (unhide B2).size))
  have G3 := row_keep (unhide G2) hb3
  have y0 := Lib.cell_of_heap G3 0
  have y1 := Lib.cell_of_heap G3 1
  clear hb3 B2 G2 O2 R2 G3
  go_wp2
  rw [← unhide HX]
  exact ⟨rfl, unhide B3⟩
set_option maxHeartbeats 4000000 in
theorem known_y (e : Ex) (b : Option Addr) (cap : Nat) (w : World) (hr : RdX w 0 e b) (hz : e.sz ≤ 1048576) (ho : okF 6 false e = true) (f1 : ((foldA e).k == 1) = true) : Calls Tryd.prog 20 #[.agg (e.cs b cap)] w (InR (knownA e) w) := by
  have EQ := hide (show knownA e = some (foldA e).n by have e1 : foldA e = foldX e := (by unfold foldA; rw [if_pos ho]); rw [e1] at f1 ⊢; unfold knownA; rw [if_pos ⟨ho, beq_iff_eq.1 f1⟩])
  rw [unhide EQ]
  have hb0 := below_new w (.cells #[.int .i64 e.k, .int .i64 e.n, .string e.s, .slice b e.l.length cap] 26)
  have G0 := (show (w.alloc (.cells #[.int .i64 e.k, .int .i64 e.n, .string e.s, .slice b e.l.length cap] 26)).heap[w.heap.size]? = some (.cells #[.int .i64 e.k, .int .i64 e.n, .string e.s, .slice b e.l.length cap] 26 (0, 0)) from Array.getElem?_push_size)
  have FO := hide (foldA_any e b cap _ (hr.later hb0) hz)
  have OK := hide (fun wr (h : Below w.heap.size w wr) => okS_any e b cap wr (hr.later h) hz)
  rw [ho] at OK
  have B0 := hide hb0
  have R0 := hide G0
  generalize hX : InR _ w = X
  have HX := hide hX
  unfold GiR at FO
  unfold Ex.cs at FO OK ⊢
  generalize foldA e = x at *
  clear hX hr hz ho EQ hb0 G0
  go_enter Tryd.func20, Tryd.ntmps20
  go_wp2_with fail
  generalize w.alloc (.cells #[.int .i64 e.k, .int .i64 e.n, .string e.s, .slice b e.l.length cap] 26) = W at *
  refine (unhide FO).mono ?_
  rintro r w1 ⟨c1, cp1, rfl, hx, hb1⟩
  clear hx
  have B1 := (unhide B0).trans (hb1.mono (unhide B0).size)
  have R1 := row_keep (unhide R0) hb1
  have hb2 := below_new w1 (.cells #[.int .i64 x.k, .int .i64 x.n, .string x.s, .slice c1 x.l.length cp1] 26)
  have B2 := hide (B1.trans (hb2.mono B1.size))
  have R2 := hide (row_keep R1 hb2)
  have G2 := hide (show (w1.alloc (.cells #[.int .i64 x.k, .int .i64 x.n, .string x.s, .slice c1 x.l.length cp1] 26)).heap[w1.heap.size]? = some (.cells #[.int .i64 x.k, .int .i64 x.n, .string x.s, .slice c1 x.l.length cp1] 26 (0, 0)) from Array.getElem?_push_size)
  have O2 := hide (unhide OK _ (unhide B2))
  clear hb1 hb2 B1 R1 B0 R0 FO OK
  go_wp2_with (refine wpList_load_row rfl 26 _ rfl w.heap.size rfl 26 #[.int .i64 e.k, .int .i64 e.n, .string e.s, .slice b e.l.length cap] (0, 0) _ (unhide R2) Tryd.underlying26 rfl (by kernel_rfl) ?_)
  generalize w1.alloc (.cells #[.int .i64 x.k, .int .i64 x.n, .string x.s, .slice c1 x.l.length cp1] 26) = w2 at *
  generalize w1.heap.size = g1 at *
  refine (unhide O2).mono ?_
  rintro r w3 ⟨rfl, hb3⟩
  have B3 := hide ((unhide B2).trans (hb3.mono (unhide B2).size))
  have G3 := row_keep (unhide G2) hb3
  have y0 := Lib.cell_of_heap G3 0
  have y1 := Lib.cell_of_heap G3 1
  clear hb3 B2 G2 O2 R2 G3
  go_wp2
  rw [← unhide HX]
  exact ⟨rfl, unhide B3⟩
set_option maxHeartbeats 4000000 in
theorem known_n (e : Ex) (b : Option Addr) (cap : Nat) (w : World) (hr : RdX w 0 e b) (hz : e.sz ≤ 1048576) (ho : okF 6 false e = true) (f1 : ((foldA e).k == 1) = false) : Calls Tryd.prog 20 #[.agg (e.cs b cap)] w (InR (knownA e) w) := by
  have EQ := hide (show knownA e = none by have e1 : foldA e = foldX e := (by unfold foldA; rw [if_pos ho]); rw [e1] at f1; unfold knownA; rw [if_neg (fun h => beq_eq_false_iff_ne.1 f1 h.2)])
  rw [unhide EQ]
  have hb0 := below_new w (.cells #[.int .i64 e.k, .int .i64 e.n, .string e.s, .slice b e.l.length cap] 26)
  have G0 := (show (w.alloc (.cells #[.int .i64 e.k, .int .i64 e.n, .string e.s, .slice b e.l.length cap] 26)).heap[w.heap.size]? = some (.cells #[.int .i64 e.k, .int .i64 e.n, .string e.s, .slice b e.l.length cap] 26 (0, 0)) from Array.getElem?_push_size)
  have FO := hide (foldA_any e b cap _ (hr.later hb0) hz)
  have OK := hide (fun wr (h : Below w.heap.size w wr) => okS_any e b cap wr (hr.later h) hz)
  rw [ho] at OK
  have B0 := hide hb0
  have R0 := hide G0
  generalize hX : InR _ w = X
  have HX := hide hX
  unfold GiR at FO
  unfold Ex.cs at FO OK ⊢
  generalize foldA e = x at *
  clear hX hr hz ho EQ hb0 G0
  go_enter Tryd.func20, Tryd.ntmps20
  go_wp2_with fail
  generalize w.alloc (.cells #[.int .i64 e.k, .int .i64 e.n, .string e.s, .slice b e.l.length cap] 26) = W at *
  refine (unhide FO).mono ?_
  rintro r w1 ⟨c1, cp1, rfl, hx, hb1⟩
  clear hx
  have B1 := (unhide B0).trans (hb1.mono (unhide B0).size)
  have R1 := row_keep (unhide R0) hb1
  have hb2 := below_new w1 (.cells #[.int .i64 x.k, .int .i64 x.n, .string x.s, .slice c1 x.l.length cp1] 26)
  have B2 := hide (B1.trans (hb2.mono B1.size))
  have R2 := hide (row_keep R1 hb2)
  have G2 := hide (show (w1.alloc (.cells #[.int .i64 x.k, .int .i64 x.n, .string x.s, .slice c1 x.l.length cp1] 26)).heap[w1.heap.size]? = some (.cells #[.int .i64 x.k, .int .i64 x.n, .string x.s, .slice c1 x.l.length cp1] 26 (0, 0)) from Array.getElem?_push_size)
  have O2 := hide (unhide OK _ (unhide B2))
  clear hb1 hb2 B1 R1 B0 R0 FO OK
  go_wp2_with (refine wpList_load_row rfl 26 _ rfl w.heap.size rfl 26 #[.int .i64 e.k, .int .i64 e.n, .string e.s, .slice b e.l.length cap] (0, 0) _ (unhide R2) Tryd.underlying26 rfl (by kernel_rfl) ?_)
  generalize w1.alloc (.cells #[.int .i64 x.k, .int .i64 x.n, .string x.s, .slice c1 x.l.length cp1] 26) = w2 at *
  generalize w1.heap.size = g1 at *
  refine (unhide O2).mono ?_
  rintro r w3 ⟨rfl, hb3⟩
  have B3 := hide ((unhide B2).trans (hb3.mono (unhide B2).size))
  have G3 := row_keep (unhide G2) hb3
  have y0 := Lib.cell_of_heap G3 0
  have y1 := Lib.cell_of_heap G3 1
  clear hb3 B2 G2 O2 R2 G3
  go_wp2
  rw [← unhide HX]
  exact ⟨rfl, unhide B3⟩
theorem knownS_any (e : Ex) (b : Option Addr) (cap : Nat) (w : World) (hr : RdX w 0 e b) (hz : e.sz ≤ 1048576) : Calls Tryd.prog 20 #[.agg (e.cs b cap)] w (InR (knownA e) w) := by
  cases ho : okF 6 false e with
  | false => exact known_no e b cap w hr hz ho
  | true =>
    cases f1 : ((foldA e).k == 1) with
    | false => exact known_n e b cap w hr hz ho f1
    | true => exact known_y e b cap w hr hz ho f1
end Go.Proofs.YtkolflcjkofleaaDoor

namespace Go.Proofs.YtkolflcjkofleaaDoor
open Go.ChangeShapes Go.WideShapes Go.ChangeAt Go.RowKit
set_option linter.unusedVariables false
set_option maxRecDepth 8000

set_option maxHeartbeats 400000 in
theorem at_anyF (L : List ByteArray) (s : ByteArray) (g n cap : Nat) (w : World) (hn : L.length = n) (hm : n ≤ 1100000) (hr : RdS w g L) : Calls Tryd.prog 81 #[.slice (some ⟨g, 0, none⟩) n cap, .string s] w fun e w' => e = .returned (.int .i64 (atV L s)) ∧ w' = w := by
  obtain ⟨v, hv⟩ : ∃ v, atV L s = v := ⟨_, rfl⟩
  have HIT := hide (fun k (hk : k < n) hm he => (atV_hit (L := L) (s := s) (k := k) (by omega) hm he).symm.trans hv)
  have MISS := hide (fun (h : ∀ k, k < n → eqS (L.getD k E0) s = false) => (atV_no (L := L) (s := s) (hasS_miss (fun k hk => h k (by omega)))).symm.trans hv)
  have RD := hide (fun j (hj : j < n) => hr j (by omega))
  rw [hv]
  clear hv hr
  go_enter Tryd.func81, Tryd.ntmps81
  go_wp2
  go_loop [5] (fun i => ∃ k : Nat, i = .int .i64 k ∧ k ≤ n ∧ Hid (∀ j, j < k → eqS (L.getD j E0) s = false)) (fun i => n - (intOf i).toNat)
  case atStart => exact ⟨0, rfl, by omega, fun j hj => by omega⟩
  case round =>
    obtain ⟨k, rfl, hk, hd⟩ := hrel
    by_cases hlt : k < n
    · have hc := unhide RD k hlt
      have H1 := hide (unhide HIT k hlt hd.out)
      have H2 := hide (show eqS (L.getD k E0) s = false → ∀ j, j < k + 1 → eqS (L.getD j E0) s = false from fun h j hj => by
        by_cases e : j = k
        · subst e; exact h
        · exact hd.out j (by omega))
      generalize L.getD k E0 = T at hc H1 H2
      clear hd
      cases hq : (T.toList == s.toList)
      · have E := hide (unhide H2 hq)
        clear H1 H2
        go_wp2
        go_round
        case rel => exact ⟨k + 1, by go_num, by omega, unhide E⟩
        case measure => simp [intOf]; omega
      · have E := hide (unhide H1 hq)
        clear H1 H2
        go_wp2
        go_ret
        exact ⟨by rw [← unhide E]; rfl, rfl⟩
    · have E := hide (unhide MISS (fun j hj => hd.out j (by omega)))
      clear hd
      go_wp2
      go_ret
      exact ⟨by rw [← unhide E]; rfl, rfl⟩
end Go.Proofs.YtkolflcjkofleaaDoor

namespace Go.Proofs.YtkolflcjkofleaaDoor
open Go.ChangeShapes Go.WideShapes Go.ChangeAt Go.RowKit
set_option linter.unusedVariables false
set_option maxRecDepth 8000
set_option linter.unusedSimpArgs false

/-- The numbers of sections, the names, their numbers, as they lie. -/
structure Ev (w : World) (gb gn gv : Nat) (bs : List Int) (L : List ByteArray) (vs : List Int) : Prop where
  b : ∀ i, i < bs.length → w.cell? ⟨gb, i, none⟩ = some (.int .i64 (nAt bs i))
  n : RdS w gn L
  v : ∀ i, i < vs.length → w.cell? ⟨gv, i, none⟩ = some (.int .i64 (nAt vs i))
  lb : gb < w.heap.size
  ln : gn < w.heap.size
  lv : gv < w.heap.size
theorem Ev.later {w w' : World} {gb gn gv : Nat} {bs : List Int} {L : List ByteArray} {vs : List Int} (h : Ev w gb gn gv bs L vs) (hb : Below w.heap.size w w') : Ev w' gb gn gv bs L vs :=
  ⟨fun i hi => (hb.cell (p := ⟨gb, i, none⟩) h.lb).trans (h.b i hi), fun i hi => (hb.cell (p := ⟨gn, i, none⟩) h.ln).trans (h.n i hi), fun i hi => (hb.cell (p := ⟨gv, i, none⟩) h.lv).trans (h.v i hi), Nat.lt_of_lt_of_le h.lb hb.size, Nat.lt_of_lt_of_le h.ln hb.size, Nat.lt_of_lt_of_le h.lv hb.size⟩
def seW (bs : List Int) (n : Int) : Option Int := if n < bs.length then some (wr (nAt bs n.toNat)) else none
def glW (L : List ByteArray) (vs : List Int) (s : ByteArray) : Option Int := if 0 ≤ atV L s ∧ atV L s < vs.length then some (wr (nAt vs (atV L s).toNat)) else none
theorem seW_in (bs : List Int) : ∀ n v, seW bs n = some v → 0 ≤ v ∧ v ≤ 65535 := by
  intro n v h
  unfold seW at h
  split at h
  · cases h; exact wr_in _
  · cases h
theorem glW_in (L : List ByteArray) (vs : List Int) : ∀ s v, glW L vs s = some v → 0 ≤ v ∧ v ≤ 65535 := by
  intro n v h
  unfold glW at h
  split at h
  · cases h; exact wr_in _
  · cases h
def WoP (bs : List Int) (L : List ByteArray) (vs : List Int) (e : Ex) : Prop := ∀ (b : Option Addr) (cap gb gn gv cb cn cv : Nat) (w : World), RdX w 0 e b → Ev w gb gn gv bs L vs → Calls Tryd.prog 63 #[.agg (e.cs b cap), .slice (some ⟨gb, 0, none⟩) bs.length cb, .slice (some ⟨gn, 0, none⟩) L.length cn, .slice (some ⟨gv, 0, none⟩) vs.length cv] w (InR (worthX (seW bs) (glW L vs) e) w)
set_option maxHeartbeats 4000000 in
theorem worth1 (n : Int) (s : ByteArray) (bs : List Int) (L : List ByteArray) (vs : List Int) (hL : L.length ≤ 1100000) (hB : bs.length ≤ 1099511627776) (hV : vs.length ≤ 1099511627776) : WoP bs L vs ⟨1, n, s, []⟩ := by
  intro b cap gb gn gv cb cn cv w hr hev
  have EQ := hide (show worthX (seW bs) (glW L vs) ⟨1, n, s, []⟩ = some n by exact worth_num n s)
  rw [unhide EQ]
  have B0 := hide (below_new w (.cells #[.int .i64 1, .int .i64 n, .string s, .slice b 0 cap] 26))
  have EV := hide (hev.later (unhide B0))
  generalize hX : InR _ w = X
  have HX := hide hX
  show Calls Tryd.prog 63 #[.agg #[.int .i64 1, .int .i64 n, .string s, .slice b 0 cap], .slice (some ⟨gb, 0, none⟩) bs.length cb, .slice (some ⟨gn, 0, none⟩) L.length cn, .slice (some ⟨gv, 0, none⟩) vs.length cv] w X
  clear hX hr hev EQ
  go_enter Tryd.func63, Tryd.ntmps63
  go_wp2
  rw [← unhide HX]
  exact ⟨rfl, unhide B0⟩
set_option maxHeartbeats 4000000 in
theorem worth2 (n : Int) (s : ByteArray) (bs : List Int) (L : List ByteArray) (vs : List Int) (hL : L.length ≤ 1100000) (hB : bs.length ≤ 1099511627776) (hV : vs.length ≤ 1099511627776) : WoP bs L vs ⟨2, n, s, []⟩ := by
  intro b cap gb gn gv cb cn cv w hr hev
  have EQ := hide (show worthX (seW bs) (glW L vs) ⟨2, n, s, []⟩ = none by exact worth_sym n s)
  rw [unhide EQ]
  have B0 := hide (below_new w (.cells #[.int .i64 2, .int .i64 n, .string s, .slice b 0 cap] 26))
  have EV := hide (hev.later (unhide B0))
  generalize hX : InR _ w = X
  have HX := hide hX
  show Calls Tryd.prog 63 #[.agg #[.int .i64 2, .int .i64 n, .string s, .slice b 0 cap], .slice (some ⟨gb, 0, none⟩) bs.length cb, .slice (some ⟨gn, 0, none⟩) L.length cn, .slice (some ⟨gv, 0, none⟩) vs.length cv] w X
  clear hX hr hev EQ
  go_enter Tryd.func63, Tryd.ntmps63
  go_wp2
  rw [← unhide HX]
  exact ⟨rfl, unhide B0⟩
set_option maxHeartbeats 4000000 in
theorem worth3 (n : Int) (s : ByteArray) (bs : List Int) (L : List ByteArray) (vs : List Int) (hL : L.length ≤ 1100000) (hB : bs.length ≤ 1099511627776) (hV : vs.length ≤ 1099511627776) : WoP bs L vs ⟨3, n, s, []⟩ := by
  intro b cap gb gn gv cb cn cv w hr hev
  have EQ := hide (show worthX (seW bs) (glW L vs) ⟨3, n, s, []⟩ = none by exact worth_here n s)
  rw [unhide EQ]
  have B0 := hide (below_new w (.cells #[.int .i64 3, .int .i64 n, .string s, .slice b 0 cap] 26))
  have EV := hide (hev.later (unhide B0))
  generalize hX : InR _ w = X
  have HX := hide hX
  show Calls Tryd.prog 63 #[.agg #[.int .i64 3, .int .i64 n, .string s, .slice b 0 cap], .slice (some ⟨gb, 0, none⟩) bs.length cb, .slice (some ⟨gn, 0, none⟩) L.length cn, .slice (some ⟨gv, 0, none⟩) vs.length cv] w X
  clear hX hr hev EQ
  go_enter Tryd.func63, Tryd.ntmps63
  go_wp2
  rw [← unhide HX]
  exact ⟨rfl, unhide B0⟩
set_option maxHeartbeats 4000000 in
theorem worth11n (n : Int) (s : ByteArray) (bs : List Int) (L : List ByteArray) (vs : List Int) (hL : L.length ≤ 1100000) (hB : bs.length ≤ 1099511627776) (hV : vs.length ≤ 1099511627776) (hn : ¬ n < (bs.length : Int)) : WoP bs L vs ⟨11, n, s, []⟩ := by
  intro b cap gb gn gv cb cn cv w hr hev
  have EQ := hide (show worthX (seW bs) (glW L vs) ⟨11, n, s, []⟩ = none by rw [worth_sect]; unfold seW; rw [if_neg hn])
  rw [unhide EQ]
  have B0 := hide (below_new w (.cells #[.int .i64 11, .int .i64 n, .string s, .slice b 0 cap] 26))
  have EV := hide (hev.later (unhide B0))
  generalize hX : InR _ w = X
  have HX := hide hX
  show Calls Tryd.prog 63 #[.agg #[.int .i64 11, .int .i64 n, .string s, .slice b 0 cap], .slice (some ⟨gb, 0, none⟩) bs.length cb, .slice (some ⟨gn, 0, none⟩) L.length cn, .slice (some ⟨gv, 0, none⟩) vs.length cv] w X
  have hn2 : (bs.length : Int) ≤ n := by omega
  clear hn
  generalize bs.length = lb at *
  clear hX hr hev EQ
  go_enter Tryd.func63, Tryd.ntmps63
  go_wp2
  rw [← unhide HX]
  exact ⟨rfl, unhide B0⟩
set_option maxHeartbeats 4000000 in
theorem worth11y (n : Nat) (s : ByteArray) (bs : List Int) (L : List ByteArray) (vs : List Int) (hL : L.length ≤ 1100000) (hB : bs.length ≤ 1099511627776) (hV : vs.length ≤ 1099511627776) (hn : n < bs.length) : WoP bs L vs ⟨11, (n : Int), s, []⟩ := by
  intro b cap gb gn gv cb cn cv w hr hev
  have EQ := hide (show worthX (seW bs) (glW L vs) ⟨11, (n : Int), s, []⟩ = some (nAt bs n % 65536) by rw [worth_sect]; unfold seW; rw [if_pos (by omega)]; rfl)
  rw [unhide EQ]
  have B0 := hide (below_new w (.cells #[.int .i64 11, .int .i64 (n : Int), .string s, .slice b 0 cap] 26))
  have EV := hide (hev.later (unhide B0))
  generalize hX : InR _ w = X
  have HX := hide hX
  show Calls Tryd.prog 63 #[.agg #[.int .i64 11, .int .i64 (n : Int), .string s, .slice b 0 cap], .slice (some ⟨gb, 0, none⟩) bs.length cb, .slice (some ⟨gn, 0, none⟩) L.length cn, .slice (some ⟨gv, 0, none⟩) vs.length cv] w X
  have hc := (unhide EV).b n hn
  have hn2 : ¬ (bs.length : Int) ≤ (n : Int) := by omega
  clear hX hr hev EQ
  go_enter Tryd.func63, Tryd.ntmps63
  go_wp2_with (go_at_call 83; refine (wrapS_any _ _).mono ?_; rintro e w' ⟨rfl, hw'⟩; rw [hw']; clear hw' w')
  rw [← unhide HX]
  exact ⟨rfl, unhide B0⟩
set_option maxHeartbeats 4000000 in
theorem worth12m (n : Int) (s : ByteArray) (bs : List Int) (L : List ByteArray) (vs : List Int) (hL : L.length ≤ 1100000) (hB : bs.length ≤ 1099511627776) (hV : vs.length ≤ 1099511627776) (hn : atV L s < 0) : WoP bs L vs ⟨12, n, s, []⟩ := by
  intro b cap gb gn gv cb cn cv w hr hev
  have EQ := hide (show worthX (seW bs) (glW L vs) ⟨12, n, s, []⟩ = none by rw [worth_glob]; unfold glW; rw [if_neg (fun h => by omega)])
  rw [unhide EQ]
  have B0 := hide (below_new w (.cells #[.int .i64 12, .int .i64 n, .string s, .slice b 0 cap] 26))
  have EV := hide (hev.later (unhide B0))
  generalize hX : InR _ w = X
  have HX := hide hX
  show Calls Tryd.prog 63 #[.agg #[.int .i64 12, .int .i64 n, .string s, .slice b 0 cap], .slice (some ⟨gb, 0, none⟩) bs.length cb, .slice (some ⟨gn, 0, none⟩) L.length cn, .slice (some ⟨gv, 0, none⟩) vs.length cv] w X
  have AT := hide (at_anyF L s gn L.length cn _ rfl hL (unhide EV).n)
  generalize atV L s = av at *
  clear hX hr hev EQ
  go_enter Tryd.func63, Tryd.ntmps63
  go_wp2_with (go_at_call 81; refine (unhide AT).mono ?_; rintro e w' ⟨rfl, hw'⟩; rw [hw']; clear hw' w')
  rw [← unhide HX]
  exact ⟨rfl, unhide B0⟩
set_option maxHeartbeats 4000000 in
theorem worth12g (n : Int) (s : ByteArray) (bs : List Int) (L : List ByteArray) (vs : List Int) (hL : L.length ≤ 1100000) (hB : bs.length ≤ 1099511627776) (hV : vs.length ≤ 1099511627776) (h0 : ¬ atV L s < 0) (hn : (vs.length : Int) ≤ atV L s) : WoP bs L vs ⟨12, n, s, []⟩ := by
  intro b cap gb gn gv cb cn cv w hr hev
  have EQ := hide (show worthX (seW bs) (glW L vs) ⟨12, n, s, []⟩ = none by rw [worth_glob]; unfold glW; rw [if_neg (fun h => by omega)])
  rw [unhide EQ]
  have B0 := hide (below_new w (.cells #[.int .i64 12, .int .i64 n, .string s, .slice b 0 cap] 26))
  have EV := hide (hev.later (unhide B0))
  generalize hX : InR _ w = X
  have HX := hide hX
  show Calls Tryd.prog 63 #[.agg #[.int .i64 12, .int .i64 n, .string s, .slice b 0 cap], .slice (some ⟨gb, 0, none⟩) bs.length cb, .slice (some ⟨gn, 0, none⟩) L.length cn, .slice (some ⟨gv, 0, none⟩) vs.length cv] w X
  have AT := hide (at_anyF L s gn L.length cn _ rfl hL (unhide EV).n)
  generalize atV L s = av at *
  clear hX hr hev EQ
  go_enter Tryd.func63, Tryd.ntmps63
  go_wp2_with (go_at_call 81; refine (unhide AT).mono ?_; rintro e w' ⟨rfl, hw'⟩; rw [hw']; clear hw' w')
  rw [← unhide HX]
  exact ⟨rfl, unhide B0⟩
set_option maxHeartbeats 4000000 in
theorem worth12y (n : Int) (s : ByteArray) (j : Nat) (bs : List Int) (L : List ByteArray) (vs : List Int) (hL : L.length ≤ 1100000) (hB : bs.length ≤ 1099511627776) (hV : vs.length ≤ 1099511627776) (hj : atV L s = j) (hn : j < vs.length) : WoP bs L vs ⟨12, n, s, []⟩ := by
  intro b cap gb gn gv cb cn cv w hr hev
  have EQ := hide (show worthX (seW bs) (glW L vs) ⟨12, n, s, []⟩ = some (nAt vs j % 65536) by rw [worth_glob]; unfold glW; rw [if_pos (by omega), hj]; rfl)
  rw [unhide EQ]
  have B0 := hide (below_new w (.cells #[.int .i64 12, .int .i64 n, .string s, .slice b 0 cap] 26))
  have EV := hide (hev.later (unhide B0))
  generalize hX : InR _ w = X
  have HX := hide hX
  show Calls Tryd.prog 63 #[.agg #[.int .i64 12, .int .i64 n, .string s, .slice b 0 cap], .slice (some ⟨gb, 0, none⟩) bs.length cb, .slice (some ⟨gn, 0, none⟩) L.length cn, .slice (some ⟨gv, 0, none⟩) vs.length cv] w X
  have AT := hide (at_anyF L s gn L.length cn _ rfl hL (unhide EV).n)
  rw [hj] at AT
  have hc := (unhide EV).v j hn
  have hn2 : ¬ (vs.length : Int) ≤ (j : Int) := by omega
  have hn3 : ¬ (j : Int) < 0 := by omega
  clear hj
  clear hX hr hev EQ
  go_enter Tryd.func63, Tryd.ntmps63
  go_wp2_with (first | (go_at_call 81; refine (unhide AT).mono ?_; rintro e w' ⟨rfl, hw'⟩; rw [hw']; clear hw' w') | (go_at_call 83; refine (wrapS_any _ _).mono ?_; rintro e w' ⟨rfl, hw'⟩; rw [hw']; clear hw' w'))
  rw [← unhide HX]
  exact ⟨rfl, unhide B0⟩
set_option maxHeartbeats 4000000 in
theorem worthS_neg (bs : List Int) (L : List ByteArray) (vs : List Int) (a : Ex) (iha : WoP bs L vs a) (hi : ∀ v, worthX (seW bs) (glW L vs) a = some v → 0 ≤ v ∧ v ≤ 65535) : WoP bs L vs ⟨4, 0, ⟨#[]⟩, [a]⟩ := by
  intro b cap gb gn gv cb cn cv w hr hev
  rw [worth_neg]
  obtain ⟨p, off, rfl, hpl, hc⟩ := hr.at (by simp)
  obtain ⟨c0, c1, c2, q0, qp0, c3, r0⟩ := hc 0 (by simp)
  have xa : xAt (Ex.mk 4 0 ⟨#[]⟩ [a]).l 0 = a := rfl
  rw [xa] at c0 c1 c2 c3 r0
  simp only [Nat.zero_mul, Nat.add_zero] at c0 c1 c2 c3
  have B0 := hide (below_new w (.cells #[.int .i64 4, .int .i64 0, .string ⟨#[]⟩, .slice (some ⟨p, off, none⟩) 1 cap] 26))
  have IA := hide (iha q0 qp0 gb gn gv cb cn cv _ (RdX.later r0 (unhide B0)) (hev.later (unhide B0)))
  have G0 := (show (w.alloc (.cells #[.int .i64 4, .int .i64 0, .string ⟨#[]⟩, .slice (some ⟨p, off, none⟩) 1 cap] 26)).heap[w.heap.size]? = some (.cells #[.int .i64 4, .int .i64 0, .string ⟨#[]⟩, .slice (some ⟨p, off, none⟩) 1 cap] 26 (0, 0)) from Array.getElem?_push_size)
  have R0 := hide G0
  have d0 := ((unhide B0).cell (p := ⟨p, off, none⟩) hpl).trans c0
  have d1 := ((unhide B0).cell (p := ⟨p, off + 1, none⟩) hpl).trans c1
  have d2 := ((unhide B0).cell (p := ⟨p, off + 2, none⟩) hpl).trans c2
  have d3 := ((unhide B0).cell (p := ⟨p, off + 3, none⟩) hpl).trans c3
  generalize worthX (seW bs) (glW L vs) a = o at *
  have ho : 0 ≤ o.getD 0 ∧ o.getD 0 ≤ 65535 := by
    cases o with
    | none => exact ⟨Int.le_refl _, show (0 : Int) ≤ 65535 by decide⟩
    | some v => exact hi v rfl
  have EQ := hide (show (o.map (fun v => wr (-v))).getD 0 = -(o.getD 0) % 65536 ∧ (o.map (fun v => wr (-v))).isSome = o.isSome by cases o <;> exact ⟨rfl, rfl⟩)
  generalize hX : InR _ w = X
  have HX := hide hX
  unfold InR at IA
  unfold Ex.cs at IA
  show Calls Tryd.prog 63 #[.agg #[.int .i64 4, .int .i64 0, .string ⟨#[]⟩, .slice (some ⟨p, off, none⟩) 1 cap], .slice (some ⟨gb, 0, none⟩) bs.length cb, .slice (some ⟨gn, 0, none⟩) L.length cn, .slice (some ⟨gv, 0, none⟩) vs.length cv] w X
  generalize hog : o.getD 0 = og at *
  generalize hos : o.isSome = os at *
  have HG := hide hog
  have HO := hide hos
  clear hX hr hc c0 c1 c2 c3 r0 iha hi xa hev G0 hog hos
  go_enter Tryd.func63, Tryd.ntmps63
  go_wp2_with fail
  generalize w.alloc (.cells #[.int .i64 4, .int .i64 0, .string ⟨#[]⟩, .slice (some ⟨p, off, none⟩) 1 cap] 26) = W at *
  clear d0 d1 d2 d3
  refine (unhide IA).mono ?_
  rintro r w1 ⟨rfl, hb1⟩
  have B1 := hide ((unhide B0).trans (hb1.mono (unhide B0).size))
  have z0 := Lib.cell_of_heap (row_keep (unhide R0) hb1) 0
  clear hb1 B0 R0 IA
  go_wp2_with (go_at_call 83; refine (wrapS_any _ _).mono ?_; rintro e w' ⟨rfl, hw'⟩; rw [hw']; clear hw' w')
  rw [← unhide HX]
  exact ⟨by rw [(unhide EQ).1, (unhide EQ).2]; rfl, unhide B1⟩
set_option maxHeartbeats 4000000 in
theorem worthS_nn (bs : List Int) (L : List ByteArray) (vs : List Int) (k : Int) (hk : 5 ≤ k ∧ k ≤ 10) (a b : Ex) (iha : WoP bs L vs a) (ihb : WoP bs L vs b) (va vb : Int) (ha : worthX (seW bs) (glW L vs) a = none) (hb : worthX (seW bs) (glW L vs) b = none) (ia : 0 ≤ va ∧ va ≤ 65535) (ib : 0 ≤ vb ∧ vb ≤ 65535) : WoP bs L vs ⟨k, 0, ⟨#[]⟩, [a, b]⟩ := by
  intro bb cap gb gn gv cb cn cv w hr hev
  have EQ := hide (show worthX (seW bs) (glW L vs) ⟨k, 0, ⟨#[]⟩, [a, b]⟩ = none by rw [worth_two, ha]; rfl)
  rw [unhide EQ]
  obtain ⟨p, off, rfl, hpl, hc⟩ := hr.at (by simp)
  obtain ⟨c0, c1, c2, q0, qp0, c3, r0⟩ := hc 0 (by simp)
  obtain ⟨e0, e1, e2, q1, qp1, e3, r1⟩ := hc 1 (by simp)
  have xa : xAt (Ex.mk k 0 ⟨#[]⟩ [a, b]).l 0 = a := rfl
  have xb : xAt (Ex.mk k 0 ⟨#[]⟩ [a, b]).l 1 = b := rfl
  rw [xa] at c0 c1 c2 c3 r0
  rw [xb] at e0 e1 e2 e3 r1
  simp only [Nat.zero_mul, Nat.add_zero, Nat.one_mul] at c0 c1 c2 c3 e0 e1 e2 e3
  have B0 := hide (below_new w (.cells #[.int .i64 k, .int .i64 0, .string ⟨#[]⟩, .slice (some ⟨p, off, none⟩) 2 cap] 26))
  have IA := hide (iha q0 qp0 gb gn gv cb cn cv _ (RdX.later r0 (unhide B0)) (hev.later (unhide B0)))
  have IB := hide (fun wr (h : Below w.heap.size w wr) => ihb q1 qp1 gb gn gv cb cn cv wr (RdX.later r1 h) (hev.later h))
  rw [ha] at IA
  rw [hb] at IB
  have R0 := hide (show (w.alloc (.cells #[.int .i64 k, .int .i64 0, .string ⟨#[]⟩, .slice (some ⟨p, off, none⟩) 2 cap] 26)).heap[w.heap.size]? = some (.cells #[.int .i64 k, .int .i64 0, .string ⟨#[]⟩, .slice (some ⟨p, off, none⟩) 2 cap] 26 (0, 0)) from Array.getElem?_push_size)
  have d0 := ((unhide B0).cell (p := ⟨p, off, none⟩) hpl).trans c0
  have d1 := ((unhide B0).cell (p := ⟨p, off + 1, none⟩) hpl).trans c1
  have d2 := ((unhide B0).cell (p := ⟨p, off + 2, none⟩) hpl).trans c2
  have d3 := ((unhide B0).cell (p := ⟨p, off + 3, none⟩) hpl).trans c3
  have E0' := hide (fun wr (h : Below w.heap.size w wr) => (h.cell (p := ⟨p, off + 4, none⟩) hpl).trans e0)
  have E1' := hide (fun wr (h : Below w.heap.size w wr) => (h.cell (p := ⟨p, off + 4 + 1, none⟩) hpl).trans e1)
  have E2' := hide (fun wr (h : Below w.heap.size w wr) => (h.cell (p := ⟨p, off + 4 + 2, none⟩) hpl).trans e2)
  have E3' := hide (fun wr (h : Below w.heap.size w wr) => (h.cell (p := ⟨p, off + 4 + 3, none⟩) hpl).trans e3)
  have k1 : (k == 1) = false := beq_eq_false_iff_ne.2 (by omega)
  have k2 : (k == 2) = false := beq_eq_false_iff_ne.2 (by omega)
  have k3 : (k == 3) = false := beq_eq_false_iff_ne.2 (by omega)
  have k4 : (k == 4) = false := beq_eq_false_iff_ne.2 (by omega)
  have k11 : (k == 11) = false := beq_eq_false_iff_ne.2 (by omega)
  have k12 : (k == 12) = false := beq_eq_false_iff_ne.2 (by omega)
  have TW := hide (fun wr => twoS_any k va vb hk ia ib wr)
  unfold TwoR at TW
  generalize hX : InR _ w = X
  have HX := hide hX
  unfold InR at IA IB
  simp only [Option.getD_some, Option.getD_none, Option.isSome_some, Option.isSome_none] at IA IB
  unfold Ex.cs at IA IB
  show Calls Tryd.prog 63 #[.agg #[.int .i64 k, .int .i64 0, .string ⟨#[]⟩, .slice (some ⟨p, off, none⟩) 2 cap], .slice (some ⟨gb, 0, none⟩) bs.length cb, .slice (some ⟨gn, 0, none⟩) L.length cn, .slice (some ⟨gv, 0, none⟩) vs.length cv] w X
  clear hX hr hc c0 c1 c2 c3 e0 e1 e2 e3 r0 r1 iha ihb xa xb hev ha hb EQ hk
  go_enter Tryd.func63, Tryd.ntmps63
  go_wp2_with fail
  generalize w.alloc (.cells #[.int .i64 k, .int .i64 0, .string ⟨#[]⟩, .slice (some ⟨p, off, none⟩) 2 cap] 26) = W at *
  clear d0 d1 d2 d3
  refine (unhide IA).mono ?_
  rintro r w1 ⟨rfl, hb1⟩
  have B1 := hide ((unhide B0).trans (hb1.mono (unhide B0).size))
  have R1 := hide (row_keep (unhide R0) hb1)
  have z0 := Lib.cell_of_heap (unhide R1) 0
  have z3 := Lib.cell_of_heap (unhide R1) 3
  have d0 := unhide E0' _ (unhide B1)
  have d1 := unhide E1' _ (unhide B1)
  have d2 := unhide E2' _ (unhide B1)
  have d3 := unhide E3' _ (unhide B1)
  have IB2 := hide (unhide IB _ (unhide B1))
  clear hb1 B0 R0 IA IB E0' E1' E2' E3'
  go_wp2_with fail
  clear d0 d1 d2 d3 z0 z3
  refine (unhide IB2).mono ?_
  rintro r w2 ⟨rfl, hb2⟩
  have B2 := hide ((unhide B1).trans (hb2.mono (unhide B1).size))
  have R2 := row_keep (unhide R1) hb2
  have z0 := Lib.cell_of_heap R2 0
  clear hb2 B1 R1 IB2 R2
  go_wp2_with (go_at_call 78; refine (unhide TW _).mono ?_; rintro r w' ⟨hw', rfl⟩; rw [hw']; clear hw' w')
  rw [← unhide HX]
  exact ⟨rfl, unhide B2⟩
set_option maxHeartbeats 4000000 in
theorem worthS_ns (bs : List Int) (L : List ByteArray) (vs : List Int) (k : Int) (hk : 5 ≤ k ∧ k ≤ 10) (a b : Ex) (iha : WoP bs L vs a) (ihb : WoP bs L vs b) (va vb : Int) (ha : worthX (seW bs) (glW L vs) a = none) (hb : worthX (seW bs) (glW L vs) b = some vb) (ia : 0 ≤ va ∧ va ≤ 65535) (ib : 0 ≤ vb ∧ vb ≤ 65535) : WoP bs L vs ⟨k, 0, ⟨#[]⟩, [a, b]⟩ := by
  intro bb cap gb gn gv cb cn cv w hr hev
  have EQ := hide (show worthX (seW bs) (glW L vs) ⟨k, 0, ⟨#[]⟩, [a, b]⟩ = none by rw [worth_two, ha]; rfl)
  rw [unhide EQ]
  obtain ⟨p, off, rfl, hpl, hc⟩ := hr.at (by simp)
  obtain ⟨c0, c1, c2, q0, qp0, c3, r0⟩ := hc 0 (by simp)
  obtain ⟨e0, e1, e2, q1, qp1, e3, r1⟩ := hc 1 (by simp)
  have xa : xAt (Ex.mk k 0 ⟨#[]⟩ [a, b]).l 0 = a := rfl
  have xb : xAt (Ex.mk k 0 ⟨#[]⟩ [a, b]).l 1 = b := rfl
  rw [xa] at c0 c1 c2 c3 r0
  rw [xb] at e0 e1 e2 e3 r1
  simp only [Nat.zero_mul, Nat.add_zero, Nat.one_mul] at c0 c1 c2 c3 e0 e1 e2 e3
  have B0 := hide (below_new w (.cells #[.int .i64 k, .int .i64 0, .string ⟨#[]⟩, .slice (some ⟨p, off, none⟩) 2 cap] 26))
  have IA := hide (iha q0 qp0 gb gn gv cb cn cv _ (RdX.later r0 (unhide B0)) (hev.later (unhide B0)))
  have IB := hide (fun wr (h : Below w.heap.size w wr) => ihb q1 qp1 gb gn gv cb cn cv wr (RdX.later r1 h) (hev.later h))
  rw [ha] at IA
  rw [hb] at IB
  have R0 := hide (show (w.alloc (.cells #[.int .i64 k, .int .i64 0, .string ⟨#[]⟩, .slice (some ⟨p, off, none⟩) 2 cap] 26)).heap[w.heap.size]? = some (.cells #[.int .i64 k, .int .i64 0, .string ⟨#[]⟩, .slice (some ⟨p, off, none⟩) 2 cap] 26 (0, 0)) from Array.getElem?_push_size)
  have d0 := ((unhide B0).cell (p := ⟨p, off, none⟩) hpl).trans c0
  have d1 := ((unhide B0).cell (p := ⟨p, off + 1, none⟩) hpl).trans c1
  have d2 := ((unhide B0).cell (p := ⟨p, off + 2, none⟩) hpl).trans c2
  have d3 := ((unhide B0).cell (p := ⟨p, off + 3, none⟩) hpl).trans c3
  have E0' := hide (fun wr (h : Below w.heap.size w wr) => (h.cell (p := ⟨p, off + 4, none⟩) hpl).trans e0)
  have E1' := hide (fun wr (h : Below w.heap.size w wr) => (h.cell (p := ⟨p, off + 4 + 1, none⟩) hpl).trans e1)
  have E2' := hide (fun wr (h : Below w.heap.size w wr) => (h.cell (p := ⟨p, off + 4 + 2, none⟩) hpl).trans e2)
  have E3' := hide (fun wr (h : Below w.heap.size w wr) => (h.cell (p := ⟨p, off + 4 + 3, none⟩) hpl).trans e3)
  have k1 : (k == 1) = false := beq_eq_false_iff_ne.2 (by omega)
  have k2 : (k == 2) = false := beq_eq_false_iff_ne.2 (by omega)
  have k3 : (k == 3) = false := beq_eq_false_iff_ne.2 (by omega)
  have k4 : (k == 4) = false := beq_eq_false_iff_ne.2 (by omega)
  have k11 : (k == 11) = false := beq_eq_false_iff_ne.2 (by omega)
  have k12 : (k == 12) = false := beq_eq_false_iff_ne.2 (by omega)
  have TW := hide (fun wr => twoS_any k va vb hk ia ib wr)
  unfold TwoR at TW
  generalize hX : InR _ w = X
  have HX := hide hX
  unfold InR at IA IB
  simp only [Option.getD_some, Option.getD_none, Option.isSome_some, Option.isSome_none] at IA IB
  unfold Ex.cs at IA IB
  show Calls Tryd.prog 63 #[.agg #[.int .i64 k, .int .i64 0, .string ⟨#[]⟩, .slice (some ⟨p, off, none⟩) 2 cap], .slice (some ⟨gb, 0, none⟩) bs.length cb, .slice (some ⟨gn, 0, none⟩) L.length cn, .slice (some ⟨gv, 0, none⟩) vs.length cv] w X
  clear hX hr hc c0 c1 c2 c3 e0 e1 e2 e3 r0 r1 iha ihb xa xb hev ha hb EQ hk
  go_enter Tryd.func63, Tryd.ntmps63
  go_wp2_with fail
  generalize w.alloc (.cells #[.int .i64 k, .int .i64 0, .string ⟨#[]⟩, .slice (some ⟨p, off, none⟩) 2 cap] 26) = W at *
  clear d0 d1 d2 d3
  refine (unhide IA).mono ?_
  rintro r w1 ⟨rfl, hb1⟩
  have B1 := hide ((unhide B0).trans (hb1.mono (unhide B0).size))
  have R1 := hide (row_keep (unhide R0) hb1)
  have z0 := Lib.cell_of_heap (unhide R1) 0
  have z3 := Lib.cell_of_heap (unhide R1) 3
  have d0 := unhide E0' _ (unhide B1)
  have d1 := unhide E1' _ (unhide B1)
  have d2 := unhide E2' _ (unhide B1)
  have d3 := unhide E3' _ (unhide B1)
  have IB2 := hide (unhide IB _ (unhide B1))
  clear hb1 B0 R0 IA IB E0' E1' E2' E3'
  go_wp2_with fail
  clear d0 d1 d2 d3 z0 z3
  refine (unhide IB2).mono ?_
  rintro r w2 ⟨rfl, hb2⟩
  have B2 := hide ((unhide B1).trans (hb2.mono (unhide B1).size))
  have R2 := row_keep (unhide R1) hb2
  have z0 := Lib.cell_of_heap R2 0
  clear hb2 B1 R1 IB2 R2
  go_wp2_with (go_at_call 78; refine (unhide TW _).mono ?_; rintro r w' ⟨hw', rfl⟩; rw [hw']; clear hw' w')
  rw [← unhide HX]
  exact ⟨rfl, unhide B2⟩
set_option maxHeartbeats 4000000 in
theorem worthS_sn (bs : List Int) (L : List ByteArray) (vs : List Int) (k : Int) (hk : 5 ≤ k ∧ k ≤ 10) (a b : Ex) (iha : WoP bs L vs a) (ihb : WoP bs L vs b) (va vb : Int) (ha : worthX (seW bs) (glW L vs) a = some va) (hb : worthX (seW bs) (glW L vs) b = none) (ia : 0 ≤ va ∧ va ≤ 65535) (ib : 0 ≤ vb ∧ vb ≤ 65535) : WoP bs L vs ⟨k, 0, ⟨#[]⟩, [a, b]⟩ := by
  intro bb cap gb gn gv cb cn cv w hr hev
  have EQ := hide (show worthX (seW bs) (glW L vs) ⟨k, 0, ⟨#[]⟩, [a, b]⟩ = none by rw [worth_two, ha, hb]; rfl)
  rw [unhide EQ]
  obtain ⟨p, off, rfl, hpl, hc⟩ := hr.at (by simp)
  obtain ⟨c0, c1, c2, q0, qp0, c3, r0⟩ := hc 0 (by simp)
  obtain ⟨e0, e1, e2, q1, qp1, e3, r1⟩ := hc 1 (by simp)
  have xa : xAt (Ex.mk k 0 ⟨#[]⟩ [a, b]).l 0 = a := rfl
  have xb : xAt (Ex.mk k 0 ⟨#[]⟩ [a, b]).l 1 = b := rfl
  rw [xa] at c0 c1 c2 c3 r0
  rw [xb] at e0 e1 e2 e3 r1
  simp only [Nat.zero_mul, Nat.add_zero, Nat.one_mul] at c0 c1 c2 c3 e0 e1 e2 e3
  have B0 := hide (below_new w (.cells #[.int .i64 k, .int .i64 0, .string ⟨#[]⟩, .slice (some ⟨p, off, none⟩) 2 cap] 26))
  have IA := hide (iha q0 qp0 gb gn gv cb cn cv _ (RdX.later r0 (unhide B0)) (hev.later (unhide B0)))
  have IB := hide (fun wr (h : Below w.heap.size w wr) => ihb q1 qp1 gb gn gv cb cn cv wr (RdX.later r1 h) (hev.later h))
  rw [ha] at IA
  rw [hb] at IB
  have R0 := hide (show (w.alloc (.cells #[.int .i64 k, .int .i64 0, .string ⟨#[]⟩, .slice (some ⟨p, off, none⟩) 2 cap] 26)).heap[w.heap.size]? = some (.cells #[.int .i64 k, .int .i64 0, .string ⟨#[]⟩, .slice (some ⟨p, off, none⟩) 2 cap] 26 (0, 0)) from Array.getElem?_push_size)
  have d0 := ((unhide B0).cell (p := ⟨p, off, none⟩) hpl).trans c0
  have d1 := ((unhide B0).cell (p := ⟨p, off + 1, none⟩) hpl).trans c1
  have d2 := ((unhide B0).cell (p := ⟨p, off + 2, none⟩) hpl).trans c2
  have d3 := ((unhide B0).cell (p := ⟨p, off + 3, none⟩) hpl).trans c3
  have E0' := hide (fun wr (h : Below w.heap.size w wr) => (h.cell (p := ⟨p, off + 4, none⟩) hpl).trans e0)
  have E1' := hide (fun wr (h : Below w.heap.size w wr) => (h.cell (p := ⟨p, off + 4 + 1, none⟩) hpl).trans e1)
  have E2' := hide (fun wr (h : Below w.heap.size w wr) => (h.cell (p := ⟨p, off + 4 + 2, none⟩) hpl).trans e2)
  have E3' := hide (fun wr (h : Below w.heap.size w wr) => (h.cell (p := ⟨p, off + 4 + 3, none⟩) hpl).trans e3)
  have k1 : (k == 1) = false := beq_eq_false_iff_ne.2 (by omega)
  have k2 : (k == 2) = false := beq_eq_false_iff_ne.2 (by omega)
  have k3 : (k == 3) = false := beq_eq_false_iff_ne.2 (by omega)
  have k4 : (k == 4) = false := beq_eq_false_iff_ne.2 (by omega)
  have k11 : (k == 11) = false := beq_eq_false_iff_ne.2 (by omega)
  have k12 : (k == 12) = false := beq_eq_false_iff_ne.2 (by omega)
  have TW := hide (fun wr => twoS_any k va vb hk ia ib wr)
  unfold TwoR at TW
  generalize hX : InR _ w = X
  have HX := hide hX
  unfold InR at IA IB
  simp only [Option.getD_some, Option.getD_none, Option.isSome_some, Option.isSome_none] at IA IB
  unfold Ex.cs at IA IB
  show Calls Tryd.prog 63 #[.agg #[.int .i64 k, .int .i64 0, .string ⟨#[]⟩, .slice (some ⟨p, off, none⟩) 2 cap], .slice (some ⟨gb, 0, none⟩) bs.length cb, .slice (some ⟨gn, 0, none⟩) L.length cn, .slice (some ⟨gv, 0, none⟩) vs.length cv] w X
  clear hX hr hc c0 c1 c2 c3 e0 e1 e2 e3 r0 r1 iha ihb xa xb hev ha hb EQ hk
  go_enter Tryd.func63, Tryd.ntmps63
  go_wp2_with fail
  generalize w.alloc (.cells #[.int .i64 k, .int .i64 0, .string ⟨#[]⟩, .slice (some ⟨p, off, none⟩) 2 cap] 26) = W at *
  clear d0 d1 d2 d3
  refine (unhide IA).mono ?_
  rintro r w1 ⟨rfl, hb1⟩
  have B1 := hide ((unhide B0).trans (hb1.mono (unhide B0).size))
  have R1 := hide (row_keep (unhide R0) hb1)
  have z0 := Lib.cell_of_heap (unhide R1) 0
  have z3 := Lib.cell_of_heap (unhide R1) 3
  have d0 := unhide E0' _ (unhide B1)
  have d1 := unhide E1' _ (unhide B1)
  have d2 := unhide E2' _ (unhide B1)
  have d3 := unhide E3' _ (unhide B1)
  have IB2 := hide (unhide IB _ (unhide B1))
  clear hb1 B0 R0 IA IB E0' E1' E2' E3'
  go_wp2_with fail
  clear d0 d1 d2 d3 z0 z3
  refine (unhide IB2).mono ?_
  rintro r w2 ⟨rfl, hb2⟩
  have B2 := hide ((unhide B1).trans (hb2.mono (unhide B1).size))
  have R2 := row_keep (unhide R1) hb2
  have z0 := Lib.cell_of_heap R2 0
  clear hb2 B1 R1 IB2 R2
  go_wp2_with (go_at_call 78; refine (unhide TW _).mono ?_; rintro r w' ⟨hw', rfl⟩; rw [hw']; clear hw' w')
  rw [← unhide HX]
  exact ⟨rfl, unhide B2⟩
set_option maxHeartbeats 4000000 in
theorem worthS_ss (bs : List Int) (L : List ByteArray) (vs : List Int) (k : Int) (hk : 5 ≤ k ∧ k ≤ 10) (a b : Ex) (iha : WoP bs L vs a) (ihb : WoP bs L vs b) (va vb : Int) (ha : worthX (seW bs) (glW L vs) a = some va) (hb : worthX (seW bs) (glW L vs) b = some vb) (ia : 0 ≤ va ∧ va ≤ 65535) (ib : 0 ≤ vb ∧ vb ≤ 65535) : WoP bs L vs ⟨k, 0, ⟨#[]⟩, [a, b]⟩ := by
  intro bb cap gb gn gv cb cn cv w hr hev
  have EQ := hide (show worthX (seW bs) (glW L vs) ⟨k, 0, ⟨#[]⟩, [a, b]⟩ = two11 k va vb by rw [worth_two, ha, hb]; rfl)
  rw [unhide EQ]
  obtain ⟨p, off, rfl, hpl, hc⟩ := hr.at (by simp)
  obtain ⟨c0, c1, c2, q0, qp0, c3, r0⟩ := hc 0 (by simp)
  obtain ⟨e0, e1, e2, q1, qp1, e3, r1⟩ := hc 1 (by simp)
  have xa : xAt (Ex.mk k 0 ⟨#[]⟩ [a, b]).l 0 = a := rfl
  have xb : xAt (Ex.mk k 0 ⟨#[]⟩ [a, b]).l 1 = b := rfl
  rw [xa] at c0 c1 c2 c3 r0
  rw [xb] at e0 e1 e2 e3 r1
  simp only [Nat.zero_mul, Nat.add_zero, Nat.one_mul] at c0 c1 c2 c3 e0 e1 e2 e3
  have B0 := hide (below_new w (.cells #[.int .i64 k, .int .i64 0, .string ⟨#[]⟩, .slice (some ⟨p, off, none⟩) 2 cap] 26))
  have IA := hide (iha q0 qp0 gb gn gv cb cn cv _ (RdX.later r0 (unhide B0)) (hev.later (unhide B0)))
  have IB := hide (fun wr (h : Below w.heap.size w wr) => ihb q1 qp1 gb gn gv cb cn cv wr (RdX.later r1 h) (hev.later h))
  rw [ha] at IA
  rw [hb] at IB
  have R0 := hide (show (w.alloc (.cells #[.int .i64 k, .int .i64 0, .string ⟨#[]⟩, .slice (some ⟨p, off, none⟩) 2 cap] 26)).heap[w.heap.size]? = some (.cells #[.int .i64 k, .int .i64 0, .string ⟨#[]⟩, .slice (some ⟨p, off, none⟩) 2 cap] 26 (0, 0)) from Array.getElem?_push_size)
  have d0 := ((unhide B0).cell (p := ⟨p, off, none⟩) hpl).trans c0
  have d1 := ((unhide B0).cell (p := ⟨p, off + 1, none⟩) hpl).trans c1
  have d2 := ((unhide B0).cell (p := ⟨p, off + 2, none⟩) hpl).trans c2
  have d3 := ((unhide B0).cell (p := ⟨p, off + 3, none⟩) hpl).trans c3
  have E0' := hide (fun wr (h : Below w.heap.size w wr) => (h.cell (p := ⟨p, off + 4, none⟩) hpl).trans e0)
  have E1' := hide (fun wr (h : Below w.heap.size w wr) => (h.cell (p := ⟨p, off + 4 + 1, none⟩) hpl).trans e1)
  have E2' := hide (fun wr (h : Below w.heap.size w wr) => (h.cell (p := ⟨p, off + 4 + 2, none⟩) hpl).trans e2)
  have E3' := hide (fun wr (h : Below w.heap.size w wr) => (h.cell (p := ⟨p, off + 4 + 3, none⟩) hpl).trans e3)
  have k1 : (k == 1) = false := beq_eq_false_iff_ne.2 (by omega)
  have k2 : (k == 2) = false := beq_eq_false_iff_ne.2 (by omega)
  have k3 : (k == 3) = false := beq_eq_false_iff_ne.2 (by omega)
  have k4 : (k == 4) = false := beq_eq_false_iff_ne.2 (by omega)
  have k11 : (k == 11) = false := beq_eq_false_iff_ne.2 (by omega)
  have k12 : (k == 12) = false := beq_eq_false_iff_ne.2 (by omega)
  have TW := hide (fun wr => twoS_any k va vb hk ia ib wr)
  unfold TwoR at TW
  generalize hX : InR _ w = X
  have HX := hide hX
  unfold InR at IA IB
  simp only [Option.getD_some, Option.getD_none, Option.isSome_some, Option.isSome_none] at IA IB
  unfold Ex.cs at IA IB
  show Calls Tryd.prog 63 #[.agg #[.int .i64 k, .int .i64 0, .string ⟨#[]⟩, .slice (some ⟨p, off, none⟩) 2 cap], .slice (some ⟨gb, 0, none⟩) bs.length cb, .slice (some ⟨gn, 0, none⟩) L.length cn, .slice (some ⟨gv, 0, none⟩) vs.length cv] w X
  clear hX hr hc c0 c1 c2 c3 e0 e1 e2 e3 r0 r1 iha ihb xa xb hev ha hb EQ hk
  go_enter Tryd.func63, Tryd.ntmps63
  go_wp2_with fail
  generalize w.alloc (.cells #[.int .i64 k, .int .i64 0, .string ⟨#[]⟩, .slice (some ⟨p, off, none⟩) 2 cap] 26) = W at *
  clear d0 d1 d2 d3
  refine (unhide IA).mono ?_
  rintro r w1 ⟨rfl, hb1⟩
  have B1 := hide ((unhide B0).trans (hb1.mono (unhide B0).size))
  have R1 := hide (row_keep (unhide R0) hb1)
  have z0 := Lib.cell_of_heap (unhide R1) 0
  have z3 := Lib.cell_of_heap (unhide R1) 3
  have d0 := unhide E0' _ (unhide B1)
  have d1 := unhide E1' _ (unhide B1)
  have d2 := unhide E2' _ (unhide B1)
  have d3 := unhide E3' _ (unhide B1)
  have IB2 := hide (unhide IB _ (unhide B1))
  clear hb1 B0 R0 IA IB E0' E1' E2' E3'
  go_wp2_with fail
  clear d0 d1 d2 d3 z0 z3
  refine (unhide IB2).mono ?_
  rintro r w2 ⟨rfl, hb2⟩
  have B2 := hide ((unhide B1).trans (hb2.mono (unhide B1).size))
  have R2 := row_keep (unhide R1) hb2
  have z0 := Lib.cell_of_heap R2 0
  clear hb2 B1 R1 IB2 R2
  go_wp2_with (go_at_call 78; refine (unhide TW _).mono ?_; rintro r w' ⟨hw', rfl⟩; rw [hw']; clear hw' w')
  rw [← unhide HX]
  exact ⟨rfl, unhide B2⟩
end Go.Proofs.YtkolflcjkofleaaDoor

namespace Go.Proofs.YtkolflcjkofleaaDoor
open Go.ChangeShapes Go.WideShapes Go.ChangeAt Go.RowKit
set_option linter.unusedVariables false
set_option maxRecDepth 8000
set_option linter.unusedSimpArgs false

/-- What is known elsewhere, as it lies. -/
structure Ew (w : World) (ab : Option Addr) (m : Nat) (av : Option Addr) (bs : List Int) (ps : List (ByteArray × Nat)) (vs : List Int) : Prop where
  b : RdN w ab bs
  m : IsMs w m ps
  v : RdN w av vs
theorem Ew.later {w w' : World} {ab av : Option Addr} {m : Nat} {bs vs : List Int} {ps : List (ByteArray × Nat)} (h : Ew w ab m av bs ps vs) (hb : Below w.heap.size w w') : Ew w' ab m av bs ps vs := ⟨h.b.later hb, h.m.later hb, h.v.later hb⟩
theorem inR_end {o : Option Int} {w w' : World} {r : Ending} {n : Int} {q : Bool} (ho : n = o.getD 0 ∧ q = o.isSome) (hr : r = .returned (.tuple #[.int .i64 n, .bool q])) (hb : Below w.heap.size w w') : InR o w r w' := ⟨by rw [hr, ho.1, ho.2], hb⟩
set_option maxHeartbeats 2000000 in
theorem wordAt_no (a : Option Addr) (n cap i : Nat) (hm : n ≤ 1099511627776) (hi : n ≤ i) (hi2 : i ≤ 1099511627776) (w : World) : Calls Tryd.prog 74 #[.slice a n cap, .int .i64 (i : Nat)] w (InR none w) := by
  have FN := hide (fun (r : Ending) (w' : World) (h : r = .returned (.tuple #[.int .i64 0, .bool false])) (hb : Below w.heap.size w w') => inR_end (o := none) ⟨rfl, rfl⟩ h hb)
  generalize InR none w = R at *
  have h1 : (n : Int) ≤ (i : Int) := by omega
  go_enter Tryd.func74, Tryd.ntmps74
  go_wp2
  (first | go_ret2 | go_ret | skip)
  exact unhide FN _ _ rfl (Below.refl _ _)
set_option maxHeartbeats 2000000 in
theorem wordAt_yes (a : Option Addr) (n cap i : Nat) (hm : n ≤ 1099511627776) (hi : i < n) (xs : List Int) (hl : xs.length = n) (w : World) (hr : RdN w a xs) : Calls Tryd.prog 74 #[.slice a n cap, .int .i64 (i : Nat)] w (InR (some (wr (nAt xs i))) w) := by
  have FN := hide (fun (r : Ending) (w' : World) (h : r = .returned (.tuple #[.int .i64 (wr (nAt xs i)), .bool true])) (hb : Below w.heap.size w w') => inR_end (o := some (wr (nAt xs i))) ⟨rfl, rfl⟩ h hb)
  generalize InR (some (wr (nAt xs i))) w = R at *
  unfold wr at FN
  have h1 : ¬ (n : Int) ≤ (i : Int) := by omega
  rcases hr with rfl | ⟨b, off, rfl, hb, hc⟩
  · simp at hl; omega
  have hcx := hc i (by omega)
  generalize nAt xs i = x at *
  clear hc hl
  go_enter Tryd.func74, Tryd.ntmps74
  go_wp2_with (go_at_call 75; refine (wrapI_any _ _).mono ?_; rintro e w0 ⟨rfl, hw0⟩; rw [hw0]; clear hw0 w0)
  (first | go_ret2 | go_ret | skip)
  exact unhide FN _ _ rfl (Below.refl _ _)
theorem wordAt_any (a : Option Addr) (cap i : Nat) (xs : List Int) (hm : xs.length ≤ 1099511627776) (hi : i ≤ 1099511627776) (w : World) (hr : RdN w a xs) : Calls Tryd.prog 74 #[.slice a xs.length cap, .int .i64 (i : Nat)] w (InR (seW xs i) w) := by
  by_cases h : i < xs.length
  · rw [show seW xs (i : Nat) = some (wr (nAt xs i)) by unfold seW; rw [if_pos (by omega)]; rfl]
    exact wordAt_yes a _ cap i hm h xs rfl w hr
  · rw [show seW xs (i : Nat) = none by unfold seW; rw [if_neg (by omega)]]
    exact wordAt_no a _ cap i hm (by omega) hi w
/-- What (worths).of answers of a term, whatever is known elsewhere. -/
def WoJ (bs : List Int) (L : List ByteArray) (vs : List Int) (e : Ex) : Prop := ∀ (ab av : Option Addr) (cb cv m : Nat) (ps : List (ByteArray × Nat)) (w : World), Ew w ab m av bs ps vs → (∀ s, lkS ps s = plS L s) → Calls Tryd.prog 50 #[.agg #[.slice ab bs.length cb, .map (some m), .slice av vs.length cv], tv e] w (InR (worthX (seW bs) (glW L vs) e) w)
theorem glW_pl (L : List ByteArray) (vs : List Int) (s : ByteArray) : glW L vs s = (plS L s).bind (fun i => seW vs (i : Nat)) := by
  unfold glW
  rw [plS_at]
  cases plS L s with
  | none => simp
  | some i =>
    simp only [Option.map_some, Option.getD_some, Option.bind_some, seW]
    by_cases h : (i : Int) < vs.length
    · rw [if_pos ⟨by omega, h⟩, if_pos h]
    · rw [if_neg (fun q => h q.2), if_neg h]
theorem pl_lt {L : List ByteArray} {s : ByteArray} {i : Nat} (h : plS L s = some i) : i < L.length := by
  unfold plS at h
  rw [List.findIdx?_eq_some_iff_getElem] at h
  exact h.1
set_option maxHeartbeats 4000000 in
theorem wj_num (bs : List Int) (L : List ByteArray) (vs : List Int) (hB : bs.length ≤ 1099511627776) (hV : vs.length ≤ 1099511627776) (hL : L.length ≤ 1099511627776) (n : Int) : WoJ bs L vs (⟨1, n, E0, []⟩) := by
  intro ab av cb cv m ps w hev hps
  rw [tv_num, show worthX (seW bs) (glW L vs) (⟨1, n, E0, []⟩) = some n from worth_num _ _]
  have FN := hide (fun (r : Ending) (w' : World) (z : Int) (q : Bool) (ho : z = (some n).getD 0 ∧ q = (some n).isSome) (h : r = .returned (.tuple #[.int .i64 z, .bool q])) (hb : Below w.heap.size w w') => inR_end ho h hb)
  generalize InR (some n) w = R at *
  have B0 := hide (below_new w (.cells #[.slice ab bs.length cb, .map (some m), .slice av vs.length cv] 74))
  have G0 := hide (show (w.alloc (.cells #[.slice ab bs.length cb, .map (some m), .slice av vs.length cv] 74)).heap[w.heap.size]? = some (.cells #[.slice ab bs.length cb, .map (some m), .slice av vs.length cv] 74 (0, 0)) from Array.getElem?_push_size)
  have V0 := hide (hev.later (unhide B0))
  clear hev
  have t1 := taY_num (.agg #[.int .i64 n])
  have T := hide (two_resG w (.cells #[.slice ab bs.length cb, .map (some m), .slice av vs.length cv] 74) (.cells #[.int .i64 n] 88))
  go_enter Tryd.func50, Tryd.ntmps50
  go_wp2
  (first | (generalize (w.alloc (.cells #[.slice ab bs.length cb, .map (some m), .slice av vs.length cv] 74)).alloc (.cells #[.int .i64 n] 88) = W at *; have c0 := Lib.cell_of_heap (unhide T).2.2 0; go_region; go_wp2) | skip)
  (first | go_ret2 | go_ret | skip)
  exact unhide FN _ _ _ _ ⟨rfl, rfl⟩ rfl (by first | exact below_dr (unhide T).1 | exact (unhide T).1)
set_option maxHeartbeats 4000000 in
theorem wj_sect (bs : List Int) (L : List ByteArray) (vs : List Int) (hB : bs.length ≤ 1099511627776) (hV : vs.length ≤ 1099511627776) (hL : L.length ≤ 1099511627776) (n : Nat) (hn : n ≤ 9) : WoJ bs L vs (⟨11, (n : Int), E0, []⟩) := by
  intro ab av cb cv m ps w hev hps
  rw [tv_sect, show worthX (seW bs) (glW L vs) (⟨11, (n : Int), E0, []⟩) = seW bs (n : Int) from worth_sect _ _]
  have FN := hide (fun (r : Ending) (w' : World) (z : Int) (q : Bool) (ho : z = (seW bs (n : Int)).getD 0 ∧ q = (seW bs (n : Int)).isSome) (h : r = .returned (.tuple #[.int .i64 z, .bool q])) (hb : Below w.heap.size w w') => inR_end ho h hb)
  generalize InR (seW bs (n : Int)) w = R at *
  have B0 := hide (below_new w (.cells #[.slice ab bs.length cb, .map (some m), .slice av vs.length cv] 74))
  have G0 := hide (show (w.alloc (.cells #[.slice ab bs.length cb, .map (some m), .slice av vs.length cv] 74)).heap[w.heap.size]? = some (.cells #[.slice ab bs.length cb, .map (some m), .slice av vs.length cv] 74 (0, 0)) from Array.getElem?_push_size)
  have V0 := hide (hev.later (unhide B0))
  clear hev
  have t0 := taN_num 115 (.agg #[.int .i64 (n : Int)]) (by decide)
  have t1 := taY_sect (.agg #[.int .i64 (n : Int)])
  have T := hide (two_resG w (.cells #[.slice ab bs.length cb, .map (some m), .slice av vs.length cv] 74) (.cells #[.int .i64 (n : Int)] 115))
  have WA := hide (fun wr (h : Ew wr ab m av bs ps vs) => wordAt_any ab cb n bs hB (by omega) wr h.b)
  unfold InR at WA
  have V1 := hide ((unhide V0).later (below_new _ (.cells #[.int .i64 (n : Int)] 115)))
  generalize seW bs (n : Int) = o at *
  go_enter Tryd.func50, Tryd.ntmps50
  go_wp2_with fail
  generalize (w.alloc (.cells #[.slice ab bs.length cb, .map (some m), .slice av vs.length cv] 74)).alloc (.cells #[.int .i64 (n : Int)] 115) = W at *
  refine (unhide WA _ (unhide V1)).mono ?_
  rintro r w1 ⟨rfl, hb1⟩
  have B1 := hide ((unhide T).1.trans (hb1.mono (unhide T).1.size))
  clear hb1
  go_wp2
  (first | go_ret2 | go_ret | skip)
  exact unhide FN _ _ _ _ ⟨rfl, rfl⟩ rfl (unhide B1)
set_option maxHeartbeats 4000000 in
theorem wj_globn (bs : List Int) (L : List ByteArray) (vs : List Int) (hB : bs.length ≤ 1099511627776) (hV : vs.length ≤ 1099511627776) (hL : L.length ≤ 1099511627776) (s : ByteArray) (hp : plS L s = none) : WoJ bs L vs (⟨12, 0, s, []⟩) := by
  intro ab av cb cv m ps w hev hps
  rw [tv_glob, show worthX (seW bs) (glW L vs) (⟨12, 0, s, []⟩) = none from (by rw [worth_glob, glW_pl, hp]; rfl)]
  have FN := hide (fun (r : Ending) (w' : World) (z : Int) (q : Bool) (ho : z = (none).getD 0 ∧ q = (none).isSome) (h : r = .returned (.tuple #[.int .i64 z, .bool q])) (hb : Below w.heap.size w w') => inR_end ho h hb)
  generalize InR (none) w = R at *
  have B0 := hide (below_new w (.cells #[.slice ab bs.length cb, .map (some m), .slice av vs.length cv] 74))
  have G0 := hide (show (w.alloc (.cells #[.slice ab bs.length cb, .map (some m), .slice av vs.length cv] 74)).heap[w.heap.size]? = some (.cells #[.slice ab bs.length cb, .map (some m), .slice av vs.length cv] 74 (0, 0)) from Array.getElem?_push_size)
  have V0 := hide (hev.later (unhide B0))
  clear hev
  have t0 := taN_num 118 (.agg #[.string s]) (by decide)
  have t2 := taN_sect 118 (.agg #[.string s]) (by decide)
  have t1 := taY_glob (.agg #[.string s])
  have T := hide (two_resG w (.cells #[.slice ab bs.length cb, .map (some m), .slice av vs.length cv] 74) (.cells #[.string s] 118))
  have V1 := hide ((unhide V0).later (below_new _ (.cells #[.string s] 118)))
  have LK := run_lookS (unhide V1).m s
  rw [hps, hp] at LK
  simp only [Option.getD_none, Option.isSome_none, Option.getD_some, Option.isSome_some] at LK
  clear hp hps
  go_enter Tryd.func50, Tryd.ntmps50
  go_wp2
  (first | go_ret2 | go_ret | skip)
  exact unhide FN _ _ _ _ ⟨rfl, rfl⟩ rfl (unhide T).1
set_option maxHeartbeats 4000000 in
theorem wj_globy (bs : List Int) (L : List ByteArray) (vs : List Int) (hB : bs.length ≤ 1099511627776) (hV : vs.length ≤ 1099511627776) (hL : L.length ≤ 1099511627776) (s : ByteArray) (i : Nat) (hp : plS L s = some i) : WoJ bs L vs (⟨12, 0, s, []⟩) := by
  intro ab av cb cv m ps w hev hps
  rw [tv_glob, show worthX (seW bs) (glW L vs) (⟨12, 0, s, []⟩) = seW vs (i : Int) from (by rw [worth_glob, glW_pl, hp]; rfl)]
  have FN := hide (fun (r : Ending) (w' : World) (z : Int) (q : Bool) (ho : z = (seW vs (i : Int)).getD 0 ∧ q = (seW vs (i : Int)).isSome) (h : r = .returned (.tuple #[.int .i64 z, .bool q])) (hb : Below w.heap.size w w') => inR_end ho h hb)
  generalize InR (seW vs (i : Int)) w = R at *
  have B0 := hide (below_new w (.cells #[.slice ab bs.length cb, .map (some m), .slice av vs.length cv] 74))
  have G0 := hide (show (w.alloc (.cells #[.slice ab bs.length cb, .map (some m), .slice av vs.length cv] 74)).heap[w.heap.size]? = some (.cells #[.slice ab bs.length cb, .map (some m), .slice av vs.length cv] 74 (0, 0)) from Array.getElem?_push_size)
  have V0 := hide (hev.later (unhide B0))
  clear hev
  have t0 := taN_num 118 (.agg #[.string s]) (by decide)
  have t2 := taN_sect 118 (.agg #[.string s]) (by decide)
  have t1 := taY_glob (.agg #[.string s])
  have T := hide (two_resG w (.cells #[.slice ab bs.length cb, .map (some m), .slice av vs.length cv] 74) (.cells #[.string s] 118))
  have V1 := hide ((unhide V0).later (below_new _ (.cells #[.string s] 118)))
  have LK := run_lookS (unhide V1).m s
  rw [hps, hp] at LK
  simp only [Option.getD_none, Option.isSome_none, Option.getD_some, Option.isSome_some] at LK
  have WA := hide (fun wr (h : Ew wr ab m av bs ps vs) => wordAt_any av cv i vs hV (by have := pl_lt hp; omega) wr h.v)
  unfold InR at WA
  generalize seW vs (i : Int) = o at *
  clear hp hps
  go_enter Tryd.func50, Tryd.ntmps50
  go_wp2_with fail
  generalize (w.alloc (.cells #[.slice ab bs.length cb, .map (some m), .slice av vs.length cv] 74)).alloc (.cells #[.string s] 118) = W at *
  refine (unhide WA _ (unhide V1)).mono ?_
  rintro r w1 ⟨rfl, hb1⟩
  have B1 := hide ((unhide T).1.trans (hb1.mono (unhide T).1.size))
  clear hb1 LK
  go_wp2
  (first | go_ret2 | go_ret | skip)
  exact unhide FN _ _ _ _ ⟨rfl, rfl⟩ rfl (unhide B1)
/-- What (worths).ofPair answers. -/
def WoK (bs : List Int) (L : List ByteArray) (vs : List Int) (e : Ex) : Prop := ∀ (ab av : Option Addr) (cb cv m : Nat) (ps : List (ByteArray × Nat)) (w : World), Ew w ab m av bs ps vs → (∀ s, lkS ps s = plS L s) → Calls Tryd.prog 76 #[.agg #[.slice ab bs.length cb, .map (some m), .slice av vs.length cv], tv e] w (InR (worthX (seW bs) (glW L vs) e) w)
set_option maxHeartbeats 4000000 in
theorem wk_sym (bs : List Int) (L : List ByteArray) (vs : List Int) (hB : bs.length ≤ 1099511627776) (hV : vs.length ≤ 1099511627776) (hL : L.length ≤ 1099511627776) (s : ByteArray) : WoK bs L vs (⟨2, 0, s, []⟩) := by
  intro ab av cb cv m ps w hev hps
  rw [tv_sym, show worthX (seW bs) (glW L vs) (⟨2, 0, s, []⟩) = none from worth_sym _ _]
  have FN := hide (fun (r : Ending) (w' : World) (z : Int) (q : Bool) (ho : z = (none).getD 0 ∧ q = (none).isSome) (h : r = .returned (.tuple #[.int .i64 z, .bool q])) (hb : Below w.heap.size w w') => inR_end ho h hb)
  generalize InR (none) w = R at *
  have B0 := hide (below_new w (.cells #[.slice ab bs.length cb, .map (some m), .slice av vs.length cv] 74))
  have G0 := hide (show (w.alloc (.cells #[.slice ab bs.length cb, .map (some m), .slice av vs.length cv] 74)).heap[w.heap.size]? = some (.cells #[.slice ab bs.length cb, .map (some m), .slice av vs.length cv] 74 (0, 0)) from Array.getElem?_push_size)
  have V0 := hide (hev.later (unhide B0))
  clear hev
  have m0 := me_sym (.string s)
  have P0 := hide (parts0 (w.alloc (.cells #[.slice ab bs.length cb, .map (some m), .slice av vs.length cv] 74)))
  go_enter Tryd.func76, Tryd.ntmps76
  go_wp2_with (go_at_call 121; refine (unhide P0).mono ?_; rintro r w1 ⟨rfl, hb1⟩; have B1 := hide ((unhide B0).trans (hb1.mono (unhide B0).size)); clear hb1)
  (first | go_ret2 | go_ret | skip)
  exact unhide FN _ _ _ _ ⟨rfl, rfl⟩ rfl (unhide B1)
set_option maxHeartbeats 4000000 in
theorem wj_sym (bs : List Int) (L : List ByteArray) (vs : List Int) (hB : bs.length ≤ 1099511627776) (hV : vs.length ≤ 1099511627776) (hL : L.length ≤ 1099511627776) (s : ByteArray) : WoJ bs L vs (⟨2, 0, s, []⟩) := by
  intro ab av cb cv m ps w hev hps
  rw [tv_sym, show worthX (seW bs) (glW L vs) (⟨2, 0, s, []⟩) = none from worth_sym _ _]
  have FN := hide (fun (r : Ending) (w' : World) (z : Int) (q : Bool) (ho : z = (none).getD 0 ∧ q = (none).isSome) (h : r = .returned (.tuple #[.int .i64 z, .bool q])) (hb : Below w.heap.size w w') => inR_end ho h hb)
  generalize InR (none) w = R at *
  have B0 := hide (below_new w (.cells #[.slice ab bs.length cb, .map (some m), .slice av vs.length cv] 74))
  have G0 := hide (show (w.alloc (.cells #[.slice ab bs.length cb, .map (some m), .slice av vs.length cv] 74)).heap[w.heap.size]? = some (.cells #[.slice ab bs.length cb, .map (some m), .slice av vs.length cv] 74 (0, 0)) from Array.getElem?_push_size)
  have V0 := hide (hev.later (unhide B0))
  clear hev
  have t0 := taN_num 117 (.agg #[.string s]) (by decide)
  have t1 := taN_sect 117 (.agg #[.string s]) (by decide)
  have t2 := taN_glob 117 (.agg #[.string s]) (by decide)
  have t3 := taN_neg 117 (.agg #[.string s]) (by decide)
  have WK := hide (wk_sym bs L vs hB hV hL s ab av cb cv m ps _ (unhide V0) hps)
  rw [tv_sym, worth_sym] at WK
  unfold InR at WK
  clear hps
  go_enter Tryd.func50, Tryd.ntmps50
  go_wp2_with (refine wpList_load_row rfl 74 _ rfl w.heap.size rfl 74 #[.slice ab bs.length cb, .map (some m), .slice av vs.length cv] (0, 0) _ (unhide G0) Tryd.underlying74 rfl (by kernel_rfl) ?_)
  generalize w.alloc (.cells #[.slice ab bs.length cb, .map (some m), .slice av vs.length cv] 74) = W at *
  refine (unhide WK).mono ?_
  rintro r w1 ⟨rfl, hb1⟩
  have B1 := hide ((unhide B0).trans (hb1.mono (unhide B0).size))
  clear hb1 WK
  go_wp2
  (first | go_ret2 | go_ret | skip)
  exact unhide FN _ _ _ _ ⟨rfl, rfl⟩ rfl (unhide B1)
set_option maxHeartbeats 4000000 in
theorem wk_here (bs : List Int) (L : List ByteArray) (vs : List Int) (hB : bs.length ≤ 1099511627776) (hV : vs.length ≤ 1099511627776) (hL : L.length ≤ 1099511627776)  : WoK bs L vs (⟨3, 0, E0, []⟩) := by
  intro ab av cb cv m ps w hev hps
  rw [tv_here, show worthX (seW bs) (glW L vs) (⟨3, 0, E0, []⟩) = none from worth_here _ _]
  have FN := hide (fun (r : Ending) (w' : World) (z : Int) (q : Bool) (ho : z = (none).getD 0 ∧ q = (none).isSome) (h : r = .returned (.tuple #[.int .i64 z, .bool q])) (hb : Below w.heap.size w w') => inR_end ho h hb)
  generalize InR (none) w = R at *
  have B0 := hide (below_new w (.cells #[.slice ab bs.length cb, .map (some m), .slice av vs.length cv] 74))
  have G0 := hide (show (w.alloc (.cells #[.slice ab bs.length cb, .map (some m), .slice av vs.length cv] 74)).heap[w.heap.size]? = some (.cells #[.slice ab bs.length cb, .map (some m), .slice av vs.length cv] 74 (0, 0)) from Array.getElem?_push_size)
  have V0 := hide (hev.later (unhide B0))
  clear hev
  have m0 := me_here
  have P0 := hide (parts0 (w.alloc (.cells #[.slice ab bs.length cb, .map (some m), .slice av vs.length cv] 74)))
  go_enter Tryd.func76, Tryd.ntmps76
  go_wp2_with (go_at_call 121; refine (unhide P0).mono ?_; rintro r w1 ⟨rfl, hb1⟩; have B1 := hide ((unhide B0).trans (hb1.mono (unhide B0).size)); clear hb1)
  (first | go_ret2 | go_ret | skip)
  exact unhide FN _ _ _ _ ⟨rfl, rfl⟩ rfl (unhide B1)
set_option maxHeartbeats 4000000 in
theorem wj_here (bs : List Int) (L : List ByteArray) (vs : List Int) (hB : bs.length ≤ 1099511627776) (hV : vs.length ≤ 1099511627776) (hL : L.length ≤ 1099511627776)  : WoJ bs L vs (⟨3, 0, E0, []⟩) := by
  intro ab av cb cv m ps w hev hps
  rw [tv_here, show worthX (seW bs) (glW L vs) (⟨3, 0, E0, []⟩) = none from worth_here _ _]
  have FN := hide (fun (r : Ending) (w' : World) (z : Int) (q : Bool) (ho : z = (none).getD 0 ∧ q = (none).isSome) (h : r = .returned (.tuple #[.int .i64 z, .bool q])) (hb : Below w.heap.size w w') => inR_end ho h hb)
  generalize InR (none) w = R at *
  have B0 := hide (below_new w (.cells #[.slice ab bs.length cb, .map (some m), .slice av vs.length cv] 74))
  have G0 := hide (show (w.alloc (.cells #[.slice ab bs.length cb, .map (some m), .slice av vs.length cv] 74)).heap[w.heap.size]? = some (.cells #[.slice ab bs.length cb, .map (some m), .slice av vs.length cv] 74 (0, 0)) from Array.getElem?_push_size)
  have V0 := hide (hev.later (unhide B0))
  clear hev
  have t0 := taN_num 130 (.agg #[]) (by decide)
  have t1 := taN_sect 130 (.agg #[]) (by decide)
  have t2 := taN_glob 130 (.agg #[]) (by decide)
  have t3 := taN_neg 130 (.agg #[]) (by decide)
  have WK := hide (wk_here bs L vs hB hV hL  ab av cb cv m ps _ (unhide V0) hps)
  rw [tv_here, worth_here] at WK
  unfold InR at WK
  clear hps
  go_enter Tryd.func50, Tryd.ntmps50
  go_wp2_with (refine wpList_load_row rfl 74 _ rfl w.heap.size rfl 74 #[.slice ab bs.length cb, .map (some m), .slice av vs.length cv] (0, 0) _ (unhide G0) Tryd.underlying74 rfl (by kernel_rfl) ?_)
  generalize w.alloc (.cells #[.slice ab bs.length cb, .map (some m), .slice av vs.length cv] 74) = W at *
  refine (unhide WK).mono ?_
  rintro r w1 ⟨rfl, hb1⟩
  have B1 := hide ((unhide B0).trans (hb1.mono (unhide B0).size))
  clear hb1 WK
  go_wp2
  (first | go_ret2 | go_ret | skip)
  exact unhide FN _ _ _ _ ⟨rfl, rfl⟩ rfl (unhide B1)
end Go.Proofs.YtkolflcjkofleaaDoor

namespace Go.Proofs.YtkolflcjkofleaaDoor
open Go.ChangeShapes Go.WideShapes Go.ChangeAt Go.RowKit
set_option linter.unusedVariables false
set_option maxRecDepth 8000
set_option linter.unusedSimpArgs false

theorem worthS_all (bs : List Int) (L : List ByteArray) (vs : List Int) (hL : L.length ≤ 1100000) (hB : bs.length ≤ 1099511627776) (hV : vs.length ≤ 1099511627776) : ∀ (d : Nat) (e : Ex), okF d false e = true → WoP bs L vs e := by
  intro d
  induction d with
  | zero => intro e h; rw [okF] at h; cases h
  | succ d ih =>
    intro e h
    rcases ok_sev h with ⟨n, hn, rfl⟩ | ⟨s, hs, rfl⟩ | rfl | ⟨n, hn, rfl⟩ | ⟨s, hs, rfl⟩ | ⟨a, ha, rfl⟩ | ⟨k, a, b, hk, ha, hb, rfl⟩
    · exact worth1 n _ bs L vs hL hB hV
    · exact worth2 0 s bs L vs hL hB hV
    · exact worth3 0 _ bs L vs hL hB hV
    · by_cases hl : n < (bs.length : Int)
      · obtain ⟨m, rfl⟩ : ∃ m : Nat, n = m := ⟨n.toNat, by omega⟩
        exact worth11y m _ bs L vs hL hB hV (by omega)
      · exact worth11n n _ bs L vs hL hB hV hl
    · by_cases h0 : atV L s < 0
      · exact worth12m 0 s bs L vs hL hB hV h0
      · by_cases hl : (vs.length : Int) ≤ atV L s
        · exact worth12g 0 s bs L vs hL hB hV h0 hl
        · obtain ⟨m, hm⟩ : ∃ m : Nat, atV L s = m := ⟨(atV L s).toNat, by omega⟩
          exact worth12y 0 s m bs L vs hL hB hV hm (by omega)
    · exact worthS_neg bs L vs a (ih a ha) (fun v hv => worth_in (seW_in bs) (glW_in L vs) d a v ha hv)
    · cases wa : worthX (seW bs) (glW L vs) a with
      | none =>
        cases wb : worthX (seW bs) (glW L vs) b with
        | none => exact worthS_nn bs L vs k hk a b (ih a ha) (ih b hb) 0 0 wa wb (by decide) (by decide)
        | some vb => exact worthS_ns bs L vs k hk a b (ih a ha) (ih b hb) 0 vb wa wb (by decide) (worth_in (seW_in bs) (glW_in L vs) d b vb hb wb)
      | some va =>
        cases wb : worthX (seW bs) (glW L vs) b with
        | none => exact worthS_sn bs L vs k hk a b (ih a ha) (ih b hb) va 0 wa wb (worth_in (seW_in bs) (glW_in L vs) d a va ha wa) (by decide)
        | some vb => exact worthS_ss bs L vs k hk a b (ih a ha) (ih b hb) va vb wa wb (worth_in (seW_in bs) (glW_in L vs) d a va ha wa) (worth_in (seW_in bs) (glW_in L vs) d b vb hb wb)
/-- What Worth answers. -/
def worthA (bs : List Int) (L : List ByteArray) (vs : List Int) (e : Ex) : Option Int := if okF 6 false e = true then worthX (seW bs) (glW L vs) e else none
set_option maxHeartbeats 4000000 in
theorem worthA_no (bs : List Int) (L : List ByteArray) (vs : List Int) (hL : L.length ≤ 1100000) (hB : bs.length ≤ 1099511627776) (hV : vs.length ≤ 1099511627776) (e : Ex) (b : Option Addr) (cap gb gn gv cb cn cv : Nat) (w : World) (hr : RdX w 0 e b) (hev : Ev w gb gn gv bs L vs) (hz : e.sz ≤ 1048576) (ho : okF 6 false e = false) : Calls Tryd.prog 24 #[.agg (e.cs b cap), .slice (some ⟨gb, 0, none⟩) bs.length cb, .slice (some ⟨gn, 0, none⟩) L.length cn, .slice (some ⟨gv, 0, none⟩) vs.length cv] w (InR (worthA bs L vs e) w) := by
  have EQ := hide (show worthA bs L vs e = none by unfold worthA; rw [if_neg (by rw [ho]; decide)])
  rw [unhide EQ]
  have B0 := hide (below_new w (.cells #[.int .i64 e.k, .int .i64 e.n, .string e.s, .slice b e.l.length cap] 26))
  have R0 := hide (show (w.alloc (.cells #[.int .i64 e.k, .int .i64 e.n, .string e.s, .slice b e.l.length cap] 26)).heap[w.heap.size]? = some (.cells #[.int .i64 e.k, .int .i64 e.n, .string e.s, .slice b e.l.length cap] 26 (0, 0)) from Array.getElem?_push_size)
  have OK := hide (okS_any e b cap _ (hr.later (unhide B0)) hz)
  rw [ho] at OK
  generalize hX : InR _ w = X
  have HX := hide hX
  unfold Ex.cs at OK ⊢
  clear hX hr hev hz ho EQ
  go_enter Tryd.func24, Tryd.ntmps24
  go_wp2_with fail
  generalize w.alloc (.cells #[.int .i64 e.k, .int .i64 e.n, .string e.s, .slice b e.l.length cap] 26) = W at *
  refine (unhide OK).mono ?_
  rintro r w1 ⟨rfl, hb1⟩
  have B1 := hide ((unhide B0).trans (hb1.mono (unhide B0).size))
  have R1 := hide (row_keep (unhide R0) hb1)
  clear hb1 B0 R0 OK
  go_wp2
  rw [← unhide HX]
  exact ⟨rfl, unhide B1⟩
set_option maxHeartbeats 4000000 in
theorem worthA_n (bs : List Int) (L : List ByteArray) (vs : List Int) (hL : L.length ≤ 1100000) (hB : bs.length ≤ 1099511627776) (hV : vs.length ≤ 1099511627776) (e : Ex) (b : Option Addr) (cap gb gn gv cb cn cv : Nat) (w : World) (hr : RdX w 0 e b) (hev : Ev w gb gn gv bs L vs) (hz : e.sz ≤ 1048576) (ho : okF 6 false e = true) (hv : worthX (seW bs) (glW L vs) e = none) : Calls Tryd.prog 24 #[.agg (e.cs b cap), .slice (some ⟨gb, 0, none⟩) bs.length cb, .slice (some ⟨gn, 0, none⟩) L.length cn, .slice (some ⟨gv, 0, none⟩) vs.length cv] w (InR (worthA bs L vs e) w) := by
  have EQ := hide (show worthA bs L vs e = none by unfold worthA; rw [if_pos ho, hv])
  rw [unhide EQ]
  have B0 := hide (below_new w (.cells #[.int .i64 e.k, .int .i64 e.n, .string e.s, .slice b e.l.length cap] 26))
  have R0 := hide (show (w.alloc (.cells #[.int .i64 e.k, .int .i64 e.n, .string e.s, .slice b e.l.length cap] 26)).heap[w.heap.size]? = some (.cells #[.int .i64 e.k, .int .i64 e.n, .string e.s, .slice b e.l.length cap] 26 (0, 0)) from Array.getElem?_push_size)
  have OK := hide (okS_any e b cap _ (hr.later (unhide B0)) hz)
  rw [ho] at OK
  have WO := hide (fun wr (h : Below w.heap.size w wr) => worthS_all bs L vs hL hB hV 6 e ho b cap gb gn gv cb cn cv wr (hr.later h) (hev.later h))
  rw [hv] at WO
  unfold InR at WO
  simp only [Option.getD_some, Option.getD_none, Option.isSome_some, Option.isSome_none] at WO
  unfold Ex.cs at WO
  generalize hX : InR _ w = X
  have HX := hide hX
  unfold Ex.cs at OK ⊢
  clear hX hr hev hz ho EQ hv
  go_enter Tryd.func24, Tryd.ntmps24
  go_wp2_with fail
  generalize w.alloc (.cells #[.int .i64 e.k, .int .i64 e.n, .string e.s, .slice b e.l.length cap] 26) = W at *
  refine (unhide OK).mono ?_
  rintro r w1 ⟨rfl, hb1⟩
  have B1 := hide ((unhide B0).trans (hb1.mono (unhide B0).size))
  have R1 := hide (row_keep (unhide R0) hb1)
  clear hb1 B0 R0 OK
  have W1 := hide (unhide WO w1 (unhide B1))
  clear WO
  go_wp2_with (refine wpList_load_row rfl 26 _ rfl w.heap.size rfl 26 #[.int .i64 e.k, .int .i64 e.n, .string e.s, .slice b e.l.length cap] (0, 0) _ (unhide R1) Tryd.underlying26 rfl (by kernel_rfl) ?_)
  refine (unhide W1).mono ?_
  rintro r w2 ⟨rfl, hb2⟩
  have B2 := hide ((unhide B1).trans (hb2.mono (unhide B1).size))
  clear hb2 B1 R1 W1
  go_wp2
  rw [← unhide HX]
  exact ⟨rfl, unhide B2⟩
set_option maxHeartbeats 4000000 in
theorem worthA_y (bs : List Int) (L : List ByteArray) (vs : List Int) (hL : L.length ≤ 1100000) (hB : bs.length ≤ 1099511627776) (hV : vs.length ≤ 1099511627776) (e : Ex) (b : Option Addr) (cap gb gn gv cb cn cv : Nat) (w : World) (hr : RdX w 0 e b) (hev : Ev w gb gn gv bs L vs) (hz : e.sz ≤ 1048576) (ho : okF 6 false e = true) (v : Int) (hv : worthX (seW bs) (glW L vs) e = some v) : Calls Tryd.prog 24 #[.agg (e.cs b cap), .slice (some ⟨gb, 0, none⟩) bs.length cb, .slice (some ⟨gn, 0, none⟩) L.length cn, .slice (some ⟨gv, 0, none⟩) vs.length cv] w (InR (worthA bs L vs e) w) := by
  have EQ := hide (show worthA bs L vs e = some v by unfold worthA; rw [if_pos ho, hv])
  rw [unhide EQ]
  have B0 := hide (below_new w (.cells #[.int .i64 e.k, .int .i64 e.n, .string e.s, .slice b e.l.length cap] 26))
  have R0 := hide (show (w.alloc (.cells #[.int .i64 e.k, .int .i64 e.n, .string e.s, .slice b e.l.length cap] 26)).heap[w.heap.size]? = some (.cells #[.int .i64 e.k, .int .i64 e.n, .string e.s, .slice b e.l.length cap] 26 (0, 0)) from Array.getElem?_push_size)
  have OK := hide (okS_any e b cap _ (hr.later (unhide B0)) hz)
  rw [ho] at OK
  have WO := hide (fun wr (h : Below w.heap.size w wr) => worthS_all bs L vs hL hB hV 6 e ho b cap gb gn gv cb cn cv wr (hr.later h) (hev.later h))
  rw [hv] at WO
  unfold InR at WO
  simp only [Option.getD_some, Option.getD_none, Option.isSome_some, Option.isSome_none] at WO
  unfold Ex.cs at WO
  generalize hX : InR _ w = X
  have HX := hide hX
  unfold Ex.cs at OK ⊢
  clear hX hr hev hz ho EQ hv
  go_enter Tryd.func24, Tryd.ntmps24
  go_wp2_with fail
  generalize w.alloc (.cells #[.int .i64 e.k, .int .i64 e.n, .string e.s, .slice b e.l.length cap] 26) = W at *
  refine (unhide OK).mono ?_
  rintro r w1 ⟨rfl, hb1⟩
  have B1 := hide ((unhide B0).trans (hb1.mono (unhide B0).size))
  have R1 := hide (row_keep (unhide R0) hb1)
  clear hb1 B0 R0 OK
  have W1 := hide (unhide WO w1 (unhide B1))
  clear WO
  go_wp2_with (refine wpList_load_row rfl 26 _ rfl w.heap.size rfl 26 #[.int .i64 e.k, .int .i64 e.n, .string e.s, .slice b e.l.length cap] (0, 0) _ (unhide R1) Tryd.underlying26 rfl (by kernel_rfl) ?_)
  refine (unhide W1).mono ?_
  rintro r w2 ⟨rfl, hb2⟩
  have B2 := hide ((unhide B1).trans (hb2.mono (unhide B1).size))
  clear hb2 B1 R1 W1
  go_wp2
  rw [← unhide HX]
  exact ⟨rfl, unhide B2⟩
theorem worthA_any (bs : List Int) (L : List ByteArray) (vs : List Int) (hL : L.length ≤ 1100000) (hB : bs.length ≤ 1099511627776) (hV : vs.length ≤ 1099511627776) (e : Ex) (b : Option Addr) (cap gb gn gv cb cn cv : Nat) (w : World) (hr : RdX w 0 e b) (hev : Ev w gb gn gv bs L vs) (hz : e.sz ≤ 1048576) : Calls Tryd.prog 24 #[.agg (e.cs b cap), .slice (some ⟨gb, 0, none⟩) bs.length cb, .slice (some ⟨gn, 0, none⟩) L.length cn, .slice (some ⟨gv, 0, none⟩) vs.length cv] w (InR (worthA bs L vs e) w) := by
  cases ho : okF 6 false e with
  | false => exact worthA_no bs L vs hL hB hV e b cap gb gn gv cb cn cv w hr hev hz ho
  | true =>
    cases hv : worthX (seW bs) (glW L vs) e with
    | none => exact worthA_n bs L vs hL hB hV e b cap gb gn gv cb cn cv w hr hev hz ho hv
    | some v => exact worthA_y bs L vs hL hB hV e b cap gb gn gv cb cn cv w hr hev hz ho v hv
end Go.Proofs.YtkolflcjkofleaaDoor

namespace Go.Proofs.YtkolflcjkofleaaDoor
open Go.ChangeShapes Go.WideShapes Go.ChangeAt Go.RowKit
set_option linter.unusedVariables false
set_option maxRecDepth 8000
set_option linter.unusedSimpArgs false

set_option maxHeartbeats 4000000 in
theorem wj_neg (bs : List Int) (L : List ByteArray) (vs : List Int) (a : Ex) (iha : WoJ bs L vs a) (hi : ∀ v, worthX (seW bs) (glW L vs) a = some v → 0 ≤ v ∧ v ≤ 65535) : WoJ bs L vs ⟨4, 0, E0, [a]⟩ := by
  intro ab av cb cv m ps w hev hps
  rw [tv_neg, worth_neg]
  have IH := hide (fun wr (h : Ew wr ab m av bs ps vs) => iha ab av cb cv m ps wr h hps)
  unfold InR at IH
  obtain ⟨t, x, e1⟩ := tv_if a
  rw [e1] at IH ⊢
  have hi2 : 0 ≤ (worthX (seW bs) (glW L vs) a).getD 0 ∧ (worthX (seW bs) (glW L vs) a).getD 0 ≤ 65535 := by
    cases h : worthX (seW bs) (glW L vs) a with
    | none => simp
    | some v => exact hi v h
  have hO : wr (-((worthX (seW bs) (glW L vs) a).getD 0)) = ((worthX (seW bs) (glW L vs) a).map (fun v => wr (-v))).getD 0 ∧ (worthX (seW bs) (glW L vs) a).isSome = ((worthX (seW bs) (glW L vs) a).map (fun v => wr (-v))).isSome := by
    cases worthX (seW bs) (glW L vs) a with
    | none => exact ⟨rfl, rfl⟩
    | some v => exact ⟨rfl, rfl⟩
  have FN := hide (fun (r : Ending) (w' : World) (z : Int) (q : Bool) (ho : z = ((worthX (seW bs) (glW L vs) a).map (fun v => wr (-v))).getD 0 ∧ q = ((worthX (seW bs) (glW L vs) a).map (fun v => wr (-v))).isSome) (h : r = .returned (.tuple #[.int .i64 z, .bool q])) (hb : Below w.heap.size w w') => inR_end ho h hb)
  generalize InR ((worthX (seW bs) (glW L vs) a).map (fun v => wr (-v))) w = R at *
  have B0 := hide (below_new w (.cells #[.slice ab bs.length cb, .map (some m), .slice av vs.length cv] 74))
  have G0 := hide (show (w.alloc (.cells #[.slice ab bs.length cb, .map (some m), .slice av vs.length cv] 74)).heap[w.heap.size]? = some (.cells #[.slice ab bs.length cb, .map (some m), .slice av vs.length cv] 74 (0, 0)) from Array.getElem?_push_size)
  have V0 := hide (hev.later (unhide B0))
  have HO := hide hO
  clear hev hps hi iha hO e1
  generalize (Option.map (fun v => wr (-v)) (worthX (seW bs) (glW L vs) a)) = oo at *
  unfold wr at HO
  generalize (worthX (seW bs) (glW L vs) a).getD 0 = z at *
  generalize (worthX (seW bs) (glW L vs) a).isSome = q at *
  have t0 := taN_num 104 (.agg #[.iface t x]) (by decide)
  have t1 := taN_sect 104 (.agg #[.iface t x]) (by decide)
  have t2 := taN_glob 104 (.agg #[.iface t x]) (by decide)
  have t3 := taY_neg (.agg #[.iface t x])
  have T := hide (two_resG w (.cells #[.slice ab bs.length cb, .map (some m), .slice av vs.length cv] 74) (.cells #[.iface t x] 104))
  have V1 := hide ((unhide V0).later (below_new _ (.cells #[.iface t x] 104)))
  go_enter Tryd.func50, Tryd.ntmps50
  go_wp2_with (refine wpList_load_row rfl 74 _ rfl w.heap.size rfl 74 #[.slice ab bs.length cb, .map (some m), .slice av vs.length cv] (0, 0) _ ((unhide T).2.1) Tryd.underlying74 rfl (by kernel_rfl) ?_)
  generalize (w.alloc (.cells #[.slice ab bs.length cb, .map (some m), .slice av vs.length cv] 74)).alloc (.cells #[.iface t x] 104) = W at *
  refine (unhide IH _ (unhide V1)).mono ?_
  rintro r w1 ⟨rfl, hb1⟩
  have B1 := hide ((unhide T).1.trans (hb1.mono (unhide T).1.size))
  clear hb1 IH T V1 V0 G0 B0
  go_wp2_with (go_at_call 75; refine (wrapI_any _ _).mono ?_; rintro e w0 ⟨rfl, hw0⟩; rw [hw0]; clear hw0 w0)
  (first | (go_region_with (go_at_call 75; refine (wrapI_any _ _).mono ?_; rintro e w0 ⟨rfl, hw0⟩; rw [hw0]; clear hw0 w0); go_wp2) | skip)
  (first | go_ret2 | go_ret | skip)
  exact unhide FN _ _ _ _ (unhide HO) rfl (by first | exact unhide B1 | exact below_dr (unhide B1))
set_option maxHeartbeats 8000000 in
theorem wk_pair (bs vs : List Int) (T : TypeId) (k : Int) (t u : TypeId) (x y : Value) (me : ∀ w, (method 271 T (.agg #[.iface t x, .iface u y]) "loop.example/g00329/impl.parts").run Tryd.prog w = .ok (123, .agg #[.iface t x, .iface u y]) w) (kd : ∀ w, Calls Tryd.prog 71 #[.iface T (.agg #[.iface t x, .iface u y])] w fun r w' => r = .returned (.int .i64 k) ∧ w' = w) (oa ob o : Option Int) (ab av : Option Addr) (cb cv m : Nat) (ps : List (ByteArray × Nat)) (ha : ∀ wr, Ew wr ab m av bs ps vs → Calls Tryd.prog 50 #[.agg #[.slice ab bs.length cb, .map (some m), .slice av vs.length cv], .iface t x] wr (InR oa wr)) (hb : ∀ wr, Ew wr ab m av bs ps vs → Calls Tryd.prog 50 #[.agg #[.slice ab bs.length cb, .map (some m), .slice av vs.length cv], .iface u y] wr (InR ob wr)) (hn : (oa.isSome && ob.isSome) = false → o = none) (hy : ∀ p q, oa = some p → ob = some q → (∀ w, Calls Tryd.prog 88 #[.int .i64 k, .int .i64 p, .int .i64 q] w (InR o w))) (w : World) (hev : Ew w ab m av bs ps vs) : Calls Tryd.prog 76 #[.agg #[.slice ab bs.length cb, .map (some m), .slice av vs.length cv], .iface T (.agg #[.iface t x, .iface u y])] w (InR o w) := by
  have FN := hide (fun (r : Ending) (w' : World) (z : Int) (q : Bool) (ho : z = (o).getD 0 ∧ q = (o).isSome) (h : r = .returned (.tuple #[.int .i64 z, .bool q])) (hb : Below w.heap.size w w') => inR_end ho h hb)
  generalize InR (o) w = R at *
  have B0 := hide (below_new w (.cells #[.slice ab bs.length cb, .map (some m), .slice av vs.length cv] 74))
  have G0 := hide (show (w.alloc (.cells #[.slice ab bs.length cb, .map (some m), .slice av vs.length cv] 74)).heap[w.heap.size]? = some (.cells #[.slice ab bs.length cb, .map (some m), .slice av vs.length cv] 74 (0, 0)) from Array.getElem?_push_size)
  have V0 := hide (hev.later (unhide B0))
  have HA := hide ha
  have HB := hide hb
  unfold InR at HA HB
  have P0 := hide (parts2 t u x y (w.alloc (.cells #[.slice ab bs.length cb, .map (some m), .slice av vs.length cv] 74)))
  have HN := hide hn
  have HY := hide hy
  unfold InR at HY
  have KD := hide kd
  clear hev ha hb hn hy kd
  go_enter Tryd.func76, Tryd.ntmps76
  go_wp2_with fail
  generalize w.alloc (.cells #[.slice ab bs.length cb, .map (some m), .slice av vs.length cv] 74) = W at *
  refine (unhide P0).mono ?_
  rintro r w1 ⟨g, rfl, hg, hb1⟩
  have B1 := hide ((unhide B0).trans (hb1.mono (unhide B0).size))
  have G1 := hide (row_keep (unhide G0) hb1)
  have V1 := hide ((unhide V0).later hb1)
  have L1 := hide hg
  clear hb1 hg B0 G0 V0 P0
  go_wp2_with fail
  have ya : ∀ y : Sub w1.heap.size w1, y.w.cell? ⟨w.heap.size, 0, none⟩ = some (.slice ab bs.length cb) := fun y => (y.h.cell (p := ⟨w.heap.size, 0, none⟩) (Array.getElem?_eq_some_iff.1 (unhide G1)).1).trans (Lib.cell_of_heap (unhide G1) 0)
  have yb : ∀ y : Sub w1.heap.size w1, y.w.cell? ⟨w.heap.size, 1, none⟩ = some (.map (some m)) := fun y => (y.h.cell (p := ⟨w.heap.size, 1, none⟩) (Array.getElem?_eq_some_iff.1 (unhide G1)).1).trans (Lib.cell_of_heap (unhide G1) 1)
  have yc : ∀ y : Sub w1.heap.size w1, y.w.cell? ⟨w.heap.size, 2, none⟩ = some (.slice av vs.length cv) := fun y => (y.h.cell (p := ⟨w.heap.size, 2, none⟩) (Array.getElem?_eq_some_iff.1 (unhide G1)).1).trans (Lib.cell_of_heap (unhide G1) 2)
  have yd : ∀ z : Sub w1.heap.size w1, z.w.cell? ⟨g, 0, none⟩ = some (.iface t x) := fun z => (z.h.cell (p := ⟨g, 0, none⟩) (Array.getElem?_eq_some_iff.1 (unhide L1)).1).trans (Lib.cell_of_heap (unhide L1) 0)
  have ne := Sub.ne w1.heap.size w1
  have HZ := hide (Nat.le_refl w1.heap.size)
  have CA := hide (fun y : Sub w1.heap.size w1 => unhide HA y.w ((unhide V1).later y.h))
  refine wp_region_sub (⟨w1, Below.refl _ _⟩ : Sub w1.heap.size w1) (by kernel_rfl) (by kernel_rfl) ?_
  (repeat (go_big_quiet_step (first | (go_at_call 50; exact Sub.call (unhide HZ) (unhide CA _)))))
  refine wpQuiet_nil ?_
  rintro ⟨w2, hb2⟩
  simp only
  have B2 := hide ((unhide B1).trans (hb2.mono (unhide B1).size))
  have G2 := hide (row_keep (unhide G1) hb2)
  have V2 := hide ((unhide V1).later hb2)
  have L2 := hide (row_keep (unhide L1) hb2)
  clear hb2 ya yb yc yd ne HZ CA B1 G1 V1 L1
  go_wp2_with fail
  have ya : ∀ y : Sub w2.heap.size w2, y.w.cell? ⟨w.heap.size, 0, none⟩ = some (.slice ab bs.length cb) := fun y => (y.h.cell (p := ⟨w.heap.size, 0, none⟩) (Array.getElem?_eq_some_iff.1 (unhide G2)).1).trans (Lib.cell_of_heap (unhide G2) 0)
  have yb : ∀ y : Sub w2.heap.size w2, y.w.cell? ⟨w.heap.size, 1, none⟩ = some (.map (some m)) := fun y => (y.h.cell (p := ⟨w.heap.size, 1, none⟩) (Array.getElem?_eq_some_iff.1 (unhide G2)).1).trans (Lib.cell_of_heap (unhide G2) 1)
  have yc : ∀ y : Sub w2.heap.size w2, y.w.cell? ⟨w.heap.size, 2, none⟩ = some (.slice av vs.length cv) := fun y => (y.h.cell (p := ⟨w.heap.size, 2, none⟩) (Array.getElem?_eq_some_iff.1 (unhide G2)).1).trans (Lib.cell_of_heap (unhide G2) 2)
  have yd : ∀ z : Sub w2.heap.size w2, z.w.cell? ⟨g, 1, none⟩ = some (.iface u y) := fun z => (z.h.cell (p := ⟨g, 1, none⟩) (Array.getElem?_eq_some_iff.1 (unhide L2)).1).trans (Lib.cell_of_heap (unhide L2) 1)
  have ne := Sub.ne w2.heap.size w2
  have HZ := hide (Nat.le_refl w2.heap.size)
  have CA := hide (fun y : Sub w2.heap.size w2 => unhide HB y.w ((unhide V2).later y.h))
  refine wp_region_sub (⟨w2, Below.refl _ _⟩ : Sub w2.heap.size w2) (by kernel_rfl) (by kernel_rfl) ?_
  (repeat (go_big_quiet_step (first | (go_at_call 50; exact Sub.call (unhide HZ) (unhide CA _)))))
  refine wpQuiet_nil ?_
  rintro ⟨w3, hb3⟩
  simp only
  have B3 := hide ((unhide B2).trans (hb3.mono (unhide B2).size))
  have G3 := hide (row_keep (unhide G2) hb3)
  have V3 := hide ((unhide V2).later hb3)
  have L3 := hide (row_keep (unhide L2) hb3)
  clear hb3 ya yb yc yd ne HZ CA B2 G2 V2 L2
  cases oa with
  | none =>
    have E := unhide HN rfl
    subst E
    simp only [Option.getD_none, Option.isSome_none]
    clear HY HN
    generalize ob.getD 0 = zb
    generalize ob.isSome = qb
    cases qb <;> (go_wp2; (first | go_ret2 | go_ret | skip); exact unhide FN _ _ _ _ ⟨rfl, rfl⟩ rfl (unhide B3))
  | some p =>
    cases ob with
    | none =>
      have E := unhide HN rfl
      subst E
      simp only [Option.getD_none, Option.isSome_none, Option.getD_some, Option.isSome_some]
      clear HY HN
      go_wp2
      (first | go_ret2 | go_ret | skip)
      exact unhide FN _ _ _ _ ⟨rfl, rfl⟩ rfl (unhide B3)
    | some q =>
      have TW := hide (unhide HY p q rfl rfl)
      simp only [Option.getD_some, Option.isSome_some]
      clear HY HN
      go_wp2_with (go_at_call 71; refine (unhide KD _).mono ?_; rintro e w0 ⟨rfl, hw0⟩; rw [hw0]; clear hw0 w0)
      refine (unhide TW _).mono ?_
      rintro r w4 ⟨rfl, hb4⟩
      have B4 := hide ((unhide B3).trans (hb4.mono (unhide B3).size))
      clear hb4
      go_wp2
      (first | go_ret2 | go_ret | skip)
      exact unhide FN _ _ _ _ ⟨rfl, rfl⟩ rfl (unhide B4)
set_option maxHeartbeats 4000000 in
theorem wj_pair (bs vs : List Int) (T : TypeId) (X : Value) (n0 : T ≠ 88) (n1 : T ≠ 115) (n2 : T ≠ 118) (n3 : T ≠ 104) (o : Option Int) (ab av : Option Addr) (cb cv m : Nat) (ps : List (ByteArray × Nat)) (hk : ∀ wr, Ew wr ab m av bs ps vs → Calls Tryd.prog 76 #[.agg #[.slice ab bs.length cb, .map (some m), .slice av vs.length cv], .iface T X] wr (InR o wr)) (w : World) (hev : Ew w ab m av bs ps vs) : Calls Tryd.prog 50 #[.agg #[.slice ab bs.length cb, .map (some m), .slice av vs.length cv], .iface T X] w (InR o w) := by
  have FN := hide (fun (r : Ending) (w' : World) (z : Int) (q : Bool) (ho : z = (o).getD 0 ∧ q = (o).isSome) (h : r = .returned (.tuple #[.int .i64 z, .bool q])) (hb : Below w.heap.size w w') => inR_end ho h hb)
  generalize InR (o) w = R at *
  have B0 := hide (below_new w (.cells #[.slice ab bs.length cb, .map (some m), .slice av vs.length cv] 74))
  have G0 := hide (show (w.alloc (.cells #[.slice ab bs.length cb, .map (some m), .slice av vs.length cv] 74)).heap[w.heap.size]? = some (.cells #[.slice ab bs.length cb, .map (some m), .slice av vs.length cv] 74 (0, 0)) from Array.getElem?_push_size)
  have V0 := hide (hev.later (unhide B0))
  have t0 := taN_num T X n0
  have t1 := taN_sect T X n1
  have t2 := taN_glob T X n2
  have t3 := taN_neg T X n3
  have WK := hide hk
  unfold InR at WK
  clear hk hev n0 n1 n2 n3
  go_enter Tryd.func50, Tryd.ntmps50
  go_wp2_with (refine wpList_load_row rfl 74 _ rfl w.heap.size rfl 74 #[.slice ab bs.length cb, .map (some m), .slice av vs.length cv] (0, 0) _ (unhide G0) Tryd.underlying74 rfl (by kernel_rfl) ?_)
  generalize w.alloc (.cells #[.slice ab bs.length cb, .map (some m), .slice av vs.length cv] 74) = W at *
  refine (unhide WK _ (unhide V0)).mono ?_
  rintro r w1 ⟨rfl, hb1⟩
  have B1 := hide ((unhide B0).trans (hb1.mono (unhide B0).size))
  clear hb1 WK
  go_wp2
  (first | go_ret2 | go_ret | skip)
  exact unhide FN _ _ _ _ ⟨rfl, rfl⟩ rfl (unhide B1)
set_option maxHeartbeats 1000000 in
theorem wj_all (bs : List Int) (L : List ByteArray) (vs : List Int) (hB : bs.length ≤ 1099511627776) (hV : vs.length ≤ 1099511627776) (hL : L.length ≤ 1099511627776) : ∀ (d : Nat) (e : Ex), okF d false e = true → WoJ bs L vs e := by
  intro d
  induction d with
  | zero => intro e h; cases h
  | succ d ih =>
    intro e h
    rcases ok_cases h with ⟨n, hn, rfl⟩ | ⟨s, hs, rfl⟩ | rfl | ⟨a, ha, rfl⟩ | ⟨k, a, b, hk, ha, hb, rfl⟩ | ⟨n, hn, rfl⟩ | ⟨s, hs, rfl⟩
    · exact wj_num bs L vs hB hV hL n
    · exact wj_sym bs L vs hB hV hL s
    · exact wj_here bs L vs hB hV hL
    · exact wj_neg bs L vs a (ih a ha) (fun v hv => worth_in (seW_in bs) (glW_in L vs) d a v ha hv)
    · intro ab av cb cv m ps w hev hps
      have iha := fun wr (h : Ew wr ab m av bs ps vs) => ih a ha ab av cb cv m ps wr h hps
      have ihb := fun wr (h : Ew wr ab m av bs ps vs) => ih b hb ab av cb cv m ps wr h hps
      obtain ⟨t, x, e1⟩ := tv_if a
      obtain ⟨u, y, e2⟩ := tv_if b
      rw [e1] at iha
      rw [e2] at ihb
      have hn : ((worthX (seW bs) (glW L vs) a).isSome && (worthX (seW bs) (glW L vs) b).isSome) = false → worthX (seW bs) (glW L vs) ⟨k, 0, E0, [a, b]⟩ = none := fun h => by
        rw [worth_two]
        cases h1 : worthX (seW bs) (glW L vs) a with
        | none => rfl
        | some p =>
          cases h2 : worthX (seW bs) (glW L vs) b with
          | none => rfl
          | some q => rw [h1, h2] at h; cases h
      have hy : ∀ p q, worthX (seW bs) (glW L vs) a = some p → worthX (seW bs) (glW L vs) b = some q → (∀ w, Calls Tryd.prog 88 #[.int .i64 k, .int .i64 p, .int .i64 q] w (InR (worthX (seW bs) (glW L vs) ⟨k, 0, E0, [a, b]⟩) w)) := fun p q h1 h2 w => by
        rw [worth_two, h1, h2]
        refine (twoI_any k p q hk (worth_in (seW_in bs) (glW_in L vs) d a p ha h1) (worth_in (seW_in bs) (glW_in L vs) d b q hb h2) w).mono (fun r w' ⟨h3, h4⟩ => ⟨h4, by rw [h3]; exact Below.refl _ _⟩)
      rw [tv_two hk, e1, e2]
      generalize worthX (seW bs) (glW L vs) ⟨k, 0, E0, [a, b]⟩ = o at *
      generalize worthX (seW bs) (glW L vs) a = oa at *
      generalize worthX (seW bs) (glW L vs) b = ob at *
      clear ih ha hb h e1 e2
      have : k = 5 ∨ k = 6 ∨ k = 7 ∨ k = 8 ∨ k = 9 ∨ k = 10 := by omega
      rcases this with rfl | rfl | rfl | rfl | rfl | rfl
      · exact wj_pair bs vs 134 _ (by decide) (by decide) (by decide) (by decide) _ ab av cb cv m ps (fun wr h => wk_pair bs vs 134 5 t u x y (me_add (.iface t x) (.iface u y)) (fun w => kind_add 0 E0 t u x y w) _ _ _ ab av cb cv m ps iha ihb hn hy wr h) w hev
      · exact wj_pair bs vs 135 _ (by decide) (by decide) (by decide) (by decide) _ ab av cb cv m ps (fun wr h => wk_pair bs vs 135 6 t u x y (me_sub (.iface t x) (.iface u y)) (fun w => kind_sub 0 E0 t u x y w) _ _ _ ab av cb cv m ps iha ihb hn hy wr h) w hev
      · exact wj_pair bs vs 136 _ (by decide) (by decide) (by decide) (by decide) _ ab av cb cv m ps (fun wr h => wk_pair bs vs 136 7 t u x y (me_mul (.iface t x) (.iface u y)) (fun w => kind_mul 0 E0 t u x y w) _ _ _ ab av cb cv m ps iha ihb hn hy wr h) w hev
      · exact wj_pair bs vs 137 _ (by decide) (by decide) (by decide) (by decide) _ ab av cb cv m ps (fun wr h => wk_pair bs vs 137 8 t u x y (me_div (.iface t x) (.iface u y)) (fun w => kind_div 0 E0 t u x y w) _ _ _ ab av cb cv m ps iha ihb hn hy wr h) w hev
      · exact wj_pair bs vs 138 _ (by decide) (by decide) (by decide) (by decide) _ ab av cb cv m ps (fun wr h => wk_pair bs vs 138 9 t u x y (me_and (.iface t x) (.iface u y)) (fun w => kind_and 0 E0 t u x y w) _ _ _ ab av cb cv m ps iha ihb hn hy wr h) w hev
      · exact wj_pair bs vs 139 _ (by decide) (by decide) (by decide) (by decide) _ ab av cb cv m ps (fun wr h => wk_pair bs vs 139 10 t u x y (me_or (.iface t x) (.iface u y)) (fun w => kind_or 0 E0 t u x y w) _ _ _ ab av cb cv m ps iha ihb hn hy wr h) w hev
    · obtain ⟨j, rfl⟩ := Int.eq_ofNat_of_zero_le hn.1
      exact wj_sect bs L vs hB hV hL j (by have := hn.2; omega)
    · cases hp : plS L s with
      | none => exact wj_globn bs L vs hB hV hL s hp
      | some i => exact wj_globy bs L vs hB hV hL s i hp
end Go.Proofs.YtkolflcjkofleaaDoor

namespace Go.Proofs.YtkolflcjkofleaaDoor
open Go.ChangeShapes Go.WideShapes Go.ChangeAt Go.RowKit
set_option linter.unusedVariables false
set_option maxRecDepth 8000
set_option linter.unusedSimpArgs false

set_option maxHeartbeats 4000000 in
theorem worthI_no (bs : List Int) (L : List ByteArray) (vs : List Int) (hB : bs.length ≤ 1099511627776) (hV : vs.length ≤ 1099511627776) (hL : L.length ≤ 1099511627776) (e : Ex) (b : Option Addr) (cap : Nat) (ab an av : Option Addr) (cb cn cv : Nat) (w : World) (hr : RdX w 0 e b) (hz : e.sz ≤ 1048576) (ht : TabK w) (rb : RdN w ab bs) (rn : RdU w an L) (rv : RdN w av vs) (ho : okF 6 false e = false) : Calls Tryd.prog 14 #[.agg (e.cs b cap), .slice ab bs.length cb, .slice an L.length cn, .slice av vs.length cv] w (InR none w) := by
  have FN := hide (fun (r : Ending) (w' : World) (h : r = .returned (.tuple #[.int .i64 0, .bool false])) (hb : Below w.heap.size w w') => inR_end (o := none) ⟨rfl, rfl⟩ h hb)
  generalize InR none w = R at *
  have B0 := hide (below_new w (.cells #[.int .i64 e.k, .int .i64 e.n, .string e.s, .slice b e.l.length cap] 26))
  have G0 := hide (show (w.alloc (.cells #[.int .i64 e.k, .int .i64 e.n, .string e.s, .slice b e.l.length cap] 26)).heap[w.heap.size]? = some (.cells #[.int .i64 e.k, .int .i64 e.n, .string e.s, .slice b e.l.length cap] 26 (0, 0)) from Array.getElem?_push_size)
  have TM := hide (term_all 6 (by omega) e b cap _ (hr.later (unhide B0)) hz (ht.next (unhide B0)))
  unfold TermR at TM
  rw [ho] at TM
  unfold Ex.cs at TM ⊢
  clear hr hz ht ho rb rn rv
  go_enter Tryd.func14, Tryd.ntmps14
  go_wp2_with (refine wpList_load_row rfl 26 _ rfl w.heap.size rfl 26 #[.int .i64 e.k, .int .i64 e.n, .string e.s, .slice b e.l.length cap] (0, 0) _ (unhide G0) Tryd.underlying26 rfl (by kernel_rfl) ?_)
  generalize w.alloc (.cells #[.int .i64 e.k, .int .i64 e.n, .string e.s, .slice b e.l.length cap] 26) = W at *
  refine (unhide TM).mono ?_
  rintro r w1 ⟨v, rfl, _, hb1⟩
  have B1 := hide ((unhide B0).trans (hb1.mono (unhide B0).size))
  clear hb1
  go_wp2
  (first | go_ret2 | go_ret | skip)
  exact unhide FN _ _ rfl (unhide B1)
set_option maxHeartbeats 8000000 in
theorem worthI_yes (bs : List Int) (L : List ByteArray) (vs : List Int) (hB : bs.length ≤ 1099511627776) (hV : vs.length ≤ 1099511627776) (hL : L.length ≤ 1099511627776) (e : Ex) (b : Option Addr) (cap : Nat) (ab an av : Option Addr) (cb cn cv : Nat) (w : World) (hr : RdX w 0 e b) (hz : e.sz ≤ 1048576) (ht : TabK w) (rb : RdN w ab bs) (rn : RdU w an L) (rv : RdN w av vs) (ho : okF 6 false e = true) : Calls Tryd.prog 14 #[.agg (e.cs b cap), .slice ab bs.length cb, .slice an L.length cn, .slice av vs.length cv] w (InR (worthX (seW bs) (glW L vs) e) w) := by
  have FN := hide (fun (r : Ending) (w' : World) (z : Int) (q : Bool) (hq : z = (worthX (seW bs) (glW L vs) e).getD 0 ∧ q = (worthX (seW bs) (glW L vs) e).isSome) (h : r = .returned (.tuple #[.int .i64 z, .bool q])) (hb : Below w.heap.size w w') => inR_end hq h hb)
  have WJ := hide (fun (m : Nat) (ps : List (ByteArray × Nat)) (wr : World) (h : Ew wr ab m av bs ps vs) (hp : ∀ s, lkS ps s = plS L s) => wj_all bs L vs hB hV hL 6 e ho ab av cb cv m ps wr h hp)
  generalize InR (worthX (seW bs) (glW L vs) e) w = R at *
  unfold InR at WJ
  obtain ⟨te, xe, ee⟩ := tv_if e
  rw [ee] at WJ
  generalize worthX (seW bs) (glW L vs) e = o at *
  have B0 := hide (below_new w (.cells #[.int .i64 e.k, .int .i64 e.n, .string e.s, .slice b e.l.length cap] 26))
  have G0 := hide (show (w.alloc (.cells #[.int .i64 e.k, .int .i64 e.n, .string e.s, .slice b e.l.length cap] 26)).heap[w.heap.size]? = some (.cells #[.int .i64 e.k, .int .i64 e.n, .string e.s, .slice b e.l.length cap] 26 (0, 0)) from Array.getElem?_push_size)
  have TM := hide (term_all 6 (by omega) e b cap _ (hr.later (unhide B0)) hz (ht.next (unhide B0)))
  unfold TermR at TM
  rw [ho, ee] at TM
  simp only [forall_const] at TM
  have PL := hide (fun wr (h : Below w.heap.size w wr) => places_any an L.length cn L wr rfl hL (rn.later h))
  have RB := hide (fun wr (h : Below w.heap.size w wr) => rb.later h)
  have RV := hide (fun wr (h : Below w.heap.size w wr) => rv.later h)
  unfold Ex.cs at TM ⊢
  clear hr hz ht ho ee rb rn rv
  go_enter Tryd.func14, Tryd.ntmps14
  go_wp2_with (refine wpList_load_row rfl 26 _ rfl w.heap.size rfl 26 #[.int .i64 e.k, .int .i64 e.n, .string e.s, .slice b e.l.length cap] (0, 0) _ (unhide G0) Tryd.underlying26 rfl (by kernel_rfl) ?_)
  generalize w.alloc (.cells #[.int .i64 e.k, .int .i64 e.n, .string e.s, .slice b e.l.length cap] 26) = W at *
  refine (unhide TM).mono ?_
  rintro r w1 ⟨v, rfl, rfl, hb1⟩
  have B1 := hide ((unhide B0).trans (hb1.mono (unhide B0).size))
  clear hb1 TM B0 G0
  have P1 := hide (unhide PL w1 (unhide B1))
  go_wp2_with (go_at_call 49; refine (unhide P1).mono ?_; rintro r w2 ⟨pb, ps, rfl, hmp, hps, hge, hb2⟩; have B2 := hide ((unhide B1).trans (hb2.mono (unhide B1).size)); have W2 := hide (unhide WJ pb ps w2 ⟨unhide RB _ (unhide B2), hmp, unhide RV _ (unhide B2)⟩ hps); clear hmp hps hge hb2)
  refine (unhide W2).mono ?_
  rintro r w3 ⟨rfl, hb3⟩
  have B3 := hide ((unhide B2).trans (hb3.mono (unhide B2).size))
  clear hb3
  go_wp2
  (first | go_ret2 | go_ret | skip)
  exact unhide FN _ _ _ _ ⟨rfl, rfl⟩ rfl (unhide B3)
theorem worthI_any (bs : List Int) (L : List ByteArray) (vs : List Int) (hB : bs.length ≤ 1099511627776) (hV : vs.length ≤ 1099511627776) (hL : L.length ≤ 1099511627776) (e : Ex) (b : Option Addr) (cap : Nat) (ab an av : Option Addr) (cb cn cv : Nat) (w : World) (hr : RdX w 0 e b) (hz : e.sz ≤ 1048576) (ht : TabK w) (rb : RdN w ab bs) (rn : RdU w an L) (rv : RdN w av vs) : Calls Tryd.prog 14 #[.agg (e.cs b cap), .slice ab bs.length cb, .slice an L.length cn, .slice av vs.length cv] w (InR (worthA bs L vs e) w) := by
  unfold worthA
  cases ho : okF 6 false e with
  | false => rw [if_neg (by decide)]; exact worthI_no bs L vs hB hV hL e b cap ab an av cb cn cv w hr hz ht rb rn rv ho
  | true => rw [if_pos rfl]; exact worthI_yes bs L vs hB hV hL e b cap ab an av cb cn cv w hr hz ht rb rn rv ho
end Go.Proofs.YtkolflcjkofleaaDoor

namespace Go.Proofs.YtkolflcjkofleaaDoor
open Go.ChangeShapes Go.WideShapes Go.ChangeAt Go.RowKit
set_option linter.unusedVariables false
set_option maxRecDepth 8000

def MarkP (e : Ex) : Prop := ∀ (a : Option Addr) (cap k : Nat) (F : List Nat) (B : Nat) (w : World), OwX w e a F → F.Nodup → (∀ b ∈ F, B ≤ b) → B ≤ w.heap.size → 0 < k → k + 3 * e.ct ≤ 8000000 → Calls Tryd.prog 38 #[.slice a e.l.length cap, .int .i64 k] w fun r w' => ∃ e' : Ex, r = .returned (.int .i64 ((k + 3 * e.ct : Nat) : Int)) ∧ MkX e k e' ∧ OwX w' e' a F ∧ Below B w w' ∧ ∀ g, g < w.heap.size → g ∉ F → w'.heap[g]? = w.heap[g]?
/-- So many parts are marked. -/
structure Mkg (w wr : World) (l : List Ex) (K b : Nat) (Fs : List (List Nat)) (B i : Nat) (ys : List Ex) (cs : Array Value) (t : TypeId) : Prop where
  hyl : ys.length = l.length
  row : wr.heap[b]? = some (.cells cs t (0, 0))
  hz : l.length * 4 ≤ cs.size
  one : ∀ j, j < l.length → OwOne wr cs j (xAt ys j) (Fs.getD j [])
  done : ∀ j, j < i → MkOne l K j (xAt ys j)
  rest : ∀ j, i ≤ j → xAt ys j = xAt l j
  bel : Below B w wr
  fr : ∀ g, g < w.heap.size → g ∉ b :: Fs.flatten → wr.heap[g]? = w.heap[g]?
theorem OwX.of {w : World} {x z : Ex} {c : Option Addr} {F : List Nat} (h : OwX w x c F) (hl : z.l = x.l) : OwX w z c F := by
  rw [OwX_eq] at h ⊢
  rw [hl]
  exact h
theorem Mkg.step {w wr w3 w5 : World} {l ys : List Ex} {K b : Nat} {Fs : List (List Nat)} {B i : Nat} {cs : Array Value} {t : TypeId} {c : Option Addr} {cp : Nat} {x' : Ex}
    (h : Mkg w wr l K b Fs B i ys cs t) (hi : i < l.length) (hF : Fs.length = l.length) (hn : (b :: Fs.flatten).Nodup) (hB : ∀ g ∈ b :: Fs.flatten, B ≤ g)
    (q3 : cs[i * 4 + 3]? = some (.slice c (xAt l i).l.length cp))
    (hb3 : Below ((wr.setCell ⟨b, i * 4, none⟩ (.int .i64 ((posX l K i : Nat) : Int))).setCell ⟨b, i * 4 + 1, none⟩ (.int .i64 ((posX l K i + 1 : Nat) : Int))).heap.size ((wr.setCell ⟨b, i * 4, none⟩ (.int .i64 ((posX l K i : Nat) : Int))).setCell ⟨b, i * 4 + 1, none⟩ (.int .i64 ((posX l K i + 1 : Nat) : Int))) w3)
    (hmk : MkX (xAt l i) (posX l K i + 3) x') (hox : OwX w5 x' c (Fs.getD i []))
    (hb5 : Below B (w3.setCell ⟨b, i * 4 + 2, none⟩ (.string (mkTx (posX l K i + 2)))) w5)
    (hf5 : ∀ g, g < (w3.setCell ⟨b, i * 4 + 2, none⟩ (.string (mkTx (posX l K i + 2)))).heap.size → g ∉ Fs.getD i [] → w5.heap[g]? = (w3.setCell ⟨b, i * 4 + 2, none⟩ (.string (mkTx (posX l K i + 2)))).heap[g]?) :
    ∃ ys' cs', Mkg w w5 l K b Fs B (i + 1) ys' cs' t := by
  have hn' := List.nodup_cons.1 hn
  have hbl : b < wr.heap.size := (Array.getElem?_eq_some_iff.1 h.row).1
  have r1 := heap_setCell_same wr b (i * 4) cs t (.int .i64 ((posX l K i : Nat) : Int)) h.row
  have r2 := heap_setCell_same _ b (i * 4 + 1) _ t (.int .i64 ((posX l K i + 1 : Nat) : Int)) r1
  have hsz2 : ((wr.setCell ⟨b, i * 4, none⟩ (.int .i64 ((posX l K i : Nat) : Int))).setCell ⟨b, i * 4 + 1, none⟩ (.int .i64 ((posX l K i + 1 : Nat) : Int))).heap.size = wr.heap.size := by simp
  have hoth2 : ∀ g, g ≠ b → ((wr.setCell ⟨b, i * 4, none⟩ (.int .i64 ((posX l K i : Nat) : Int))).setCell ⟨b, i * 4 + 1, none⟩ (.int .i64 ((posX l K i + 1 : Nat) : Int))).heap[g]? = wr.heap[g]? := fun g hg => by
    rw [heap_setCell_other _ _ _ _ hg, heap_setCell_other _ _ _ _ hg]
  have hbel2 : Below B wr ((wr.setCell ⟨b, i * 4, none⟩ (.int .i64 ((posX l K i : Nat) : Int))).setCell ⟨b, i * 4 + 1, none⟩ (.int .i64 ((posX l K i + 1 : Nat) : Int))) := ((Below.refl B wr).setCell (p := ⟨b, _, none⟩) (hB b List.mem_cons_self) _).setCell (p := ⟨b, _, none⟩) (hB b List.mem_cons_self) _
  generalize (wr.setCell ⟨b, i * 4, none⟩ (.int .i64 ((posX l K i : Nat) : Int))).setCell ⟨b, i * 4 + 1, none⟩ (.int .i64 ((posX l K i + 1 : Nat) : Int)) = W2 at *
  rw [hsz2] at hb3
  have r3 := (hb3.block b hbl).trans r2
  have r4 := heap_setCell_same w3 b (i * 4 + 2) _ t (.string (mkTx (posX l K i + 2))) r3
  have hsz3 : wr.heap.size ≤ w3.heap.size := hsz2 ▸ hb3.size
  have hsz4 : (w3.setCell ⟨b, i * 4 + 2, none⟩ (.string (mkTx (posX l K i + 2)))).heap.size = w3.heap.size := by simp
  have hoth4 : ∀ g, g < wr.heap.size → g ≠ b → (w3.setCell ⟨b, i * 4 + 2, none⟩ (.string (mkTx (posX l K i + 2)))).heap[g]? = wr.heap[g]? := fun g hgl hg => by
    rw [heap_setCell_other _ _ _ _ hg, hb3.block g hgl, hoth2 g hg]
  have hbB : B ≤ b := hB b List.mem_cons_self
  have hbel4 : Below B wr (w3.setCell ⟨b, i * 4 + 2, none⟩ (.string (mkTx (posX l K i + 2)))) := (hbel2.trans (hb3.mono (by omega))).setCell (p := ⟨b, _, none⟩) hbB _
  rw [hsz4] at hf5
  have hbi : b ∉ Fs.getD i [] := fun hb => hn'.1 (getD_flat hb)
  have r5 := (hf5 b (by omega) hbi).trans r4
  have hlt : ∀ g ∈ Fs.flatten, g < wr.heap.size := fun g hg => by
    obtain ⟨G, hG, hx⟩ := List.mem_flatten.1 hg
    obtain ⟨j, hj, rfl⟩ := List.getElem_of_mem hG
    obtain ⟨_, _, _, c', cp', _, ho⟩ := h.one j (hF ▸ hj)
    rw [List.getD_eq_getElem?_getD, List.getElem?_eq_getElem hj] at ho
    exact OwX.lt _ _ _ ho _ hx
  have hk5 : ∀ g, g < wr.heap.size → g ≠ b → g ∉ Fs.getD i [] → w5.heap[g]? = wr.heap[g]? := fun g hgl hg hgi => (hf5 g (by omega) hgi).trans (hoth4 g hgl hg)
  have hz := h.hz
  have T := OwOne.turn (wr := wr) (w5 := w5) (ys := ys) (b := b) (cs := cs) (cs5 := ((cs.setIfInBounds (i * 4) (.int .i64 ((posX l K i : Nat) : Int))).setIfInBounds (i * 4 + 1) (.int .i64 ((posX l K i + 1 : Nat) : Int))).setIfInBounds (i * 4 + 2) (.string (mkTx (posX l K i + 2)))) (Fs := Fs) (i := i) (y := ⟨((posX l K i : Nat) : Int), ((posX l K i + 1 : Nat) : Int), mkTx (posX l K i + 2), x'.l⟩) (c := c) (cp := cp)
    (fun j hj => h.one j (h.hyl ▸ hj)) hn (by rw [h.hyl]; exact hi)
    (fun j h0 h1 h2 => by rw [Array.getElem?_setIfInBounds_ne (by omega), Array.getElem?_setIfInBounds_ne (by omega), Array.getElem?_setIfInBounds_ne (by omega)])
    (by rw [Array.getElem?_setIfInBounds_ne (by omega), Array.getElem?_setIfInBounds_ne (by omega), Array.getElem?_setIfInBounds_self_of_lt (by omega)])
    (by rw [Array.getElem?_setIfInBounds_ne (by omega), Array.getElem?_setIfInBounds_self_of_lt (by simp; omega)])
    (by rw [Array.getElem?_setIfInBounds_self_of_lt (by simp; omega)])
    (by rw [Array.getElem?_setIfInBounds_ne (by omega), Array.getElem?_setIfInBounds_ne (by omega), Array.getElem?_setIfInBounds_ne (by omega), show (Ex.mk ((posX l K i : Nat) : Int) ((posX l K i + 1 : Nat) : Int) (mkTx (posX l K i + 2)) x'.l).l.length = x'.l.length from rfl, hmk.len]; exact q3)
    (hox.of rfl) (fun g hg hgi => hk5 g (hlt g hg) (fun e => hn'.1 (e ▸ hg)) hgi)
  rw [h.hyl] at T
  refine ⟨ys.set i ⟨((posX l K i : Nat) : Int), ((posX l K i + 1 : Nat) : Int), mkTx (posX l K i + 2), x'.l⟩, _, ?_, r5, ?_, T, fun j hj => ?_, fun j hj => ?_, h.bel.trans (hbel4.trans hb5), fun g hgl hg => ?_⟩
  · rw [List.length_set]; exact h.hyl
  · simpa using hz
  · by_cases hij : i = j
    · subst hij
      rw [xAt_set_eq (by rw [h.hyl]; exact hi)]
      exact ⟨rfl, rfl, rfl, hmk.of rfl⟩
    · rw [xAt_set_ne hij]
      exact h.done j (by omega)
  · rw [xAt_set_ne (by omega)]
    exact h.rest j (by omega)
  · have h1 : g ≠ b := fun e => hg (e ▸ List.mem_cons_self)
    have h2 : g ∉ Fs.getD i [] := fun e => hg (List.mem_cons_of_mem _ (getD_flat e))
    exact (hk5 g (Nat.lt_of_lt_of_le hgl h.bel.size) h1 h2).trans (h.fr g hgl hg)
set_option maxHeartbeats 2000000 in
theorem markXS_of (e : Ex) (ih : ∀ i, i < e.l.length → MarkP (xAt e.l i)) : MarkP e := by
  intro a cap K F B w ho hnd hF hBw hK hbd
  have hct := ct_is e
  rw [OwX_eq] at ho
  generalize hl : e.l = l at *
  rw [hct] at hbd ⊢
  have FIN := hide (fun (y : Ex) => MkX_eq e K y)
  rw [hl] at FIN
  rcases ho with ⟨rfl, rfl⟩ | ⟨b, cs, t, Fs, rfl, hh, hz, hFl, rfl, hone⟩
  · have HE := hide (show MkX e K e from (unhide FIN e).2 ⟨by rw [hl], fun i hi => by cases hi⟩)
    have HO := hide (show OwX w e a [] from (OwX_eq _ _ _ _).2 (.inl ⟨hl, rfl⟩))
    clear ih hct hl FIN
    go_enter Tryd.func38, Tryd.ntmps38
    go_wp2
    go_loopw [1, 5] (fun kv i wr => i = .int .i64 0 ∧ kv = .int .i64 K ∧ wr = w) (fun _ i _ => 0)
    case atStart => exact ⟨rfl, rfl, rfl⟩
    case round =>
      obtain ⟨rfl, rfl, rfl⟩ := hrel
      go_wp2
      go_ret
      exact ⟨e, by simp [ctX], unhide HE, unhide HO, Below.refl _ _, fun g _ _ => rfl⟩
  · have M0 := hide (show Mkg w w l K b Fs B 0 l cs t from ⟨rfl, hh, hz, hone, fun j hj => by omega, fun j _ => rfl, Below.refl _ _, fun g _ _ => rfl⟩)
    have FN := hide (fun (wr : World) (ys : List Ex) (cs' : Array Value) (t' : TypeId) (h : Mkg w wr l K b Fs B l.length ys cs' t') => (show MkX e K ⟨0, 0, ⟨#[]⟩, ys⟩ ∧ OwX wr ⟨0, 0, ⟨#[]⟩, ys⟩ (some ⟨b, 0, none⟩) (b :: Fs.flatten) from
      ⟨(unhide FIN _).2 ⟨h.hyl, fun i hi => h.done i hi⟩, (OwX_eq _ _ _ _).2 (.inr ⟨b, cs', t', Fs, rfl, h.row, by show ys.length * 4 ≤ _; rw [h.hyl]; exact h.hz, by show Fs.length = ys.length; rw [h.hyl]; exact hFl, rfl, fun i hi => h.one i (by have : i < ys.length := hi; rwa [h.hyl] at this)⟩)⟩))
    have hcl : l.length ≤ ctX l := by unfold ctX; omega
    obtain ⟨n, hn⟩ : ∃ n, l.length = n := ⟨_, rfl⟩
    have hnl : n ≤ 8000000 := by omega
    have PE := hide (posX_end l K)
    have P0 := hide (posX_0 l K)
    clear hone hh hz FIN hct hl hcl
    rw [hn] at ih PE FN ⊢
    rw [← unhide PE]
    go_enter Tryd.func38, Tryd.ntmps38
    go_wp2
    go_loopw [1, 5] (fun kv i wr => ∃ k : Nat, k ≤ n ∧ i = .int .i64 k ∧ kv = .int .i64 ((posX l K k : Nat) : Int) ∧ ∃ ys cs t, Mkg w wr l K b Fs B k ys cs t) (fun _ i _ => n - (intOf i).toNat)
    case atStart => exact ⟨0, Nat.zero_le _, rfl, by rw [unhide P0], _, _, _, unhide M0⟩
    case round =>
      clear M0
      obtain ⟨k, hk, rfl, rfl, ys, cs, t, hM⟩ := hrel
      by_cases hlt : k < n
      · obtain ⟨q0, q1, q2, c, cp, q3, q4⟩ := hM.one k (by omega)
        rw [hM.rest k (Nat.le_refl _)] at q0 q1 q2 q3 q4
        have hh := hM.row
        have hz := hM.hz
        have c0 := (Lib.cell_of_heap hh (k * 4)).trans q0
        have c1 := (Lib.cell_of_heap hh (k * 4 + 1)).trans q1
        have f0 := Lib.frozen_of_heap hh (k * 4)
        have f1 := Lib.frozen_of_heap hh (k * 4 + 1)
        have hbl : b < wr.heap.size := (Array.getElem?_eq_some_iff.1 hh).1
        have hPl := posX_le l K k (by omega)
        have hPs := posX_s l K k (by omega)
        have r1 := heap_setCell_same wr b (k * 4) cs t (.int .i64 ((posX l K k : Nat) : Int)) hh
        have r2 := heap_setCell_same _ b (k * 4 + 1) _ t (.int .i64 ((posX l K k + 1 : Nat) : Int)) r1
        have C2 := hide (show ((wr.setCell ⟨b, k * 4, none⟩ (.int .i64 ((posX l K k : Nat) : Int))).setCell ⟨b, k * 4 + 1, none⟩ (.int .i64 ((posX l K k + 1 : Nat) : Int))).cell? ⟨b, k * 4 + 2, none⟩ = some (.string (xAt l k).s) by
          rw [Lib.cell_of_heap r2, Array.getElem?_setIfInBounds_ne (by omega), Array.getElem?_setIfInBounds_ne (by omega)]; exact q2)
        have C3 := hide (show ((wr.setCell ⟨b, k * 4, none⟩ (.int .i64 ((posX l K k : Nat) : Int))).setCell ⟨b, k * 4 + 1, none⟩ (.int .i64 ((posX l K k + 1 : Nat) : Int))).cell? ⟨b, k * 4 + 3, none⟩ = some (.slice c (xAt l k).l.length cp) by
          rw [Lib.cell_of_heap r2, Array.getElem?_setIfInBounds_ne (by omega), Array.getElem?_setIfInBounds_ne (by omega)]; exact q3)
        have F2 := hide (Lib.frozen_of_heap r2 (k * 4 + 2))
        have GL := hide (show b < ((wr.setCell ⟨b, k * 4, none⟩ (.int .i64 ((posX l K k : Nat) : Int))).setCell ⟨b, k * 4 + 1, none⟩ (.int .i64 ((posX l K k + 1 : Nat) : Int))).heap.size by simpa using hbl)
        have ST := hide (fun w3 w5 x' hb3 hmk hox hb5 hf5 => Mkg.step (w3 := w3) (w5 := w5) (x' := x') hM (by omega) hFl hnd hF q3 hb3 hmk hox hb5 hf5)
        have MX := hide (fun W => markTx_any (posX l K k + 2) (by omega) (by omega) W)
        have hn' := List.nodup_cons.1 hnd
        have OC := hide (fun w3 (hb3 : Below ((wr.setCell ⟨b, k * 4, none⟩ (.int .i64 ((posX l K k : Nat) : Int))).setCell ⟨b, k * 4 + 1, none⟩ (.int .i64 ((posX l K k + 1 : Nat) : Int))).heap.size ((wr.setCell ⟨b, k * 4, none⟩ (.int .i64 ((posX l K k : Nat) : Int))).setCell ⟨b, k * 4 + 1, none⟩ (.int .i64 ((posX l K k + 1 : Nat) : Int))) w3) (v : Value) =>
          ih k hlt c cp (posX l K k + 3) (Fs.getD k []) B (w3.setCell ⟨b, k * 4 + 2, none⟩ v)
            (OwX.keep _ _ _ (fun g hg => by
              have hne : g ≠ b := fun e => hn'.1 (e ▸ getD_flat hg)
              have hgl := OwX.lt _ _ _ q4 g hg
              rw [heap_setCell_other _ _ _ _ hne, hb3.block g (by simpa using hgl), heap_setCell_other _ _ _ _ hne, heap_setCell_other _ _ _ _ hne]) q4)
            (flat_part _ _ hn'.2) (fun g hg => hF g (List.mem_cons_of_mem _ (getD_flat hg))) (by have h1 := hb3.size; have h2 := hM.bel.size; simp at h1 ⊢; omega) (by omega) (by omega))
        have EN : ((posX l K k : Nat) : Int) + 1 = ((posX l K k + 1 : Nat) : Int) := by omega
        have EM : ((posX l K k + 1 : Nat) : Int) + 1 = ((posX l K k + 2 : Nat) : Int) := by omega
        have EP : ((posX l K k + 2 : Nat) : Int) + 1 = ((posX l K k + 3 : Nat) : Int) := by omega
        have EQ := hide (show ((posX l K k + 3 + 3 * (xAt l k).ct : Nat) : Int) = ((posX l K (k + 1) : Nat) : Int) by rw [hPs])
        have bA : 0 ≤ ((posX l K k : Nat) : Int) ∧ ((posX l K k : Nat) : Int) ≤ 8000000 := by omega
        have bA2 : 0 ≤ ((posX l K k + 1 : Nat) : Int) ∧ ((posX l K k + 1 : Nat) : Int) ≤ 8000001 := by omega
        have bA3 : 0 ≤ ((posX l K k + 2 : Nat) : Int) ∧ ((posX l K k + 2 : Nat) : Int) ≤ 8000002 := by omega
        clear r1 r2 q0 q1 q2 q3 q4 hM hh hz hPl hPs hn' ih FN
        generalize (xAt l k).ct = ctk at *
        generalize hA : ((posX l K k : Nat) : Int) = A at *
        generalize hB2 : ((posX l K k + 1 : Nat) : Int) = A2 at *
        generalize hC : ((posX l K k + 2 : Nat) : Int) = A3 at *
        generalize hD : ((posX l K k + 3 : Nat) : Int) = A4 at *
        generalize mkTx (posX l K k + 2) = X at *
        generalize (xAt l k).s = xs at *
        go_wp2_with fail
        generalize (wr.setCell ⟨b, k * 4, none⟩ (.int .i64 A)).setCell ⟨b, k * 4 + 1, none⟩ (.int .i64 A2) = W2 at *
        refine (unhide MX _).mono ?_
        rintro e w3 ⟨rfl, hb3⟩
        have d2 := (hb3.cell (p := ⟨b, k * 4 + 2, none⟩) (unhide GL)).trans (unhide C2)
        have d3 := (hb3.cell (p := ⟨b, k * 4 + 3, none⟩) (unhide GL)).trans (unhide C3)
        have e2 := (hb3.frozen (p := ⟨b, k * 4 + 2, none⟩) (unhide GL)).trans (unhide F2)
        have OD := hide (unhide OC w3 hb3 (.string X))
        have HB3 := hide hb3
        clear OC C2 C3 F2 GL MX c0 c1 f0 f1 hb3
        go_wp2_with fail
        refine (unhide OD).mono ?_
        rintro e w5 ⟨x', rfl, hmk, hox, hb5, hf5⟩
        have SS := hide (unhide ST w3 w5 x' (unhide HB3) hmk hox hb5 hf5)
        clear hmk hox hb5 hf5 OD ST d2 d3 e2
        go_wp2
        go_roundw
        case rel =>
          obtain ⟨ys', cs', hM'⟩ := unhide SS
          exact ⟨k + 1, by omega, by go_num, by rw [← unhide EQ]; congr 1; omega, ys', cs', _, hM'⟩
        case measure => simp [intOf]; omega
      · obtain rfl : k = n := by omega
        have HM := hide hM
        have FF := hide (unhide FN _ _ _ _ hM)
        clear hM
        go_wp2
        go_ret
        exact ⟨_, rfl, (unhide FF).1, (unhide FF).2, (unhide HM).bel, (unhide HM).fr⟩
theorem markXS_any (e : Ex) : MarkP e := by
  induction e using Ex.ind with
  | h k n s l ih => exact markXS_of _ (fun i hi => ih _ (xAt_mem hi))
end Go.Proofs.YtkolflcjkofleaaDoor
