/- Rows of rows of tokens, each in a block of its own: copied, marked, looked at; over this seat's translation; conditions stand as hypotheses of each. -/
import Derived.Test.YtemglcdglnjakaaLwC
namespace Go.Proofs.Ytemglcdglnjakaa
open Go.ChangeShapes Go.WideShapes Go.ChangeAt Go.RowKit
set_option linter.unusedVariables false
set_option maxRecDepth 8000
set_option linter.unusedSimpArgs false

theorem own_tyR {w : World} {B m n : Nat} {t : TypeId} {v : Value} {cs : List Value} (h : w.ownsRow B t m v n cs) {g : Nat} (hg : v.ownBlock = some g) : B ≤ g ∧ ∃ cur, w.heap[g]? = some (.cells cur t (0, 0)) := by
  obtain ⟨_, ⟨rfl, _⟩ | ⟨g', cap, cur, rfl, hB, hh, r⟩⟩ := h
  · cases hg
  · cases hg
    exact ⟨hB, cur, hh⟩
theorem own_twoR {w : World} {B B' m m' n n' : Nat} {t t' : TypeId} {v v' : Value} {cs cs' : List Value} (h : w.ownsRow B t m v n cs) (h' : w.ownsRow B' t' m' v' n' cs') (hne : t ≠ t') {g : Nat} (hg : v.ownBlock = some g) (hg' : v'.ownBlock = some g) : False := by
  obtain ⟨_, c, e⟩ := own_tyR h hg
  obtain ⟨_, c', e'⟩ := own_tyR h' hg'
  rw [e] at e'
  injection e' with e'
  injection e' with _ e'
  exact hne e'
theorem ownsRow_keepR {w w' : World} {B n m : Nat} {t : TypeId} {v : Value} {cs : List Value} (h : w.ownsRow B t m v n cs) (hk : ∀ g, v.ownBlock = some g → w'.heap[g]? = w.heap[g]?) : w'.ownsRow B t m v n cs := by
  obtain ⟨h1, h2 | ⟨g, cap, cur, rfl, hg, hh, r⟩⟩ := h
  · exact ⟨h1, .inl h2⟩
  · exact ⟨h1, .inr ⟨g, cap, cur, rfl, hg, (hk g rfl).trans hh, r⟩⟩
/-- A row of rows of tokens that is owned, each row in a block of its own. -/
structure OwnR (w : World) (B : Nat) (v : Value) (ps : List (List Tk)) (vs : List Value) : Prop where
  n : vs.length = ps.length
  row : w.ownsRow B 28 1 v ps.length vs
  own : ∀ i, i < ps.length → OwnT w B (vs.getD i undef) (rAt ps i)
  ap : ∀ i j, i < ps.length → j < ps.length → i ≠ j → ∀ b, (vs.getD i undef).ownBlock = some b → (vs.getD j undef).ownBlock ≠ some b
section
variable {w w' : World} {B : Nat} {v : Value} {ps : List (List Tk)} {vs : List Value}
theorem OwnR.later (h : OwnR w B v ps vs) (hb : Below w.heap.size w w') : OwnR w' B v ps vs :=
  ⟨h.n, ownsRow_keepR h.row (fun g hg => hb.block g (World.ownsRow.lt h.row g hg).2), fun i hi => (h.own i hi).later hb, h.ap⟩
theorem OwnR.form (h : OwnR w B v ps vs) : ∃ a c, v = .slice a ps.length c := by
  obtain ⟨h1, ⟨rfl, h2⟩ | ⟨g, cap, cur, e, r⟩⟩ := h.row
  · exact ⟨none, 0, by rw [h2]⟩
  · exact ⟨some ⟨g, 0, none⟩, cap, e⟩
theorem OwnR.rd {a : Option Addr} {n c : Nat} (h : OwnR w B (.slice a n c) ps vs) : RdR true w a ps := by
  by_cases h0 : ps = []
  · exact .inl h0
  · right
    have hp : 0 < ps.length := List.length_pos_iff.2 h0
    have hrow := h.row
    obtain ⟨h1, ⟨e, h2⟩ | ⟨g, cap, cur, e, hg, hh, r⟩⟩ := id h.row
    · omega
    · cases e
      refine ⟨g, 0, rfl, (Array.getElem?_eq_some_iff.1 hh).1, fun i hi => ?_⟩
      obtain ⟨b, cp, e1, e2⟩ := (h.own i hi).rd
      refine ⟨b, cp, ?_, e2, fun _ => by
        rcases (h.own i hi).form with ⟨e3, e4⟩ | ⟨g', cap', e3, _, _, e5, _⟩
        · rw [e1] at e3
          injection e3 with q1 q2 q3
          exact ⟨by rw [e4]; exact Nat.zero_le _, .inl ⟨q1, q3, e4⟩⟩
        · rw [e1] at e3
          injection e3 with q1 q2 q3
          exact ⟨by rw [q3]; exact e5, .inr ⟨_, _, q1⟩⟩⟩
      rw [Nat.zero_add, World.ownsRow.cellAt hrow i (by omega), ← e1, List.getD_eq_getElem?_getD, List.getElem?_eq_getElem (by rw [h.n]; exact hi)]
      rfl
end
theorem infoR : (Try.prog.info? 28).map (fun i => (i.zero, i.size, i.bytes)) = some (some (.slice none 0 0), 1, 24) := by kernel_rfl
/-- So many rows are copied. -/
structure DnR (w wr : World) (g n : Nat) (ps : List (List Tk)) (k : Nat) (vs : List Value) : Prop where
  vl : vs.length = k
  row : wr.ownsRow w.heap.size 28 1 (.slice (some ⟨g, 0, none⟩) n n) n (vs ++ List.replicate (n - k) (.slice none 0 0))
  own : ∀ i, i < k → OwnT wr (g + 1) (vs.getD i undef) (rAt ps i)
  ap : ∀ i j, i < j → j < k → ∀ b, (vs.getD i undef).ownBlock = some b → (vs.getD j undef).ownBlock ≠ some b
  bel : Below w.heap.size w wr
  ge : w.heap.size ≤ g
section
variable {w wr w' : World} {g n : Nat} {ps : List (List Tk)} {k : Nat} {vs : List Value}
theorem DnR.gl (h : DnR w wr g n ps k vs) : g < wr.heap.size := (World.ownsRow.lt h.row g rfl).2
theorem DnR.later (h : DnR w wr g n ps k vs) (hb : Below wr.heap.size wr w') : DnR w w' g n ps k vs :=
  ⟨h.vl, ownsRow_keepR h.row (fun b hg => hb.block b (World.ownsRow.lt h.row b hg).2), fun i hi => (h.own i hi).later hb, h.ap, h.bel.trans (hb.mono h.bel.size), h.ge⟩
theorem DnR.put (h : DnR w wr g n ps k vs) (hk : k < n) (v : Value) (C : Nat) (hv : OwnT wr C v (rAt ps k)) (hC : g < C) (hlt : ∀ i, i < k → ∀ b, (vs.getD i undef).ownBlock = some b → b < C) : DnR w (wr.setCell ⟨g, k, none⟩ v) g n ps (k + 1) (vs ++ [v]) := by
  have hs := (World.ownsRow.stored h.row k v)
  have e : (vs ++ List.replicate (n - k) (Value.slice none 0 0)).set k v = (vs ++ [v]) ++ List.replicate (n - (k + 1)) (Value.slice none 0 0) := by
    rw [List.set_append_right _ _ (by rw [h.vl]; exact Nat.le_refl _), h.vl, Nat.sub_self, show n - k = (n - (k + 1)) + 1 by omega, List.replicate_succ, List.set_cons_zero]
    simp
  rw [e] at hs
  have hg1 : ∀ i, i < k → (vs ++ [v]).getD i undef = vs.getD i undef := fun i hi => by
    rw [List.getD_eq_getElem?_getD, List.getD_eq_getElem?_getD, List.getElem?_append_left (by rw [h.vl]; exact hi)]
  have hg2 : (vs ++ [v]).getD k undef = v := by
    rw [List.getD_eq_getElem?_getD, List.getElem?_append_right (by rw [h.vl]; exact Nat.le_refl _), h.vl, Nat.sub_self]
    rfl
  have kp : ∀ {q : Value} {us : List Tk} {D : Nat}, g < D → OwnT wr D q us → OwnT (wr.setCell ⟨g, k, none⟩ v) D q us := fun {q us D} hD hq => hq.keep fun b hb _ => heap_setCell_other _ _ _ _ (fun e => by have := (hq.lt hb).1; simp at e; omega)
  refine ⟨by rw [List.length_append, h.vl]; rfl, hs.1, fun i hi => ?_, fun i j hij hj b hb => ?_, h.bel.setCell (p := ⟨g, _, none⟩) h.ge _, h.ge⟩
  · by_cases hlt' : i < k
    · rw [hg1 i hlt']
      exact kp (Nat.lt_succ_self g) (h.own i hlt')
    · obtain rfl : i = k := by omega
      rw [hg2]
      exact (kp hC hv).base hC
  · rw [hg1 i (by omega)] at hb
    by_cases hlt' : j < k
    · rw [hg1 j hlt']
      exact h.ap i j hij hlt' b hb
    · obtain rfl : j = k := by omega
      rw [hg2]
      intro e
      have := hlt i hij b hb
      have := (hv.lt e).1
      omega
theorem DnR.done (h : DnR w wr g ps.length ps ps.length vs) : OwnR wr w.heap.size (.slice (some ⟨g, 0, none⟩) ps.length ps.length) ps vs := by
  have hr := h.row
  rw [Nat.sub_self, List.replicate_zero, List.append_nil] at hr
  refine ⟨h.vl, hr, fun i hi => (h.own i hi).base (Nat.le_succ_of_le h.ge), fun i j hi hj hij b hb => ?_⟩
  by_cases hlt : i < j
  · exact h.ap i j hlt hj b hb
  · intro e
    exact h.ap j i (by omega) hi b e hb
end
set_option maxHeartbeats 4000000 in
theorem toRR_any {q : Bool} (a : Option Addr) (cap : Nat) (ps : List (List Tk)) (w : World) (hl : ps.length ≤ 1048576) (hz : ∀ i, i < ps.length → (rAt ps i).length ≤ 1048576) (hr : RdR q w a ps) : Calls Try.prog 11 #[.slice a ps.length cap] w fun e w' => ∃ v vs, e = .returned v ∧ OwnR w' w.heap.size v ps vs ∧ Below w.heap.size w w' := by
  have HZ := hide hz
  have FN := hide (fun (wr : World) (g : Nat) (vs : List Value) (h : DnR w wr g ps.length ps ps.length vs) => h.done)
  clear hz
  obtain ⟨len, hn⟩ : ∃ len, ps.length = len := ⟨_, rfl⟩
  rw [hn] at hl ⊢
  rw [hn] at FN
  obtain ⟨i0, hi, hz0, hz1, hz2⟩ := info_parts infoR
  obtain ⟨w1, hmk, hown, hgr⟩ := run_make_full (P := Try.prog) w w.heap.size 32 28 i0 _ 1 Try.underlying32 hi hz0 hz1 .i64 .i64 len (by rw [hz2]; omega) (by unfold maxLen; omega) (Nat.le_refl _)
  have O0 := hide (show DnR w w1 w.heap.size len ps 0 [] from ⟨rfl, by
    have e : (madeCells (Value.slice none 0 0).cells (len * 1)).toList = List.replicate len (.slice none 0 0) := by
      rw [Nat.mul_one]
      exact toList_madeCells_one _ _
    rw [e] at hown
    exact hown, fun i hi => by omega, fun i j _ hj => by omega, (Below.refl w.heap.size w).grown hgr (Nat.le_refl _) (fun k h => by cases h), Nat.le_refl _⟩)
  clear hown hgr
  go_enter Try.func11, Try.ntmps11
  go_wp2
  clear hmk
  go_loopw [4] (fun i wr => ∃ (k : Nat) (vs : List Value), k ≤ len ∧ i = .int .i64 k ∧ DnR w wr w.heap.size len ps k vs) (fun i _ => len - (intOf i).toNat)
  case atStart => exact ⟨0, [], Nat.zero_le _, rfl, unhide O0⟩
  case round =>
    clear O0
    obtain ⟨k, vs, hk, rfl, hd⟩ := hrel
    by_cases hlt : k < len
    · have hkl : k < ps.length := by omega
      have hb := hd.bel
      rcases hr with h0 | ⟨g, off, rfl, hg, hc⟩
      · rw [h0] at hn; simp at hn; omega
      obtain ⟨b, cp, c0, c1, _⟩ := hc k hkl
      have d0 : wr.cell? ⟨g, off + k, none⟩ = _ := (hb.cell (p := ⟨g, _, none⟩) hg).trans c0
      have HT := hide (toTokS_any b (rAt ps k).length cp (rAt ps k) wr rfl (unhide HZ k hkl) (c1.later hb))
      have PT := hide (fun (w2 : World) (v : Value) (hb2 : Below wr.heap.size wr w2) (hv : OwnT w2 wr.heap.size v (rAt ps k)) => ((hd.later hb2).put hlt v wr.heap.size hv hd.gl (fun i hi b hb => ((hd.own i hi).lt hb).2)))
      have CE := hide (fun (w2 : World) (hb2 : Below wr.heap.size wr w2) => (show w2.cell? ⟨w.heap.size, k, none⟩ = some (.slice none 0 0) ∧ w2.frozen? ⟨w.heap.size, k, none⟩ = false from by
        have h2 := (hd.later hb2).row
        refine ⟨?_, World.ownsRow.frozenAt h2 k⟩
        rw [World.ownsRow.cellAt h2 k (by omega), List.getElem?_append_right (by rw [hd.vl]; exact Nat.le_refl _), hd.vl, Nat.sub_self, List.getElem?_replicate, if_pos (by omega)]))
      clear c0 c1 hc HZ hd hb FN
      go_wp2_with fail
      refine (unhide HT).mono ?_
      rintro e w2 ⟨v, rfl, hv, hb2⟩
      have P2 := hide (unhide PT w2 v hb2 hv)
      obtain ⟨c0, f0⟩ := unhide CE w2 hb2
      obtain ⟨a', cp', rfl, _⟩ := hv.rd
      clear hv hb2 PT CE HT d0
      go_wp2
      go_roundw
      case rel => exact ⟨k + 1, _, by omega, by go_num, unhide P2⟩
      case measure => simp [intOf]; omega
    · obtain rfl : k = len := by omega
      have R1 := hide (unhide FN wr _ vs hd)
      have B1 := hide hd.bel
      clear hd
      go_wp2
      go_ret
      exact ⟨_, vs, rfl, unhide R1, unhide B1⟩
/-- Where the marks of a row begin. -/
def posR (ps : List (List Tk)) (K : Nat) : Nat → Nat
  | 0 => K
  | i + 1 => posR ps K i + 3 * (rAt ps i).length
theorem posR_pos (ps : List (List Tk)) (K : Nat) (hK : 0 < K) : ∀ i, 0 < posR ps K i
  | 0 => hK
  | i + 1 => by
    have := posR_pos ps K hK i
    show 0 < posR ps K i + 3 * (rAt ps i).length
    omega
theorem posR_mono (ps : List (List Tk)) (K : Nat) : ∀ i j, i ≤ j → posR ps K i ≤ posR ps K j := by
  intro i j h
  induction j with
  | zero =>
    obtain rfl : i = 0 := by omega
    exact Nat.le_refl _
  | succ j ih =>
    by_cases e : i = j + 1
    · subst e
      exact Nat.le_refl _
    · have := ih (by omega)
      show posR ps K i ≤ posR ps K j + 3 * (rAt ps j).length
      omega
theorem posR_le (ps : List (List Tk)) (K M : Nat) (h : ∀ i, i < ps.length → (rAt ps i).length ≤ M) : ∀ i, i ≤ ps.length → posR ps K i ≤ K + 3 * M * i
  | 0, _ => Nat.le_refl _
  | i + 1, hi => by
    have h1 := posR_le ps K M h i (by omega)
    have h2 := h i (by omega)
    show posR ps K i + 3 * (rAt ps i).length ≤ K + 3 * M * (i + 1)
    rw [Nat.mul_succ]
    omega
/-- Rows that are marked. -/
def mkR (ps : List (List Tk)) (K : Nat) : List (List Tk) := (List.range ps.length).map fun i => marksK (posR ps K i) (rAt ps i).length
theorem mkR_len (ps : List (List Tk)) (K : Nat) : (mkR ps K).length = ps.length := by simp [mkR]
theorem mkR_at (ps : List (List Tk)) (K i : Nat) (h : i < ps.length) : rAt (mkR ps K) i = marksK (posR ps K i) (rAt ps i).length := by
  unfold mkR
  rw [show ∀ l : List (List Tk), rAt l i = l.getD i [] from fun _ => rfl, List.getD_eq_getElem?_getD, List.getElem?_map, List.getElem?_range h]
  rfl
/-- So many rows are marked. -/
structure MkgR (w wr : World) (B : Nat) (v : Value) (ps : List (List Tk)) (vs : List Value) (K i : Nat) (qs : List (List Tk)) : Prop where
  ql : qs.length = ps.length
  own : OwnR wr B v qs vs
  done : ∀ j, j < i → rAt qs j = marksK (posR ps K j) (rAt ps j).length
  rest : ∀ j, i ≤ j → rAt qs j = rAt ps j
  gr : ∀ b, b < w.heap.size → (∀ j, j < ps.length → (vs.getD j undef).ownBlock ≠ some b) → wr.heap[b]? = w.heap[b]?
  bel : Below B w wr
theorem rAt_set_eq {l : List (List Tk)} {i : Nat} (h : i < l.length) (y : List Tk) : rAt (l.set i y) i = y := by
  unfold rAt
  rw [List.getD_eq_getElem?_getD, List.getElem?_set_self h]
  rfl
theorem rAt_set_ne {l : List (List Tk)} {i j : Nat} (h : i ≠ j) (y : List Tk) : rAt (l.set i y) j = rAt l j := by
  unfold rAt
  rw [List.getD_eq_getElem?_getD, List.getD_eq_getElem?_getD, List.getElem?_set_ne h]
theorem MkgR.step {w wr w' : World} {B : Nat} {v : Value} {ps qs : List (List Tk)} {vs : List Value} {K i : Nat} (h : MkgR w wr B v ps vs K i qs) (hi : i < ps.length) (hB : B ≤ wr.heap.size) (ho : OwnT w' B (vs.getD i undef) (marksK (posR ps K i) (rAt ps i).length)) (hg : wr.grownBy w' (vs.getD i undef).ownBlock) : MkgR w w' B v ps vs K (i + 1) (qs.set i (marksK (posR ps K i) (rAt ps i).length)) := by
  have hq := h.ql
  have e : (qs.set i (marksK (posR ps K i) (rAt ps i).length)).length = qs.length := List.length_set
  refine ⟨by rw [e, hq], ⟨by rw [e]; exact h.own.n, ?_, fun j hj => ?_, fun j k hj hk => h.own.ap j k (by rwa [e] at hj) (by rwa [e] at hk)⟩, fun j hj => ?_, fun j hj => ?_, fun b hb hne => ?_, h.bel.grown hg hB (fun b hb => ((h.own.own i (by omega)).lt hb).1)⟩
  · rw [e]
    refine ownsRow_keepR h.own.row fun b hb => hg.block b (World.ownsRow.lt h.own.row b hb).2 (fun eb => ?_)
    exact own_twoR h.own.row (h.own.own i (by omega)) (by decide) hb eb.symm
  · rw [e] at hj
    by_cases hij : i = j
    · subst hij
      rw [rAt_set_eq (by omega)]
      exact ho
    · rw [rAt_set_ne hij]
      exact (h.own.own j hj).keep fun b hb hl => hg.block b hl (fun eb => h.own.ap i j (by omega) hj hij b eb.symm hb)
  · by_cases hij : i = j
    · subst hij
      rw [rAt_set_eq (by omega)]
    · rw [rAt_set_ne hij]
      exact h.done j (by omega)
  · rw [rAt_set_ne (by omega)]
    exact h.rest j (by omega)
  · exact (hg.block b (Nat.lt_of_lt_of_le hb h.bel.size) (fun eb => hne i hi eb.symm)).trans (h.gr b hb hne)
set_option maxHeartbeats 4000000 in
theorem markRR_any (v : Value) (ps : List (List Tk)) (vs : List Value) (B K : Nat) (w : World) (hK : 0 < K) (hB : B ≤ w.heap.size) (hb : posR ps K ps.length ≤ 70368744177000) (hl : ps.length ≤ 70368744177000) (h : OwnR w B v ps vs) : Calls Try.prog 18 #[v, .int .i64 (K : Nat)] w fun e w' => e = .returned (.int .i64 ((posR ps K ps.length : Nat) : Int)) ∧ ∃ qs, MkgR w w' B v ps vs K ps.length qs := by
  obtain ⟨a, cap, rfl⟩ := h.form
  have M0 := hide (show MkgR w w B (.slice a ps.length cap) ps vs K 0 ps from ⟨rfl, h, fun j hj => by omega, fun j _ => rfl, fun b _ _ => rfl, Below.refl _ _⟩)
  have FM := hide (show ∀ i, i < ps.length → ∃ g, a = some ⟨g, 0, none⟩ from fun i hi => by
    obtain ⟨_, ⟨e, h2⟩ | ⟨g, c, cur, e, r⟩⟩ := h.row
    · omega
    · cases e; exact ⟨g, rfl⟩)
  have PM := hide (posR_mono ps K)
  have PP := hide (posR_pos ps K hK)
  have HN := hide h.n
  clear h
  obtain ⟨n, hn⟩ : ∃ n, ps.length = n := ⟨_, rfl⟩
  rw [hn] at hl hb ⊢
  go_enter Try.func18, Try.ntmps18
  go_wp2
  go_loopw [1, 5] (fun kv iv wr => ∃ i : Nat, i ≤ n ∧ iv = .int .i64 i ∧ kv = .int .i64 ((posR ps K i : Nat) : Int) ∧ ∃ qs, MkgR w wr B (.slice a n cap) ps vs K i qs) (fun _ iv _ => n - (intOf iv).toNat)
  case atStart => exact ⟨0, Nat.zero_le _, rfl, rfl, ps, hn ▸ unhide M0⟩
  case round =>
    clear M0
    obtain ⟨i, hi, rfl, rfl, qs, hM⟩ := hrel
    by_cases hlt : i < n
    · obtain ⟨g, rfl⟩ := unhide FM i (by omega)
      have hil : i < ps.length := by omega
      have hqi : i < qs.length := by rw [hM.ql]; omega
      have hps : posR ps K (i + 1) = posR ps K i + 3 * (rAt ps i).length := rfl
      have hle := unhide PM (i + 1) n (by omega)
      have hoi := hM.own.own i hqi
      rw [hM.rest i (Nat.le_refl _)] at hoi
      have c0 : wr.cell? ⟨g, i, none⟩ = some (vs.getD i undef) := by
        have hr := hM.own.row
        rw [hM.ql, hn] at hr
        rw [World.ownsRow.cellAt hr i (by omega), List.getD_eq_getElem?_getD, List.getElem?_eq_getElem (by rw [unhide HN]; exact hil)]
        rfl
      have MX := hide (markTokS_K (vs.getD i undef) (rAt ps i) B (posR ps K i) wr (unhide PP i) (by omega) hoi)
      have ST := hide (fun w' ho hg => (⟨_, hM.step (w' := w') hil (Nat.le_trans hB hM.bel.size) ho hg⟩ : ∃ qs', MkgR w w' B (.slice (some ⟨g, 0, none⟩) n cap) ps vs K (i + 1) qs'))
      have EP := hide (show ((posR ps K i + 3 * (rAt ps i).length : Nat) : Int) = ((posR ps K (i + 1) : Nat) : Int) by rw [hps])
      rw [unhide EP] at MX
      clear hM hps hle hoi hqi HN PM PP FM
      generalize vs.getD i undef = vi at *
      go_wp2_with fail
      refine (unhide MX).mono ?_
      rintro e w2 ⟨rfl, h1, h2⟩
      have SS := hide (unhide ST w2 h1 h2)
      clear h1 h2 ST MX c0
      go_wp2
      go_roundw
      case rel =>
        obtain ⟨qs', hM'⟩ := unhide SS
        exact ⟨i + 1, by omega, by go_num, rfl, qs', hM'⟩
      case measure => simp [intOf]; omega
    · obtain rfl : i = n := by omega
      have HM := hide hM
      clear hM
      go_wp2
      go_ret
      exact ⟨rfl, qs, unhide HM⟩
set_option maxHeartbeats 4000000 in
theorem heldRR_any {q : Bool} (a : Option Addr) (cap : Nat) (ps qs : List (List Tk)) (K : Nat) (w : World) (hK : 0 < K) (hb : posR ps K ps.length ≤ 70368744177000) (hl : ps.length ≤ 70368744177000) (hq : qs.length = ps.length) (hm : ∀ i, i < ps.length → rAt qs i = marksK (posR ps K i) (rAt ps i).length) (hr : RdR q w a qs) : Calls Try.prog 22 #[.slice a ps.length cap, .int .i64 (K : Nat)] w fun e w' => e = .returned (.int .i64 ((posR ps K ps.length : Nat) : Int)) ∧ Below w.heap.size w w' := by
  have PM := hide (posR_mono ps K)
  have PP := hide (posR_pos ps K hK)
  have HM := hide hm
  clear hm
  obtain ⟨n, hn⟩ : ∃ n, ps.length = n := ⟨_, rfl⟩
  rw [hn] at hl hb hq ⊢
  go_enter Try.func22, Try.ntmps22
  go_wp2
  go_loopw [1, 5] (fun kv iv wr => ∃ i : Nat, i ≤ n ∧ iv = .int .i64 i ∧ kv = .int .i64 ((posR ps K i : Nat) : Int) ∧ Below w.heap.size w wr) (fun _ iv _ => n - (intOf iv).toNat)
  case atStart => exact ⟨0, Nat.zero_le _, rfl, rfl, Below.refl _ _⟩
  case round =>
    obtain ⟨i, hi, rfl, rfl, hbw⟩ := hrel
    by_cases hlt : i < n
    · have hil : i < ps.length := by omega
      rcases hr with h0 | ⟨g, off, rfl, hg, hc⟩
      · rw [h0] at hq; simp at hq; omega
      obtain ⟨b, cp, c0, c1, _⟩ := hc i (by omega)
      rw [unhide HM i hil] at c0 c1
      rw [marksK_len] at c0
      have d0 : wr.cell? ⟨g, off + i, none⟩ = _ := (hbw.cell (p := ⟨g, _, none⟩) hg).trans c0
      have hps : posR ps K (i + 1) = posR ps K i + 3 * (rAt ps i).length := rfl
      have hle := unhide PM (i + 1) n (by omega)
      have HX := hide (heldTokS_K b (rAt ps i).length cp (posR ps K i) wr (unhide PP i) (by omega) (c1.later hbw))
      have EP := hide (show ((posR ps K i + 3 * (rAt ps i).length : Nat) : Int) = ((posR ps K (i + 1) : Nat) : Int) by rw [hps])
      rw [unhide EP] at HX
      have hp : ¬ ((posR ps K (i + 1) : Nat) : Int) < 0 := by omega
      have hp2 : decide (((posR ps K (i + 1) : Nat) : Int) < 0) = false := decide_eq_false hp
      clear c0 c1 hc hps hle HM PM PP EP
      generalize (rAt ps i).length = ll at *
      go_wp2_with fail
      refine (unhide HX).mono ?_
      rintro e w2 ⟨rfl, h1⟩
      have B1 := hide (hbw.trans (h1.mono hbw.size))
      clear h1 HX
      go_wp2
      go_roundw
      case rel => exact ⟨i + 1, by omega, by go_num, rfl, unhide B1⟩
      case measure => simp [intOf]; omega
    · obtain rfl : i = n := by omega
      go_wp2
      go_ret
      exact ⟨rfl, hbw⟩
end Go.Proofs.Ytemglcdglnjakaa
