/- ArgsOf by the program; over this seat's translation; conditions stand as hypotheses of each. -/
import Derived.Test.YtemglcdglnjakaaMxC
namespace Go.Proofs.Ytemglcdglnjakaa
open Go.ChangeShapes Go.WideShapes Go.ChangeAt Go.RowKit
set_option linter.unusedVariables false
set_option maxRecDepth 8000
set_option linter.unusedSimpArgs false

/-- Rows, so many of them copied. -/
structure MixA (w wr : World) (ag n cap : Nat) (ps : List (List Tk)) (k : Nat) (vs : List Value) : Prop where
  vl : vs.length = ps.length
  pn : ps.length = n
  row : wr.ownsRow w.heap.size 28 1 (.slice (some ⟨ag, 0, none⟩) n cap) n vs
  own : ∀ i, i < k → OwnT wr w.heap.size (vs.getD i undef) (rAt ps i)
  ap : ∀ i j, i < j → j < k → ∀ b, (vs.getD i undef).ownBlock = some b → (vs.getD j undef).ownBlock ≠ some b
  rd : ∀ i, k ≤ i → i < n → ∃ g o cp, vs.getD i undef = .slice (some ⟨g, o, none⟩) (rAt ps i).length cp ∧ RdT w (some ⟨g, o, none⟩) (rAt ps i)
  bel : Below w.heap.size w wr
section
variable {w wr w' w2 : World} {ag n cap : Nat} {v : Value} {ps : List (List Tk)} {k : Nat} {vs : List Value}
theorem MixA.lt (h : MixA w wr ag n cap ps k vs) : w.heap.size ≤ ag ∧ ag < wr.heap.size := World.ownsRow.lt h.row ag rfl
theorem MixA.later (h : MixA w wr ag n cap ps k vs) (hb : Below wr.heap.size wr w') : MixA w w' ag n cap ps k vs :=
  ⟨h.vl, h.pn, ownsRow_keepR h.row (fun g hg => hb.block g (World.ownsRow.lt h.row g hg).2), fun i hi => (h.own i hi).later hb, h.ap, h.rd, h.bel.trans (hb.mono h.bel.size)⟩
theorem MixA.put (h : MixA w wr ag n cap ps k vs) (hk : k < n) (hb : Below wr.heap.size wr w2) (hv : OwnT w2 wr.heap.size v (rAt ps k)) : MixA w (w2.setCell ⟨ag, k, none⟩ v) ag n cap ps (k + 1) (vs.set k v) := by
  have h2 := h.later hb
  have hs := World.ownsRow.stored h2.row k v
  have lt := h.lt
  have g1 : ∀ i, i ≠ k → (vs.set k v).getD i undef = vs.getD i undef := fun i hi => by
    rw [List.getD_eq_getElem?_getD, List.getD_eq_getElem?_getD, List.getElem?_set_ne (Ne.symm hi)]
  have g2 : (vs.set k v).getD k undef = v := by
    rw [List.getD_eq_getElem?_getD, List.getElem?_set_self (by rw [h.vl, h.pn]; exact hk)]
    rfl
  have kp : ∀ {q : Value} {us : List Tk}, OwnT w2 w.heap.size q us → OwnT (w2.setCell ⟨ag, k, none⟩ v) w.heap.size q us := fun {q us} hq => hq.keep fun b hb' _ => heap_setCell_other _ _ _ _ (fun e => own_twoR h2.row hq (by decide) (show (Value.slice (some ⟨ag, 0, none⟩) n cap).ownBlock = some ag from rfl) (by rw [hb']; simpa using e))
  refine ⟨by rw [List.length_set]; exact h.vl, h.pn, hs.1, fun i hi => ?_, fun i j hij hj b hb' => ?_, fun i hi hin => ?_, h2.bel.setCell (p := ⟨ag, _, none⟩) lt.1 _⟩
  · by_cases e : i = k
    · subst e
      rw [g2]
      exact kp (hv.base h.bel.size)
    · rw [g1 i e]
      exact kp (h2.own i (by omega))
  · rw [g1 i (by omega)] at hb'
    by_cases e : j = k
    · subst e
      rw [g2]
      intro e2
      have a1 := ((h.own i hij).lt hb').2
      have a2 := (hv.lt e2).1
      omega
    · rw [g1 j e]
      exact h.ap i j hij (by omega) b hb'
  · rw [g1 i (by omega)]
    exact h.rd i (by omega) hin
theorem MixA.done (h : MixA w wr ag n cap ps n vs) : OwnR wr w.heap.size (.slice (some ⟨ag, 0, none⟩) n cap) ps vs := by
  obtain rfl := h.pn
  refine ⟨h.vl, h.row, h.own, fun i j hi hj hij b hb => ?_⟩
  by_cases e : i < j
  · exact h.ap i j e hj b hb
  · intro e2
    exact h.ap j i (by omega) hi b e2 hb
end
theorem agS_mem : ∀ (ts one : List Tk) (l : List Tk) (t : Tk), l ∈ agS one ts → t ∈ l → t ∈ one ∨ t ∈ ts
  | [], one, l, t, hl, ht => by
    have hl : l ∈ [one] := hl
    rw [List.mem_singleton.1 hl] at ht
    exact .inl ht
  | u :: r, one, l, t, hl, ht => by
    unfold agS at hl
    split at hl
    · rcases List.mem_cons.1 hl with e | hl
      · exact .inl (e ▸ ht)
      · rcases agS_mem r [] l t hl ht with h | h
        · simp at h
        · exact .inr (List.mem_cons_of_mem _ h)
    · rcases agS_mem r (one ++ [u]) l t hl ht with h | h
      · rcases List.mem_append.1 h with h | h
        · exact .inl h
        · rw [List.mem_singleton.1 h]; exact .inr List.mem_cons_self
      · exact .inr (List.mem_cons_of_mem _ h)
theorem agA_each (ts : List Tk) (M : Nat) (h : ∀ i, i < ts.length → (tAt ts i).s.size ≤ M) : ∀ i, i < (agA ts).length → ∀ j, j < (rAt (agA ts) i).length → (tAt (rAt (agA ts) i) j).s.size ≤ M := by
  intro i hi j hj
  have hm := tAt_mem hj
  generalize tAt (rAt (agA ts) i) j = t at *
  have hl : rAt (agA ts) i ∈ agA ts := by
    unfold rAt
    rw [List.getD_eq_getElem?_getD, List.getElem?_eq_getElem hi]
    exact List.getElem_mem hi
  generalize rAt (agA ts) i = l at *
  unfold agA at hl
  split at hl
  · simp at hl
  · rcases agS_mem ts [] l t hl hm with h1 | h1
    · simp at h1
    · obtain ⟨k, hk, rfl⟩ := mem_tAt h1
      exact h k hk
set_option maxHeartbeats 8000000 in
theorem argI (ts : List Tk) (hz : ∀ i, i < ts.length → (tAt ts i).s.size ≤ 1048576) (la : Option Addr) (lc : Nat) (w : World) (hl : ts.length ≤ 1048576) (hc1 : ts.length ≤ lc) (hc2 : lc ≤ maxLen) (h1 : RdT w la ts) : Calls Try.prog 21 #[.slice la ts.length lc] w fun r w' => ∃ v vs, r = .returned v ∧ OwnR w' w.heap.size v (agA ts) vs ∧ Below w.heap.size w w' := by
  have PT := hide (prtI ts la lc w hl hc1 hc2 h1)
  have HZ := hide (agA_each ts 1048576 hz)
  have hag : (agA ts).length ≤ 1048577 := by
    unfold agA
    split
    · simp
    · have := agS_len ts []
      omega
  have HR := hide (show ∀ i, i < (agA ts).length → (rAt (agA ts) i).length ≤ 1048576 by
    unfold agA
    split
    · intro i hi; simp at hi
    · intro i hi
      exact agS_row ts [] 1048576 (by simp; omega) i hi)
  generalize agA ts = O at *
  clear h1 hz
  go_enter Try.func21, Try.ntmps21
  go_wp2_with fail
  refine (unhide PT).mono ?_
  rintro e w1 ⟨v, vs, rfl, hq⟩
  obtain ⟨ra, rc, rfl⟩ := hq.form
  by_cases h0 : O.length = 0
  · have R0 := hide (show OwnR w1 w.heap.size (.slice ra O.length rc) O vs from ⟨hq.n, hq.row, fun i hi => by omega, fun i j hi => by omega⟩)
    have B0 := hide hq.bel
    clear hq PT HZ HR
    rw [h0] at R0 ⊢
    clear h0
    go_wp2
    go_loopw [10] (fun iv wr => iv = .int .i64 0 ∧ wr = w1) (fun _ _ => 0)
    case atStart => exact ⟨rfl, rfl⟩
    case round =>
      obtain ⟨rfl, rfl⟩ := hrel
      go_wp2
      go_ret
      exact ⟨_, _, rfl, unhide R0, unhide B0⟩
  obtain ⟨n, hn⟩ : ∃ n, O.length = n := ⟨_, rfl⟩
  obtain ⟨ag, rfl⟩ : ∃ ag, ra = some ⟨ag, 0, none⟩ := by
    obtain ⟨_, ⟨e, h2⟩ | ⟨g, c, cur, e, r⟩⟩ := hq.row
    · omega
    · cases e; exact ⟨g, rfl⟩
  have Q0 := hide (show MixA w w1 ag n rc O 0 vs from ⟨hq.n, hn, hn ▸ hq.row, fun i hi => by omega, fun i j _ hj => by omega, fun i _ hi => by
    obtain ⟨g, o, cp, e, r, _⟩ := hq.rd i (by omega)
    exact ⟨g, o, cp, e, r⟩, hq.bel⟩)
  rw [hn]
  clear hq PT h0
  go_wp2
  go_loopw [10] (fun iv wr => ∃ (k : Nat) (vs : List Value), k ≤ n ∧ iv = .int .i64 k ∧ MixA w wr ag n rc O k vs) (fun iv _ => n - (intOf iv).toNat)
  case atStart => exact ⟨0, vs, Nat.zero_le _, rfl, unhide Q0⟩
  case round =>
    clear Q0
    obtain ⟨k, vs, hk, rfl, hm⟩ := hrel
    by_cases hlt : k < n
    · obtain ⟨g, o, cp, e, hr⟩ := hm.rd k (Nat.le_refl _) hlt
      have c0 : wr.cell? ⟨ag, k, none⟩ = some (.slice (some ⟨g, o, none⟩) (rAt O k).length cp) := by
        rw [World.ownsRow.cellAt hm.row k (by omega), ← e, List.getD_eq_getElem?_getD, List.getElem?_eq_getElem (by rw [hm.vl]; omega)]
        rfl
      have hO : k < O.length := by omega
      have CP := hide (copT_any (rAt O k) (some ⟨g, o, none⟩) cp wr (by have := unhide HR k hO; omega) (fun i hi => by have := unhide HZ k hO i hi; omega) (hr.later hm.bel))
      have PT := hide (fun (w2 : World) (v : Value) (hb : Below wr.heap.size wr w2) (hv : OwnT w2 wr.heap.size v (rAt O k)) => hm.put hlt hb hv)
      have CE := hide (fun (w2 : World) (hb : Below wr.heap.size wr w2) => (show w2.cell? ⟨ag, k, none⟩ = some (.slice (some ⟨g, o, none⟩) (rAt O k).length cp) ∧ w2.frozen? ⟨ag, k, none⟩ = false from ⟨(hb.cell (p := ⟨ag, k, none⟩) hm.lt.2).trans c0, World.ownsRow.frozenAt (hm.later hb).row k⟩))
      clear hm hr e
      go_wp2_with fail
      refine (unhide CP).mono ?_
      rintro e w2 ⟨v2, rfl, ho2, hb2⟩
      obtain ⟨a2, c2, rfl, _⟩ := ho2.rd
      have P2 := hide (unhide PT w2 _ hb2 ho2)
      obtain ⟨c3, f3⟩ := unhide CE w2 hb2
      clear ho2 hb2 CE PT CP c0
      go_wp2
      go_roundw
      case rel => exact ⟨k + 1, _, by omega, by go_num, unhide P2⟩
      case measure => simp [intOf]; omega
    · obtain rfl : k = n := by omega
      have D1 := hide hm.done
      have B1 := hide hm.bel
      clear hm
      go_wp2
      go_ret
      exact ⟨_, _, rfl, unhide D1, unhide B1⟩
theorem OwnT.caps {w : World} {B c : Nat} {a : Option Addr} {ts : List Tk} (h : OwnT w B (.slice a ts.length c) ts) : ts.length ≤ c ∧ c ≤ maxLen := by
  rcases h.form with ⟨e, e2⟩ | ⟨g, cap, e, _, _, h1, h2⟩
  · injection e with q1 q2 q3
    rw [e2, q3]
    exact ⟨Nat.le_refl _, Nat.zero_le _⟩
  · injection e with q1 q2 q3
    rw [q3]
    exact ⟨h1, h2⟩
end Go.Proofs.Ytemglcdglnjakaa
