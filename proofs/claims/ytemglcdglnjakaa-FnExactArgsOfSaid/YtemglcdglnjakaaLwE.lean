/- Tokens appended to tokens; names replaced (data); Subst by the model; over this seat's translation; conditions stand as hypotheses of each. -/
import Derived.Test.YtemglcdglnjakaaLwD
import Derived.Laws.AppendOwnNone
import Derived.Deep.MidRow
import Derived.OwnWalk
namespace Go.Proofs.Ytemglcdglnjakaa
open Go.ChangeShapes Go.WideShapes Go.ChangeAt Go.RowKit
set_option linter.unusedVariables false
set_option maxRecDepth 8000
set_option linter.unusedSimpArgs false

theorem addr_add (g off j : Nat) : (⟨g, off, none⟩ : Addr).add j = ⟨g, off + j, none⟩ := by
  unfold Addr.add
  by_cases h : j = 0
  · subst h; simp
  · simp [h]
theorem RdT.src {w : World} {g off : Nat} {us : List Tk} (h : RdT w (some ⟨g, off, none⟩) us) : ∀ j u, (cellsT us)[j]? = some u → w.cell? ((⟨g, off, none⟩ : Addr).add j) = some u := by
  intro j u hu
  have hj : j < us.length * 3 := by
    have := (List.getElem?_eq_some_iff.1 hu).1
    rwa [cellsT_len] at this
  rcases h with h | ⟨g', off', e, _, hc⟩
  · subst h; simp at hj
  · cases e
    obtain ⟨c0, c1, c2⟩ := hc (j / 3) (by omega)
    obtain ⟨d0, d1, d2⟩ := cellsT_get us (j / 3) (by omega)
    rw [addr_add]
    have h3 : j % 3 = 0 ∨ j % 3 = 1 ∨ j % 3 = 2 := by omega
    rcases h3 with h3 | h3 | h3
    · have e : j = j / 3 * 3 := by omega
      rw [e] at hu ⊢
      rw [hu] at d0
      rw [d0]
      exact c0
    · have e : j = j / 3 * 3 + 1 := by omega
      rw [e] at hu ⊢
      rw [hu] at d1
      rw [d1, ← Nat.add_assoc]
      exact c1
    · have e : j = j / 3 * 3 + 2 := by omega
      rw [e] at hu ⊢
      rw [hu] at d2
      rw [d2, ← Nat.add_assoc]
      exact c2
section
variable {ops : Array Oper} {rest : List Oper} {o : Oper} {a : Act} {Q : Exit → Act → World → Prop} {w : World} {B : Nat}
/-- Tokens appended to tokens. -/
theorem appTs (hgd : o.guard = none) (s x : Operand) (ho : o.op = .call { callee := .builtin .append, args := #[s, x], argTypes := #[28, 28] }) {v : Value} {ts us : List Tk} (hs : a.eval s = v) (hown : OwnT w B v ts) (b : Option Addr) (c : Nat) (hx : a.eval x = .slice b us.length c) (hr : RdT w b us) (hn : (b = none ∧ c = 0 ∧ us = []) ∨ ∃ g o, b = some ⟨g, o, none⟩) (hl : (ts.length + us.length) * 32 ≤ 140737488355328) (hB : B ≤ w.heap.size)
    (h : ∀ (v' : Value) (w' : World), OwnT w' B v' (ts ++ us) → w.grownBy w' v.ownBlock → wpList Try.prog ops Q rest (a.put o.dst v') w') : wpList Try.prog ops Q (o :: rest) a w := by
  obtain ⟨i0, hi, hz0, hz1, hz2⟩ := info_parts infoT
  rcases hn with ⟨rfl, rfl, rfl⟩ | ⟨g, off, rfl⟩
  · refine wpList_append_own_none hgd s x 28 ho B 45 i0 3 Try.underlying28 hi v ts.length (cellsT ts) hs hown hx ?_
    exact h v w (by rw [List.append_nil]; exact hown) ⟨rfl, rfl, rfl, Nat.le_refl _, fun _ _ _ => rfl⟩
  · refine wpList_append_own w hgd s x 28 ho B 45 i0 (.agg #[.int .i64 0, .int .i64 0, .string ⟨#[]⟩]) 3 32 Try.underlying28 hi hz0 hz1 hz2 rfl (by decide) v ts.length (cellsT ts) hs hown ⟨g, off, none⟩ us.length c (cellsT us) hx (cellsT_len us) hr.src (cellsT_one us) (by unfold maxLen; omega) hl hB ?_
    intro v' w' h1 h2 _
    refine h v' w' ?_ h2
    unfold OwnT
    rw [List.length_append, cellsT_app]
    exact h1
end
/-- What stands in a token's place. -/
def sbT (params : List ByteArray) (args : List (List Tk)) (t : Tk) : List Tk := if t.k = 1 then (if atV params t.s < 0 then [t] else rAt args (atV params t.s).toNat) else [t]
def sbA (params : List ByteArray) (args : List (List Tk)) (ts : List Tk) : List Tk := (ts.map (sbT params args)).flatten
theorem sbA_take (params : List ByteArray) (args : List (List Tk)) (ts : List Tk) (k : Nat) (h : k < ts.length) : sbA params args (ts.take (k + 1)) = sbA params args (ts.take k) ++ sbT params args (tAt ts k) := by
  unfold sbA tAt
  rw [List.take_succ_eq_append_getElem h, List.map_append, List.flatten_append, List.getD_eq_getElem?_getD, List.getElem?_eq_getElem h]
  simp
theorem sbT_len (params : List ByteArray) (args : List (List Tk)) (t : Tk) (M : Nat) (hM : 1 ≤ M) (h : ∀ i, i < args.length → (rAt args i).length ≤ M) : (sbT params args t).length ≤ M := by
  unfold sbT
  split
  · split
    · exact hM
    · by_cases hi : (atV params t.s).toNat < args.length
      · exact h _ hi
      · unfold rAt
        rw [List.getD_eq_getElem?_getD, List.getElem?_eq_none (by omega)]
        exact Nat.zero_le _
  · exact hM
theorem sbA_len (params : List ByteArray) (args : List (List Tk)) (ts : List Tk) (M : Nat) (hM : 1 ≤ M) (h : ∀ i, i < args.length → (rAt args i).length ≤ M) : ∀ k, k ≤ ts.length → (sbA params args (ts.take k)).length ≤ M * k
  | 0, _ => by simp [sbA]
  | k + 1, hk => by
    have h1 := sbA_len params args ts M hM h k (by omega)
    have h2 := sbT_len params args (tAt ts k) M hM h
    rw [sbA_take params args ts k (by omega), List.length_append, Nat.mul_succ]
    omega
set_option maxHeartbeats 400000 in
theorem at_big (L : List ByteArray) (s : ByteArray) (g n cap : Nat) (w : World) (hn : L.length = n) (hm : n ≤ 2000000) (hr : RdS w g L) : Calls Try.prog 24 #[.slice (some ⟨g, 0, none⟩) n cap, .string s] w fun e w' => e = .returned (.int .i64 (atV L s)) ∧ w' = w := by
  obtain ⟨v, hv⟩ : ∃ v, atV L s = v := ⟨_, rfl⟩
  have HIT := hide (fun k (hk : k < n) hm he => (atV_hit (L := L) (s := s) (k := k) (by omega) hm he).symm.trans hv)
  have MISS := hide (fun (h : ∀ k, k < n → eqS (L.getD k E0) s = false) => (atV_no (L := L) (s := s) (hasS_miss (fun k hk => h k (by omega)))).symm.trans hv)
  have RD := hide (fun j (hj : j < n) => hr j (by omega))
  rw [hv]
  clear hv hr
  go_enter Try.func24, Try.ntmps24
  go_wp2
  go_loop [5] (fun i => ∃ k : Nat, i = .int .i64 k ∧ k ≤ n ∧ Hid (∀ j, j < k → eqS (L.getD j E0) s = false)) (fun i => n - (intOf i).toNat)
  case atStart => exact ⟨0, rfl, by omega, fun j hj => by omega⟩
  case round =>
    obtain ⟨k, rfl, hk, hd⟩ := hrel
    by_cases hlt : k < n
    · have hc := unhide RD k hlt
      have H1 := hide (unhide HIT k hlt hd.out)
      have H2 := hide (show eqS (L.getD k E0) s = false → ∀ j, j < k + 1 → eqS (L.getD j E0) s = false from fun h j hj => by
        by_cases e : j = k
        · subst e; exact h
        · exact hd.out j (by omega))
      generalize L.getD k E0 = T at hc H1 H2
      clear hd
      cases hq : (T.toList == s.toList)
      · have E := hide (unhide H2 hq)
        clear H1 H2
        go_wp2
        go_round
        case rel => exact ⟨k + 1, by go_num, by omega, unhide E⟩
        case measure => simp [intOf]; omega
      · have E := hide (unhide H1 hq)
        clear H1 H2
        go_wp2
        go_ret
        exact ⟨by rw [← unhide E]; rfl, rfl⟩
    · have E := hide (unhide MISS (fun j hj => hd.out j (by omega)))
      clear hd
      go_wp2
      go_ret
      exact ⟨by rw [← unhide E]; rfl, rfl⟩
end Go.Proofs.Ytemglcdglnjakaa
