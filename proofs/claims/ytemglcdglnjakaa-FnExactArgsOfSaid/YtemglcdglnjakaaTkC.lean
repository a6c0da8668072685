/- Kept words, by the model and by the program's own tables; over this seat's translation; conditions stand as hypotheses of each. -/
import Derived.Test.YtemglcdglnjakaaTkB
import Derived.LaidLaws
import Derived.Lib.LaidTab
import Derived.Laws.Rows
namespace Go.Proofs.Ytemglcdglnjakaa
open Go.ChangeShapes Go.WideShapes Go.ChangeAt Go.RowKit
set_option linter.unusedVariables false
set_option maxRecDepth 8000

theorem wpList_index_at {P : Program} {ops : Array Oper} {rest : List Oper} {o : Oper} {a : Act} {w : World} {Q : Exit → Act → World → Prop} (hgd : o.guard = none) (xt : TypeId) (x ix : Operand) (ho : o.op = .index xt x ix) (cs : Array Value) (i : Int) (v : Value)
    (hx : a.eval x = .agg cs) (hi : a.eval ix = .int .i64 i) (hr : ∀ w, (Instr.index xt (.agg cs) (.int .i64 i)).run P w = .ok v w) (h : wpList P ops Q rest (a.put o.dst v) w) : wpList P ops Q (o :: rest) a w :=
  wpList_plain hgd fun _ hK => by
    unfold Oper.wp execOp
    simp only [ho, hx, hi, hr, Sem.run_bind, Sem.run_pure, Result.andThen_ok]
    exact hK _ _ h

def eqS (a b : ByteArray) : Bool := a.toList == b.toList
theorem eqS_iff (a b : ByteArray) : eqS a b = true ↔ a = b := by
  unfold eqS
  rw [ByteArray.toList_eq, ByteArray.toList_eq]
  exact ⟨fun h => bytes_inj (eq_of_beq h), fun h => by rw [h]; exact beq_self_eq_true _⟩
def E0 : ByteArray := ⟨#[]⟩
/-- Is a text among these? -/
def hasS (L : List ByteArray) (s : ByteArray) : Bool := L.any (fun t => eqS t s)
theorem hasS_hit {L : List ByteArray} {s : ByteArray} {k : Nat} (h : k < L.length) (he : eqS (L.getD k E0) s = true) : hasS L s = true := by
  unfold hasS
  rw [List.any_eq_true]
  refine ⟨L[k], List.getElem_mem _, ?_⟩
  rw [List.getD_eq_getElem?_getD, List.getElem?_eq_getElem h] at he
  exact he
theorem hasS_miss {L : List ByteArray} {s : ByteArray} (h : ∀ k, k < L.length → eqS (L.getD k E0) s = false) : hasS L s = false := by
  unfold hasS
  rw [List.any_eq_false]
  intro t ht
  obtain ⟨k, hk, rfl⟩ := List.getElem_of_mem ht
  have := h k hk
  rw [List.getD_eq_getElem?_getD, List.getElem?_eq_getElem hk] at this
  simp only [Option.getD_some] at this
  rw [this]
  decide
theorem hasS_iff {L : List ByteArray} {s : ByteArray} : hasS L s = true ↔ s ∈ L := by
  unfold hasS
  rw [List.any_eq_true]
  constructor
  · rintro ⟨t, ht, he⟩
    rw [eqS_iff] at he
    exact he ▸ ht
  · exact fun h => ⟨s, h, (eqS_iff _ _).2 rfl⟩

def wOp : List ByteArray := [⟨#[109, 111, 118]⟩, ⟨#[99, 109, 112]⟩, ⟨#[98, 105, 99]⟩, ⟨#[98, 105, 115]⟩, ⟨#[97, 100, 100]⟩, ⟨#[115, 117, 98]⟩, ⟨#[99, 108, 114]⟩, ⟨#[105, 110, 99]⟩, ⟨#[100, 101, 99]⟩, ⟨#[110, 101, 103]⟩, ⟨#[116, 115, 116]⟩, ⟨#[97, 115, 114]⟩, ⟨#[97, 115, 108]⟩, ⟨#[106, 109, 112]⟩, ⟨#[106, 115, 114]⟩, ⟨#[114, 116, 115]⟩, ⟨#[98, 114]⟩, ⟨#[98, 110, 101]⟩, ⟨#[98, 101, 113]⟩, ⟨#[98, 103, 101]⟩, ⟨#[98, 108, 116]⟩, ⟨#[104, 97, 108, 116]⟩, ⟨#[101, 109, 116]⟩]
def wRg : List ByteArray := [⟨#[114, 48]⟩, ⟨#[114, 49]⟩, ⟨#[114, 50]⟩, ⟨#[114, 51]⟩, ⟨#[114, 52]⟩, ⟨#[114, 53]⟩, ⟨#[115, 112]⟩, ⟨#[112, 99]⟩]
def opL : List ByteArray := E0 :: wOp
def keptL : List ByteArray := wOp ++ wRg
/-- Is a text a kept word? -/
def keptB (s : ByteArray) : Bool := hasS keptL s
theorem keptB_op {s : ByteArray} (h0 : s.size ≠ 0) {k : Nat} (hk : k < 24) (he : eqS (opL.getD k E0) s = true) : keptB s = true := by
  have h1 : s ∈ opL := hasS_iff.1 (hasS_hit (L := opL) hk he)
  unfold keptB
  rw [hasS_iff]
  unfold opL at h1
  rcases List.mem_cons.1 h1 with e | h
  · rw [e] at h0; exact absurd rfl h0
  · exact List.mem_append_left _ h
theorem keptB_rg {s : ByteArray} {k : Nat} (hk : k < 8) (he : eqS (wRg.getD k E0) s = true) : keptB s = true := by
  have h1 : s ∈ wRg := hasS_iff.1 (hasS_hit (L := wRg) hk he)
  unfold keptB
  rw [hasS_iff]
  exact List.mem_append_right _ h1
theorem keptB_no {s : ByteArray} (h1 : ∀ k, k < 24 → eqS (opL.getD k E0) s = false) (h2 : ∀ k, k < 8 → eqS (wRg.getD k E0) s = false) : keptB s = false := by
  cases h : keptB s
  · rfl
  · unfold keptB at h
    rw [hasS_iff] at h
    rcases List.mem_append.1 h with h | h
    · have e := hasS_iff.2 (List.mem_cons_of_mem E0 h)
      rw [hasS_miss (L := E0 :: wOp) h1] at e
      cases e
    · have e := hasS_iff.2 h
      rw [hasS_miss (L := wRg) h2] at e
      cases e
theorem keptB_empty : keptB ⟨#[]⟩ = false := by decide +kernel

/-- Where a text stands among these, or -1. -/
def atV (L : List ByteArray) (s : ByteArray) : Int := if hasS L s = true then ((L.findIdx (fun t => eqS t s) : Nat) : Int) else -1
theorem atV_yes {L : List ByteArray} {s : ByteArray} (h : hasS L s = true) : 0 ≤ atV L s := by unfold atV; rw [if_pos h]; omega
theorem atV_no {L : List ByteArray} {s : ByteArray} (h : hasS L s = false) : atV L s = -1 := by unfold atV; rw [h]; rfl
theorem atV_hit {L : List ByteArray} {s : ByteArray} {k : Nat} (hk : k < L.length) (hm : ∀ j, j < k → eqS (L.getD j E0) s = false) (he : eqS (L.getD k E0) s = true) : atV L s = k := by
  unfold atV
  rw [if_pos (hasS_hit hk he)]
  have : L.findIdx (fun t => eqS t s) = k := by
    rw [List.findIdx_eq hk]
    refine ⟨?_, fun j hj => ?_⟩
    · rw [List.getD_eq_getElem?_getD, List.getElem?_eq_getElem hk] at he
      exact he
    · have := hm j hj
      rw [List.getD_eq_getElem?_getD, List.getElem?_eq_getElem (by omega)] at this
      exact this
  rw [this]
/-- A row of texts. -/
def RdS (w : World) (g : Nat) (L : List ByteArray) : Prop := ∀ j, j < L.length → w.cell? ⟨g, j, none⟩ = some (.string (L.getD j E0))

set_option maxHeartbeats 400000 in
theorem at_any (L : List ByteArray) (s : ByteArray) (g n cap : Nat) (w : World) (hn : L.length = n) (hm : n ≤ 1000000) (hr : RdS w g L) : Calls Try.prog 24 #[.slice (some ⟨g, 0, none⟩) n cap, .string s] w fun e w' => e = .returned (.int .i64 (atV L s)) ∧ w' = w := by
  obtain ⟨v, hv⟩ : ∃ v, atV L s = v := ⟨_, rfl⟩
  have HIT := hide (fun k (hk : k < n) hm he => (atV_hit (L := L) (s := s) (k := k) (by omega) hm he).symm.trans hv)
  have MISS := hide (fun (h : ∀ k, k < n → eqS (L.getD k E0) s = false) => (atV_no (L := L) (s := s) (hasS_miss (fun k hk => h k (by omega)))).symm.trans hv)
  have RD := hide (fun j (hj : j < n) => hr j (by omega))
  rw [hv]
  clear hv hr
  go_enter Try.func24, Try.ntmps24
  go_wp2
  go_loop [5] (fun i => ∃ k : Nat, i = .int .i64 k ∧ k ≤ n ∧ Hid (∀ j, j < k → eqS (L.getD j E0) s = false)) (fun i => n - (intOf i).toNat)
  case atStart => exact ⟨0, rfl, by omega, fun j hj => by omega⟩
  case round =>
    obtain ⟨k, rfl, hk, hd⟩ := hrel
    by_cases hlt : k < n
    · have hc := unhide RD k hlt
      have H1 := hide (unhide HIT k hlt hd.out)
      have H2 := hide (show eqS (L.getD k E0) s = false → ∀ j, j < k + 1 → eqS (L.getD j E0) s = false from fun h j hj => by
        by_cases e : j = k
        · subst e; exact h
        · exact hd.out j (by omega))
      generalize L.getD k E0 = T at hc H1 H2
      clear hd
      cases hq : (T.toList == s.toList)
      · have E := hide (unhide H2 hq)
        clear H1 H2
        go_wp2
        go_round
        case rel => exact ⟨k + 1, by go_num, by omega, unhide E⟩
        case measure => simp [intOf]; omega
      · have E := hide (unhide H1 hq)
        clear H1 H2
        go_wp2
        go_ret
        exact ⟨by rw [← unhide E]; rfl, rfl⟩
    · have E := hide (unhide MISS (fun j hj => hd.out j (by omega)))
      clear hd
      go_wp2
      go_ret
      exact ⟨by rw [← unhide E]; rfl, rfl⟩
end Go.Proofs.Ytemglcdglnjakaa
