/- Rows of rows of tokens: read, counted, copied, held against each other; over this seat's translation; conditions stand as hypotheses of each. -/
import Derived.Test.YtemglcdglnjakaaLwB
import Derived.Test.YtemglcdglnjakaaSubT
import Derived.Deep.Slices
namespace Go.Proofs.Ytemglcdglnjakaa
open Go.ChangeShapes Go.WideShapes Go.ChangeAt Go.RowKit
set_option linter.unusedVariables false
set_option maxRecDepth 8000
set_option linter.unusedSimpArgs false

def rAt (ps : List (List Tk)) (i : Nat) : List Tk := ps.getD i []
/-- A row of rows of tokens that can be read. -/
def RdR (q : Bool) (w : World) (a : Option Addr) (ps : List (List Tk)) : Prop := ps = [] ∨ ∃ g off, a = some ⟨g, off, none⟩ ∧ g < w.heap.size ∧ ∀ i, i < ps.length → ∃ b cp, w.cell? ⟨g, off + i, none⟩ = some (.slice b (rAt ps i).length cp) ∧ RdT w b (rAt ps i) ∧ (q = true → (rAt ps i).length ≤ cp ∧ ((b = none ∧ cp = 0 ∧ rAt ps i = []) ∨ ∃ g' o', b = some ⟨g', o', none⟩))
theorem RdR.later {q : Bool} {w w' : World} {a : Option Addr} {ps : List (List Tk)} (h : RdR q w a ps) (hb : Below w.heap.size w w') : RdR q w' a ps := by
  rcases h with h | ⟨g, off, e, hg, h⟩
  · exact .inl h
  · refine .inr ⟨g, off, e, Nat.lt_of_lt_of_le hg hb.size, fun i hi => ?_⟩
    obtain ⟨b, cp, h1, h2, h3⟩ := h i hi
    exact ⟨b, cp, (hb.cell (p := ⟨g, _, none⟩) hg).trans h1, h2.later hb, h3⟩
/-- How much rows hold. -/
def szRw : List (List Tk) → Nat
  | [] => 0
  | t :: r => t.length + szL t + szRw r
theorem szRw_take : ∀ (ps : List (List Tk)) (k : Nat), k < ps.length → szRw (ps.take (k + 1)) = szRw (ps.take k) + ((rAt ps k).length + szL (rAt ps k))
  | [], k, h => by simp at h
  | t :: r, 0, h => by simp [szRw, rAt]
  | t :: r, k + 1, h => by
    have := szRw_take r k (by simpa using h)
    simp only [List.take_succ_cons, szRw, this, rAt, List.getD_cons_succ]
    omega
theorem szRw_le : ∀ (ps : List (List Tk)) (k : Nat), szRw (ps.take k) ≤ szRw ps
  | [], k => by simp [szRw]
  | t :: r, 0 => by simp [szRw]
  | t :: r, k + 1 => by
    have := szRw_le r k
    simp only [List.take_succ_cons, szRw]
    omega
theorem szRw_at (ps : List (List Tk)) (k : Nat) (h : k < ps.length) : (rAt ps k).length + szL (rAt ps k) ≤ szRw ps := by
  have h1 := szRw_take ps k h
  have h2 := szRw_le ps (k + 1)
  omega
structure FtR (ps : List (List Tk)) : Prop where
  len : ps.length ≤ 9223372036854775807
  row : ∀ i, i < ps.length → (rAt ps i).length ≤ 9223372036854775807
  tx : ∀ i, i < ps.length → ∀ j, j < (rAt ps i).length → (tAt (rAt ps i) j).s.size ≤ 9223372036854775807
set_option maxHeartbeats 4000000 in
theorem szRR_any {q : Bool} (a : Option Addr) (cap left : Nat) (ps : List (List Tk)) (w : World) (hL : left ≤ 1048576) (hf : FtR ps) (hr : RdR q w a ps) : Calls Try.prog 7 #[.slice a ps.length cap, .int .i64 (left : Nat)] w fun e w' => ((e = .returned (.int .i64 (-1))) ∨ (ps.length + szRw ps ≤ left ∧ e = .returned (.int .i64 ((left : Int) - ps.length - szRw ps)))) ∧ Below w.heap.size w w' := by
  obtain ⟨len, hl⟩ : ∃ len, ps.length = len := ⟨_, rfl⟩
  have hm := hf.len
  have HF := hide hf
  have FN := hide (show ps.take len = ps by rw [← hl, List.take_length])
  rw [hl] at hm ⊢
  clear hf
  by_cases hbig : (left : Int) - (len : Int) < 0
  · go_enter Try.func7, Try.ntmps7
    go_wp2
    go_ret
    exact ⟨.inl rfl, Below.refl _ _⟩
  · go_enter Try.func7, Try.ntmps7
    go_wp2
    go_loopw [1, 5] (fun lv i wr => ∃ k : Nat, k ≤ len ∧ i = .int .i64 k ∧ len + szRw (ps.take k) ≤ left ∧ lv = .int .i64 ((left : Int) - len - szRw (ps.take k)) ∧ Below w.heap.size w wr) (fun _ i _ => len - (intOf i).toNat)
    case atStart => exact ⟨0, Nat.zero_le _, rfl, by simp [szRw]; omega, by simp [szRw], Below.refl _ _⟩
    case round =>
      obtain ⟨k, hk, rfl, hs, rfl, hb⟩ := hrel
      by_cases hlt : k < len
      · have hkl : k < ps.length := by omega
        rcases hr with h0 | ⟨g, off, rfl, hg, hc⟩
        · rw [h0] at hl; simp at hl; omega
        obtain ⟨b, cp, c0, c1, _⟩ := hc k hkl
        have d0 : wr.cell? ⟨g, off + k, none⟩ = _ := (hb.cell (p := ⟨g, _, none⟩) hg).trans c0
        have EL : ((left - len - szRw (ps.take k) : Nat) : Int) = (left : Int) - len - szRw (ps.take k) := by omega
        have HS := hide (szTokS_L b (rAt ps k).length cp (left - len - szRw (ps.take k)) (rAt ps k) wr (by omega) rfl ((unhide HF).row k hkl) ((unhide HF).tx k hkl) (c1.later hb))
        rw [EL] at HS
        have ST := hide (szRw_take ps k hkl)
        clear c0 c1 hc HF FN EL
        generalize szL (rAt ps k) = z at HS ST
        generalize (rAt ps k).length = ll at *
        go_wp2_with fail
        refine (unhide HS).mono ?_
        rintro e w1 ⟨hc1, hb1⟩
        have B1 := hide (hb.trans (hb1.mono hb.size))
        clear hb1 HS
        rcases hc1 with rfl | ⟨hle, rfl⟩
        · go_wp2
          go_ret
          exact ⟨.inl rfl, unhide B1⟩
        · have hp : ¬ (left : Int) - len - szRw (ps.take k) - ll - z < 0 := by omega
          have hp2 : decide ((left : Int) - len - szRw (ps.take k) - ll - z < 0) = false := decide_eq_false hp
          go_wp2
          go_roundw
          case rel =>
            refine ⟨k + 1, by omega, by go_num, ?_, ?_, unhide B1⟩
            · rw [unhide ST]; omega
            · rw [unhide ST]; congr 1; omega
          case measure => simp [intOf]; omega
      · obtain rfl : k = len := by omega
        rw [unhide FN] at hs
        have E2 := hide (show szRw (ps.take k) = szRw ps by rw [unhide FN])
        go_wp2
        go_ret
        exact ⟨.inr ⟨hs, by rw [← unhide E2]; rfl⟩, hb⟩
set_option maxHeartbeats 4000000 in
theorem eqRR_same {q1 q2 : Bool} (a b : Option Addr) (c1 c2 : Nat) (ps : List (List Tk)) (w : World) (hl : ps.length ≤ 70368744177664) (hz : ∀ i, i < ps.length → (rAt ps i).length ≤ 70368744177664) (h1 : RdR q1 w a ps) (h2 : RdR q2 w b ps) : Calls Try.prog 15 #[.slice a ps.length c1, .slice b ps.length c2] w fun e w' => e = .returned (.bool true) ∧ Below w.heap.size w w' := by
  obtain ⟨len, hn⟩ : ∃ len, ps.length = len := ⟨_, rfl⟩
  have HZ := hide hz
  clear hz
  rw [hn] at hl ⊢
  go_enter Try.func15, Try.ntmps15
  go_wp2
  go_loopw [5] (fun i wr => ∃ (k : Nat) (y : Sub w.heap.size w), k ≤ len ∧ i = .int .i64 k ∧ wr = y.w) (fun i _ => len - (intOf i).toNat)
  case atStart => exact ⟨0, ⟨w, Below.refl _ _⟩, Nat.zero_le _, rfl, rfl⟩
  case round =>
    obtain ⟨k, x, hk, rfl, rfl⟩ := hrel
    by_cases hlt : k < len
    · have hkl : k < ps.length := by omega
      rcases h1 with h0 | ⟨p, po, rfl, hp, hpc⟩
      · rw [h0] at hn; simp at hn; omega
      rcases h2 with h0 | ⟨q, qo, rfl, hq, hqc⟩
      · rw [h0] at hn; simp at hn; omega
      obtain ⟨b1, p1, e0, e1, _⟩ := hpc k hkl
      obtain ⟨b2, p2, g0, g1, _⟩ := hqc k hkl
      have d0 : ∀ y : Sub w.heap.size w, y.w.cell? ⟨p, po + k, none⟩ = _ := fun y => (y.h.cell (p := ⟨p, _, none⟩) hp).trans e0
      have f0 : ∀ y : Sub w.heap.size w, y.w.cell? ⟨q, qo + k, none⟩ = _ := fun y => (y.h.cell (p := ⟨q, _, none⟩) hq).trans g0
      have HE := hide (fun y : Sub w.heap.size w => eqTokS_big b1 b2 (rAt ps k).length p1 p2 (rAt ps k) y.w rfl (unhide HZ k hkl) (e1.later y.h) (g1.later y.h))
      have ne := Sub.ne w.heap.size w
      have HQ := hide (Nat.le_refl w.heap.size)
      clear e0 e1 g0 g1 hpc hqc HZ
      generalize (rAt ps k).length = ll at *
      go_wp2_with fail
      refine wp_region_sub x (by kernel_rfl) (by kernel_rfl) ?_
      repeat (go_big_quiet_step (first | (go_at_call 13; exact Sub.call (unhide HQ) (unhide HE _))))
      refine wpQuiet_nil ?_
      intro y
      go_wp2
      go_roundw
      case rel => exact ⟨k + 1, y, by omega, by go_num, rfl⟩
      case measure => simp [intOf]; omega
    · go_wp2
      go_ret
      exact ⟨rfl, x.h⟩
end Go.Proofs.Ytemglcdglnjakaa
