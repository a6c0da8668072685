/- Contracts over this seat's translation, laid together; conditions stand as hypotheses of each. -/
import Derived.Test.YtkolflcjkofleaaDoorTxA
import Derived.Test.YtkolflcjkofleaaDoorTxC

namespace Go.Proofs.YtkolflcjkofleaaDoor
open Go.ChangeShapes Go.WideShapes Go.ChangeAt Go.RowKit
set_option linter.unusedVariables false
set_option maxRecDepth 8000

def EqP (e : Ex) : Prop := ∀ (a b : Option Addr) (c1 c2 : Nat) (w : World), RdX w 0 e a → RdX w 0 e b → e.sz ≤ 1048576 → Calls Tryd.prog 28 #[.agg (e.cs a c1), .agg (e.cs b c2)] w fun r w' => r = .returned (.bool true) ∧ Below w.heap.size w w'
set_option maxHeartbeats 1000000 in
theorem eqXS_of (e : Ex) (ih : ∀ i, i < e.l.length → EqP (xAt e.l i)) (a b : Option Addr) (c1 c2 : Nat) (w : World) (h1 : RdX w 0 e a) (h2 : RdX w 0 e b) (hz : e.sz ≤ 1048576) :
    Calls Tryd.prog 36 #[.slice a e.l.length c1, .slice b e.l.length c2] w fun r w' => r = .returned (.bool true) ∧ Below w.heap.size w w' := by
  have hsz := sz_is e
  rw [RdX_eq] at h1 h2
  have hp : ∀ i, i < e.l.length → (xAt e.l i).sz ≤ 1048576 := fun i hi => by have := sz_part hi; omega
  have hm : e.l.length ≤ 1048576 := by omega
  clear hsz hz
  generalize e.l = l at *
  obtain ⟨len, hl⟩ : ∃ len, l.length = len := ⟨_, rfl⟩
  rw [hl] at hm ih h1 h2 hp ⊢
  go_enter Tryd.func36, Tryd.ntmps36
  go_wp2
  go_loopw [5] (fun i wr => ∃ (k : Nat) (y : Sub w.heap.size w), k ≤ len ∧ i = .int .i64 k ∧ wr = y.w) (fun i _ => len - (intOf i).toNat)
  case atStart => exact ⟨0, ⟨w, Below.refl _ _⟩, Nat.zero_le _, rfl, rfl⟩
  case round =>
    obtain ⟨k, x, hk, rfl, rfl⟩ := hrel
    by_cases hlt : k < len
    · rcases h1 with h0 | ⟨p, po, rfl, _, hp1, hpc⟩
      · rw [h0] at hl; simp at hl; omega
      rcases h2 with h0 | ⟨q, qo, rfl, _, hq1, hqc⟩
      · rw [h0] at hl; simp at hl; omega
      obtain ⟨e0, e1, e2, pc, pp, e3, e4⟩ := hpc k (by omega)
      obtain ⟨g0, g1, g2, qc, qp, g3, g4⟩ := hqc k (by omega)
      have d0 : ∀ y : Sub w.heap.size w, y.w.cell? ⟨p, po + k * 4, none⟩ = _ := fun y => (y.h.cell (p := ⟨p, _, none⟩) hp1).trans e0
      have d1 : ∀ y : Sub w.heap.size w, y.w.cell? ⟨p, po + k * 4 + 1, none⟩ = _ := fun y => (y.h.cell (p := ⟨p, _, none⟩) hp1).trans e1
      have d2 : ∀ y : Sub w.heap.size w, y.w.cell? ⟨p, po + k * 4 + 2, none⟩ = _ := fun y => (y.h.cell (p := ⟨p, _, none⟩) hp1).trans e2
      have d3 : ∀ y : Sub w.heap.size w, y.w.cell? ⟨p, po + k * 4 + 3, none⟩ = _ := fun y => (y.h.cell (p := ⟨p, _, none⟩) hp1).trans e3
      have f0 : ∀ y : Sub w.heap.size w, y.w.cell? ⟨q, qo + k * 4, none⟩ = _ := fun y => (y.h.cell (p := ⟨q, _, none⟩) hq1).trans g0
      have f1 : ∀ y : Sub w.heap.size w, y.w.cell? ⟨q, qo + k * 4 + 1, none⟩ = _ := fun y => (y.h.cell (p := ⟨q, _, none⟩) hq1).trans g1
      have f2 : ∀ y : Sub w.heap.size w, y.w.cell? ⟨q, qo + k * 4 + 2, none⟩ = _ := fun y => (y.h.cell (p := ⟨q, _, none⟩) hq1).trans g2
      have f3 : ∀ y : Sub w.heap.size w, y.w.cell? ⟨q, qo + k * 4 + 3, none⟩ = _ := fun y => (y.h.cell (p := ⟨q, _, none⟩) hq1).trans g3
      have HE := hide (fun y : Sub w.heap.size w => ih k hlt pc qc pp qp y.w (e4.later y.h) (g4.later y.h) (hp k hlt))
      have ne := Sub.ne w.heap.size w
      have HZ := hide (Nat.le_refl w.heap.size)
      clear e0 e1 e2 e3 e4 g0 g1 g2 g3 g4 hpc hqc ih hp
      unfold Ex.cs at HE
      generalize (xAt l k).s = ss at *
      generalize (xAt l k).k = kk at *
      generalize (xAt l k).n = nn at *
      generalize (xAt l k).l.length = ll at *
      go_wp2_with fail
      refine wp_region_sub x (by kernel_rfl) (by kernel_rfl) ?_
      repeat (go_big_quiet_step (first | (go_at_call 28; exact Sub.call (unhide HZ) (unhide HE _))))
      refine wpQuiet_nil ?_
      intro y
      go_wp2
      go_roundw
      case rel => exact ⟨k + 1, y, by omega, by go_num, rfl⟩
      case measure => simp [intOf]; omega
    · go_wp2
      go_ret
      exact ⟨rfl, x.h⟩
set_option maxHeartbeats 1000000 in
theorem eqX_same (e : Ex) : EqP e := by
  induction e using Ex.ind with
  | h k n s l ih =>
    intro a b c1 c2 w h1 h2 hz
    have e2 : (Ex.mk k n s l).l = l := rfl
    have hbW : Below w.heap.size w ((w.alloc (.cells #[.int .i64 k, .int .i64 n, .string s, .slice a l.length c1] 26)).alloc (.cells #[.int .i64 k, .int .i64 n, .string s, .slice b l.length c2] 26)) := ((Below.refl _ _).alloc (Nat.le_refl _) _).alloc (by simp) _
    have HZ := eqXS_of ⟨k, n, s, l⟩ (fun i hi => ih _ (xAt_mem hi)) a b c1 c2 _ (h1.later hbW) (h2.later hbW) hz
    rw [e2] at HZ
    have HS := hide (HZ.mono (R' := fun r w' => r = .returned (.bool true) ∧ Below w.heap.size w w') (by rintro r w' ⟨rfl, h⟩; exact ⟨rfl, hbW.trans (h.mono hbW.size)⟩))
    unfold Ex.cs
    simp only
    clear h1 h2 hz ih HZ hbW e2
    generalize l.length = ll at *
    go_enter Tryd.func28, Tryd.ntmps28
    go_wp2_with (go_at_call 36; refine (unhide HS).mono ?_; rintro e w1 ⟨rfl, hb1⟩)
    go_ret
    exact ⟨rfl, hb1⟩
end Go.Proofs.YtkolflcjkofleaaDoor
