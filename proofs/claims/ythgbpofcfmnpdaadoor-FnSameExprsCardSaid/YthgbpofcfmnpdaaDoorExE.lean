/- How much a term holds, as the laws count it; over this seat's translation; conditions stand as hypotheses of each. -/
import Derived.Test.YthgbpofcfmnpdaaDoorExD
namespace Go.Proofs.YthgbpofcfmnpdaaDoor
open Go.ChangeShapes Go.WideShapes Go.ChangeAt Go.RowKit
set_option linter.unusedVariables false
set_option maxRecDepth 8000

/-- What is left of so much. -/
def lessX (left : Int) (z : Nat) : Int := if left - (z : Int) < 0 then -1 else left - (z : Int)
def SzP (e : Ex) : Prop := ∀ (b : Option Addr) (cap : Nat) (left : Int) (w : World), RdX w 0 e b → Fit e → 0 ≤ left → left ≤ 1048576 → Calls Tryd.prog 28 #[.agg (e.cs b cap), .int .i64 left] w fun r w' => r = .returned (.int .i64 (lessX left e.sz)) ∧ Below w.heap.size w w'
set_option maxHeartbeats 1000000 in
theorem szXS_of (e : Ex) (ih : ∀ i, i < e.l.length → SzP (xAt e.l i)) (b : Option Addr) (cap : Nat) (left : Int) (w : World) (hr : RdX w 0 e b) (hf : Fit e) (h0 : 0 ≤ left) (h1 : left ≤ 1048576) : Calls Tryd.prog 73 #[.slice b e.l.length cap, .int .i64 left] w fun r w' => r = .returned (.int .i64 (lessX left (e.l.length + szX e.l))) ∧ Below w.heap.size w w' := by
  obtain ⟨_, hm, hfi⟩ := (Fit_eq e).1 hf
  rw [RdX_eq] at hr
  generalize e.l = l at *
  clear hf
  obtain ⟨len, hl⟩ : ∃ len, l.length = len := ⟨_, rfl⟩
  rw [hl] at hm ih hfi hr ⊢
  by_cases hbig : left - (len : Int) < 0
  · have E := hide (show lessX left (len + szX l) = -1 by unfold lessX; rw [if_pos (by omega)])
    rw [unhide E]
    go_enter Tryd.func73, Tryd.ntmps73
    go_wp2
    go_ret
    exact ⟨rfl, Below.refl _ _⟩
  · obtain ⟨T, hT⟩ : ∃ T, lessX left (len + szX l) = T := ⟨_, rfl⟩
    have HT := hide hT
    rw [hT]
    clear hT
    go_enter Tryd.func73, Tryd.ntmps73
    go_wp2
    go_loopw [1, 5] (fun lv i wr => ∃ k : Nat, k ≤ len ∧ i = .int .i64 k ∧ 0 ≤ left - (len : Int) - (szX (l.take k) : Int) ∧ lv = .int .i64 (left - len - szX (l.take k)) ∧ Below w.heap.size w wr) (fun _ i _ => len - (intOf i).toNat)
    case atStart => exact ⟨0, Nat.zero_le _, rfl, by simp [szX]; omega, by simp [szX], Below.refl _ _⟩
    case round =>
      obtain ⟨k, hk, rfl, hs, rfl, hb⟩ := hrel
      by_cases hlt : k < len
      · rcases hr with h00 | ⟨b, off, rfl, _, hbl, hc⟩
        · rw [h00] at hl; simp at hl; omega
        obtain ⟨c0, c1, c2, c, cap', c3, c4⟩ := hc k (by omega)
        have d0 : wr.cell? ⟨b, off + k * 4, none⟩ = _ := (hb.cell (p := ⟨b, _, none⟩) hbl).trans c0
        have d1 : wr.cell? ⟨b, off + k * 4 + 1, none⟩ = _ := (hb.cell (p := ⟨b, _, none⟩) hbl).trans c1
        have d2 : wr.cell? ⟨b, off + k * 4 + 2, none⟩ = _ := (hb.cell (p := ⟨b, _, none⟩) hbl).trans c2
        have d3 : wr.cell? ⟨b, off + k * 4 + 3, none⟩ = _ := (hb.cell (p := ⟨b, _, none⟩) hbl).trans c3
        have HS := hide (ih k hlt c cap' (left - len - szX (l.take k)) wr (c4.later hb) (hfi k hlt) hs (by omega))
        have ST := hide (szX_take l k (by omega))
        have SL := hide (szX_le l (k + 1))
        clear c0 c1 c2 c3 c4 hc
        unfold Ex.cs at HS
        generalize hzs : (xAt l k).sz = z at HS ST
        generalize (xAt l k).s = ss at d2 HS
        generalize (xAt l k).k = kk at d0 HS
        generalize (xAt l k).n = nn at d1 HS
        generalize (xAt l k).l.length = ll at d3 HS
        by_cases hneg : left - (len : Int) - (szX (l.take k) : Int) - (z : Int) < 0
        · have E := hide (show T = -1 by rw [← unhide HT]; unfold lessX; rw [if_pos]; have := unhide ST; have := unhide SL; omega)
          have E2 : lessX (left - (len : Int) - (szX (l.take k) : Int)) z = -1 := by unfold lessX; rw [if_pos hneg]
          rw [E2] at HS
          go_wp2_with (go_at_call 28; refine (unhide HS).mono ?_; rintro e w1 ⟨rfl, hb1⟩)
          go_ret
          exact ⟨by rw [unhide E]; rfl, hb.trans (hb1.mono hb.size)⟩
        · have E2 : lessX (left - (len : Int) - (szX (l.take k) : Int)) z = left - (len : Int) - (szX (l.take k) : Int) - (z : Int) := by unfold lessX; rw [if_neg hneg]
          rw [E2] at HS
          go_wp2_with (go_at_call 28; refine (unhide HS).mono ?_; rintro e w1 ⟨rfl, hb1⟩)
          go_roundw
          case rel =>
            refine ⟨k + 1, by omega, by go_num, ?_, ?_, hb.trans (hb1.mono hb.size)⟩
            · rw [unhide ST]; omega
            · rw [unhide ST]; congr 1; omega
          case measure => simp [intOf]; omega
      · obtain rfl : k = len := by omega
        have E := hide (show l.take k = l by rw [← hl, List.take_length])
        rw [unhide E] at hs
        have E2 := hide (show T = left - (k : Int) - (szX (l.take k) : Int) by rw [← unhide HT]; unfold lessX; rw [unhide E, if_neg (by omega)]; omega)
        go_wp2
        go_ret
        exact ⟨by rw [unhide E2]; rfl, hb⟩
set_option maxHeartbeats 1000000 in
theorem szX_any (e : Ex) : SzP e := by
  induction e using Ex.ind with
  | h k n s l ih =>
    intro b cap left w hr hf h0 h1
    have hs := ((Fit_eq _).1 hf).1
    have HZ := hide (fun (w1 : World) (hb : Below w.heap.size w w1) (lv : Int) (h2 : 0 ≤ lv) (h3 : lv ≤ 1048576) => szXS_of ⟨k, n, s, l⟩ (fun i hi => ih _ (xAt_mem hi)) b cap lv w1 (hr.later hb) hf h2 h3)
    have SZ := hide (sz_is ⟨k, n, s, l⟩)
    have e1 : (Ex.mk k n s l).s = s := rfl
    have e2 : (Ex.mk k n s l).l = l := rfl
    rw [e1] at hs
    rw [e1, e2] at SZ
    rw [e2] at HZ
    unfold Ex.cs
    simp only
    rw [unhide SZ]
    clear hr hf ih SZ e1 e2
    generalize hll : l.length = ll at *
    generalize szX l = zz at *
    have hbW : Below w.heap.size w (w.alloc (.cells #[.int .i64 k, .int .i64 n, .string s, .slice b ll cap] 47)) := (Below.refl _ _).alloc (Nat.le_refl _) _
    have HB := hide hbW
    by_cases hneg : left - (s.size : Int) < 0
    · have E := hide (show lessX left (s.size + ll + zz) = -1 by unfold lessX; rw [if_pos (by omega)])
      rw [unhide E]
      clear HZ hbW
      go_enter Tryd.func28, Tryd.ntmps28
      go_wp2
      go_ret
      exact ⟨rfl, unhide HB⟩
    · have HS := hide (unhide HZ _ hbW (left - s.size) (by omega) (by omega))
      by_cases hneg2 : left - (s.size : Int) - ((ll + zz : Nat) : Int) < 0
      · have E := hide (show lessX left (s.size + ll + zz) = -1 by unfold lessX; rw [if_pos (by omega)])
        have E2 : lessX (left - s.size) (ll + zz) = -1 := by unfold lessX; rw [if_pos (by omega)]
        rw [E2] at HS
        rw [unhide E]
        clear HZ hbW
        go_enter Tryd.func28, Tryd.ntmps28
        go_wp2_with (go_at_call 73; refine (unhide HS).mono ?_; rintro e w1 ⟨rfl, hb1⟩)
        go_ret
        exact ⟨rfl, (unhide HB).trans (hb1.mono (unhide HB).size)⟩
      · have E := hide (show lessX left (s.size + ll + zz) = left - (s.size : Int) - ((ll + zz : Nat) : Int) by unfold lessX; rw [if_neg (by omega)]; omega)
        have E2 : lessX (left - s.size) (ll + zz) = left - (s.size : Int) - ((ll + zz : Nat) : Int) := by unfold lessX; rw [if_neg (by omega)]
        rw [E2] at HS
        rw [unhide E]
        have hp : 0 ≤ left - (s.size : Int) - ((ll + zz : Nat) : Int) := by omega
        clear HZ hbW
        generalize left - (s.size : Int) - ((ll + zz : Nat) : Int) = rest at *
        go_enter Tryd.func28, Tryd.ntmps28
        go_wp2_with (go_at_call 73; refine (unhide HS).mono ?_; rintro e w1 ⟨rfl, hb1⟩)
        go_ret
        exact ⟨rfl, (unhide HB).trans (hb1.mono (unhide HB).size)⟩
end Go.Proofs.YthgbpofcfmnpdaaDoor
