/- Lists of tokens, counted and held against each other, however long; over this seat's translation; conditions stand as hypotheses of each. -/
import Derived.Test.YtemglcdglnjakaaLwA
namespace Go.Proofs.Ytemglcdglnjakaa
open Go.ChangeShapes Go.WideShapes Go.ChangeAt Go.RowKit
set_option linter.unusedVariables false
set_option maxRecDepth 8000

set_option maxHeartbeats 1000000 in
theorem szTokS_L (a : Option Addr) (len cap left : Nat) (ts : List Tk) (w : World) (hL : left ≤ 1048576) (hl : ts.length = len) (hm : len ≤ 9223372036854775807) (hz : ∀ i, i < len → (tAt ts i).s.size ≤ 9223372036854775807) (hr : RdT w a ts) : Calls Try.prog 5 #[.slice a len cap, .int .i64 (left : Nat)] w fun e w' => ((e = .returned (.int .i64 (-1))) ∨ (len + szL ts ≤ left ∧ e = .returned (.int .i64 ((left : Int) - len - szL ts)))) ∧ Below w.heap.size w w' := by
  by_cases hbig : (left : Int) - (len : Int) < 0
  · go_enter Try.func5, Try.ntmps5
    go_wp2
    go_ret
    exact ⟨.inl rfl, Below.refl _ _⟩
  · go_enter Try.func5, Try.ntmps5
    go_wp2
    go_loopw [1, 5] (fun lv i wr => ∃ k : Nat, k ≤ len ∧ i = .int .i64 k ∧ len + szL (ts.take k) ≤ left ∧ lv = .int .i64 ((left : Int) - len - szL (ts.take k)) ∧ Below w.heap.size w wr) (fun _ i _ => len - (intOf i).toNat)
    case atStart => exact ⟨0, Nat.zero_le _, rfl, by simp [szL]; omega, by simp [szL], Below.refl _ _⟩
    case round =>
      obtain ⟨k, hk, rfl, hs, rfl, hb⟩ := hrel
      by_cases hlt : k < len
      · rcases hr with h0 | ⟨b, off, rfl, hbl, hc⟩
        · rw [h0] at hl; simp at hl; omega
        obtain ⟨c0, c1, c2⟩ := hc k (by omega)
        have d0 : wr.cell? ⟨b, off + k * 3, none⟩ = _ := (hb.cell (p := ⟨b, _, none⟩) hbl).trans c0
        have d1 : wr.cell? ⟨b, off + k * 3 + 1, none⟩ = _ := (hb.cell (p := ⟨b, _, none⟩) hbl).trans c1
        have d2 : wr.cell? ⟨b, off + k * 3 + 2, none⟩ = _ := (hb.cell (p := ⟨b, _, none⟩) hbl).trans c2
        have HS := hide (szTok_any (tAt ts k) ((left : Int) - len - szL (ts.take k)) wr (hz k hlt) (by omega) (by omega))
        have ST := hide (szL_take ts k (by omega))
        clear c0 c1 c2 hc
        unfold Tk.v Tk.cs at HS
        generalize hzs : (tAt ts k).s.size = z at HS ST
        generalize (tAt ts k).s = ss at d2 HS
        generalize (tAt ts k).k = kk at d0 HS
        generalize (tAt ts k).n = nn at d1 HS
        by_cases hneg : (left : Int) - (len : Int) - (szL (ts.take k) : Int) - (z : Int) < 0
        · rw [if_pos hneg] at HS
          go_wp2_with (go_at_call 23; refine (unhide HS).mono ?_; rintro e w1 ⟨rfl, hb1⟩)
          go_ret
          exact ⟨.inl rfl, hb.trans (hb1.mono hb.size)⟩
        · rw [if_neg hneg] at HS
          go_wp2_with (go_at_call 23; refine (unhide HS).mono ?_; rintro e w1 ⟨rfl, hb1⟩)
          go_roundw
          case rel =>
            refine ⟨k + 1, by omega, by go_num, ?_, ?_, hb.trans (hb1.mono hb.size)⟩
            · rw [unhide ST]; omega
            · rw [unhide ST]; congr 1; omega
          case measure => simp [intOf]; omega
      · obtain rfl : k = len := by omega
        have E := hide (show ts.take k = ts by rw [← hl, List.take_length])
        rw [unhide E] at hs
        have E2 := hide (show szL (ts.take k) = szL ts by rw [unhide E])
        go_wp2
        go_ret
        exact ⟨.inr ⟨hs, by rw [← unhide E2]; rfl⟩, hb⟩
set_option maxHeartbeats 1000000 in
theorem eqTokS_big (a b : Option Addr) (len c1 c2 : Nat) (ts : List Tk) (w : World) (hl : ts.length = len) (hm : len ≤ 70368744177664) (h1 : RdT w a ts) (h2 : RdT w b ts) :
    Calls Try.prog 13 #[.slice a len c1, .slice b len c2] w fun e w' => e = .returned (.bool true) ∧ Below w.heap.size w w' := by
  go_enter Try.func13, Try.ntmps13
  go_wp2
  go_loopw [5] (fun i wr => ∃ (k : Nat) (y : Sub w.heap.size w), k ≤ len ∧ i = .int .i64 k ∧ wr = y.w) (fun i _ => len - (intOf i).toNat)
  case atStart => exact ⟨0, ⟨w, Below.refl _ _⟩, Nat.zero_le _, rfl, rfl⟩
  case round =>
    obtain ⟨k, x, hk, rfl, rfl⟩ := hrel
    by_cases hlt : k < len
    · rcases h1 with h0 | ⟨p, po, rfl, hp, hpc⟩
      · rw [h0] at hl; simp at hl; omega
      rcases h2 with h0 | ⟨q, qo, rfl, hq, hqc⟩
      · rw [h0] at hl; simp at hl; omega
      obtain ⟨e0, e1, e2⟩ := hpc k (by omega)
      obtain ⟨g0, g1, g2⟩ := hqc k (by omega)
      have d0 : ∀ y : Sub w.heap.size w, y.w.cell? ⟨p, po + k * 3, none⟩ = _ := fun y => (y.h.cell (p := ⟨p, _, none⟩) hp).trans e0
      have d1 : ∀ y : Sub w.heap.size w, y.w.cell? ⟨p, po + k * 3 + 1, none⟩ = _ := fun y => (y.h.cell (p := ⟨p, _, none⟩) hp).trans e1
      have d2 : ∀ y : Sub w.heap.size w, y.w.cell? ⟨p, po + k * 3 + 2, none⟩ = _ := fun y => (y.h.cell (p := ⟨p, _, none⟩) hp).trans e2
      have f0 : ∀ y : Sub w.heap.size w, y.w.cell? ⟨q, qo + k * 3, none⟩ = _ := fun y => (y.h.cell (p := ⟨q, _, none⟩) hq).trans g0
      have f1 : ∀ y : Sub w.heap.size w, y.w.cell? ⟨q, qo + k * 3 + 1, none⟩ = _ := fun y => (y.h.cell (p := ⟨q, _, none⟩) hq).trans g1
      have f2 : ∀ y : Sub w.heap.size w, y.w.cell? ⟨q, qo + k * 3 + 2, none⟩ = _ := fun y => (y.h.cell (p := ⟨q, _, none⟩) hq).trans g2
      have HE := hide (fun w => eqTok_same (tAt ts k) w)
      have ne := Sub.ne w.heap.size w
      have HZ := hide (Nat.le_refl w.heap.size)
      unfold Tk.v Tk.cs at HE
      generalize (tAt ts k).s = ss at *
      generalize (tAt ts k).k = kk at *
      generalize (tAt ts k).n = nn at *
      clear e0 e1 e2 g0 g1 g2 hpc hqc
      go_wp2_with fail
      refine wp_region_sub x (by kernel_rfl) (by kernel_rfl) ?_
      repeat (go_big_quiet_step (first | (go_at_call 28; exact Sub.call (unhide HZ) (unhide HE _))))
      refine wpQuiet_nil ?_
      intro y
      go_wp2
      go_roundw
      case rel => exact ⟨k + 1, y, by omega, by go_num, rfl⟩
      case measure => simp [intOf]; omega
    · go_wp2
      go_ret
      exact ⟨rfl, x.h⟩
end Go.Proofs.Ytemglcdglnjakaa
