/- The laws' marks in a list of texts; over this seat's translation; conditions stand as hypotheses of each. -/
import Derived.Test.YtemglcdglnjakaaStT
import Derived.Test.YtemglcdglnjakaaLiC
namespace Go.Proofs.Ytemglcdglnjakaa
open Go.ChangeShapes Go.WideShapes Go.ChangeAt Go.RowKit
set_option linter.unusedVariables false
set_option maxRecDepth 8000
set_option linter.unusedSimpArgs false

theorem ownsRow_keepS {w w' : World} {B g n cap m : Nat} {t : TypeId} {cs : List Value} (h : w.ownsRow B t m (.slice (some ⟨g, 0, none⟩) n cap) n cs) (hk : w'.heap[g]? = w.heap[g]?) : w'.ownsRow B t m (.slice (some ⟨g, 0, none⟩) n cap) n cs := by
  obtain ⟨h1, ⟨e, _⟩ | ⟨g', cap', cur, e, hg, hh, r⟩⟩ := h
  · cases e
  · cases e
    exact ⟨h1, .inr ⟨g, cap, cur, rfl, hg, hk.trans hh, r⟩⟩
theorem grownBy_belowS {w w' : World} (row : Option Nat) (hb : Below w.heap.size w w') : w.grownBy w' row := ⟨hb.os, hb.tape, hb.output, hb.size, fun k hk _ => hb.block k hk⟩
set_option maxHeartbeats 2000000 in
theorem markStrS_any (b len cap k0 : Nat) (cs : List Value) (B : Nat) (w : World) (hk0 : 0 < k0) (hk : k0 + len ≤ 16777216) (hown : w.ownsRow B 9 1 (.slice (some ⟨b, 0, none⟩) len cap) len cs) :
    Calls Try.prog 17 #[.slice (some ⟨b, 0, none⟩) len cap, .int .i64 k0] w fun e w' => e = .returned (.int .i64 ((k0 + len : Nat) : Int)) ∧ w.grownBy w' (some b) := by
  go_enter Try.func17, Try.ntmps17
  go_wp2
  go_loopw [1, 5] (fun kk i wr => ∃ (k : Nat) (cs : List Value), k ≤ len ∧ i = .int .i64 k ∧ kk = .int .i64 ((k0 + k : Nat) : Int) ∧ wr.ownsRow B 9 1 (.slice (some ⟨b, 0, none⟩) len cap) len cs ∧ w.grownBy wr (some b)) (fun _ i _ => len - (intOf i).toNat)
  case atStart => exact ⟨0, cs, Nat.zero_le _, rfl, rfl, hown, World.grownBy.refl _ _⟩
  case round =>
    clear hown cs
    obtain ⟨k, cs, hkl, rfl, rfl, hown, hg⟩ := hrel
    by_cases hlt : k < len
    · have MT := hide (fun wr => markTx_any (k0 + k) (by omega) (by omega) wr)
      have OW := hide hown
      have G0 := hide hg
      have hbl := hide (show b < wr.heap.size from (World.ownsRow.lt hown b rfl).2)
      have EQ := hide (show ((k0 + k : Nat) : Int) + 1 = ((k0 + (k + 1) : Nat) : Int) by omega)
      have bA : 0 ≤ ((k0 + k : Nat) : Int) ∧ ((k0 + k : Nat) : Int) ≤ 16777216 := by omega
      clear hown hg
      generalize mkTx (k0 + k) = T at *
      generalize hA : ((k0 + k : Nat) : Int) = A at *
      go_wp2_with fail
      refine (unhide MT wr).mono ?_
      rintro r w1 ⟨rfl, hb1⟩
      have hown1 := ownsRow_keepS (unhide OW) (hb1.block b (unhide hbl))
      have G1 := hide (grownBy_trans (unhide G0) (grownBy_belowS (some b) hb1))
      have hfz := hown1.frozenAt k
      obtain ⟨u, hcx⟩ : ∃ u, w1.cell? ⟨b, k, none⟩ = some u := by
        rw [hown1.cellAt k (by omega)]
        exact ⟨_, List.getElem?_eq_getElem (by have := hown1.1; omega)⟩
      have st := hown1.stored k (.string T)
      have st1 := hide st.1
      have st2 := hide (grownBy_trans (unhide G1) st.2)
      clear hown1 st hb1 OW G0 G1 MT hbl
      go_wp2
      go_roundw
      case rel => exact ⟨k + 1, _, by omega, by go_num, by rw [← unhide EQ], unhide st1, unhide st2⟩
      case measure => simp [intOf]; omega
    · obtain rfl : k = len := by omega
      go_wp2
      go_ret
      exact ⟨rfl, hg⟩
end Go.Proofs.Ytemglcdglnjakaa
