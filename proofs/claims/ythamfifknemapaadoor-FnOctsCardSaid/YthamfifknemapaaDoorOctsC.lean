/- Contracts of the model's draws of digits, over this seat's translation; conditions stand as hypotheses of each. -/
import Derived.Test.YthamfifknemapaaDoorDraw
import Derived.Test.YthamfifknemapaaDoorLaid5
namespace Go.Proofs.YthamfifknemapaaDoor
open Go.ChangeShapes Go.WideShapes Go.ChangeAt Go.RowKit
set_option linter.unusedVariables false

set_option maxHeartbeats 400000 in
theorem drawOct_any (a : Option Addr) (len cap : Nat) (xs : List UInt8) (w : World) (hl : xs.length = len) (hm : len ≤ 1048576) (hr : Dr.Rd w a xs) :
    Calls Tryd.prog 7 #[.slice a len cap] w fun e w' => ∃ n : Int, e = .returned (.int .i64 n) ∧ Below w.heap.size w w' := by
  go_enter Tryd.func7, Tryd.ntmps7
  go_wp2_with fail
  refine (Dr.new_any a len cap xs w hl hm hr).mono ?_
  rintro e w1 ⟨rfl, hc1, hb1⟩
  go_wp2_with fail
  refine (Dr.num_any _ a len cap xs w1 hc1).mono ?_
  rintro e w2 ⟨n, rfl, hc2, hg2⟩
  have B2 := Dr.below_of_new hb1 hg2
  go_wp2
  go_ret
  exact ⟨n, rfl, B2⟩

/-- The eight texts of the draw. -/
def txts : List ByteArray := [⟨#[]⟩, ⟨#[48, 48]⟩, ⟨#[56]⟩, ⟨#[49, 55, 55, 55, 55, 55]⟩, ⟨#[50, 48, 48, 48, 48, 48]⟩, ⟨#[49, 55, 55, 55, 55, 120]⟩, ⟨#[49, 55, 55, 55, 55, 55, 55]⟩, ⟨#[48, 55]⟩]
theorem txts_size (j : Nat) (h : j < 8) : (txts.getD j ⟨#[]⟩).size ≤ 7 := by
  match j, h with
  | 0, _ => decide
  | 1, _ => decide
  | 2, _ => decide
  | 3, _ => decide
  | 4, _ => decide
  | 5, _ => decide
  | 6, _ => decide
  | 7, _ => decide
theorem txts_cell (w : World) (j : Nat) (h : j < 8) : (w.alloc (.cells (txts.map Value.string).toArray 9)).cell? ⟨w.heap.size, j, none⟩ = some (.string (txts.getD j ⟨#[]⟩)) := by
  rw [World.cell?_alloc_at _ _ _ _ rfl, List.getElem?_toArray, List.getElem?_map]
  have : j < txts.length := h
  rw [List.getElem?_eq_getElem this, List.getD_eq_getElem?_getD, List.getElem?_eq_getElem this]
  rfl

set_option maxHeartbeats 400000 in
theorem str_any (cb : Nat) (a : Option Addr) (len cap : Nat) (xs : List UInt8) (w0 : World) (hc : Dr.Cur w0 cb a len cap xs) :
    Calls Tryd.prog 19 #[.pointer (some ⟨cb, 0, none⟩), .slice (some ⟨w0.heap.size, 0, none⟩) 8 8] (w0.alloc (.cells (txts.map Value.string).toArray 9)) fun e w' => ∃ s : ByteArray, s.size ≤ 7 ∧ e = .returned (.string s) ∧ Dr.Cur w' cb a len cap xs ∧ w0.grownBy w' (some cb) := by
  have hlt := hc.lt
  have HC := hide (hc.later ((Below.refl _ _).alloc (Nat.le_refl _) (.cells (txts.map Value.string).toArray 9)))
  have HT := hide (txts_cell w0)
  have HZ : w0.heap.size < (w0.alloc (.cells (txts.map Value.string).toArray 9)).heap.size := by simp
  have HG := hide (World.grownBy_alloc w0 (.cells (txts.map Value.string).toArray 9) (some cb))
  clear hc
  generalize w0.alloc (.cells (txts.map Value.string).toArray 9) = w at *
  go_enter Tryd.func19, Tryd.ntmps19
  go_wp2_with fail
  refine (Dr.below_any cb a len cap xs 8 w (by omega) (unhide HC)).mono ?_
  rintro e w1 ⟨x, hx0, hx1, rfl, hc1, hg1⟩
  obtain ⟨hx2, hx3⟩ := hx0 (by omega)
  obtain ⟨j, rfl⟩ := Int.eq_ofNat_of_zero_le hx2
  have hj : j < 8 := by omega
  have hcx : w1.cell? ⟨w0.heap.size, j, none⟩ = some (.string (txts.getD j ⟨#[]⟩)) := (World.cell?_of_block (w := w) (hg1.block w0.heap.size HZ (by simp; omega))).trans (unhide HT j hj)
  obtain ⟨s, hs⟩ : ∃ s, txts.getD j ⟨#[]⟩ = s := ⟨_, rfl⟩
  have hsz := txts_size j hj
  rw [hs] at hcx hsz
  clear hx0 hx1 hs HT
  go_wp2
  go_ret
  exact ⟨s, hsz, rfl, hc1, Dr.grownBy_trans (unhide HG) hg1⟩

set_option maxHeartbeats 400000 in
theorem drawParseOct_any (a : Option Addr) (len cap : Nat) (xs : List UInt8) (w : World) (hl : xs.length = len) (hm : len ≤ 1048576) (hr : Dr.Rd w a xs) :
    Calls Tryd.prog 10 #[.slice a len cap] w fun e w' => ∃ s : ByteArray, s.size ≤ 7 ∧ e = .returned (.string s) ∧ Below w.heap.size w w' := by
  go_enter Tryd.func10, Tryd.ntmps10
  go_wp2_with fail
  refine (Dr.new_any a len cap xs w hl hm hr).mono ?_
  rintro e w1 ⟨rfl, hc1, hb1⟩
  go_wp2_with fail
  refine (Dr.num_any _ a len cap xs w1 hc1).mono ?_
  rintro e w2 ⟨n, rfl, hc2, hg2⟩
  have B2 := Dr.below_of_new hb1 hg2
  go_wp2_with fail
  refine (octS_any n w2).mono ?_
  rintro e w3 ⟨rfl, hb3⟩
  have s2 := B2.size
  have B3 : Below w.heap.size w w3 := B2.trans (hb3.mono s2)
  have hc3 := hc2.later hb3
  have hsz : (strOf (octD (n % 65536).toNat)).size ≤ 7 := by
    have h1 := octD_len (n % 65536).toNat 5 (by omega)
    rw [strOf_size]; omega
  generalize strOf (octD (n % 65536).toNat) = s at *
  go_wp2_with fail
  refine (Dr.once_any _ a len cap xs 3 w3 (by omega) hc3).mono ?_
  rintro e w4 ⟨b, rfl, hc4, hg4⟩
  have B4 := Dr.below_of_new B3 hg4
  clear hc1 hc2 hc3 hb1 hg2 hg4 hb3
  cases b
  · go_wp2
    go_ret
    exact ⟨s, hsz, rfl, B4⟩
  · have H := hide (str_any _ a len cap xs w4 hc4)
    clear hc4
    go_wp2_with fail
    refine (unhide H).mono ?_
    rintro e w5 ⟨t, ht, rfl, hc5, hg5⟩
    go_wp2
    go_ret
    exact ⟨t, ht, rfl, Dr.below_of_new B4 hg5⟩
end Go.Proofs.YthamfifknemapaaDoor
