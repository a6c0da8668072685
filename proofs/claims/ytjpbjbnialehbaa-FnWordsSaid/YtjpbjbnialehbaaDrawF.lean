/- Contracts of the model's draws of chapter 1, over this seat's translation; conditions stand as hypotheses of each. -/
import Derived.Test.YtjpbjbnialehbaaDrawE
namespace Go.Proofs.Ytjpbjbnialehbaa
open Go.ChangeShapes Go.WideShapes Go.ChangeAt Go.RowKit
set_option linter.unusedVariables false
set_option maxRecDepth 8000

theorem RdN_lit (w : World) (ns : List Int) : RdN (w.alloc (.cells (ns.map (Value.int .i64)).toArray 3)) (some ⟨w.heap.size, 0, none⟩) ns := by
  refine .inr ⟨w.heap.size, 0, rfl, by simp, fun i hi => ?_⟩
  rw [World.cell?_alloc_at _ _ _ _ rfl]
  simp [nAt, hi]

set_option maxHeartbeats 400000 in
theorem some_any (cb : Nat) (a : Option Addr) (len cap : Nat) (xs : List UInt8) (w : World) (hc : Cur w cb a len cap xs) :
    Calls Try.prog 35 #[.pointer (some ⟨cb, 0, none⟩)] w fun e w' => ∃ v ys, e = .returned v ∧ v ≠ .slice none 0 0 ∧ ys.length ≤ 9 ∧ OwnB w' w.heap.size v ys ∧ Cur w' cb a len cap xs ∧ w.grownBy w' (some cb) := by
  have hlt := hc.lt
  have HN := hide (RdN_lit w [0, 1, 2, 5, 9])
  have HC := hide (hc.later ((Below.refl _ _).alloc (Nat.le_refl _) (.cells ([0, 1, 2, 5, 9].map (Value.int .i64)).toArray 3)))
  clear hc
  go_enter Try.func35, Try.ntmps35
  go_wp2_with fail
  refine (int_any cb a len cap xs (some ⟨w.heap.size, 0, none⟩) 5 5 [0, 1, 2, 5, 9] _ (unhide HC) (unhide HN) (fun ad e => by cases e; exact fun h => by simp at h; omega) rfl (by omega) (by omega)).mono ?_
  rintro e w1 ⟨j, hj, rfl, hc1, hg1⟩
  obtain ⟨n, hn, hn9⟩ : ∃ n : Nat, nAt [0, 1, 2, 5, 9] j = (n : Int) ∧ n ≤ 9 := by
    match j, hj with
    | 0, _ => exact ⟨0, rfl, by omega⟩
    | 1, _ => exact ⟨1, rfl, by omega⟩
    | 2, _ => exact ⟨2, rfl, by omega⟩
    | 3, _ => exact ⟨5, rfl, by omega⟩
    | 4, _ => exact ⟨9, rfl, by omega⟩
  rw [hn]
  clear hn
  have g1 : w.grownBy w1 (some cb) := grownBy_trans (World.grownBy_alloc w _ (some cb)) hg1
  have hs1 := g1.size
  clear hg1 HC HN
  go_wp2_with fail
  refine (bytes_any cb a len cap xs n w1 (by omega) hc1).mono ?_
  rintro e w2 ⟨v, ys, rfl, hnn, hyl, hown, hc2, hg2⟩
  go_wp2
  go_ret
  exact ⟨v, ys, rfl, hnn, by omega, ownsRow_base hown hs1, hc2, grownBy_trans g1 hg2⟩

set_option maxHeartbeats 400000 in
theorem num_any (cb : Nat) (a : Option Addr) (len cap : Nat) (xs : List UInt8) (w : World) (hc : Cur w cb a len cap xs) :
    Calls Try.prog 36 #[.pointer (some ⟨cb, 0, none⟩)] w fun e w' => ∃ n : Int, e = .returned (.int .i64 n) ∧ Cur w' cb a len cap xs ∧ w.grownBy w' (some cb) := by
  have hlt := hc.lt
  go_enter Try.func36, Try.ntmps36
  go_wp2_with fail
  refine (below_any cb a len cap xs 65536 w (by omega) hc).mono ?_
  rintro e w1 ⟨x, hx0, hx1, rfl, hc1, hg1⟩
  have hs1 := hg1.size
  clear hx0 hx1 hc
  go_wp2_with fail
  refine (int_any cb a len cap xs (some ⟨w1.heap.size, 0, none⟩) 17 17 [0, 1, 2, -1, 7, 8, 255, 256, 32767, 32768, 65535, 65536, -32768, -65537, 9223372036854775807, -9223372036854775808, x] _ (hc1.later ((Below.refl _ _).alloc (Nat.le_refl _) _)) (RdN_lit w1 _) (fun ad e => by cases e; exact fun h => by simp at h; omega) rfl (by omega) (by omega)).mono ?_
  rintro e w2 ⟨j, hj, rfl, hc2, hg2⟩
  go_wp2
  go_ret
  exact ⟨_, rfl, hc2, grownBy_trans hg1 (grownBy_trans (World.grownBy_alloc w1 _ (some cb)) hg2)⟩

theorem below_of_new {w w1 w2 : World} (h : Below w.heap.size w w1) (g : w1.grownBy w2 (some w.heap.size)) : Below w.heap.size w w2 := h.grown g h.size (fun k e => by cases e; exact Nat.le_refl _)

set_option maxHeartbeats 400000 in
theorem drawPutW_any (a : Option Addr) (len cap : Nat) (xs : List UInt8) (w : World) (hl : xs.length = len) (hm : len ≤ 1048576) (hr : Rd w a xs) :
    Calls Try.prog 8 #[.slice a len cap] w fun e w' => ∃ v ys n, e = .returned (.tuple #[v, .int .i64 n]) ∧ v ≠ .slice none 0 0 ∧ ys.length ≤ 9 ∧ OwnB w' w.heap.size v ys ∧ Below w.heap.size w w' := by
  go_enter Try.func8, Try.ntmps8
  go_wp2_with fail
  refine (new_any a len cap xs w hl hm hr).mono ?_
  rintro e w1 ⟨rfl, hc1, hb1⟩
  go_wp2_with fail
  refine (some_any _ a len cap xs w1 hc1).mono ?_
  rintro e w2 ⟨v, ys, rfl, hnn, hyl, own2, hc2, hg2⟩
  go_wp2_with fail
  refine (num_any _ a len cap xs w2 hc2).mono ?_
  rintro e w3 ⟨n, rfl, hc3, hg3⟩
  have hlt := hc1.lt
  have own3 : OwnB w3 w.heap.size v ys := (ownsRow_base (own2.past hg3 (fun e => by have := (OwnB.lt own2 e).1; omega)) (by omega))
  have B3 := below_of_new hb1 (grownBy_trans hg2 hg3)
  go_wp2
  go_ret2
  exact ⟨v, ys, n, rfl, hnn, hyl, own3, B3⟩

end Go.Proofs.Ytjpbjbnialehbaa
