/- Contracts of the model's cursor over the bytes of a draw, over this seat's translation; conditions stand as hypotheses of each. -/
import Derived.Test.YtjpbjbnialehbaaPutT
namespace Go.Proofs.Ytjpbjbnialehbaa
open Go.ChangeShapes Go.WideShapes Go.ChangeAt Go.RowKit
set_option linter.unusedVariables false
set_option maxRecDepth 8000

/-- A cursor in block cb over a slice of bytes that reads as xs. -/
structure Cur (w : World) (cb : Nat) (a : Option Addr) (len cap : Nat) (xs : List UInt8) : Prop where
  c0 : w.cell? ⟨cb, 0, none⟩ = some (.slice a len cap)
  c1 : ∃ i : Nat, i ≤ len ∧ w.cell? ⟨cb, 1, none⟩ = some (.int .i64 i)
  c2 : ∃ h : Int, w.cell? ⟨cb, 2, none⟩ = some (.int .i64 h)
  f1 : w.frozen? ⟨cb, 1, none⟩ = false
  f2 : w.frozen? ⟨cb, 2, none⟩ = false
  rd : Rd w a xs
  ln : xs.length = len
  lm : len ≤ 9223372036854775806
  ne : xs = [] ∨ ∀ ad, a = some ad → ad.block ≠ cb

theorem Cur.lt {w : World} {cb : Nat} {a : Option Addr} {len cap : Nat} {xs : List UInt8} (h : Cur w cb a len cap xs) : cb < w.heap.size := World.block_lt_of_cell? w _ h.c0

theorem grownBy_set {w : World} {b o : Nat} (v : Value) : w.grownBy (w.setCell ⟨b, o, none⟩ v) (some b) :=
  ⟨rfl, rfl, rfl, by simp, fun k _ hk => Below.heap_setCell w ⟨b, o, none⟩ v k (fun e => hk (by simp [e]))⟩
theorem grownBy_drewN {w : World} (n : Nat) (r : Option Nat) : w.grownBy (w.drewN n) r := ⟨rfl, rfl, rfl, Nat.le_refl _, fun _ _ _ => rfl⟩

theorem Rd.past' {w w' : World} {a : Option Addr} {xs : List UInt8} {b : Nat} (h : Rd w a xs) (hb : w.grownBy w' (some b)) (hne : xs = [] ∨ ∀ ad, a = some ad → ad.block ≠ b) : Rd w' a xs := by
  rcases hne with h0 | hne
  · exact .inl h0
  · exact h.past hb hne
theorem Cur.draw {w : World} {cb : Nat} {a : Option Addr} {len cap : Nat} {xs : List UInt8} (h : Cur w cb a len cap xs) (n : Nat) : Cur (w.drewN n) cb a len cap xs :=
  ⟨h.c0, h.c1, h.c2, h.f1, h.f2, h.rd.later ⟨rfl, rfl, rfl, Nat.le_refl _, fun _ _ => rfl⟩, h.ln, h.lm, h.ne⟩
theorem Cur.set2 {w : World} {cb : Nat} {a : Option Addr} {len cap : Nat} {xs : List UInt8} (h : Cur w cb a len cap xs) (H : Int) : Cur (w.setCell ⟨cb, 2, none⟩ (.int .i64 H)) cb a len cap xs := by
  have hg : w.grownBy (w.setCell ⟨cb, 2, none⟩ (.int .i64 H)) (some cb) := grownBy_set _
  obtain ⟨c0, ⟨i, hi, c1⟩, ⟨h, c2⟩, f1, f2, rd, ln, lm, ne⟩ := h
  have rd' := rd.past' hg ne
  clear hg rd
  refine ⟨?_, ⟨i, hi, ?_⟩, ⟨H, ?_⟩, ?_, ?_, rd', ln, lm, ne⟩ <;> clear ne rd' <;> go_simp
theorem Cur.set1 {w : World} {cb : Nat} {a : Option Addr} {len cap : Nat} {xs : List UInt8} (h : Cur w cb a len cap xs) (j : Nat) (hj : j ≤ len) (v : Int) (hv : v = (j : Int)) : Cur (w.setCell ⟨cb, 1, none⟩ (.int .i64 v)) cb a len cap xs := by
  subst hv
  have hg : w.grownBy (w.setCell ⟨cb, 1, none⟩ (.int .i64 j)) (some cb) := grownBy_set _
  obtain ⟨c0, ⟨i, hi, c1⟩, ⟨h, c2⟩, f1, f2, rd, ln, lm, ne⟩ := h
  have rd' := rd.past' hg ne
  clear hg rd
  refine ⟨?_, ⟨j, hj, ?_⟩, ⟨h, ?_⟩, ?_, ?_, rd', ln, lm, ne⟩ <;> clear ne rd' <;> go_simp

set_option maxHeartbeats 800000 in
theorem byte_any (cb : Nat) (a : Option Addr) (len cap : Nat) (xs : List UInt8) (w : World) (hc : Cur w cb a len cap xs) :
    Calls Try.prog 59 #[.pointer (some ⟨cb, 0, none⟩)] w fun e w' => ∃ x : Int, 0 ≤ x ∧ x ≤ 255 ∧ e = .returned (.int .i64 x) ∧ Cur w' cb a len cap xs ∧ w.grownBy w' (some cb) := by
  have hcur := hide hc
  obtain ⟨c0, ⟨i, hi, c1⟩, ⟨h, c2⟩, f1, f2, rd, ln, lm, ne⟩ := hc
  by_cases hlt : i < len
  · rcases rd with rfl | ⟨b, off, rfl, hb, hcell⟩
    · simp at ln; omega
    have hne : b ≠ cb := by
      rcases ne with h0 | ne
      · rw [h0] at ln; simp at ln; omega
      · exact ne _ rfl
    have hil : (i : Int) < (len : Int) := by omega
    have hcx : ∀ v : Value, (w.setCell ⟨cb, 2, none⟩ v).cell? ⟨b, off + i, none⟩ = some (.int .u8 (bAt xs i)) := fun v => by
      rw [World.cell?_of_block (w := w) (Below.heap_setCell w _ v b hne)]; exact hcell i (by omega)
    have hbd := bAt_bd xs i
    have ne' := hide ne
    have hcell' := hide hcell
    clear ne hcell
    go_enter Try.func59, Try.ntmps59
    go_wp2
    generalize wrap64 (wrap64 (h * 6364136223846793005) + 1442695040888963407) = H
    go_quiet (fail)
    go_wp2
    go_quiet (fail)
    go_wp2
    go_quiet (fail)
    go_wp2
    go_ret
    refine ⟨_, ?_, ?_, rfl, ?_, ?_⟩
    · rw [i64_and255]; omega
    · rw [i64_and255]; omega
    · exact (((unhide hcur).set2 H).draw _).set1 (i + 1) hlt _ (by omega)
    · exact grownBy_trans (grownBy_trans (grownBy_set _) (grownBy_drewN _ _)) (grownBy_set _)
  · have hil : ¬ (i : Int) < (len : Int) := by omega
    have ne' := hide ne
    clear ne
    go_enter Try.func59, Try.ntmps59
    go_wp2
    generalize wrap64 (wrap64 (h * 6364136223846793005) + 1442695040888963407) = H
    go_quiet (fail)
    go_wp2
    go_quiet (fail)
    go_wp2
    go_ret
    refine ⟨_, ?_, ?_, rfl, ?_, ?_⟩
    · rw [i64_and255]; omega
    · rw [i64_and255]; omega
    · exact (((unhide hcur).set2 H).draw _).draw _
    · exact grownBy_trans (grownBy_trans (grownBy_set _) (grownBy_drewN _ _)) (grownBy_drewN _ _)
end Go.Proofs.Ytjpbjbnialehbaa
