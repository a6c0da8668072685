/- Contracts of the model's draws of numbers and bytes, over this seat's translation; conditions stand as hypotheses of each. -/
import Derived.Test.YtjpbjbnialehbaaDrawC
namespace Go.Proofs.Ytjpbjbnialehbaa
open Go.ChangeShapes Go.WideShapes Go.ChangeAt Go.RowKit
set_option linter.unusedVariables false
set_option maxRecDepth 8000

theorem Cur.code {w : World} {cb : Nat} {a : Option Addr} {len cap : Nat} {xs : List UInt8} (h : Cur w cb a len cap xs) : xs = [] ∨ ∀ ad, a = some ad → ad.block < w.heap.size := by
  rcases h.rd with h0 | ⟨b, off, rfl, hb, _⟩
  · exact .inl h0
  · exact .inr fun ad e => by cases e; exact hb

theorem Cur.past {w w' : World} {cb : Nat} {a : Option Addr} {len cap : Nat} {xs : List UInt8} {row : Option Nat} {B : Nat} (h : Cur w cb a len cap xs) (hg : w.grownBy w' row) (hB : cb < B) (hc : xs = [] ∨ ∀ ad, a = some ad → ad.block < B) (hr : ∀ g, row = some g → B ≤ g) : Cur w' cb a len cap xs := by
  have hlt := h.lt
  have hb : w'.heap[cb]? = w.heap[cb]? := hg.block cb hlt (fun e => by have := hr cb e.symm; omega)
  have hcell : ∀ o, w'.cell? ⟨cb, o, none⟩ = w.cell? ⟨cb, o, none⟩ := fun o => World.cell?_of_block (w := w) hb
  have hfr : ∀ o, w'.frozen? ⟨cb, o, none⟩ = w.frozen? ⟨cb, o, none⟩ := fun o => World.frozen?_of_block (w := w) hb
  refine ⟨(hcell 0).trans h.c0, ?_, ?_, (hfr 1).trans h.f1, (hfr 2).trans h.f2, ?_, h.ln, h.lm, h.ne⟩
  · obtain ⟨i, hi, c1⟩ := h.c1; exact ⟨i, hi, (hcell 1).trans c1⟩
  · obtain ⟨i, c2⟩ := h.c2; exact ⟨i, (hcell 2).trans c2⟩
  · rcases hc with h0 | hc
    · exact .inl h0
    · rcases h.rd with h0 | ⟨b, off, ha, hbl, hcl⟩
      · exact .inl h0
      · refine .inr ⟨b, off, ha, Nat.lt_of_lt_of_le hbl hg.size, fun i hi => ?_⟩
        refine (World.cell?_of_block (w := w) (hg.block b hbl (fun e => ?_))).trans (hcl i hi)
        have h1 := hr b e.symm
        have h2 := hc _ ha
        simp at h2
        omega
theorem Cur.later {w w' : World} {cb : Nat} {a : Option Addr} {len cap : Nat} {xs : List UInt8} (h : Cur w cb a len cap xs) (hb : Below w.heap.size w w') : Cur w' cb a len cap xs :=
  h.past (row := none) (B := w.heap.size) ⟨hb.os, hb.tape, hb.output, hb.size, fun k hk _ => hb.block k hk⟩ h.lt h.code (fun g e => by cases e)
theorem grownBy_below {w w' : World} {r : Option Nat} (hb : Below w.heap.size w w') : w.grownBy w' r := ⟨hb.os, hb.tape, hb.output, hb.size, fun k hk _ => hb.block k hk⟩
theorem grownBy_own {w w1 w2 : World} {r row : Option Nat} (h : w.grownBy w1 r) (k : w1.grownBy w2 row) (hr : ∀ g, row = some g → w.heap.size ≤ g) : w.grownBy w2 r :=
  ⟨k.os.trans h.os, k.tape.trans h.tape, k.output.trans h.output, Nat.le_trans h.size k.size, fun j hj hn => (k.block j (Nat.lt_of_lt_of_le hj h.size) (fun e => by have := hr j e.symm; omega)).trans (h.block j hj hn)⟩

set_option maxHeartbeats 400000 in
theorem below_any (cb : Nat) (a : Option Addr) (len cap : Nat) (xs : List UInt8) (n : Int) (w : World) (h63 : n ≤ 9223372036854775807) (hc : Cur w cb a len cap xs) :
    Calls Try.prog 39 #[.pointer (some ⟨cb, 0, none⟩), .int .i64 n] w fun e w' => ∃ x : Int, (0 < n → 0 ≤ x ∧ x < n) ∧ (n ≤ 0 → x = 0) ∧ e = .returned (.int .i64 x) ∧ Cur w' cb a len cap xs ∧ w.grownBy w' (some cb) := by
  by_cases h0 : n ≤ 0
  · go_enter Try.func39, Try.ntmps39
    go_wp2
    go_ret
    exact ⟨0, fun h => by omega, fun _ => rfl, rfl, hc, World.grownBy.refl _ _⟩
  · by_cases h1 : n ≤ 256
    · have hp : 0 < n := by omega
      go_enter Try.func39, Try.ntmps39
      go_wp2_with fail
      refine (byte_any cb a len cap xs w hc).mono ?_
      rintro e w1 ⟨x, hx0, hx1, rfl, hc1, hg1⟩
      go_wp2
      go_ret
      exact ⟨_, fun _ => ⟨Int.emod_nonneg _ (by omega), Int.emod_lt_of_pos _ hp⟩, fun h => by omega, rfl, hc1, hg1⟩
    · have hp : 0 < n := by omega
      go_enter Try.func39, Try.ntmps39
      go_wp2_with fail
      refine (byte_any cb a len cap xs w hc).mono ?_
      rintro e w1 ⟨x, hx0, hx1, rfl, hc1, hg1⟩
      go_wp2_with fail
      refine (byte_any cb a len cap xs w1 hc1).mono ?_
      rintro e w2 ⟨y, hy0, hy1, rfl, hc2, hg2⟩
      go_wp2_with fail
      refine (byte_any cb a len cap xs w2 hc2).mono ?_
      rintro e w3 ⟨z, hz0, hz1, rfl, hc3, hg3⟩
      go_wp2
      go_ret
      exact ⟨_, fun _ => ⟨Int.emod_nonneg _ (by omega), Int.emod_lt_of_pos _ hp⟩, fun h => by omega, rfl, hc3, grownBy_trans (grownBy_trans hg1 hg2) hg3⟩

set_option maxHeartbeats 400000 in
theorem once_any (cb : Nat) (a : Option Addr) (len cap : Nat) (xs : List UInt8) (n : Int) (w : World) (h63 : n ≤ 9223372036854775807) (hc : Cur w cb a len cap xs) :
    Calls Try.prog 38 #[.pointer (some ⟨cb, 0, none⟩), .int .i64 n] w fun e w' => ∃ b : Bool, e = .returned (.bool b) ∧ Cur w' cb a len cap xs ∧ w.grownBy w' (some cb) := by
  go_enter Try.func38, Try.ntmps38
  go_wp2_with fail
  refine (below_any cb a len cap xs n w h63 hc).mono ?_
  rintro e w1 ⟨x, hx0, hx1, rfl, hc1, hg1⟩
  go_wp2
  go_ret
  exact ⟨_, rfl, hc1, hg1⟩

theorem RdN.past {w w' : World} {a : Option Addr} {ns : List Int} {b : Nat} (h : RdN w a ns) (hb : w.grownBy w' (some b)) (hne : ∀ ad, a = some ad → ad.block ≠ b) : RdN w' a ns := by
  rcases h with h | ⟨c, off, rfl, hlt, hc⟩
  · exact .inl h
  · exact .inr ⟨c, off, rfl, Nat.lt_of_lt_of_le hlt hb.size, fun i hi => (World.cell?_of_block (w := w) (hb.block c hlt (by have := hne _ rfl; simpa using this))).trans (hc i hi)⟩

set_option maxHeartbeats 400000 in
theorem int_any (cb : Nat) (a : Option Addr) (len cap : Nat) (xs : List UInt8) (la : Option Addr) (m lc : Nat) (ns : List Int) (w : World) (hc : Cur w cb a len cap xs) (hn : RdN w la ns) (hne : ∀ ad, la = some ad → ad.block ≠ cb) (hm : ns.length = m) (h0 : 0 < m) (hb : m ≤ 1048576) :
    Calls Try.prog 58 #[.pointer (some ⟨cb, 0, none⟩), .slice la m lc] w fun e w' => ∃ j : Nat, j < m ∧ e = .returned (.int .i64 (nAt ns j)) ∧ Cur w' cb a len cap xs ∧ w.grownBy w' (some cb) := by
  rcases hn with rfl | ⟨b, off, rfl, hlt, hcl⟩
  · simp at hm; omega
  go_enter Try.func58, Try.ntmps58
  go_wp2_with fail
  refine (below_any cb a len cap xs m w (by omega) hc).mono ?_
  rintro e w1 ⟨x, hx0, hx1, rfl, hc1, hg1⟩
  obtain ⟨hx2, hx3⟩ := hx0 (by omega)
  obtain ⟨j, rfl⟩ := Int.eq_ofNat_of_zero_le hx2
  have hj : j < m := by omega
  have hcx : w1.cell? ⟨b, off + j, none⟩ = some (.int .i64 (nAt ns j)) := (World.cell?_of_block (w := w) (hg1.block b hlt (by have := hne _ rfl; simpa using this))).trans (hcl j (by omega))
  clear hx0 hx1 hcl
  go_wp2
  go_ret
  exact ⟨j, hj, rfl, hc1, hg1⟩
end Go.Proofs.Ytjpbjbnialehbaa
