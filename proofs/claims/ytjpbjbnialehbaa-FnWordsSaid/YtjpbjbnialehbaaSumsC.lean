/- What a sum of bytes does when one byte turns, and contracts of the laws' small helpers, over this seat's translation; conditions stand as hypotheses of each. -/
import Derived.Test.YtjpbjbnialehbaaDrawF
import Derived.Deep.RegionWith
namespace Go.Proofs.Ytjpbjbnialehbaa
open Go.ChangeShapes Go.WideShapes Go.ChangeAt Go.RowKit
set_option linter.unusedVariables false
set_option maxRecDepth 8000

theorem xor_u8 (x y : Int) (hx0 : 0 ≤ x) (hx1 : x ≤ 255) (hy0 : 0 < y) (hy1 : y ≤ 255) : 0 ≤ bits .xor .u8 x y ∧ bits .xor .u8 x y ≤ 255 ∧ bits .xor .u8 x y ≠ x := by
  have hlt := (BitVec.ofInt 8 x ^^^ BitVec.ofInt 8 y).isLt
  have e : bits .xor .u8 x y = ((BitVec.ofInt 8 x ^^^ BitVec.ofInt 8 y).toNat : Int) := by
    show IntKind.u8.wrap ((BitVec.ofInt 8 x ^^^ BitVec.ofInt 8 y).toNat : Nat) = _
    rw [IntKind.wrap_u8]; omega
  rw [e]
  refine ⟨by omega, by omega, fun h => ?_⟩
  have hx : (BitVec.ofInt 8 x).toNat = x.toNat := by rw [BitVec.toNat_ofInt]; omega
  have hy : (BitVec.ofInt 8 y).toNat = y.toNat := by rw [BitVec.toNat_ofInt]; omega
  have h2 : BitVec.ofInt 8 x ^^^ BitVec.ofInt 8 y = BitVec.ofInt 8 x := by
    apply BitVec.eq_of_toNat_eq
    rw [hx]; omega
  have h3 : BitVec.ofInt 8 y = 0#8 := by
    have : BitVec.ofInt 8 x ^^^ (BitVec.ofInt 8 x ^^^ BitVec.ofInt 8 y) = BitVec.ofInt 8 x ^^^ BitVec.ofInt 8 x := by rw [h2]
    rw [← BitVec.xor_assoc, BitVec.xor_self, BitVec.zero_xor] at this
    exact this
  rw [h3] at hy
  simp at hy
  omega

theorem bAt_set (zs : List UInt8) (k i : Nat) (z : UInt8) (h : k < zs.length) : bAt (zs.set k z) i = if i = k then (z.toNat : Int) else bAt zs i := by
  unfold bAt
  rw [List.getD_eq_getElem?_getD, List.getD_eq_getElem?_getD, List.getElem?_set]
  by_cases e : k = i
  · subst e; simp [h]
  · simp [e, Ne.symm e]

theorem tot_set (zs : List UInt8) (k : Nat) (z : UInt8) (h : k < zs.length) (n : Nat) : tot (zs.set k z) n = tot zs n + if k < n then (z.toNat : Int) - bAt zs k else 0 := by
  induction n with
  | zero => simp [tot]
  | succ n ih =>
    simp only [tot, ih, bAt_set zs k n z h]
    by_cases e : n = k
    · subst e; simp; omega
    · by_cases e2 : k < n
      · simp [e, e2, show k < n + 1 by omega]; omega
      · simp [e, e2, show ¬ k < n + 1 by omega]

theorem negTot_turns (zs : List UInt8) (k : Nat) (z : UInt8) (h : k < zs.length) (hz : (z.toNat : Int) ≠ bAt zs k) : negTot zs zs.length ≠ negTot (zs.set k z) zs.length := by
  unfold negTot
  rw [tot_set zs k z h]
  have := bAt_bd zs k
  have := z.toNat_lt
  rw [if_pos h]
  omega

theorem cellsB_set (zs : List UInt8) (k : Nat) (x : Int) (h0 : 0 ≤ x) (h1 : x ≤ 255) : (cellsB zs).set k (.int .u8 x) = cellsB (zs.set k (UInt8.ofNat x.toNat)) := by
  have : ((UInt8.ofNat x.toNat).toNat : Int) = x := by simp; omega
  simp only [cellsB, List.map_set, this]

theorem big_any (a : Option Addr) (len cap : Nat) (w : World) (hm : len ≤ 9223372036854775807) : Calls Try.prog 7 #[.slice a len cap] w fun e w' => e = .returned (.bool (decide ((1048576 : Int) < (len : Int)))) ∧ w' = w := by
  go_enter Try.func7, Try.ntmps7
  go_wp2
  go_ret
  exact ⟨rfl, rfl⟩

end Go.Proofs.Ytjpbjbnialehbaa
