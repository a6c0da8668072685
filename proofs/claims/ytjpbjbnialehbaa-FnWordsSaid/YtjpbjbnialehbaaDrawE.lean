/- Contracts of the model's new cursor and of its draws of bytes and numbers, over this seat's translation; conditions stand as hypotheses of each. -/
import Derived.Test.YtjpbjbnialehbaaDrawD
namespace Go.Proofs.Ytjpbjbnialehbaa
open Go.ChangeShapes Go.WideShapes Go.ChangeAt Go.RowKit
set_option linter.unusedVariables false

theorem i64_and30 (n : Int) : bits .and .i64 n 1073741823 = n % 1073741824 := by
  have h127 : (BitVec.ofInt 64 1073741823).toNat = 2 ^ 30 - 1 := by decide
  have key : (BitVec.ofInt 64 n &&& BitVec.ofInt 64 1073741823).toNat = (n % ((2 ^ 64 : Nat) : Int)).toNat % 2 ^ 30 := by
    rw [BitVec.toNat_and, BitVec.toNat_ofInt, h127, Nat.and_two_pow_sub_one_eq_mod]
  show IntKind.i64.wrap ((BitVec.ofInt 64 n &&& BitVec.ofInt 64 1073741823).toNat : Nat) = n % 1073741824
  rw [key, IntKind.wrap_i64]
  omega

theorem cur_new (w : World) (a : Option Addr) (len cap : Nat) (xs : List UInt8) (h : Int) (hl : xs.length = len) (hm : len ≤ 1048576) (hr : Rd w a xs) :
    Cur (w.alloc (.cells #[.slice a len cap, .int .i64 0, .int .i64 h] 82)) w.heap.size a len cap xs := by
  have hr' := hr.alloc (.cells #[.slice a len cap, .int .i64 0, .int .i64 h] 82)
  have hne : xs = [] ∨ ∀ ad, a = some ad → ad.block ≠ w.heap.size := by
    rcases hr with h0 | ⟨b, off, rfl, hb, _⟩
    · exact .inl h0
    · exact .inr fun ad e => by cases e; exact Nat.ne_of_lt hb
  clear hr
  refine ⟨?_, ⟨0, Nat.zero_le _, ?_⟩, ⟨h, ?_⟩, ?_, ?_, hr', hl, by omega, hne⟩ <;> clear hr' hne <;> go_simp

set_option maxRecDepth 100000 in
set_option maxHeartbeats 400000 in
theorem new_any (a : Option Addr) (len cap : Nat) (xs : List UInt8) (w : World) (hl : xs.length = len) (hm : len ≤ 1048576) (hr : Rd w a xs) :
    Calls Try.prog 34 #[.slice a len cap] w fun e w' => e = .returned (.pointer (some ⟨w.heap.size, 0, none⟩)) ∧ Cur w' w.heap.size a len cap xs ∧ Below w.heap.size w w' := by
  go_enter Try.func34, Try.ntmps34
  go_wp2
  go_loop [3, 4] (fun n i => ∃ (k : Nat) (h : Int), k ≤ len ∧ 0 ≤ h ∧ h ≤ 1073741823 ∧ i = .int .i64 k ∧ n = .int .i64 h) (fun _ i => len - (intOf i).toNat)
  case atStart => exact ⟨0, _, Nat.zero_le _, by omega, by omega, rfl, rfl⟩
  case round =>
    obtain ⟨k, h, hk, hh0, hh1, rfl, rfl⟩ := hrel
    by_cases hlt : k < len
    · by_cases h4 : k < 4000
      · have hr0 := hr
        rcases hr with rfl | ⟨b, off, rfl, hb, hc⟩
        · simp at hl; omega
        have hcx := hc k (by omega)
        have hbd := bAt_bd xs k
        clear hc hr0
        go_wp2
        go_round
        case rel => exact ⟨k + 1, _, by omega, by rw [i64_and30]; omega, by rw [i64_and30]; omega, by go_num, rfl⟩
        case measure => simp [intOf]; omega
      · go_wp2
        go_ret
        exact ⟨rfl, cur_new w a len cap xs h hl hm hr, (Below.refl _ _).alloc (Nat.le_refl _) _⟩
    · go_wp2
      go_ret
      exact ⟨rfl, cur_new w a len cap xs h hl hm hr, (Below.refl _ _).alloc (Nat.le_refl _) _⟩

theorem one_new (w : World) (x : Int) (h0 : 0 ≤ x) (h1 : x ≤ 255) : ∀ j u, (cellsB [UInt8.ofNat x.toNat])[j]? = some u → (w.alloc (Obj.cells #[.int .u8 x] 5)).cell? ((⟨w.heap.size, 0, none⟩ : Addr).add j) = some u := by
  have e : cellsB [UInt8.ofNat x.toNat] = [.int .u8 x] := by
    have : ((UInt8.ofNat x.toNat).toNat : Int) = x := by simp; omega
    simp only [cellsB, List.map_cons, List.map_nil, this]
  rw [e]
  exact cell_one_new w _ 5

set_option maxHeartbeats 800000 in
theorem bytes_any (cb : Nat) (a : Option Addr) (len cap : Nat) (xs : List UInt8) (n : Nat) (w : World) (hn : n ≤ 1048576) (hc : Cur w cb a len cap xs) :
    Calls Try.prog 57 #[.pointer (some ⟨cb, 0, none⟩), .int .i64 n] w fun e w' => ∃ v ys, e = .returned v ∧ v ≠ .slice none 0 0 ∧ ys.length = n ∧ OwnB w' w.heap.size v ys ∧ Cur w' cb a len cap xs ∧ w.grownBy w' (some cb) := by
  obtain ⟨i0, hi, hz0, hz1, hz2⟩ := info_parts Try.info5
  have hcb := hc.lt
  have hcode := hide hc.code
  have H1 := hide (ownB_empty w)
  have H2 := hide (hc.later ((Below.refl _ _).alloc (Nat.le_refl _) (Obj.cells #[] 5)))
  clear hc
  go_enter Try.func57, Try.ntmps57
  go_wp2
  go_loopw [5, 6] (fun out i wr => ∃ (k : Nat) (ys : List UInt8), k ≤ n ∧ ys.length = k ∧ i = .int .i64 k ∧ out ≠ .slice none 0 0 ∧ OwnB wr w.heap.size out ys ∧ Cur wr cb a len cap xs ∧ w.grownBy wr (some cb)) (fun _ i _ => n - (intOf i).toNat)
  case atStart => exact ⟨0, [], Nat.zero_le _, rfl, rfl, by simp, unhide H1, unhide H2, World.grownBy_alloc _ _ _⟩
  case round =>
    obtain ⟨k, ys, hk, hyl, rfl, hnn, hown, hcur, hg⟩ := hrel
    clear H1 H2
    by_cases hlt : k < n
    · have K1 := hide hown
      clear hown
      go_wp2_with fail
      refine (byte_any cb a len cap xs wr hcur).mono ?_
      rintro e w1 ⟨x, hx0, hx1, rfl, hc1, hg1⟩
      have hs1 := hg1.size
      have hs := hg.size
      have own1 := (unhide K1).past hg1 (fun e => by have := (OwnB.lt (unhide K1) e).1; omega)
      unfold OwnB at own1
      rw [hyl] at own1
      have K2 := hide own1
      have K3 := hide (one_new w1 x hx0 hx1)
      have K4 := hide (grownBy_trans hg hg1)
      clear own1 K1 hcur
      go_wp2_with (at_builtin; go_must (refine wpList_append_own _ rfl (.tmp 13) (.tmp 17) 22 rfl w.heap.size 5 i0 (.int .u8 0) 1 1 Try.underlying22 hi hz0 hz1 hz2 rfl (by decide) u5 k (cellsB ys) rfl ((unhide K2).alloc _) ⟨w1.heap.size, 0, none⟩ 1 1 (cellsB [UInt8.ofNat x.toNat]) rfl rfl (unhide K3) (cellsB_one _) (by unfold maxLen; omega) (by omega) (by simp; omega) ?_; intro v2 w2 hown2 hgrow2 hnil))
      rw [← cellsB_append] at hown2
      have hrow : ∀ g, u5.ownBlock = some g → w.heap.size ≤ g := fun g e => (World.ownsRow.lt (unhide K2) g e).1
      have hg2 : w.grownBy w2 (some cb) := grownBy_own (grownBy_own (unhide K4) (World.grownBy_alloc w1 _ none) (fun g e => by cases e)) hgrow2 hrow
      have hc2 : Cur w2 cb a len cap xs := ((hc1.later ((Below.refl _ _).alloc (Nat.le_refl _) _)).past hgrow2 hcb (unhide hcode) hrow)
      have hnn2 : v2 ≠ .slice none 0 0 := fun e => hnn (hnil.1 e).1
      clear hgrow2 hnil hc1 hg1
      go_wp2
      go_roundw
      case rel => exact ⟨k + 1, ys ++ [UInt8.ofNat x.toNat], by omega, by rw [List.length_append, hyl]; rfl, by go_num, hnn2, by unfold OwnB; rw [List.length_append, hyl]; exact hown2, hc2, hg2⟩
      case measure => simp [intOf]; omega
    · go_wp2
      go_ret
      exact ⟨_, ys, rfl, hnn, by omega, hown, hcur, hg⟩
end Go.Proofs.Ytjpbjbnialehbaa
