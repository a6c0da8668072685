/- Drawn numbers and addresses; over this seat's translation; conditions stand as hypotheses of each. -/
import Derived.Test.YtfkmibgamkignaaDrwB
namespace Go.Proofs.Ytfkmibgamkignaa
open Go.ChangeShapes Go.WideShapes Go.ChangeAt Go.RowKit
set_option linter.unusedVariables false
set_option maxRecDepth 8000
set_option linter.unusedSimpArgs false

set_option maxHeartbeats 2000000 in
theorem num_any (cb : Nat) (a : Option Addr) (len cap : Nat) (xs : List UInt8) (w : World) (hc : Cur w cb a len cap xs) :
    Calls Try.prog 74 #[.pointer (some ⟨cb, 0, none⟩)] w fun e w' => ∃ x : Int, e = .returned (.int .i64 x) ∧ Cur w' cb a len cap xs ∧ w.grownBy w' (some cb) := by
  have B0 := hide (below_any cb a len cap xs 65536 w (by omega) hc)
  have hlt := hc.lt
  clear hc
  go_enter Try.func74, Try.ntmps74
  go_wp2_with fail
  refine (unhide B0).mono ?_
  rintro e w1 ⟨y, hy0, hy1, rfl, hc1, hg1⟩
  obtain ⟨hy2, hy3⟩ := hy0 (by omega)
  clear hy0 hy1 B0
  have s1 := hg1.size
  have I1 := hide (int_lit cb a len cap xs w1 hc1 [0, 1, 2, -1, 7, 8, 255, 256, 32767, 32768, 65535, 65536, -32768, -65537, 9223372036854775807, -9223372036854775808, y] 17 rfl (by omega) (by omega) w1.heap.size rfl _ rfl)
  have G1 := hide (grownBy_trans hg1 (grownBy_below ((Below.refl w1.heap.size w1).alloc (Nat.le_refl _) (.cells ([0, 1, 2, -1, 7, 8, 255, 256, 32767, 32768, 65535, 65536, -32768, -65537, 9223372036854775807, -9223372036854775808, y].map (Value.int .i64)).toArray 3))))
  clear hc1 hg1
  go_wp2_with fail
  refine (unhide I1).mono ?_
  rintro e w2 ⟨j, hj, rfl, hc2, hg2⟩
  generalize nAt [0, 1, 2, -1, 7, 8, 255, 256, 32767, 32768, 65535, 65536, -32768, -65537, 9223372036854775807, -9223372036854775808, y] j = x
  have G2 := hide (grownBy_trans (unhide G1) hg2)
  have C2 := hide hc2
  clear hc2 hg2 I1 G1
  go_wp2
  go_ret
  exact ⟨x, rfl, unhide C2, unhide G2⟩

set_option maxHeartbeats 2000000 in
theorem addr_any (cb : Nat) (a : Option Addr) (len cap : Nat) (xs : List UInt8) (w : World) (hc : Cur w cb a len cap xs) :
    Calls Try.prog 93 #[.pointer (some ⟨cb, 0, none⟩)] w fun e w' => ∃ x : Int, e = .returned (.int .i64 x) ∧ Cur w' cb a len cap xs ∧ w.grownBy w' (some cb) := by
  have I1 := hide (int_lit cb a len cap xs w hc [0, 2, 64, 510, 512, 1, -2, 100, 9223372036854775807] 9 rfl (by omega) (by omega) w.heap.size rfl _ rfl)
  have G1 := hide (grownBy_below (r := some cb) ((Below.refl w.heap.size w).alloc (Nat.le_refl _) (.cells ([0, 2, 64, 510, 512, 1, -2, 100, 9223372036854775807].map (Value.int .i64)).toArray 3)))
  clear hc
  go_enter Try.func93, Try.ntmps93
  go_wp2_with fail
  refine (unhide I1).mono ?_
  rintro e w2 ⟨j, hj, rfl, hc2, hg2⟩
  generalize nAt [0, 2, 64, 510, 512, 1, -2, 100, 9223372036854775807] j = x
  have G2 := hide (grownBy_trans (unhide G1) hg2)
  have C2 := hide hc2
  clear hc2 hg2 I1 G1
  go_wp2
  go_ret
  exact ⟨x, rfl, unhide C2, unhide G2⟩
end Go.Proofs.Ytfkmibgamkignaa
