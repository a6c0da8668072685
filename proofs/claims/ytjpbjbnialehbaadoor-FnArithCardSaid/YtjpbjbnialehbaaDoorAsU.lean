/- Contracts over this seat's translation, laid together; conditions stand as hypotheses of each. -/
import Derived.Test.YtjpbjbnialehbaaDoorAsF
import Derived.Test.YtjpbjbnialehbaaDoorAsJ
import Derived.Test.YtjpbjbnialehbaaDoorAsT
import Derived.Test.YtjpbjbnialehbaaDoorRows
import Derived.Lib.LaidTab
import Derived.MakeChecks
import Derived.Deep.CutRange

namespace Go.Proofs.YtjpbjbnialehbaaDoor
open Go.ChangeShapes Go.WideShapes Go.ChangeAt Go.RowKit
set_option linter.unusedVariables false
set_option maxRecDepth 100000
set_option linter.unusedSectionVars false
set_option linter.unusedSimpArgs false
/-- The instruction k of register 1 to register 2; the three laid together; the machine that they lie in. -/
def aI (k : Int) : Is := ⟨k, ⟨0, 1, 0⟩, ⟨0, 2, 0⟩, 0⟩
theorem aw_5 : (aI 5).enc = [24642] := by kernel_rfl
theorem aw_6 : (aI 6).enc = [57410] := by kernel_rfl
theorem aw_2 : (aI 2).enc = [8258] := by kernel_rfl
def aW : List Int := [24642, 57410, 8258, 0]
def aM : List Int := over z256 32 aW
def aD (x y pc : Int) : Md := ⟨aM, [0, x, y, 0, 0, 0, 512, pc], [], []⟩
theorem a_new : newD aW 64 64 [] = aD 0 0 64 := by kernel_rfl
def aS (x y pc : Int) (n z v c : Bool) : Ms := ⟨aD x y pc, n, z, v, c⟩
theorem aw_wd : Wd aM := Wd.of (by kernel_rfl)
theorem a_dk (x y pc : Int) (hx : 0 ≤ x ∧ x ≤ 65535) (hy : 0 ≤ y ∧ y ≤ 65535) (hp : 0 ≤ pc ∧ pc ≤ 65535) : Dk (aD x y pc) := by
  refine ⟨by kernel_rfl, aw_wd, rfl, ?_, by show (0 : Nat) ≤ 50; omega, ?_, by show (0 : Nat) ≤ 50; omega, ?_⟩
  · intro k hk
    simp only [aD, List.mem_cons, List.not_mem_nil, or_false] at hk
    rcases hk with rfl | rfl | rfl | rfl | rfl | rfl | rfl | rfl <;> omega
  · intro k hk; cases hk
  · intro k hk; cases hk
theorem a_B1 (x y : Int) (n z v c : Bool) : (aS x y 64 n z v c).stpB = true := by kernel_rfl
theorem a_B2 (x y : Int) (n z v c : Bool) : (aS x y 66 n z v c).stpB = true := by kernel_rfl
theorem a_B3 (x y : Int) (n z v c : Bool) : (aS x y 68 n z v c).stpB = true := by kernel_rfl
theorem a_N1 (x y : Int) (n z v c : Bool) : (aS x y 64 n z v c).stpS 0 = 0 := by kernel_rfl
theorem a_N2 (x y : Int) (n z v c : Bool) : (aS x y 66 n z v c).stpS 0 = 0 := by kernel_rfl
theorem a_N3 (x y : Int) (n z v c : Bool) : (aS x y 68 n z v c).stpS 0 = 0 := by kernel_rfl
theorem a_1 (x y : Int) (n z v c : Bool) : (aS x y 64 n z v c).stp = aS x ((y + x) % 65536 % 65536) 66 (sgB ((y + x) % 65536)) ((y + x) % 65536 % 65536 == 0) ((sgB x == sgB y) && (sgB ((y + x) % 65536) != sgB y)) (decide (65535 < y + x)) := by kernel_rfl
theorem a_2 (x y : Int) (n z v c : Bool) : (aS x y 66 n z v c).stp = aS x ((y - x) % 65536 % 65536) 68 (sgB ((y - x) % 65536)) ((y - x) % 65536 % 65536 == 0) ((sgB x != sgB y) && (sgB ((y - x) % 65536) == sgB x)) (decide (y < x)) := by kernel_rfl
theorem a_3 (x y : Int) (n z v c : Bool) : (aS x y 68 n z v c).stp = aS x y 70 (sgB ((x - y) % 65536)) ((x - y) % 65536 % 65536 == 0) ((sgB x != sgB y) && (sgB ((x - y) % 65536) == sgB y)) (decide (x < y)) := by kernel_rfl
theorem stA_of {t : Ms} (hk : Dk t.d) (hb : t.stpB = true) (hs : t.stpS 0 = 0) : t.stA 0 = t.stp ∧ t.stN 0 = 0 := by
  unfold Ms.stA Ms.stN
  have h := hk.ok 0 (by omega) (by omega)
  simp [h, hb, hs]
/-- What the program's Step leaves of the machine with the flags off, and behind it, and behind that. -/
def aC (x y : Int) : Bool := decide (65535 < y + x)
def aN (x y : Int) : Bool := sgB ((y + x) % 65536)
def aN3 (x y : Int) : Bool := sgB ((x - y) % 65536)
def aZ3 (x y : Int) : Bool := (x - y) % 65536 % 65536 == 0
def aV3 (x y : Int) : Bool := (sgB x != sgB y) && (sgB ((x - y) % 65536) == sgB y)
theorem s1_of {x y : Int} (hx : 0 ≤ x ∧ x ≤ 65535) (hy : 0 ≤ y ∧ y ≤ 65535) (n z v c : Bool) : ∃ z1 v1, (aS x y 64 n z v c).stA 0 = aS x ((x + y) % 65536) 66 (aN x y) z1 v1 (aC x y) ∧ (aS x y 64 n z v c).stN 0 = 0 := by
  obtain ⟨h1, h2⟩ := stA_of (t := aS x y 64 n z v c) (a_dk x y 64 hx hy (by omega)) (a_B1 ..) (a_N1 ..)
  rw [a_1, show (y + x) % 65536 % 65536 = (x + y) % 65536 by omega] at h1
  exact ⟨_, _, h1, h2⟩
theorem s2_of {x y : Int} (hx : 0 ≤ x ∧ x ≤ 65535) (hy : 0 ≤ y ∧ y ≤ 65535) (n z v c : Bool) : ∃ n1 z1 v1 c1, (aS x ((x + y) % 65536) 66 n z v c).stA 0 = aS x y 68 n1 z1 v1 c1 ∧ (aS x ((x + y) % 65536) 66 n z v c).stN 0 = 0 := by
  obtain ⟨h1, h2⟩ := stA_of (t := aS x ((x + y) % 65536) 66 n z v c) (a_dk x _ 66 hx (by omega) (by omega)) (a_B2 ..) (a_N2 ..)
  rw [a_2, show ((x + y) % 65536 - x) % 65536 % 65536 = y by omega] at h1
  exact ⟨_, _, _, _, h1, h2⟩
theorem s3_of {x y : Int} (hx : 0 ≤ x ∧ x ≤ 65535) (hy : 0 ≤ y ∧ y ≤ 65535) (n z v c : Bool) : (aS x y 68 n z v c).stA 0 = aS x y 70 (aN3 x y) (aZ3 x y) (aV3 x y) (decide (x < y)) ∧ (aS x y 68 n z v c).stN 0 = 0 := by
  obtain ⟨h1, h2⟩ := stA_of (t := aS x y 68 n z v c) (a_dk x y 68 hx hy (by omega)) (a_B3 ..) (a_N3 ..)
  exact ⟨by rw [h1, a_3]; rfl, h2⟩
theorem q_c {x y : Int} (hx : 0 ≤ x ∧ x ≤ 65535) (hy : 0 ≤ y ∧ y ≤ 65535) : aC x y = decide (65535 < x + y) := by unfold aC; rw [Int.add_comm]
theorem q_n {x y : Int} (hx : 0 ≤ x ∧ x ≤ 65535) (hy : 0 ≤ y ∧ y ≤ 65535) : aN x y = decide (32768 ≤ (x + y) % 65536) := by unfold aN sgB; exact decide_eq_decide.mpr (by omega)
theorem q_z {x y : Int} (hx : 0 ≤ x ∧ x ≤ 65535) (hy : 0 ≤ y ∧ y ≤ 65535) : aZ3 x y = decide (x = y) := by
  unfold aZ3
  rw [Bool.eq_iff_iff]
  simp only [beq_iff_eq, decide_eq_true_eq]
  omega
theorem q_nv {x y : Int} (hx : 0 ≤ x ∧ x ≤ 65535) (hy : 0 ≤ y ∧ y ≤ 65535) : (aN3 x y != aV3 x y) = decide (sgV x < sgV y) := by
  unfold aN3 aV3 sgB sgV
  rw [show x % 65536 = x by omega, show y % 65536 = y by omega]
  rw [Bool.eq_iff_iff, decide_eq_true_eq]
  by_cases h1 : 32768 ≤ x <;> by_cases h2 : 32768 ≤ y <;> by_cases h3 : 32768 ≤ (x - y) % 65536 % 65536 <;> simp [h1, h2, h3] <;> omega
theorem step_is (m : Mv) (d d2 : Md) (n z v c n2 z2 v2 c2 : Bool) (w : World) (hf : m.fl = (n, z, v, c, 0)) (hst : (⟨d, n, z, v, c⟩ : Ms).stA 0 = ⟨d2, n2, z2, v2, c2⟩ ∧ (⟨d, n, z, v, c⟩ : Ms).stN 0 = 0) (hs : m.small) (hz : m.nz) (hr : RdM w m d) (ht : Tab w) : StIs m d d2 (n2, z2, v2, c2, 0) w := by
  have q := stepI_all m d w hs hz hr ht
  have e1 : m.ms d = ⟨d, n, z, v, c⟩ := by
    unfold Mv.ms
    rw [show m.n = n from congrArg (·.1) hf, show m.z = z from congrArg (·.2.1) hf, show m.v = v from congrArg (·.2.2.1) hf, show m.c = c from congrArg (·.2.2.2.1) hf]
  have e2 : m.st = 0 := congrArg (·.2.2.2.2) hf
  rw [e1, e2, hst.1, hst.2] at q
  exact q
/-- A list that begins otherwise lies in another block. -/
theorem own_else {w : World} {B b : Nat} {v : Value} {ns : List Int} {cs : Array Value} (h : OwnN w B v ns) (h0 : nAt ns 0 ≠ 5) (hl : 0 < ns.length) (hb : w.heap[b]? = some (.cells cs 3 (0, 0))) (hc : cs[0]? = some (.int .i64 5)) : ∀ g, v.ownBlock = some g → g ≠ b := by
  intro g hg e
  subst e
  rcases h.form with ⟨rfl, e⟩ | ⟨g2, cap, rfl, _⟩
  · simp [Value.ownBlock] at hg
  · have e2 : g2 = g := by simpa [Value.ownBlock] using hg
    subst e2
    have c1 := (h.cellAt 0 hl).1
    have c2 := (cell_of_row w g2 0 cs 3 (0, 0) hb).trans hc
    rw [c1] at c2
    simp at c2
    exact h0 c2
end Go.Proofs.YtjpbjbnialehbaaDoor

namespace Go.Proofs.YtjpbjbnialehbaaDoor
open Go.ChangeShapes Go.WideShapes Go.ChangeAt Go.RowKit
set_option linter.unusedVariables false
set_option maxRecDepth 8000
set_option linter.unusedSimpArgs false
/-- The bytes that came in, while the law goes on. -/
structure Lc (W wr : World) (a : Option Addr) (xs : List UInt8) : Prop where
  bel : Below W.heap.size W wr
  rd : Rd wr a xs
end Go.Proofs.YtjpbjbnialehbaaDoor

namespace Go.Proofs.YtjpbjbnialehbaaDoor
open Go.ChangeShapes Go.WideShapes Go.ChangeAt Go.RowKit
set_option linter.unusedVariables false
set_option maxRecDepth 8000
theorem own : ownKnob Tryd.prog.godebug = none := by kernel_rfl
theorem laidOut : laidOutB Tryd.prog = true := by kernel_rfl
theorem gTab : Tryd.prog.globalNamed "loop.example/g00329/impl.firstWords" = some 0 := by kernel_rfl
theorem tTab : (Tryd.prog.globals[0]?).map (·.type) = some 60 := by kernel_rfl
theorem tabL_eq : (Rows.laid_loop_example_g00329_impl_firstWords : DataW Unit) = Lib.tabData .i64 baseL := by kernel_rfl
/-- What the list gives: the table's cells. -/
theorem tab_of_laid {W : World} (h : laidMetH Tryd.prog [("loop.example/g00329/impl.firstWords", Rows.laid_loop_example_g00329_impl_firstWords)] W) : Tab W := by
  rw [MakeChecks.laidMetH_plain _ _ _ (by kernel_rfl)] at h
  rw [tabL_eq] at h
  have h2 := Lib.tabIs_of_head gTab tTab Tryd.underlying60 Tryd.underlying3 (by kernel_rfl) (by kernel_rfl) h
  have hc : ∀ k, k < 24 → W.cell? ⟨0, k, none⟩ = some (.int .i64 (baseAt k)) := fun k hk => by
    have hk' : k < baseL.length := hk
    rw [h2.cell gTab k hk']; rfl
  exact ⟨World.block_lt_of_cell? W _ (hc 0 (by omega)), hc⟩
end Go.Proofs.YtjpbjbnialehbaaDoor
