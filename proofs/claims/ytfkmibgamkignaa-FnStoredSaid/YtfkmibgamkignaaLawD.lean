/- What the law on machines stands on; over this seat's translation; conditions stand as hypotheses of each. -/
import Derived.Test.YtfkmibgamkignaaDrmD
import Derived.Deep.CutRange
namespace Go.Proofs.Ytfkmibgamkignaa
open Go.ChangeShapes Go.WideShapes Go.ChangeAt Go.RowKit
set_option linter.unusedVariables false
set_option maxRecDepth 8000
set_option linter.unusedSimpArgs false

/-- The bytes that came in, while the law goes on. -/
structure Lc (W wr : World) (a : Option Addr) (xs : List UInt8) : Prop where
  bel : Below W.heap.size W wr
  rd : Rd wr a xs
theorem Lc.later {W w w' : World} {a : Option Addr} {xs : List UInt8} (h : Lc W w a xs) (hb : Below w.heap.size w w') : Lc W w' a xs := ⟨h.bel.trans (hb.mono h.bel.size), h.rd.later hb⟩
/-- A load of a whole row in a guarded place. -/
theorem yields_loadG {P : Program} {ops : Array Oper} {S : World → Prop} {o : Oper} {a : Act} (hw : Region.wanted o (yielded ops a.tmps) = true) (ty : TypeId) (x : Operand) (ho : o.op = .load ty x) (g : Nat) (hx : a.eval x = .pointer (some ⟨g, 0, none⟩)) (t : TypeId) (cs : Array Value) (d : TypeDesc)
    (hS : ∀ w, S w → w.heap[g]? = some (.cells cs t (0, 0))) (hu : P.underlying ty = some d) (hd : (match d with | .struct _ | .array _ _ => true | _ => false) = true) (hi : (P.info? ty).map (·.size) = some cs.size) : YieldsIf P ops S o (.agg cs) a := by
  refine .inl ⟨hw, fun w hw => ?_⟩
  simp only [execOp, ho, hx, Instr.loadAt, Instr.sureAddr, Sem.run_bind, Sem.run_pure, Result.andThen_ok, run_loadVar_row w g t ty cs (0, 0) d (hS w hw) hu hd hi]
theorem newD_ok (ni nn : List Int) (p q : Int) : (newD ni p q nn).ok 0 = decide ((0 : Int) < ((newD ni p q nn).m.length : Int)) := by
  unfold newD
  cases hb : newB ni p q nn
  · rw [if_neg (by simp)]
    rfl
  · rw [if_pos rfl]
    obtain ⟨p0, p1, p2, p3, p4, p5, p6⟩ := newB_parts hb
    obtain ⟨a0, a1⟩ := inB_b p0
    obtain ⟨q0, q1⟩ := inB_b p4
    have hk : Dk ⟨over z256 (p / 2).toNat ni, newR q, nn, []⟩ := dk_new (by omega) (Wd.of p3) (Wd.of p6) (by omega) q0 q1
    rw [hk.ok 0 (by omega) (by omega)]
    have := hk.ml
    simp only at this
    rw [this]
    rfl
theorem dk_has {d : Md} (h : Dk d) (k : Nat) (hk : k ≤ 255) : d.has (2 * (k : Int)) = true := by
  unfold Md.has
  rw [adB_i (by omega) (by omega) (by omega), h.ml]
  simp
  omega
theorem put_dk {d : Md} (h : Dk d) (k : Nat) (n : Int) (hk : k ≤ 255) : d.put (2 * (k : Int)) n = ⟨d.m.set k (n % 65536), d.r, d.i, d.o⟩ := by
  unfold Md.put
  rw [if_pos (dk_has h k hk), show (2 * (k : Int) / 2).toNat = k by omega]
theorem get_put {d : Md} (h : Dk d) (k : Nat) (n : Int) (hk : k ≤ 255) : (d.put (2 * (k : Int)) n).get (2 * (k : Int)) = n % 65536 ∧ (d.put (2 * (k : Int)) n).has (2 * (k : Int)) = true ∧ Dk (d.put (2 * (k : Int)) n) := by
  have hd : Dk (d.put (2 * (k : Int)) n) := by rw [put_dk h k n hk]; exact h.setM k _ (by omega) (by omega)
  refine ⟨?_, dk_has hd k hk, hd⟩
  unfold Md.get
  rw [if_pos (dk_has hd k hk), put_dk h k n hk, show (2 * (k : Int) / 2).toNat = k by omega]
  have := h.ml
  simp [nAt, List.getElem?_set, show k < d.m.length by omega]
theorem other_put {d : Md} (h : Dk d) (k j : Nat) (n : Int) (hk : k ≤ 255) (hj : j ≠ k) : nAt (d.put (2 * (k : Int)) n).m j = nAt d.m j := by
  rw [put_dk h k n hk]
  unfold nAt
  rw [List.getD_eq_getElem?_getD, List.getD_eq_getElem?_getD, List.getElem?_set, if_neg (fun e => hj e.symm)]
end Go.Proofs.Ytfkmibgamkignaa
