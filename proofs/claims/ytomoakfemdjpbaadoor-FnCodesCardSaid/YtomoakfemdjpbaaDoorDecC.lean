/- Answers that are an instruction and plain values, read; the program's operand of fields, by form; over this seat's translation; conditions stand as hypotheses of each. -/
import Derived.Test.YtomoakfemdjpbaaDoorDecB
import Derived.Test.YtomoakfemdjpbaaDoorEncE
namespace Go.Proofs.YtomoakfemdjpbaaDoor
open Go.ChangeShapes Go.WideShapes Go.ChangeAt Go.RowKit
set_option linter.unusedVariables false
set_option linter.unusedSimpArgs false

theorem results_row2 {P : Program} {fn : Func} {p u : Tmp} {ty : TypeId} (h : fn.results = #[.cell p ty, .tmp u]) (tmps : Array Value) (w : World) (g : Nat) (t : TypeId) (cs : Array Value) (fr : Nat × Nat) (d : TypeDesc)
    (hp : tmps.getD p undef = .pointer (some ⟨g, 0, none⟩)) (hg : w.heap[g]? = some (.cells cs t fr))
    (hu : P.underlying ty = some d) (hd : (match d with | .struct _ | .array _ _ => true | _ => false) = true) (hi : (P.info? ty).map (·.size) = some cs.size) :
    (results fn tmps).run P w = .ok (.tuple #[.agg cs, tmps.getD u undef]) w := by
  have hp' : tmps[p]?.getD undef = .pointer (some ⟨g, 0, none⟩) := by simpa using hp
  simp [results, h, hp', asAddr, run_loadVar_row w g t ty cs fr d hg hu hd hi]
theorem results_row3 {P : Program} {fn : Func} {p u v : Tmp} {ty : TypeId} (h : fn.results = #[.cell p ty, .tmp u, .tmp v]) (tmps : Array Value) (w : World) (g : Nat) (t : TypeId) (cs : Array Value) (fr : Nat × Nat) (d : TypeDesc)
    (hp : tmps.getD p undef = .pointer (some ⟨g, 0, none⟩)) (hg : w.heap[g]? = some (.cells cs t fr))
    (hu : P.underlying ty = some d) (hd : (match d with | .struct _ | .array _ _ => true | _ => false) = true) (hi : (P.info? ty).map (·.size) = some cs.size) :
    (results fn tmps).run P w = .ok (.tuple #[.agg cs, tmps.getD u undef, tmps.getD v undef]) w := by
  have hp' : tmps[p]?.getD undef = .pointer (some ⟨g, 0, none⟩) := by simpa using hp
  simp [results, h, hp', asAddr, run_loadVar_row w g t ty cs fr d hg hu hd hi]

theorem i64_and7 (n : Int) : bits .and .i64 n 7 = n % 8 := by
  have h127 : (BitVec.ofInt 64 7).toNat = 2 ^ 3 - 1 := by decide
  have key : (BitVec.ofInt 64 n &&& BitVec.ofInt 64 7).toNat = (n % ((2 ^ 64 : Nat) : Int)).toNat % 2 ^ 3 := by
    rw [BitVec.toNat_and, BitVec.toNat_ofInt, h127, Nat.and_two_pow_sub_one_eq_mod]
  show IntKind.i64.wrap ((BitVec.ofInt 64 n &&& BitVec.ofInt 64 7).toNat : Nat) = n % 8
  rw [key, IntKind.wrap_i64]
  omega

set_option maxHeartbeats 1000000 in
theorem operandI_any (f : Int) (w : World) : Calls Tryd.prog 66 #[.int .i64 f] w fun e w' => e = .returned (opdOf f).v ∧ Below w.heap.size w w' := by
  have h1 := i64_and7 f
  have h2 := i64_and7 (f / 8)
  have HG : ∀ o, (w.alloc o).heap[w.heap.size]? = some o := fun o => Array.getElem?_push_size
  have HG' := hide HG
  clear HG
  unfold opdOf Od.v
  simp only
  go_enter Tryd.func66, Tryd.ntmps66
  go_wp2
  refine bodyPost_ret (results_cell_row (P := Tryd.prog) rfl _ _ w.heap.size 25 #[.int .i64 (f / 8 % 8), .int .i64 (f % 8), .int .i64 0] (0, 0) _ rfl (unhide HG' _) Tryd.underlying25 rfl (by kernel_rfl)) rfl ?_
  exact ⟨rfl, (Below.refl _ _).alloc (Nat.le_refl _) _⟩

set_option maxHeartbeats 1000000 in
theorem getNumber_any (f : Int) (w : World) : Calls Tryd.prog 61 #[.int .i64 f] w fun e w' => e = .returned (Is.v ⟨0, zO, zO, f⟩) ∧ Below w.heap.size w w' := by
  have HG : ∀ o, (w.alloc o).heap[w.heap.size]? = some o := fun o => Array.getElem?_push_size
  have HG' := hide HG
  clear HG
  unfold Is.v zO
  simp only
  go_enter Tryd.func61, Tryd.ntmps61
  go_wp2
  refine bodyPost_ret (results_cell_row (P := Tryd.prog) rfl _ _ w.heap.size 27 #[.int .i64 0, .int .i64 0, .int .i64 0, .int .i64 0, .int .i64 0, .int .i64 0, .int .i64 0, .int .i64 f] (0, 0) _ rfl (unhide HG' _) Tryd.underlying27 rfl (by kernel_rfl)) rfl ?_
  exact ⟨rfl, (Below.refl _ _).alloc (Nat.le_refl _) _⟩

set_option maxHeartbeats 1000000 in
theorem getBranch_any (f : Int) (h : 0 ≤ f ∧ f ≤ 255) (w : World) : Calls Tryd.prog 63 #[.int .i64 f] w fun e w' => e = .returned (Is.v ⟨0, zO, zO, if 127 < f then f - 256 else f⟩) ∧ Below w.heap.size w w' := by
  have HG : ∀ o, (w.alloc o).heap[w.heap.size]? = some o := fun o => Array.getElem?_push_size
  have HG' := hide HG
  clear HG
  have h1 : IntKind.i8.wrap f = (if 127 < f then f - 256 else f) := by
    have e : IntKind.i8.wrap f = if f % 256 ≥ 128 then f % 256 - 256 else f % 256 := by simp [IntKind.wrap, IntKind.bits, IntKind.signed]
    rw [e]
    split <;> split <;> omega
  have HB := hide (show -128 ≤ (if 127 < f then f - 256 else f) ∧ (if 127 < f then f - 256 else f) ≤ 127 by split <;> omega)
  generalize (if 127 < f then f - 256 else f) = g at h1 HB ⊢
  have hb := unhide HB
  unfold Is.v zO
  simp only
  go_enter Tryd.func63, Tryd.ntmps63
  go_wp2
  refine bodyPost_ret (results_cell_row (P := Tryd.prog) rfl _ _ w.heap.size 27 #[.int .i64 0, .int .i64 0, .int .i64 0, .int .i64 0, .int .i64 0, .int .i64 0, .int .i64 0, .int .i64 g] (0, 0) _ rfl (unhide HG' _) Tryd.underlying27 rfl (by kernel_rfl)) rfl ?_
  exact ⟨rfl, (Below.refl _ _).alloc (Nat.le_refl _) _⟩
end Go.Proofs.YtomoakfemdjpbaaDoor
