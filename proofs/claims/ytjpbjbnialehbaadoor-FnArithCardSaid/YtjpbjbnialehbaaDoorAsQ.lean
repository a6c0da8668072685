/- Contracts over this seat's translation, laid together; conditions stand as hypotheses of each. -/
import Derived.Test.YtjpbjbnialehbaaDoorAsP

namespace Go.Proofs.YtjpbjbnialehbaaDoor
open Go.ChangeShapes Go.WideShapes Go.ChangeAt Go.RowKit
set_option linter.unusedVariables false
set_option maxRecDepth 8000
set_option linter.unusedSimpArgs false
theorem results_row2Q {P : Program} {fn : Func} {p u : Tmp} {ty : TypeId} (h : fn.results = #[.cell p ty, .tmp u]) (tmps : Array Value) (w : World) (g : Nat) (t : TypeId) (cs : Array Value) (fr : Nat × Nat) (d : TypeDesc)
    (hp : tmps.getD p undef = .pointer (some ⟨g, 0, none⟩)) (hg : w.heap[g]? = some (.cells cs t fr))
    (hu : P.underlying ty = some d) (hd : (match d with | .struct _ | .array _ _ => true | _ => false) = true) (hi : (P.info? ty).map (·.size) = some cs.size) :
    (results fn tmps).run P w = .ok (.tuple #[.agg cs, tmps.getD u undef]) w := by
  have hp' : tmps[p]?.getD undef = .pointer (some ⟨g, 0, none⟩) := by simpa using hp
  simp [results, h, hp', asAddr, run_loadVar_row w g t ty cs fr d hg hu hd hi]
theorem results_row3 {P : Program} {fn : Func} {p u v : Tmp} {ty : TypeId} (h : fn.results = #[.cell p ty, .tmp u, .tmp v]) (tmps : Array Value) (w : World) (g : Nat) (t : TypeId) (cs : Array Value) (fr : Nat × Nat) (d : TypeDesc)
    (hp : tmps.getD p undef = .pointer (some ⟨g, 0, none⟩)) (hg : w.heap[g]? = some (.cells cs t fr))
    (hu : P.underlying ty = some d) (hd : (match d with | .struct _ | .array _ _ => true | _ => false) = true) (hi : (P.info? ty).map (·.size) = some cs.size) :
    (results fn tmps).run P w = .ok (.tuple #[.agg cs, tmps.getD u undef, tmps.getD v undef]) w := by
  have hp' : tmps[p]?.getD undef = .pointer (some ⟨g, 0, none⟩) := by simpa using hp
  simp [results, h, hp', asAddr, run_loadVar_row w g t ty cs fr d hg hu hd hi]
theorem i64_and7 (n : Int) : bits .and .i64 n 7 = n % 8 := by
  have h127 : (BitVec.ofInt 64 7).toNat = 2 ^ 3 - 1 := by decide
  have key : (BitVec.ofInt 64 n &&& BitVec.ofInt 64 7).toNat = (n % ((2 ^ 64 : Nat) : Int)).toNat % 2 ^ 3 := by
    rw [BitVec.toNat_and, BitVec.toNat_ofInt, h127, Nat.and_two_pow_sub_one_eq_mod]
  show IntKind.i64.wrap ((BitVec.ofInt 64 n &&& BitVec.ofInt 64 7).toNat : Nat) = n % 8
  rw [key, IntKind.wrap_i64]
  omega
set_option maxHeartbeats 1000000 in
theorem operandI_any (f : Int) (w : World) : Calls Tryd.prog 76 #[.int .i64 f] w fun e w' => e = .returned (opdOf f).v ∧ Below w.heap.size w w' := by
  have h1 := i64_and7 f
  have h2 := i64_and7 (f / 8)
  have HG : ∀ o, (w.alloc o).heap[w.heap.size]? = some o := fun o => Array.getElem?_push_size
  have HG' := hide HG
  clear HG
  unfold opdOf Od.v
  simp only
  go_enter Tryd.func76, Tryd.ntmps76
  go_wp2
  refine bodyPost_ret (results_cell_row (P := Tryd.prog) rfl _ _ w.heap.size 28 #[.int .i64 (f / 8 % 8), .int .i64 (f % 8), .int .i64 0] (0, 0) _ rfl (unhide HG' _) Tryd.underlying28 rfl (by kernel_rfl)) rfl ?_
  exact ⟨rfl, (Below.refl _ _).alloc (Nat.le_refl _) _⟩
set_option maxHeartbeats 1000000 in
theorem getNumber_any (f : Int) (w : World) : Calls Tryd.prog 43 #[.int .i64 f] w fun e w' => e = .returned (Is.v ⟨0, zO, zO, f⟩) ∧ Below w.heap.size w w' := by
  have HG : ∀ o, (w.alloc o).heap[w.heap.size]? = some o := fun o => Array.getElem?_push_size
  have HG' := hide HG
  clear HG
  unfold Is.v zO
  simp only
  go_enter Tryd.func43, Tryd.ntmps43
  go_wp2
  refine bodyPost_ret (results_cell_row (P := Tryd.prog) rfl _ _ w.heap.size 30 #[.int .i64 0, .int .i64 0, .int .i64 0, .int .i64 0, .int .i64 0, .int .i64 0, .int .i64 0, .int .i64 f] (0, 0) _ rfl (unhide HG' _) Tryd.underlying30 rfl (by kernel_rfl)) rfl ?_
  exact ⟨rfl, (Below.refl _ _).alloc (Nat.le_refl _) _⟩
set_option maxHeartbeats 1000000 in
theorem getBranch_any (f : Int) (h : 0 ≤ f ∧ f ≤ 255) (w : World) : Calls Tryd.prog 45 #[.int .i64 f] w fun e w' => e = .returned (Is.v ⟨0, zO, zO, if 127 < f then f - 256 else f⟩) ∧ Below w.heap.size w w' := by
  have HG : ∀ o, (w.alloc o).heap[w.heap.size]? = some o := fun o => Array.getElem?_push_size
  have HG' := hide HG
  clear HG
  have h1 : IntKind.i8.wrap f = (if 127 < f then f - 256 else f) := by
    have e : IntKind.i8.wrap f = if f % 256 ≥ 128 then f % 256 - 256 else f % 256 := by simp [IntKind.wrap, IntKind.bits, IntKind.signed]
    rw [e]
    split <;> split <;> omega
  have HB := hide (show -128 ≤ (if 127 < f then f - 256 else f) ∧ (if 127 < f then f - 256 else f) ≤ 127 by split <;> omega)
  generalize (if 127 < f then f - 256 else f) = g at h1 HB ⊢
  have hb := unhide HB
  unfold Is.v zO
  simp only
  go_enter Tryd.func45, Tryd.ntmps45
  go_wp2
  refine bodyPost_ret (results_cell_row (P := Tryd.prog) rfl _ _ w.heap.size 30 #[.int .i64 0, .int .i64 0, .int .i64 0, .int .i64 0, .int .i64 0, .int .i64 0, .int .i64 0, .int .i64 g] (0, 0) _ rfl (unhide HG' _) Tryd.underlying30 rfl (by kernel_rfl)) rfl ?_
  exact ⟨rfl, (Below.refl _ _).alloc (Nat.le_refl _) _⟩
end Go.Proofs.YtjpbjbnialehbaaDoor

namespace Go.Proofs.YtjpbjbnialehbaaDoor
open Go.ChangeShapes Go.WideShapes Go.ChangeAt Go.RowKit
set_option linter.unusedVariables false
set_option maxRecDepth 8000
set_option linter.unusedSimpArgs false
set_option maxHeartbeats 1000000 in
theorem getTwo_any (f : Int) (w : World) : Calls Tryd.prog 37 #[.int .i64 f] w fun e w' => e = .returned (Is.v ⟨0, opdOf (f / 64), opdOf f, 0⟩) ∧ Below w.heap.size w w' := by
  have Z0 := hide (rz_new w)
  unfold Is.v
  simp only
  go_enter Tryd.func37, Tryd.ntmps37
  go_wp2_with fail
  refine (operandI_any (f / 64) _).mono ?_
  rintro e w1 ⟨rfl, hb⟩
  have Z1 := hide ((unhide Z0).later hb)
  clear hb Z0
  unfold opdOf Od.v
  simp only
  go_wp2_with fail
  refine (operandI_any (f) _).mono ?_
  rintro e w2 ⟨rfl, hb⟩
  have Z2 := hide ((unhide Z1).later hb)
  clear hb Z1
  unfold opdOf Od.v
  simp only
  have zz := unhide Z2
  have c0 : w2.cell? ⟨w.heap.size, 0, none⟩ = some (.int .i64 0) := zz.row.cell (i := 0) (by omega)
  have f0 := zz.row.frozen 0
  have c1 : w2.cell? ⟨w.heap.size, 1, none⟩ = some (.int .i64 0) := zz.row.cell (i := 1) (by omega)
  have f1 := zz.row.frozen 1
  have c2 : w2.cell? ⟨w.heap.size, 2, none⟩ = some (.int .i64 0) := zz.row.cell (i := 2) (by omega)
  have f2 := zz.row.frozen 2
  have c3 : w2.cell? ⟨w.heap.size, 3, none⟩ = some (.int .i64 0) := zz.row.cell (i := 3) (by omega)
  have f3 := zz.row.frozen 3
  have c4 : w2.cell? ⟨w.heap.size, 4, none⟩ = some (.int .i64 0) := zz.row.cell (i := 4) (by omega)
  have f4 := zz.row.frozen 4
  have c5 : w2.cell? ⟨w.heap.size, 5, none⟩ = some (.int .i64 0) := zz.row.cell (i := 5) (by omega)
  have f5 := zz.row.frozen 5
  have c6 : w2.cell? ⟨w.heap.size, 6, none⟩ = some (.int .i64 0) := zz.row.cell (i := 6) (by omega)
  have f6 := zz.row.frozen 6
  have c7 : w2.cell? ⟨w.heap.size, 7, none⟩ = some (.int .i64 0) := zz.row.cell (i := 7) (by omega)
  have f7 := zz.row.frozen 7
  clear zz
  go_wp2
  refine bodyPost_ret (results_cell_row (P := Tryd.prog) rfl _ _ w.heap.size 30 (cs8 [0, f / 64 / 8 % 8, f / 64 % 8, 0, f / 8 % 8, f % 8, 0, 0]) (0, 0) _ rfl (row8_heap ((unhide Z2).put (0) (f / 64 / 8 % 8) (f / 64 % 8) (0) (f / 8 % 8) (f % 8) (0) (0)).row) Tryd.underlying30 rfl (by kernel_rfl)) rfl ?_
  exact ⟨rfl, ((unhide Z2).put (0) (f / 64 / 8 % 8) (f / 64 % 8) (0) (f / 8 % 8) (f % 8) (0) (0)).bel⟩
set_option maxHeartbeats 1000000 in
theorem getOperand_any (f : Int) (w : World) : Calls Tryd.prog 39 #[.int .i64 f] w fun e w' => e = .returned (Is.v ⟨0, zO, opdOf f, 0⟩) ∧ Below w.heap.size w w' := by
  have Z0 := hide (rz_new w)
  unfold Is.v zO
  simp only
  go_enter Tryd.func39, Tryd.ntmps39
  go_wp2_with fail
  refine (operandI_any (f) _).mono ?_
  rintro e w1 ⟨rfl, hb⟩
  have Z1 := hide ((unhide Z0).later hb)
  clear hb Z0
  unfold opdOf Od.v
  simp only
  have zz := unhide Z1
  have c0 : w1.cell? ⟨w.heap.size, 0, none⟩ = some (.int .i64 0) := zz.row.cell (i := 0) (by omega)
  have f0 := zz.row.frozen 0
  have c1 : w1.cell? ⟨w.heap.size, 1, none⟩ = some (.int .i64 0) := zz.row.cell (i := 1) (by omega)
  have f1 := zz.row.frozen 1
  have c2 : w1.cell? ⟨w.heap.size, 2, none⟩ = some (.int .i64 0) := zz.row.cell (i := 2) (by omega)
  have f2 := zz.row.frozen 2
  have c3 : w1.cell? ⟨w.heap.size, 3, none⟩ = some (.int .i64 0) := zz.row.cell (i := 3) (by omega)
  have f3 := zz.row.frozen 3
  have c4 : w1.cell? ⟨w.heap.size, 4, none⟩ = some (.int .i64 0) := zz.row.cell (i := 4) (by omega)
  have f4 := zz.row.frozen 4
  have c5 : w1.cell? ⟨w.heap.size, 5, none⟩ = some (.int .i64 0) := zz.row.cell (i := 5) (by omega)
  have f5 := zz.row.frozen 5
  have c6 : w1.cell? ⟨w.heap.size, 6, none⟩ = some (.int .i64 0) := zz.row.cell (i := 6) (by omega)
  have f6 := zz.row.frozen 6
  have c7 : w1.cell? ⟨w.heap.size, 7, none⟩ = some (.int .i64 0) := zz.row.cell (i := 7) (by omega)
  have f7 := zz.row.frozen 7
  clear zz
  go_wp2
  refine bodyPost_ret (results_cell_row (P := Tryd.prog) rfl _ _ w.heap.size 30 (cs8 [0, 0, 0, 0, f / 8 % 8, f % 8, 0, 0]) (0, 0) _ rfl (row8_heap ((unhide Z1).put (0) (0) (0) (0) (f / 8 % 8) (f % 8) (0) (0)).row) Tryd.underlying30 rfl (by kernel_rfl)) rfl ?_
  exact ⟨rfl, ((unhide Z1).put (0) (0) (0) (0) (f / 8 % 8) (f % 8) (0) (0)).bel⟩
set_option maxHeartbeats 1000000 in
theorem getReg_any (f : Int) (w : World) : Calls Tryd.prog 41 #[.int .i64 f] w fun e w' => e = .returned (Is.v ⟨0, zO, opdOf f, f / 64⟩) ∧ Below w.heap.size w w' := by
  have Z0 := hide (rz_new w)
  unfold Is.v zO
  simp only
  go_enter Tryd.func41, Tryd.ntmps41
  go_wp2_with fail
  refine (operandI_any (f) _).mono ?_
  rintro e w1 ⟨rfl, hb⟩
  have Z1 := hide ((unhide Z0).later hb)
  clear hb Z0
  unfold opdOf Od.v
  simp only
  have zz := unhide Z1
  have c0 : w1.cell? ⟨w.heap.size, 0, none⟩ = some (.int .i64 0) := zz.row.cell (i := 0) (by omega)
  have f0 := zz.row.frozen 0
  have c1 : w1.cell? ⟨w.heap.size, 1, none⟩ = some (.int .i64 0) := zz.row.cell (i := 1) (by omega)
  have f1 := zz.row.frozen 1
  have c2 : w1.cell? ⟨w.heap.size, 2, none⟩ = some (.int .i64 0) := zz.row.cell (i := 2) (by omega)
  have f2 := zz.row.frozen 2
  have c3 : w1.cell? ⟨w.heap.size, 3, none⟩ = some (.int .i64 0) := zz.row.cell (i := 3) (by omega)
  have f3 := zz.row.frozen 3
  have c4 : w1.cell? ⟨w.heap.size, 4, none⟩ = some (.int .i64 0) := zz.row.cell (i := 4) (by omega)
  have f4 := zz.row.frozen 4
  have c5 : w1.cell? ⟨w.heap.size, 5, none⟩ = some (.int .i64 0) := zz.row.cell (i := 5) (by omega)
  have f5 := zz.row.frozen 5
  have c6 : w1.cell? ⟨w.heap.size, 6, none⟩ = some (.int .i64 0) := zz.row.cell (i := 6) (by omega)
  have f6 := zz.row.frozen 6
  have c7 : w1.cell? ⟨w.heap.size, 7, none⟩ = some (.int .i64 0) := zz.row.cell (i := 7) (by omega)
  have f7 := zz.row.frozen 7
  clear zz
  go_wp2
  refine bodyPost_ret (results_cell_row (P := Tryd.prog) rfl _ _ w.heap.size 30 (cs8 [0, 0, 0, 0, f / 8 % 8, f % 8, 0, f / 64]) (0, 0) _ rfl (row8_heap ((unhide Z1).put (0) (0) (0) (0) (f / 8 % 8) (f % 8) (0) (f / 64)).row) Tryd.underlying30 rfl (by kernel_rfl)) rfl ?_
  exact ⟨rfl, ((unhide Z1).put (0) (0) (0) (0) (f / 8 % 8) (f % 8) (0) (f / 64)).bel⟩
end Go.Proofs.YtjpbjbnialehbaaDoor
