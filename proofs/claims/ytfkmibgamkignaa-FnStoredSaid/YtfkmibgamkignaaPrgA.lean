/- Places of the program's machine: reached by a pointer; over this seat's translation; conditions stand as hypotheses of each. -/
import Derived.Test.YtfkmibgamkignaaMacM
namespace Go.Proofs.Ytfkmibgamkignaa
open Go.ChangeShapes Go.WideShapes Go.ChangeAt Go.RowKit
set_option linter.unusedVariables false
set_option maxRecDepth 8000
set_option linter.unusedSimpArgs false

/-- A part of a row, loaded as a struct. -/
theorem run_loadVar_part {P : Program} (w : World) (g off : Nat) (t ty : TypeId) (big cs : Array Value) (fr : Nat × Nat) (d : TypeDesc) (hg : w.heap[g]? = some (.cells big t fr)) (hp : ∀ k v, cs[k]? = some v → big[off + k]? = some v)
    (hu : P.underlying ty = some d) (hd : (match d with | .struct _ | .array _ _ => true | _ => false) = true) (hi : (P.info? ty).map (·.size) = some cs.size) :
    (loadVar ty ⟨g, off, none⟩).run P w = .ok (.agg cs) w := by
  have hl : (loadCells ⟨g, off, none⟩ cs.toList.length).run P w = .ok cs.toList.toArray w :=
    run_loadCells_list (P := P) w ⟨g, off, none⟩ cs.toList (fun j v hv => by
      have hadd : (⟨g, off, none⟩ : Addr).add j = ⟨g, off + j, none⟩ := by unfold Addr.add; split <;> simp_all
      rw [hadd, cell_of_row w g (off + j) big t fr hg]
      exact hp j v (by simpa using hv))
  cases hq : P.info? ty with
  | none => simp [hq] at hi
  | some i =>
    have hs : i.size = cs.size := by simpa [hq] using hi
    have hagg : (isAgg ty).run P w = .ok true w := by
      unfold isAgg
      rw [Sem.run_bind, run_underlying hu w]
      cases d <;> simp_all
    simp only [Array.length_toList, Array.toArray_toList] at hl
    simp [loadVar, Sem.run_bind, hagg, sizeOf, typeInfo, hq, hs, hl]
/-- The machine within the program's machine, loaded whole. -/
theorem wpList_load_in {w : World} {ops : Array Oper} {rest : List Oper} {o : Oper} {a : Act} {Q : Exit → Act → World → Prop} (hgd : o.guard = none) (x : Operand) (ho : o.op = .load 28 x) (g : Nat) (mem : List Int) (y : Mv) (hm : mem.length = 256)
    (hx : a.eval x = .pointer (some ⟨g, 256, none⟩)) (hg : w.heap[g]? = some (.cells (bigA mem y) 80 (0, 0))) (h : wpList Try.prog ops Q rest (a.put o.dst (.agg y.cs)) w) : wpList Try.prog ops Q (o :: rest) a w := by
  refine wpList_plain hgd fun K hK => ?_
  unfold Oper.wp execOp
  simp only [ho, hx, Instr.loadAt, Instr.sureAddr, Sem.run_bind, Sem.run_pure, Result.andThen_ok, run_loadVar_part (P := Try.prog) w g 256 80 28 (bigA mem y) y.cs (0, 0) _ hg (fun k v hv => (bigA_mach y hm).trans hv) Try.underlying28 rfl (by kernel_rfl)]
  exact hK _ _ h

theorem regPlace_any (r : Int) (w : World) : Calls Try.prog 86 #[.int .i64 r] w fun e w' => e = .returned (.agg #[.int .i64 r, .int .i64 (-1)]) ∧ Below w.heap.size w w' := by
  have HB := hide (below_new w (.cells #[.int .i64 r, .int .i64 (-1)] 44))
  have R0 := hide (heap_alloc_last w (.cells #[.int .i64 r, .int .i64 (-1)] 44))
  go_enter Try.func86, Try.ntmps86
  go_wp2
  refine bodyPost_ret (results_cell_row (P := Try.prog) rfl _ _ w.heap.size 44 #[.int .i64 r, .int .i64 (-1)] (0, 0) _ rfl (unhide R0) Try.underlying44 rfl (by kernel_rfl)) rfl ?_
  exact ⟨rfl, unhide HB⟩
theorem adPlace_any (r : Int) (w : World) : Calls Try.prog 87 #[.int .i64 r] w fun e w' => e = .returned (.agg #[.int .i64 (-1), .int .i64 r]) ∧ Below w.heap.size w w' := by
  have HB := hide (below_new w (.cells #[.int .i64 (-1), .int .i64 r] 44))
  have R0 := hide (heap_alloc_last w (.cells #[.int .i64 (-1), .int .i64 r] 44))
  go_enter Try.func87, Try.ntmps87
  go_wp2
  refine bodyPost_ret (results_cell_row (P := Try.prog) rfl _ _ w.heap.size 44 #[.int .i64 (-1), .int .i64 r] (0, 0) _ rfl (unhide R0) Try.underlying44 rfl (by kernel_rfl)) rfl ?_
  exact ⟨rfl, unhide HB⟩
def regB (n : Nat) (r : Int) : Bool := decide (0 ≤ r) && (decide (r ≤ 7) && decide (r < (n : Int)))
set_option maxHeartbeats 1000000 in
theorem hasReg_any (x : Mv) (r : Int) (w : World) (hs : x.small) : Calls Try.prog 94 #[.agg x.cs, .int .i64 r] w fun e w' => e = .returned (.bool (regB x.r.n r)) ∧ Below w.heap.size w w' := by
  have HB := hide (below_new w (.cells x.cs 28))
  have R0 := heap_alloc_last w (.cells x.cs 28)
  have c1 := row_r R0
  have hn := hs.2.1
  unfold regB
  clear hs R0
  by_cases h1 : 0 ≤ r
  · by_cases h2 : r ≤ 7
    · go_enter Try.func94, Try.ntmps94
      go_wp2
      go_ret
      exact ⟨by simp [h1, h2], unhide HB⟩
    · go_enter Try.func94, Try.ntmps94
      go_wp2
      go_ret
      exact ⟨by simp [h1, h2]; omega, unhide HB⟩
  · go_enter Try.func94, Try.ntmps94
    go_wp2
    go_ret
    exact ⟨by simp [h1]; omega, unhide HB⟩

/-- Where a place of the program's machine is. -/
def rchI (g gr : Nat) (d : Md) (r a : Int) : Option Addr := if a = -1 ∧ regB d.r.length r = true then some ⟨gr, r.toNat, none⟩ else if r = -1 ∧ d.has a = true then some ⟨g, (a / 2).toNat, none⟩ else none
/-- While a place is looked for: its box, the machine's row. -/
structure Bt (w wr : World) (g : Nat) (mem : List Int) (y : Mv) (r a : Int) : Prop where
  bx : wr.heap[w.heap.size]? = some (.cells #[.int .i64 r, .int .i64 a] 44 (0, 0))
  row : wr.heap[g]? = some (.cells (bigA mem y) 80 (0, 0))
  bel : Below w.heap.size w wr
section
variable {w wr w' : World} {g : Nat} {mem : List Int} {y : Mv} {r a : Int}
theorem bt_new (r a : Int) (h : w.heap[g]? = some (.cells (bigA mem y) 80 (0, 0))) : Bt w (w.alloc (.cells #[.int .i64 r, .int .i64 a] 44)) g mem y r a := ⟨heap_alloc_last w _, row_lat h (below_new w _), below_new w _⟩
theorem Bt.later (h : Bt w wr g mem y r a) (hb : Below wr.heap.size wr w') : Bt w w' g mem y r a := ⟨row_lat h.bx hb, row_lat h.row hb, h.bel.trans (hb.mono h.bel.size)⟩
theorem Bt.cr (h : Bt w wr g mem y r a) : wr.cell? ⟨w.heap.size, 0, none⟩ = some (.int .i64 r) := (cell_of_row wr _ 0 _ 44 _ h.bx).trans rfl
theorem Bt.ca (h : Bt w wr g mem y r a) : wr.cell? ⟨w.heap.size, 1, none⟩ = some (.int .i64 a) := (cell_of_row wr _ 1 _ 44 _ h.bx).trans rfl
end

end Go.Proofs.Ytfkmibgamkignaa
