/- Contracts of the program's table of forms and of a first word, over this seat's translation; conditions stand as hypotheses of each. -/
import Derived.Test.YtomoakfemdjpbaaDoorEncB
import Derived.Laws.EntriesVeiled
import Derived.Deep.WholeRow
namespace Go.Proofs.YtomoakfemdjpbaaDoor
open Go.ChangeShapes Go.WideShapes Go.ChangeAt Go.RowKit
set_option linter.unusedVariables false
set_option linter.unusedSimpArgs false

def formsA : Array Value := #[.int .i64 1, .int .i64 6, .int .i64 4096, .func (.func 54) #[] #[], .func (.func 55) #[] #[], .int .i64 7, .int .i64 14, .int .i64 64, .func (.func 56) #[] #[], .func (.func 57) #[] #[], .int .i64 15, .int .i64 15, .int .i64 512, .func (.func 58) #[] #[], .func (.func 59) #[] #[], .int .i64 16, .int .i64 16, .int .i64 8, .func (.func 60) #[] #[], .func (.func 61) #[] #[], .int .i64 17, .int .i64 21, .int .i64 256, .func (.func 62) #[] #[], .func (.func 63) #[] #[], .int .i64 22, .int .i64 22, .int .i64 1, .func (.func 60) #[] #[], .func (.func 61) #[] #[], .int .i64 23, .int .i64 23, .int .i64 256, .func (.func 60) #[] #[], .func (.func 61) #[] #[]]

theorem wpList_store_new {P : Program} {ops : Array Oper} {rest : List Oper} {o : Oper} {a : Act} {w : World} {Q : Exit → Act → World → Prop} (hgd : o.guard = none) (ty : TypeId) (x y : Operand) (ho : o.op = .store ty x y)
    (cells : Array Value) (hx : a.eval x = .pointer (some ⟨w.heap.size, 0, none⟩)) (hy : a.eval y = .agg cells) (old : Array Value) (hi : (P.info? ty).map (·.size) = some cells.size)
    (hold : old.size = cells.size) (h1 : cells.all (·.oneCell') = true) (h : wpList P ops Q rest (a.put o.dst undef) (w.alloc (.cells cells ty))) : wpList P ops Q (o :: rest) a (w.alloc (.cells old ty)) :=
  wpList_store_row hgd ty x y ho w.heap.size cells hx hy ty old (heap_alloc_last w _) hi hold h1 (by rw [World.setRow_alloc_new]; exact h)

set_option maxHeartbeats 1000000 in
theorem forms_any (w : World) : Calls Tryd.prog 47 #[] w fun e w' => e = .returned (.agg formsA) ∧ Below w.heap.size w w' := by
  have HG : ∀ o, (w.alloc o).heap[w.heap.size]? = some o := fun o => Array.getElem?_push_size
  have HG' := hide HG
  clear HG
  go_enter Tryd.func47, Tryd.ntmps47
  go_wp2_with (refine wpList_store_new rfl 77 _ _ rfl formsA rfl rfl _ (by kernel_rfl) rfl (by kernel_rfl) ?_)
  refine bodyPost_ret (results_cell_row (P := Tryd.prog) rfl _ _ w.heap.size 77 formsA (0, 0) _ rfl (unhide HG' _) Tryd.underlying77 rfl (by kernel_rfl)) rfl ?_
  exact ⟨rfl, (Below.refl _ _).alloc (Nat.le_refl _) _⟩
end Go.Proofs.YtomoakfemdjpbaaDoor
