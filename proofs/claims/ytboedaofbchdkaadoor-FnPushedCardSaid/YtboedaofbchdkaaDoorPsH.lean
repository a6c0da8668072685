/- Contracts over this seat's translation, laid together; conditions stand as hypotheses of each. -/
import Derived.Test.YtboedaofbchdkaaDoorPsG

namespace Go.Proofs.YtboedaofbchdkaaDoor
open Go.ChangeShapes Go.WideShapes Go.ChangeAt Go.RowKit
set_option linter.unusedVariables false
set_option maxRecDepth 8000
set_option linter.unusedSimpArgs false
/-- The table of least first words lies in its variable's cells. -/
def Tab (w : World) : Prop := 0 < w.heap.size ∧ ∀ k, k < 24 → w.cell? ⟨0, k, none⟩ = some (.int .i64 (baseAt k))
theorem Tab.later {w w' : World} (h : Tab w) (hb : Below w.heap.size w w') : Tab w' :=
  ⟨Nat.lt_of_lt_of_le h.1 hb.size, fun k hk => (hb.cell (p := ⟨0, k, none⟩) h.1).trans (h.2 k hk)⟩
def Is.fldQ (i : Is) : Int :=
  if i.op ≤ 6 then i.s.six * 64 + i.d.six
  else if i.op ≤ 14 then i.d.six
  else if i.op = 15 then i.n * 64 + i.d.six
  else if 17 ≤ i.op ∧ i.op ≤ 21 then i.n % 256
  else i.n
theorem ok_inOQ {o : Od} (h : o.ok = true) : InOQ o := (od_ok h).1
theorem code_fldQ (i : Is) (h : i.ok = true) : i.code = baseAt i.op.toNat + i.fldQ ∧ 0 ≤ i.fldQ ∧ i.fldQ ≤ 4095 := by
  obtain ⟨h1, h2, h3, h4, h5, h6, h7, h8, h9, h10⟩ := is_ok h
  unfold Is.code Is.fldQ
  have a1 : i.op ≤ 6 → 0 ≤ i.s.six ∧ i.s.six ≤ 63 := fun h => six_bdQ (ok_inOQ (h2 h))
  have a2 : i.op ≤ 15 → 0 ≤ i.d.six ∧ i.d.six ≤ 63 := fun h => six_bdQ (ok_inOQ (h3 h))
  by_cases c1 : i.op ≤ 6
  · have := a1 c1; have := a2 (by omega)
    rw [if_pos c1, if_pos c1]; omega
  rw [if_neg c1, if_neg c1]
  by_cases c2 : i.op ≤ 14
  · have := a2 (by omega)
    rw [if_pos c2, if_pos c2]; omega
  rw [if_neg c2, if_neg c2]
  by_cases c3 : i.op = 15
  · have := a2 (by omega); have := h8 (by omega)
    rw [if_pos c3, if_pos c3]; omega
  rw [if_neg c3, if_neg c3]
  by_cases c4 : i.op = 16 ∨ i.op = 23
  · rw [if_pos c4, if_neg (by omega)]
    have : 0 ≤ i.n := by rcases c4 with c | c
                         · exact (h8 (by omega)).1
                         · exact h10 c
    omega
  rw [if_neg c4]
  by_cases c5 : i.op ≤ 21
  · rw [if_pos c5, if_pos (by omega)]; omega
  · rw [if_neg c5, if_neg (by omega)]
    have := h7 (by omega)
    omega
def firstOf (j : Nat) : Nat := [1, 7, 15, 16, 17, 22, 23, 24].getD j 0
theorem put_0 (i : Is) (h : i.ok = true) (hr : 1 ≤ i.op ∧ i.op ≤ 6) (w : World) : Calls Tryd.prog 58 #[i.v] w fun e w' => e = .returned (.int .i64 i.fldQ) ∧ Below w.heap.size w w' := by
  obtain ⟨h1, h2, h3, h4, h5, h6, h7, h8, h9, h10⟩ := is_ok h
  have := putTwo_any i (ok_inOQ (h2 (by omega))) (ok_inOQ (h3 (by omega))) w
  unfold Is.fldQ
  rw [if_pos (by omega)]
  exact this
theorem put_1 (i : Is) (h : i.ok = true) (hr : 7 ≤ i.op ∧ i.op ≤ 14) (w : World) : Calls Tryd.prog 60 #[i.v] w fun e w' => e = .returned (.int .i64 i.fldQ) ∧ Below w.heap.size w w' := by
  obtain ⟨h1, h2, h3, h4, h5, h6, h7, h8, h9, h10⟩ := is_ok h
  have := putOperand_any i (ok_inOQ (h3 (by omega))) w
  unfold Is.fldQ
  rw [if_neg (by omega), if_pos (by omega)]
  exact this
theorem put_2 (i : Is) (h : i.ok = true) (hr : 15 ≤ i.op ∧ i.op ≤ 15) (w : World) : Calls Tryd.prog 62 #[i.v] w fun e w' => e = .returned (.int .i64 i.fldQ) ∧ Below w.heap.size w w' := by
  obtain ⟨h1, h2, h3, h4, h5, h6, h7, h8, h9, h10⟩ := is_ok h
  have := putReg_any i (h8 (by omega)) (ok_inOQ (h3 (by omega))) w
  unfold Is.fldQ
  rw [if_neg (by omega), if_neg (by omega), if_pos (by omega)]
  exact this
theorem put_3 (i : Is) (h : i.ok = true) (hr : 16 ≤ i.op ∧ i.op ≤ 16) (w : World) : Calls Tryd.prog 64 #[i.v] w fun e w' => e = .returned (.int .i64 i.fldQ) ∧ Below w.heap.size w w' := by
  obtain ⟨h1, h2, h3, h4, h5, h6, h7, h8, h9, h10⟩ := is_ok h
  have := putNumber_any i w
  unfold Is.fldQ
  rw [if_neg (by omega), if_neg (by omega), if_neg (by omega), if_neg (by omega)]
  exact this
theorem put_4 (i : Is) (h : i.ok = true) (hr : 17 ≤ i.op ∧ i.op ≤ 21) (w : World) : Calls Tryd.prog 66 #[i.v] w fun e w' => e = .returned (.int .i64 i.fldQ) ∧ Below w.heap.size w w' := by
  obtain ⟨h1, h2, h3, h4, h5, h6, h7, h8, h9, h10⟩ := is_ok h
  have := putBranch_any i w
  unfold Is.fldQ
  rw [if_neg (by omega), if_neg (by omega), if_neg (by omega), if_pos (by omega)]
  exact this
theorem put_5 (i : Is) (h : i.ok = true) (hr : 22 ≤ i.op ∧ i.op ≤ 22) (w : World) : Calls Tryd.prog 64 #[i.v] w fun e w' => e = .returned (.int .i64 i.fldQ) ∧ Below w.heap.size w w' := by
  obtain ⟨h1, h2, h3, h4, h5, h6, h7, h8, h9, h10⟩ := is_ok h
  have := putNumber_any i w
  unfold Is.fldQ
  rw [if_neg (by omega), if_neg (by omega), if_neg (by omega), if_neg (by omega)]
  exact this
theorem put_6 (i : Is) (h : i.ok = true) (hr : 23 ≤ i.op ∧ i.op ≤ 23) (w : World) : Calls Tryd.prog 64 #[i.v] w fun e w' => e = .returned (.int .i64 i.fldQ) ∧ Below w.heap.size w w' := by
  obtain ⟨h1, h2, h3, h4, h5, h6, h7, h8, h9, h10⟩ := is_ok h
  have := putNumber_any i w
  unfold Is.fldQ
  rw [if_neg (by omega), if_neg (by omega), if_neg (by omega), if_neg (by omega)]
  exact this
theorem wpList_index_at {P : Program} {ops : Array Oper} {rest : List Oper} {o : Oper} {a : Act} {w : World} {Q : Exit → Act → World → Prop} (hgd : o.guard = none) (xt : TypeId) (x ix : Operand) (ho : o.op = .index xt x ix) (cs : Array Value) (i : Int) (v : Value)
    (hx : a.eval x = .agg cs) (hi : a.eval ix = .int .i64 i) (hr : ∀ w, (Instr.index xt (.agg cs) (.int .i64 i)).run P w = .ok v w) (h : wpList P ops Q rest (a.put o.dst v) w) : wpList P ops Q (o :: rest) a w :=
  wpList_plain hgd fun _ hK => by
    unfold Oper.wp execOp
    simp only [ho, hx, hi, hr, Sem.run_bind, Sem.run_pure, Result.andThen_ok]
    exact hK _ _ h
theorem ix_0 (w : World) : (Instr.index 83 (.agg formsA) (.int .i64 0)).run Tryd.prog w = .ok (.agg #[.int .i64 1, .int .i64 6, .int .i64 4096, .func (.func 58) #[] #[], .func (.func 59) #[] #[]]) w := by kernel_rfl
theorem ix_1 (w : World) : (Instr.index 83 (.agg formsA) (.int .i64 1)).run Tryd.prog w = .ok (.agg #[.int .i64 7, .int .i64 14, .int .i64 64, .func (.func 60) #[] #[], .func (.func 61) #[] #[]]) w := by kernel_rfl
theorem ix_2 (w : World) : (Instr.index 83 (.agg formsA) (.int .i64 2)).run Tryd.prog w = .ok (.agg #[.int .i64 15, .int .i64 15, .int .i64 512, .func (.func 62) #[] #[], .func (.func 63) #[] #[]]) w := by kernel_rfl
theorem ix_3 (w : World) : (Instr.index 83 (.agg formsA) (.int .i64 3)).run Tryd.prog w = .ok (.agg #[.int .i64 16, .int .i64 16, .int .i64 8, .func (.func 64) #[] #[], .func (.func 65) #[] #[]]) w := by kernel_rfl
theorem ix_4 (w : World) : (Instr.index 83 (.agg formsA) (.int .i64 4)).run Tryd.prog w = .ok (.agg #[.int .i64 17, .int .i64 21, .int .i64 256, .func (.func 66) #[] #[], .func (.func 67) #[] #[]]) w := by kernel_rfl
theorem ix_5 (w : World) : (Instr.index 83 (.agg formsA) (.int .i64 5)).run Tryd.prog w = .ok (.agg #[.int .i64 22, .int .i64 22, .int .i64 1, .func (.func 64) #[] #[], .func (.func 65) #[] #[]]) w := by kernel_rfl
theorem ix_6 (w : World) : (Instr.index 83 (.agg formsA) (.int .i64 6)).run Tryd.prog w = .ok (.agg #[.int .i64 23, .int .i64 23, .int .i64 256, .func (.func 64) #[] #[], .func (.func 65) #[] #[]]) w := by kernel_rfl
theorem put_any (i : Is) (h : i.ok = true) (w : World) : ((1 ≤ i.op ∧ i.op ≤ 6) → Calls Tryd.prog 58 #[i.v] w fun e w' => e = .returned (.int .i64 i.fldQ) ∧ Below w.heap.size w w') ∧ ((7 ≤ i.op ∧ i.op ≤ 14) → Calls Tryd.prog 60 #[i.v] w fun e w' => e = .returned (.int .i64 i.fldQ) ∧ Below w.heap.size w w') ∧ ((15 ≤ i.op ∧ i.op ≤ 15) → Calls Tryd.prog 62 #[i.v] w fun e w' => e = .returned (.int .i64 i.fldQ) ∧ Below w.heap.size w w') ∧ ((16 ≤ i.op ∧ i.op ≤ 16) → Calls Tryd.prog 64 #[i.v] w fun e w' => e = .returned (.int .i64 i.fldQ) ∧ Below w.heap.size w w') ∧ ((17 ≤ i.op ∧ i.op ≤ 21) → Calls Tryd.prog 66 #[i.v] w fun e w' => e = .returned (.int .i64 i.fldQ) ∧ Below w.heap.size w w') ∧ ((22 ≤ i.op ∧ i.op ≤ 22) → Calls Tryd.prog 64 #[i.v] w fun e w' => e = .returned (.int .i64 i.fldQ) ∧ Below w.heap.size w w') ∧ ((23 ≤ i.op ∧ i.op ≤ 23) → Calls Tryd.prog 64 #[i.v] w fun e w' => e = .returned (.int .i64 i.fldQ) ∧ Below w.heap.size w w') :=
  ⟨fun r => put_0 i h r w, fun r => put_1 i h r w, fun r => put_2 i h r w, fun r => put_3 i h r w, fun r => put_4 i h r w, fun r => put_5 i h r w, fun r => put_6 i h r w⟩
theorem box_into {B : Nat} {w0 w1 w2 : World} {o : Obj} (h : Below B w0 w1) (hz : B ≤ w0.heap.size) (hb : Below (w1.heap.size + 1) (w1.alloc o) w2) : Below B w0 w2 :=
  h.trans ((box_below w1 o w2 hb).mono (Nat.le_trans hz h.size))
set_option maxHeartbeats 8000000 in
theorem firstWord_any (k : Nat) (sm sr sx dm dr dx n : Int) (w : World) (ht : Tab w) (hok : Is.ok ⟨(k : Int), ⟨sm, sr, sx⟩, ⟨dm, dr, dx⟩, n⟩ = true) :
    Calls Tryd.prog 19 #[.agg #[.int .i64 (k : Int), .int .i64 sm, .int .i64 sr, .int .i64 sx, .int .i64 dm, .int .i64 dr, .int .i64 dx, .int .i64 n]] w fun e w' => e = .returned (.int .i64 (Is.code ⟨(k : Int), ⟨sm, sr, sx⟩, ⟨dm, dr, dx⟩, n⟩)) ∧ Below w.heap.size w w' := by
  have hop := (is_ok hok).1
  simp only at hop
  have hcf := code_fldQ _ hok
  have PA := hide (fun (w : World) => put_any ⟨(k : Int), ⟨sm, sr, sx⟩, ⟨dm, dr, dx⟩, n⟩ hok w)
  rw [hcf.1]
  have hf := hcf.2
  clear hcf
  generalize Is.fldQ ⟨(k : Int), ⟨sm, sr, sx⟩, ⟨dm, dr, dx⟩, n⟩ = fl at PA hf ⊢
  have hb := base_bd ⟨k, by omega⟩
  simp only at hb
  rw [show (Is.op ⟨(k : Int), ⟨sm, sr, sx⟩, ⟨dm, dr, dx⟩, n⟩).toNat = k from rfl]
  have htk := ht.2 k (by omega)
  generalize baseAt k = bk at hb htk ⊢
  have HS := hide (box_below w (Obj.cells #[.int .i64 (k : Int), .int .i64 sm, .int .i64 sr, .int .i64 sx, .int .i64 dm, .int .i64 dr, .int .i64 dx, .int .i64 n] 30))
  have HZ := hide (show w.heap.size + 1 ≤ (w.alloc (Obj.cells #[.int .i64 (k : Int), .int .i64 sm, .int .i64 sr, .int .i64 sx, .int .i64 dm, .int .i64 dr, .int .i64 dx, .int .i64 n] 30)).heap.size by simp)
  have HIN := hide (fun (w2 : World) (h : Below (w.heap.size + 1) (w.alloc (Obj.cells #[.int .i64 (k : Int), .int .i64 sm, .int .i64 sr, .int .i64 sx, .int .i64 dm, .int .i64 dr, .int .i64 dx, .int .i64 n] 30)) w2) => (⟨fun (q : Nat) v hv => box_cells w _ 30 w2 h q v hv, (((box_below w _ w2 h).cell (p := ⟨0, k, none⟩) ht.1).trans htk)⟩ : (∀ (q : Nat) v, (#[.int .i64 (k : Int), .int .i64 sm, .int .i64 sr, .int .i64 sx, .int .i64 dm, .int .i64 dr, .int .i64 dx, .int .i64 n] : Array Value)[q]? = some v → w2.cell? ⟨w.heap.size, q, none⟩ = some v) ∧ w2.cell? ⟨0, k, none⟩ = some (.int .i64 bk)))
  clear ht htk hok
  unfold Is.v at PA
  simp only at PA
  go_enter Tryd.func19, Tryd.ntmps19
  go_wp2_with fail
  refine (Sub.call (x := Sub.top w (Obj.cells #[.int .i64 (k : Int), .int .i64 sm, .int .i64 sr, .int .i64 sx, .int .i64 dm, .int .i64 dr, .int .i64 dx, .int .i64 n] 30)) (unhide HZ) (forms_any _)).mono ?_
  rintro e _ ⟨rfl, y0, rfl⟩
  go_wp2_with fail
  go_loopw [6] (fun v6 wr => ∃ j : Nat, j ≤ 7 ∧ v6 = .int .i64 j ∧ firstOf j ≤ k ∧ Below (w.heap.size + 1) (w.alloc (Obj.cells #[.int .i64 (k : Int), .int .i64 sm, .int .i64 sr, .int .i64 sx, .int .i64 dm, .int .i64 dr, .int .i64 dx, .int .i64 n] 30)) wr) (fun v6 _ => 7 - (intOf v6).toNat)
  case atStart => exact ⟨0, by omega, rfl, by simp [firstOf]; omega, y0.h⟩
  case round =>
    obtain ⟨j, hj, rfl, hfj, hbel⟩ := hrel
    obtain rfl | rfl | rfl | rfl | rfl | rfl | rfl | rfl : j = 0 ∨ j = 1 ∨ j = 2 ∨ j = 3 ∨ j = 4 ∨ j = 5 ∨ j = 6 ∨ j = 7 := by omega
    · simp [firstOf] at hfj
      have ne := Sub.ne (wr.heap.size + 1) (wr.alloc (Obj.cells #[.int .i64 1, .int .i64 6, .int .i64 4096, .func (.func 58) #[] #[], .func (.func 59) #[] #[]] 82))
      have HZ2 := hide (show wr.heap.size + 1 ≤ (wr.alloc (Obj.cells #[.int .i64 1, .int .i64 6, .int .i64 4096, .func (.func 58) #[] #[], .func (.func 59) #[] #[]] 82)).heap.size by simp)
      have HI := hide (fun (w2 : World) (h : Below (wr.heap.size + 1) (wr.alloc (Obj.cells #[.int .i64 1, .int .i64 6, .int .i64 4096, .func (.func 58) #[] #[], .func (.func 59) #[] #[]] 82)) w2) => unhide HIN w2 (box_into hbel (unhide HZ) h))
      have c0 : ∀ y : Sub (wr.heap.size + 1) (wr.alloc (Obj.cells #[.int .i64 1, .int .i64 6, .int .i64 4096, .func (.func 58) #[] #[], .func (.func 59) #[] #[]] 82)), y.w.cell? ⟨w.heap.size, 0, none⟩ = some (.int .i64 (k : Int)) := fun y => (unhide HI y.w y.h).1 0 _ rfl
      have c1 : ∀ y : Sub (wr.heap.size + 1) (wr.alloc (Obj.cells #[.int .i64 1, .int .i64 6, .int .i64 4096, .func (.func 58) #[] #[], .func (.func 59) #[] #[]] 82)), y.w.cell? ⟨w.heap.size, 1, none⟩ = some (.int .i64 sm) := fun y => (unhide HI y.w y.h).1 1 _ rfl
      have c2 : ∀ y : Sub (wr.heap.size + 1) (wr.alloc (Obj.cells #[.int .i64 1, .int .i64 6, .int .i64 4096, .func (.func 58) #[] #[], .func (.func 59) #[] #[]] 82)), y.w.cell? ⟨w.heap.size, 2, none⟩ = some (.int .i64 sr) := fun y => (unhide HI y.w y.h).1 2 _ rfl
      have c3 : ∀ y : Sub (wr.heap.size + 1) (wr.alloc (Obj.cells #[.int .i64 1, .int .i64 6, .int .i64 4096, .func (.func 58) #[] #[], .func (.func 59) #[] #[]] 82)), y.w.cell? ⟨w.heap.size, 3, none⟩ = some (.int .i64 sx) := fun y => (unhide HI y.w y.h).1 3 _ rfl
      have c4 : ∀ y : Sub (wr.heap.size + 1) (wr.alloc (Obj.cells #[.int .i64 1, .int .i64 6, .int .i64 4096, .func (.func 58) #[] #[], .func (.func 59) #[] #[]] 82)), y.w.cell? ⟨w.heap.size, 4, none⟩ = some (.int .i64 dm) := fun y => (unhide HI y.w y.h).1 4 _ rfl
      have c5 : ∀ y : Sub (wr.heap.size + 1) (wr.alloc (Obj.cells #[.int .i64 1, .int .i64 6, .int .i64 4096, .func (.func 58) #[] #[], .func (.func 59) #[] #[]] 82)), y.w.cell? ⟨w.heap.size, 5, none⟩ = some (.int .i64 dr) := fun y => (unhide HI y.w y.h).1 5 _ rfl
      have c6 : ∀ y : Sub (wr.heap.size + 1) (wr.alloc (Obj.cells #[.int .i64 1, .int .i64 6, .int .i64 4096, .func (.func 58) #[] #[], .func (.func 59) #[] #[]] 82)), y.w.cell? ⟨w.heap.size, 6, none⟩ = some (.int .i64 dx) := fun y => (unhide HI y.w y.h).1 6 _ rfl
      have c7 : ∀ y : Sub (wr.heap.size + 1) (wr.alloc (Obj.cells #[.int .i64 1, .int .i64 6, .int .i64 4096, .func (.func 58) #[] #[], .func (.func 59) #[] #[]] 82)), y.w.cell? ⟨w.heap.size, 7, none⟩ = some (.int .i64 n) := fun y => (unhide HI y.w y.h).1 7 _ rfl
      have ct : ∀ y : Sub (wr.heap.size + 1) (wr.alloc (Obj.cells #[.int .i64 1, .int .i64 6, .int .i64 4096, .func (.func 58) #[] #[], .func (.func 59) #[] #[]] 82)), y.w.cell? ⟨0, k, none⟩ = some (.int .i64 bk) := fun y => (unhide HI y.w y.h).2
      have d0 : (wr.alloc (Obj.cells #[.int .i64 1, .int .i64 6, .int .i64 4096, .func (.func 58) #[] #[], .func (.func 59) #[] #[]] 82)).cell? ⟨w.heap.size, 0, none⟩ = some (.int .i64 (k : Int)) := c0 (Sub.top wr (Obj.cells #[.int .i64 1, .int .i64 6, .int .i64 4096, .func (.func 58) #[] #[], .func (.func 59) #[] #[]] 82))
      have f0 : ∀ y : Sub (wr.heap.size + 1) (wr.alloc (Obj.cells #[.int .i64 1, .int .i64 6, .int .i64 4096, .func (.func 58) #[] #[], .func (.func 59) #[] #[]] 82)), y.w.cell? ⟨wr.heap.size, 0, none⟩ = some (.int .i64 1) := fun y => y.cells 0 _ rfl
      have f1 : ∀ y : Sub (wr.heap.size + 1) (wr.alloc (Obj.cells #[.int .i64 1, .int .i64 6, .int .i64 4096, .func (.func 58) #[] #[], .func (.func 59) #[] #[]] 82)), y.w.cell? ⟨wr.heap.size, 1, none⟩ = some (.int .i64 6) := fun y => y.cells 1 _ rfl
      have f2 : ∀ y : Sub (wr.heap.size + 1) (wr.alloc (Obj.cells #[.int .i64 1, .int .i64 6, .int .i64 4096, .func (.func 58) #[] #[], .func (.func 59) #[] #[]] 82)), y.w.cell? ⟨wr.heap.size, 2, none⟩ = some (.int .i64 4096) := fun y => y.cells 2 _ rfl
      have f3 : ∀ y : Sub (wr.heap.size + 1) (wr.alloc (Obj.cells #[.int .i64 1, .int .i64 6, .int .i64 4096, .func (.func 58) #[] #[], .func (.func 59) #[] #[]] 82)), y.w.cell? ⟨wr.heap.size, 3, none⟩ = some (.func (.func 58) #[] #[]) := fun y => y.cells 3 _ rfl
      have f4 : ∀ y : Sub (wr.heap.size + 1) (wr.alloc (Obj.cells #[.int .i64 1, .int .i64 6, .int .i64 4096, .func (.func 58) #[] #[], .func (.func 59) #[] #[]] 82)), y.w.cell? ⟨wr.heap.size, 4, none⟩ = some (.func (.func 59) #[] #[]) := fun y => y.cells 4 _ rfl
      by_cases hl : k ≤ 6
      · have PK := hide (fun (w : World) => (unhide PA w).1 (by omega))
        clear PA
        go_wp2_with (refine wpList_index_at rfl 83 _ _ rfl formsA 0 _ rfl rfl ix_0 ?_)
        refine wp_region_sub (Sub.top wr (Obj.cells #[.int .i64 1, .int .i64 6, .int .i64 4096, .func (.func 58) #[] #[], .func (.func 59) #[] #[]] 82)) (by kernel_rfl) (by kernel_rfl) ?_
        repeat (go_big_quiet_step (first | (go_at_call 58; exact Sub.call (unhide HZ2) (unhide PK _))))
        refine wpQuiet_nil ?_
        intro y
        go_wp2
        go_ret
        exact ⟨rfl, unhide HS _ (box_into hbel (unhide HZ) y.h)⟩
      · have HN := hide (box_into (o := (Obj.cells #[.int .i64 1, .int .i64 6, .int .i64 4096, .func (.func 58) #[] #[], .func (.func 59) #[] #[]] 82)) hbel (unhide HZ) (Below.refl _ _))
        go_wp2_with (refine wpList_index_at rfl 83 _ _ rfl formsA 0 _ rfl rfl ix_0 ?_)
        go_roundw
        case rel => exact ⟨1, by omega, by go_num, by simp [firstOf]; omega, unhide HN⟩
        case measure => simp [intOf]
    · simp [firstOf] at hfj
      have ne := Sub.ne (wr.heap.size + 1) (wr.alloc (Obj.cells #[.int .i64 7, .int .i64 14, .int .i64 64, .func (.func 60) #[] #[], .func (.func 61) #[] #[]] 82))
      have HZ2 := hide (show wr.heap.size + 1 ≤ (wr.alloc (Obj.cells #[.int .i64 7, .int .i64 14, .int .i64 64, .func (.func 60) #[] #[], .func (.func 61) #[] #[]] 82)).heap.size by simp)
      have HI := hide (fun (w2 : World) (h : Below (wr.heap.size + 1) (wr.alloc (Obj.cells #[.int .i64 7, .int .i64 14, .int .i64 64, .func (.func 60) #[] #[], .func (.func 61) #[] #[]] 82)) w2) => unhide HIN w2 (box_into hbel (unhide HZ) h))
      have c0 : ∀ y : Sub (wr.heap.size + 1) (wr.alloc (Obj.cells #[.int .i64 7, .int .i64 14, .int .i64 64, .func (.func 60) #[] #[], .func (.func 61) #[] #[]] 82)), y.w.cell? ⟨w.heap.size, 0, none⟩ = some (.int .i64 (k : Int)) := fun y => (unhide HI y.w y.h).1 0 _ rfl
      have c1 : ∀ y : Sub (wr.heap.size + 1) (wr.alloc (Obj.cells #[.int .i64 7, .int .i64 14, .int .i64 64, .func (.func 60) #[] #[], .func (.func 61) #[] #[]] 82)), y.w.cell? ⟨w.heap.size, 1, none⟩ = some (.int .i64 sm) := fun y => (unhide HI y.w y.h).1 1 _ rfl
      have c2 : ∀ y : Sub (wr.heap.size + 1) (wr.alloc (Obj.cells #[.int .i64 7, .int .i64 14, .int .i64 64, .func (.func 60) #[] #[], .func (.func 61) #[] #[]] 82)), y.w.cell? ⟨w.heap.size, 2, none⟩ = some (.int .i64 sr) := fun y => (unhide HI y.w y.h).1 2 _ rfl
      have c3 : ∀ y : Sub (wr.heap.size + 1) (wr.alloc (Obj.cells #[.int .i64 7, .int .i64 14, .int .i64 64, .func (.func 60) #[] #[], .func (.func 61) #[] #[]] 82)), y.w.cell? ⟨w.heap.size, 3, none⟩ = some (.int .i64 sx) := fun y => (unhide HI y.w y.h).1 3 _ rfl
      have c4 : ∀ y : Sub (wr.heap.size + 1) (wr.alloc (Obj.cells #[.int .i64 7, .int .i64 14, .int .i64 64, .func (.func 60) #[] #[], .func (.func 61) #[] #[]] 82)), y.w.cell? ⟨w.heap.size, 4, none⟩ = some (.int .i64 dm) := fun y => (unhide HI y.w y.h).1 4 _ rfl
      have c5 : ∀ y : Sub (wr.heap.size + 1) (wr.alloc (Obj.cells #[.int .i64 7, .int .i64 14, .int .i64 64, .func (.func 60) #[] #[], .func (.func 61) #[] #[]] 82)), y.w.cell? ⟨w.heap.size, 5, none⟩ = some (.int .i64 dr) := fun y => (unhide HI y.w y.h).1 5 _ rfl
      have c6 : ∀ y : Sub (wr.heap.size + 1) (wr.alloc (Obj.cells #[.int .i64 7, .int .i64 14, .int .i64 64, .func (.func 60) #[] #[], .func (.func 61) #[] #[]] 82)), y.w.cell? ⟨w.heap.size, 6, none⟩ = some (.int .i64 dx) := fun y => (unhide HI y.w y.h).1 6 _ rfl
      have c7 : ∀ y : Sub (wr.heap.size + 1) (wr.alloc (Obj.cells #[.int .i64 7, .int .i64 14, .int .i64 64, .func (.func 60) #[] #[], .func (.func 61) #[] #[]] 82)), y.w.cell? ⟨w.heap.size, 7, none⟩ = some (.int .i64 n) := fun y => (unhide HI y.w y.h).1 7 _ rfl
      have ct : ∀ y : Sub (wr.heap.size + 1) (wr.alloc (Obj.cells #[.int .i64 7, .int .i64 14, .int .i64 64, .func (.func 60) #[] #[], .func (.func 61) #[] #[]] 82)), y.w.cell? ⟨0, k, none⟩ = some (.int .i64 bk) := fun y => (unhide HI y.w y.h).2
      have d0 : (wr.alloc (Obj.cells #[.int .i64 7, .int .i64 14, .int .i64 64, .func (.func 60) #[] #[], .func (.func 61) #[] #[]] 82)).cell? ⟨w.heap.size, 0, none⟩ = some (.int .i64 (k : Int)) := c0 (Sub.top wr (Obj.cells #[.int .i64 7, .int .i64 14, .int .i64 64, .func (.func 60) #[] #[], .func (.func 61) #[] #[]] 82))
      have f0 : ∀ y : Sub (wr.heap.size + 1) (wr.alloc (Obj.cells #[.int .i64 7, .int .i64 14, .int .i64 64, .func (.func 60) #[] #[], .func (.func 61) #[] #[]] 82)), y.w.cell? ⟨wr.heap.size, 0, none⟩ = some (.int .i64 7) := fun y => y.cells 0 _ rfl
      have f1 : ∀ y : Sub (wr.heap.size + 1) (wr.alloc (Obj.cells #[.int .i64 7, .int .i64 14, .int .i64 64, .func (.func 60) #[] #[], .func (.func 61) #[] #[]] 82)), y.w.cell? ⟨wr.heap.size, 1, none⟩ = some (.int .i64 14) := fun y => y.cells 1 _ rfl
      have f2 : ∀ y : Sub (wr.heap.size + 1) (wr.alloc (Obj.cells #[.int .i64 7, .int .i64 14, .int .i64 64, .func (.func 60) #[] #[], .func (.func 61) #[] #[]] 82)), y.w.cell? ⟨wr.heap.size, 2, none⟩ = some (.int .i64 64) := fun y => y.cells 2 _ rfl
      have f3 : ∀ y : Sub (wr.heap.size + 1) (wr.alloc (Obj.cells #[.int .i64 7, .int .i64 14, .int .i64 64, .func (.func 60) #[] #[], .func (.func 61) #[] #[]] 82)), y.w.cell? ⟨wr.heap.size, 3, none⟩ = some (.func (.func 60) #[] #[]) := fun y => y.cells 3 _ rfl
      have f4 : ∀ y : Sub (wr.heap.size + 1) (wr.alloc (Obj.cells #[.int .i64 7, .int .i64 14, .int .i64 64, .func (.func 60) #[] #[], .func (.func 61) #[] #[]] 82)), y.w.cell? ⟨wr.heap.size, 4, none⟩ = some (.func (.func 61) #[] #[]) := fun y => y.cells 4 _ rfl
      by_cases hl : k ≤ 14
      · have PK := hide (fun (w : World) => (unhide PA w).2.1 (by omega))
        clear PA
        go_wp2_with (refine wpList_index_at rfl 83 _ _ rfl formsA 1 _ rfl rfl ix_1 ?_)
        refine wp_region_sub (Sub.top wr (Obj.cells #[.int .i64 7, .int .i64 14, .int .i64 64, .func (.func 60) #[] #[], .func (.func 61) #[] #[]] 82)) (by kernel_rfl) (by kernel_rfl) ?_
        repeat (go_big_quiet_step (first | (go_at_call 60; exact Sub.call (unhide HZ2) (unhide PK _))))
        refine wpQuiet_nil ?_
        intro y
        go_wp2
        go_ret
        exact ⟨rfl, unhide HS _ (box_into hbel (unhide HZ) y.h)⟩
      · have HN := hide (box_into (o := (Obj.cells #[.int .i64 7, .int .i64 14, .int .i64 64, .func (.func 60) #[] #[], .func (.func 61) #[] #[]] 82)) hbel (unhide HZ) (Below.refl _ _))
        go_wp2_with (refine wpList_index_at rfl 83 _ _ rfl formsA 1 _ rfl rfl ix_1 ?_)
        go_roundw
        case rel => exact ⟨2, by omega, by go_num, by simp [firstOf]; omega, unhide HN⟩
        case measure => simp [intOf]
    · simp [firstOf] at hfj
      have ne := Sub.ne (wr.heap.size + 1) (wr.alloc (Obj.cells #[.int .i64 15, .int .i64 15, .int .i64 512, .func (.func 62) #[] #[], .func (.func 63) #[] #[]] 82))
      have HZ2 := hide (show wr.heap.size + 1 ≤ (wr.alloc (Obj.cells #[.int .i64 15, .int .i64 15, .int .i64 512, .func (.func 62) #[] #[], .func (.func 63) #[] #[]] 82)).heap.size by simp)
      have HI := hide (fun (w2 : World) (h : Below (wr.heap.size + 1) (wr.alloc (Obj.cells #[.int .i64 15, .int .i64 15, .int .i64 512, .func (.func 62) #[] #[], .func (.func 63) #[] #[]] 82)) w2) => unhide HIN w2 (box_into hbel (unhide HZ) h))
      have c0 : ∀ y : Sub (wr.heap.size + 1) (wr.alloc (Obj.cells #[.int .i64 15, .int .i64 15, .int .i64 512, .func (.func 62) #[] #[], .func (.func 63) #[] #[]] 82)), y.w.cell? ⟨w.heap.size, 0, none⟩ = some (.int .i64 (k : Int)) := fun y => (unhide HI y.w y.h).1 0 _ rfl
      have c1 : ∀ y : Sub (wr.heap.size + 1) (wr.alloc (Obj.cells #[.int .i64 15, .int .i64 15, .int .i64 512, .func (.func 62) #[] #[], .func (.func 63) #[] #[]] 82)), y.w.cell? ⟨w.heap.size, 1, none⟩ = some (.int .i64 sm) := fun y => (unhide HI y.w y.h).1 1 _ rfl
      have c2 : ∀ y : Sub (wr.heap.size + 1) (wr.alloc (Obj.cells #[.int .i64 15, .int .i64 15, .int .i64 512, .func (.func 62) #[] #[], .func (.func 63) #[] #[]] 82)), y.w.cell? ⟨w.heap.size, 2, none⟩ = some (.int .i64 sr) := fun y => (unhide HI y.w y.h).1 2 _ rfl
      have c3 : ∀ y : Sub (wr.heap.size + 1) (wr.alloc (Obj.cells #[.int .i64 15, .int .i64 15, .int .i64 512, .func (.func 62) #[] #[], .func (.func 63) #[] #[]] 82)), y.w.cell? ⟨w.heap.size, 3, none⟩ = some (.int .i64 sx) := fun y => (unhide HI y.w y.h).1 3 _ rfl
      have c4 : ∀ y : Sub (wr.heap.size + 1) (wr.alloc (Obj.cells #[.int .i64 15, .int .i64 15, .int .i64 512, .func (.func 62) #[] #[], .func (.func 63) #[] #[]] 82)), y.w.cell? ⟨w.heap.size, 4, none⟩ = some (.int .i64 dm) := fun y => (unhide HI y.w y.h).1 4 _ rfl
      have c5 : ∀ y : Sub (wr.heap.size + 1) (wr.alloc (Obj.cells #[.int .i64 15, .int .i64 15, .int .i64 512, .func (.func 62) #[] #[], .func (.func 63) #[] #[]] 82)), y.w.cell? ⟨w.heap.size, 5, none⟩ = some (.int .i64 dr) := fun y => (unhide HI y.w y.h).1 5 _ rfl
      have c6 : ∀ y : Sub (wr.heap.size + 1) (wr.alloc (Obj.cells #[.int .i64 15, .int .i64 15, .int .i64 512, .func (.func 62) #[] #[], .func (.func 63) #[] #[]] 82)), y.w.cell? ⟨w.heap.size, 6, none⟩ = some (.int .i64 dx) := fun y => (unhide HI y.w y.h).1 6 _ rfl
      have c7 : ∀ y : Sub (wr.heap.size + 1) (wr.alloc (Obj.cells #[.int .i64 15, .int .i64 15, .int .i64 512, .func (.func 62) #[] #[], .func (.func 63) #[] #[]] 82)), y.w.cell? ⟨w.heap.size, 7, none⟩ = some (.int .i64 n) := fun y => (unhide HI y.w y.h).1 7 _ rfl
      have ct : ∀ y : Sub (wr.heap.size + 1) (wr.alloc (Obj.cells #[.int .i64 15, .int .i64 15, .int .i64 512, .func (.func 62) #[] #[], .func (.func 63) #[] #[]] 82)), y.w.cell? ⟨0, k, none⟩ = some (.int .i64 bk) := fun y => (unhide HI y.w y.h).2
      have d0 : (wr.alloc (Obj.cells #[.int .i64 15, .int .i64 15, .int .i64 512, .func (.func 62) #[] #[], .func (.func 63) #[] #[]] 82)).cell? ⟨w.heap.size, 0, none⟩ = some (.int .i64 (k : Int)) := c0 (Sub.top wr (Obj.cells #[.int .i64 15, .int .i64 15, .int .i64 512, .func (.func 62) #[] #[], .func (.func 63) #[] #[]] 82))
      have f0 : ∀ y : Sub (wr.heap.size + 1) (wr.alloc (Obj.cells #[.int .i64 15, .int .i64 15, .int .i64 512, .func (.func 62) #[] #[], .func (.func 63) #[] #[]] 82)), y.w.cell? ⟨wr.heap.size, 0, none⟩ = some (.int .i64 15) := fun y => y.cells 0 _ rfl
      have f1 : ∀ y : Sub (wr.heap.size + 1) (wr.alloc (Obj.cells #[.int .i64 15, .int .i64 15, .int .i64 512, .func (.func 62) #[] #[], .func (.func 63) #[] #[]] 82)), y.w.cell? ⟨wr.heap.size, 1, none⟩ = some (.int .i64 15) := fun y => y.cells 1 _ rfl
      have f2 : ∀ y : Sub (wr.heap.size + 1) (wr.alloc (Obj.cells #[.int .i64 15, .int .i64 15, .int .i64 512, .func (.func 62) #[] #[], .func (.func 63) #[] #[]] 82)), y.w.cell? ⟨wr.heap.size, 2, none⟩ = some (.int .i64 512) := fun y => y.cells 2 _ rfl
      have f3 : ∀ y : Sub (wr.heap.size + 1) (wr.alloc (Obj.cells #[.int .i64 15, .int .i64 15, .int .i64 512, .func (.func 62) #[] #[], .func (.func 63) #[] #[]] 82)), y.w.cell? ⟨wr.heap.size, 3, none⟩ = some (.func (.func 62) #[] #[]) := fun y => y.cells 3 _ rfl
      have f4 : ∀ y : Sub (wr.heap.size + 1) (wr.alloc (Obj.cells #[.int .i64 15, .int .i64 15, .int .i64 512, .func (.func 62) #[] #[], .func (.func 63) #[] #[]] 82)), y.w.cell? ⟨wr.heap.size, 4, none⟩ = some (.func (.func 63) #[] #[]) := fun y => y.cells 4 _ rfl
      by_cases hl : k ≤ 15
      · have PK := hide (fun (w : World) => (unhide PA w).2.2.1 (by omega))
        clear PA
        go_wp2_with (refine wpList_index_at rfl 83 _ _ rfl formsA 2 _ rfl rfl ix_2 ?_)
        refine wp_region_sub (Sub.top wr (Obj.cells #[.int .i64 15, .int .i64 15, .int .i64 512, .func (.func 62) #[] #[], .func (.func 63) #[] #[]] 82)) (by kernel_rfl) (by kernel_rfl) ?_
        repeat (go_big_quiet_step (first | (go_at_call 62; exact Sub.call (unhide HZ2) (unhide PK _))))
        refine wpQuiet_nil ?_
        intro y
        go_wp2
        go_ret
        exact ⟨rfl, unhide HS _ (box_into hbel (unhide HZ) y.h)⟩
      · have HN := hide (box_into (o := (Obj.cells #[.int .i64 15, .int .i64 15, .int .i64 512, .func (.func 62) #[] #[], .func (.func 63) #[] #[]] 82)) hbel (unhide HZ) (Below.refl _ _))
        go_wp2_with (refine wpList_index_at rfl 83 _ _ rfl formsA 2 _ rfl rfl ix_2 ?_)
        go_roundw
        case rel => exact ⟨3, by omega, by go_num, by simp [firstOf]; omega, unhide HN⟩
        case measure => simp [intOf]
    · simp [firstOf] at hfj
      have ne := Sub.ne (wr.heap.size + 1) (wr.alloc (Obj.cells #[.int .i64 16, .int .i64 16, .int .i64 8, .func (.func 64) #[] #[], .func (.func 65) #[] #[]] 82))
      have HZ2 := hide (show wr.heap.size + 1 ≤ (wr.alloc (Obj.cells #[.int .i64 16, .int .i64 16, .int .i64 8, .func (.func 64) #[] #[], .func (.func 65) #[] #[]] 82)).heap.size by simp)
      have HI := hide (fun (w2 : World) (h : Below (wr.heap.size + 1) (wr.alloc (Obj.cells #[.int .i64 16, .int .i64 16, .int .i64 8, .func (.func 64) #[] #[], .func (.func 65) #[] #[]] 82)) w2) => unhide HIN w2 (box_into hbel (unhide HZ) h))
      have c0 : ∀ y : Sub (wr.heap.size + 1) (wr.alloc (Obj.cells #[.int .i64 16, .int .i64 16, .int .i64 8, .func (.func 64) #[] #[], .func (.func 65) #[] #[]] 82)), y.w.cell? ⟨w.heap.size, 0, none⟩ = some (.int .i64 (k : Int)) := fun y => (unhide HI y.w y.h).1 0 _ rfl
      have c1 : ∀ y : Sub (wr.heap.size + 1) (wr.alloc (Obj.cells #[.int .i64 16, .int .i64 16, .int .i64 8, .func (.func 64) #[] #[], .func (.func 65) #[] #[]] 82)), y.w.cell? ⟨w.heap.size, 1, none⟩ = some (.int .i64 sm) := fun y => (unhide HI y.w y.h).1 1 _ rfl
      have c2 : ∀ y : Sub (wr.heap.size + 1) (wr.alloc (Obj.cells #[.int .i64 16, .int .i64 16, .int .i64 8, .func (.func 64) #[] #[], .func (.func 65) #[] #[]] 82)), y.w.cell? ⟨w.heap.size, 2, none⟩ = some (.int .i64 sr) := fun y => (unhide HI y.w y.h).1 2 _ rfl
      have c3 : ∀ y : Sub (wr.heap.size + 1) (wr.alloc (Obj.cells #[.int .i64 16, .int .i64 16, .int .i64 8, .func (.func 64) #[] #[], .func (.func 65) #[] #[]] 82)), y.w.cell? ⟨w.heap.size, 3, none⟩ = some (.int .i64 sx) := fun y => (unhide HI y.w y.h).1 3 _ rfl
      have c4 : ∀ y : Sub (wr.heap.size + 1) (wr.alloc (Obj.cells #[.int .i64 16, .int .i64 16, .int .i64 8, .func (.func 64) #[] #[], .func (.func 65) #[] #[]] 82)), y.w.cell? ⟨w.heap.size, 4, none⟩ = some (.int .i64 dm) := fun y => (unhide HI y.w y.h).1 4 _ rfl
      have c5 : ∀ y : Sub (wr.heap.size + 1) (wr.alloc (Obj.cells #[.int .i64 16, .int .i64 16, .int .i64 8, .func (.func 64) #[] #[], .func (.func 65) #[] #[]] 82)), y.w.cell? ⟨w.heap.size, 5, none⟩ = some (.int .i64 dr) := fun y => (unhide HI y.w y.h).1 5 _ rfl
      have c6 : ∀ y : Sub (wr.heap.size + 1) (wr.alloc (Obj.cells #[.int .i64 16, .int .i64 16, .int .i64 8, .func (.func 64) #[] #[], .func (.func 65) #[] #[]] 82)), y.w.cell? ⟨w.heap.size, 6, none⟩ = some (.int .i64 dx) := fun y => (unhide HI y.w y.h).1 6 _ rfl
      have c7 : ∀ y : Sub (wr.heap.size + 1) (wr.alloc (Obj.cells #[.int .i64 16, .int .i64 16, .int .i64 8, .func (.func 64) #[] #[], .func (.func 65) #[] #[]] 82)), y.w.cell? ⟨w.heap.size, 7, none⟩ = some (.int .i64 n) := fun y => (unhide HI y.w y.h).1 7 _ rfl
      have ct : ∀ y : Sub (wr.heap.size + 1) (wr.alloc (Obj.cells #[.int .i64 16, .int .i64 16, .int .i64 8, .func (.func 64) #[] #[], .func (.func 65) #[] #[]] 82)), y.w.cell? ⟨0, k, none⟩ = some (.int .i64 bk) := fun y => (unhide HI y.w y.h).2
      have d0 : (wr.alloc (Obj.cells #[.int .i64 16, .int .i64 16, .int .i64 8, .func (.func 64) #[] #[], .func (.func 65) #[] #[]] 82)).cell? ⟨w.heap.size, 0, none⟩ = some (.int .i64 (k : Int)) := c0 (Sub.top wr (Obj.cells #[.int .i64 16, .int .i64 16, .int .i64 8, .func (.func 64) #[] #[], .func (.func 65) #[] #[]] 82))
      have f0 : ∀ y : Sub (wr.heap.size + 1) (wr.alloc (Obj.cells #[.int .i64 16, .int .i64 16, .int .i64 8, .func (.func 64) #[] #[], .func (.func 65) #[] #[]] 82)), y.w.cell? ⟨wr.heap.size, 0, none⟩ = some (.int .i64 16) := fun y => y.cells 0 _ rfl
      have f1 : ∀ y : Sub (wr.heap.size + 1) (wr.alloc (Obj.cells #[.int .i64 16, .int .i64 16, .int .i64 8, .func (.func 64) #[] #[], .func (.func 65) #[] #[]] 82)), y.w.cell? ⟨wr.heap.size, 1, none⟩ = some (.int .i64 16) := fun y => y.cells 1 _ rfl
      have f2 : ∀ y : Sub (wr.heap.size + 1) (wr.alloc (Obj.cells #[.int .i64 16, .int .i64 16, .int .i64 8, .func (.func 64) #[] #[], .func (.func 65) #[] #[]] 82)), y.w.cell? ⟨wr.heap.size, 2, none⟩ = some (.int .i64 8) := fun y => y.cells 2 _ rfl
      have f3 : ∀ y : Sub (wr.heap.size + 1) (wr.alloc (Obj.cells #[.int .i64 16, .int .i64 16, .int .i64 8, .func (.func 64) #[] #[], .func (.func 65) #[] #[]] 82)), y.w.cell? ⟨wr.heap.size, 3, none⟩ = some (.func (.func 64) #[] #[]) := fun y => y.cells 3 _ rfl
      have f4 : ∀ y : Sub (wr.heap.size + 1) (wr.alloc (Obj.cells #[.int .i64 16, .int .i64 16, .int .i64 8, .func (.func 64) #[] #[], .func (.func 65) #[] #[]] 82)), y.w.cell? ⟨wr.heap.size, 4, none⟩ = some (.func (.func 65) #[] #[]) := fun y => y.cells 4 _ rfl
      by_cases hl : k ≤ 16
      · have PK := hide (fun (w : World) => (unhide PA w).2.2.2.1 (by omega))
        clear PA
        go_wp2_with (refine wpList_index_at rfl 83 _ _ rfl formsA 3 _ rfl rfl ix_3 ?_)
        refine wp_region_sub (Sub.top wr (Obj.cells #[.int .i64 16, .int .i64 16, .int .i64 8, .func (.func 64) #[] #[], .func (.func 65) #[] #[]] 82)) (by kernel_rfl) (by kernel_rfl) ?_
        repeat (go_big_quiet_step (first | (go_at_call 64; exact Sub.call (unhide HZ2) (unhide PK _))))
        refine wpQuiet_nil ?_
        intro y
        go_wp2
        go_ret
        exact ⟨rfl, unhide HS _ (box_into hbel (unhide HZ) y.h)⟩
      · have HN := hide (box_into (o := (Obj.cells #[.int .i64 16, .int .i64 16, .int .i64 8, .func (.func 64) #[] #[], .func (.func 65) #[] #[]] 82)) hbel (unhide HZ) (Below.refl _ _))
        go_wp2_with (refine wpList_index_at rfl 83 _ _ rfl formsA 3 _ rfl rfl ix_3 ?_)
        go_roundw
        case rel => exact ⟨4, by omega, by go_num, by simp [firstOf]; omega, unhide HN⟩
        case measure => simp [intOf]
    · simp [firstOf] at hfj
      have ne := Sub.ne (wr.heap.size + 1) (wr.alloc (Obj.cells #[.int .i64 17, .int .i64 21, .int .i64 256, .func (.func 66) #[] #[], .func (.func 67) #[] #[]] 82))
      have HZ2 := hide (show wr.heap.size + 1 ≤ (wr.alloc (Obj.cells #[.int .i64 17, .int .i64 21, .int .i64 256, .func (.func 66) #[] #[], .func (.func 67) #[] #[]] 82)).heap.size by simp)
      have HI := hide (fun (w2 : World) (h : Below (wr.heap.size + 1) (wr.alloc (Obj.cells #[.int .i64 17, .int .i64 21, .int .i64 256, .func (.func 66) #[] #[], .func (.func 67) #[] #[]] 82)) w2) => unhide HIN w2 (box_into hbel (unhide HZ) h))
      have c0 : ∀ y : Sub (wr.heap.size + 1) (wr.alloc (Obj.cells #[.int .i64 17, .int .i64 21, .int .i64 256, .func (.func 66) #[] #[], .func (.func 67) #[] #[]] 82)), y.w.cell? ⟨w.heap.size, 0, none⟩ = some (.int .i64 (k : Int)) := fun y => (unhide HI y.w y.h).1 0 _ rfl
      have c1 : ∀ y : Sub (wr.heap.size + 1) (wr.alloc (Obj.cells #[.int .i64 17, .int .i64 21, .int .i64 256, .func (.func 66) #[] #[], .func (.func 67) #[] #[]] 82)), y.w.cell? ⟨w.heap.size, 1, none⟩ = some (.int .i64 sm) := fun y => (unhide HI y.w y.h).1 1 _ rfl
      have c2 : ∀ y : Sub (wr.heap.size + 1) (wr.alloc (Obj.cells #[.int .i64 17, .int .i64 21, .int .i64 256, .func (.func 66) #[] #[], .func (.func 67) #[] #[]] 82)), y.w.cell? ⟨w.heap.size, 2, none⟩ = some (.int .i64 sr) := fun y => (unhide HI y.w y.h).1 2 _ rfl
      have c3 : ∀ y : Sub (wr.heap.size + 1) (wr.alloc (Obj.cells #[.int .i64 17, .int .i64 21, .int .i64 256, .func (.func 66) #[] #[], .func (.func 67) #[] #[]] 82)), y.w.cell? ⟨w.heap.size, 3, none⟩ = some (.int .i64 sx) := fun y => (unhide HI y.w y.h).1 3 _ rfl
      have c4 : ∀ y : Sub (wr.heap.size + 1) (wr.alloc (Obj.cells #[.int .i64 17, .int .i64 21, .int .i64 256, .func (.func 66) #[] #[], .func (.func 67) #[] #[]] 82)), y.w.cell? ⟨w.heap.size, 4, none⟩ = some (.int .i64 dm) := fun y => (unhide HI y.w y.h).1 4 _ rfl
      have c5 : ∀ y : Sub (wr.heap.size + 1) (wr.alloc (Obj.cells #[.int .i64 17, .int .i64 21, .int .i64 256, .func (.func 66) #[] #[], .func (.func 67) #[] #[]] 82)), y.w.cell? ⟨w.heap.size, 5, none⟩ = some (.int .i64 dr) := fun y => (unhide HI y.w y.h).1 5 _ rfl
      have c6 : ∀ y : Sub (wr.heap.size + 1) (wr.alloc (Obj.cells #[.int .i64 17, .int .i64 21, .int .i64 256, .func (.func 66) #[] #[], .func (.func 67) #[] #[]] 82)), y.w.cell? ⟨w.heap.size, 6, none⟩ = some (.int .i64 dx) := fun y => (unhide HI y.w y.h).1 6 _ rfl
      have c7 : ∀ y : Sub (wr.heap.size + 1) (wr.alloc (Obj.cells #[.int .i64 17, .int .i64 21, .int .i64 256, .func (.func 66) #[] #[], .func (.func 67) #[] #[]] 82)), y.w.cell? ⟨w.heap.size, 7, none⟩ = some (.int .i64 n) := fun y => (unhide HI y.w y.h).1 7 _ rfl
      have ct : ∀ y : Sub (wr.heap.size + 1) (wr.alloc (Obj.cells #[.int .i64 17, .int .i64 21, .int .i64 256, .func (.func 66) #[] #[], .func (.func 67) #[] #[]] 82)), y.w.cell? ⟨0, k, none⟩ = some (.int .i64 bk) := fun y => (unhide HI y.w y.h).2
      have d0 : (wr.alloc (Obj.cells #[.int .i64 17, .int .i64 21, .int .i64 256, .func (.func 66) #[] #[], .func (.func 67) #[] #[]] 82)).cell? ⟨w.heap.size, 0, none⟩ = some (.int .i64 (k : Int)) := c0 (Sub.top wr (Obj.cells #[.int .i64 17, .int .i64 21, .int .i64 256, .func (.func 66) #[] #[], .func (.func 67) #[] #[]] 82))
      have f0 : ∀ y : Sub (wr.heap.size + 1) (wr.alloc (Obj.cells #[.int .i64 17, .int .i64 21, .int .i64 256, .func (.func 66) #[] #[], .func (.func 67) #[] #[]] 82)), y.w.cell? ⟨wr.heap.size, 0, none⟩ = some (.int .i64 17) := fun y => y.cells 0 _ rfl
      have f1 : ∀ y : Sub (wr.heap.size + 1) (wr.alloc (Obj.cells #[.int .i64 17, .int .i64 21, .int .i64 256, .func (.func 66) #[] #[], .func (.func 67) #[] #[]] 82)), y.w.cell? ⟨wr.heap.size, 1, none⟩ = some (.int .i64 21) := fun y => y.cells 1 _ rfl
      have f2 : ∀ y : Sub (wr.heap.size + 1) (wr.alloc (Obj.cells #[.int .i64 17, .int .i64 21, .int .i64 256, .func (.func 66) #[] #[], .func (.func 67) #[] #[]] 82)), y.w.cell? ⟨wr.heap.size, 2, none⟩ = some (.int .i64 256) := fun y => y.cells 2 _ rfl
      have f3 : ∀ y : Sub (wr.heap.size + 1) (wr.alloc (Obj.cells #[.int .i64 17, .int .i64 21, .int .i64 256, .func (.func 66) #[] #[], .func (.func 67) #[] #[]] 82)), y.w.cell? ⟨wr.heap.size, 3, none⟩ = some (.func (.func 66) #[] #[]) := fun y => y.cells 3 _ rfl
      have f4 : ∀ y : Sub (wr.heap.size + 1) (wr.alloc (Obj.cells #[.int .i64 17, .int .i64 21, .int .i64 256, .func (.func 66) #[] #[], .func (.func 67) #[] #[]] 82)), y.w.cell? ⟨wr.heap.size, 4, none⟩ = some (.func (.func 67) #[] #[]) := fun y => y.cells 4 _ rfl
      by_cases hl : k ≤ 21
      · have PK := hide (fun (w : World) => (unhide PA w).2.2.2.2.1 (by omega))
        clear PA
        go_wp2_with (refine wpList_index_at rfl 83 _ _ rfl formsA 4 _ rfl rfl ix_4 ?_)
        refine wp_region_sub (Sub.top wr (Obj.cells #[.int .i64 17, .int .i64 21, .int .i64 256, .func (.func 66) #[] #[], .func (.func 67) #[] #[]] 82)) (by kernel_rfl) (by kernel_rfl) ?_
        repeat (go_big_quiet_step (first | (go_at_call 66; exact Sub.call (unhide HZ2) (unhide PK _))))
        refine wpQuiet_nil ?_
        intro y
        go_wp2
        go_ret
        exact ⟨rfl, unhide HS _ (box_into hbel (unhide HZ) y.h)⟩
      · have HN := hide (box_into (o := (Obj.cells #[.int .i64 17, .int .i64 21, .int .i64 256, .func (.func 66) #[] #[], .func (.func 67) #[] #[]] 82)) hbel (unhide HZ) (Below.refl _ _))
        go_wp2_with (refine wpList_index_at rfl 83 _ _ rfl formsA 4 _ rfl rfl ix_4 ?_)
        go_roundw
        case rel => exact ⟨5, by omega, by go_num, by simp [firstOf]; omega, unhide HN⟩
        case measure => simp [intOf]
    · simp [firstOf] at hfj
      have ne := Sub.ne (wr.heap.size + 1) (wr.alloc (Obj.cells #[.int .i64 22, .int .i64 22, .int .i64 1, .func (.func 64) #[] #[], .func (.func 65) #[] #[]] 82))
      have HZ2 := hide (show wr.heap.size + 1 ≤ (wr.alloc (Obj.cells #[.int .i64 22, .int .i64 22, .int .i64 1, .func (.func 64) #[] #[], .func (.func 65) #[] #[]] 82)).heap.size by simp)
      have HI := hide (fun (w2 : World) (h : Below (wr.heap.size + 1) (wr.alloc (Obj.cells #[.int .i64 22, .int .i64 22, .int .i64 1, .func (.func 64) #[] #[], .func (.func 65) #[] #[]] 82)) w2) => unhide HIN w2 (box_into hbel (unhide HZ) h))
      have c0 : ∀ y : Sub (wr.heap.size + 1) (wr.alloc (Obj.cells #[.int .i64 22, .int .i64 22, .int .i64 1, .func (.func 64) #[] #[], .func (.func 65) #[] #[]] 82)), y.w.cell? ⟨w.heap.size, 0, none⟩ = some (.int .i64 (k : Int)) := fun y => (unhide HI y.w y.h).1 0 _ rfl
      have c1 : ∀ y : Sub (wr.heap.size + 1) (wr.alloc (Obj.cells #[.int .i64 22, .int .i64 22, .int .i64 1, .func (.func 64) #[] #[], .func (.func 65) #[] #[]] 82)), y.w.cell? ⟨w.heap.size, 1, none⟩ = some (.int .i64 sm) := fun y => (unhide HI y.w y.h).1 1 _ rfl
      have c2 : ∀ y : Sub (wr.heap.size + 1) (wr.alloc (Obj.cells #[.int .i64 22, .int .i64 22, .int .i64 1, .func (.func 64) #[] #[], .func (.func 65) #[] #[]] 82)), y.w.cell? ⟨w.heap.size, 2, none⟩ = some (.int .i64 sr) := fun y => (unhide HI y.w y.h).1 2 _ rfl
      have c3 : ∀ y : Sub (wr.heap.size + 1) (wr.alloc (Obj.cells #[.int .i64 22, .int .i64 22, .int .i64 1, .func (.func 64) #[] #[], .func (.func 65) #[] #[]] 82)), y.w.cell? ⟨w.heap.size, 3, none⟩ = some (.int .i64 sx) := fun y => (unhide HI y.w y.h).1 3 _ rfl
      have c4 : ∀ y : Sub (wr.heap.size + 1) (wr.alloc (Obj.cells #[.int .i64 22, .int .i64 22, .int .i64 1, .func (.func 64) #[] #[], .func (.func 65) #[] #[]] 82)), y.w.cell? ⟨w.heap.size, 4, none⟩ = some (.int .i64 dm) := fun y => (unhide HI y.w y.h).1 4 _ rfl
      have c5 : ∀ y : Sub (wr.heap.size + 1) (wr.alloc (Obj.cells #[.int .i64 22, .int .i64 22, .int .i64 1, .func (.func 64) #[] #[], .func (.func 65) #[] #[]] 82)), y.w.cell? ⟨w.heap.size, 5, none⟩ = some (.int .i64 dr) := fun y => (unhide HI y.w y.h).1 5 _ rfl
      have c6 : ∀ y : Sub (wr.heap.size + 1) (wr.alloc (Obj.cells #[.int .i64 22, .int .i64 22, .int .i64 1, .func (.func 64) #[] #[], .func (.func 65) #[] #[]] 82)), y.w.cell? ⟨w.heap.size, 6, none⟩ = some (.int .i64 dx) := fun y => (unhide HI y.w y.h).1 6 _ rfl
      have c7 : ∀ y : Sub (wr.heap.size + 1) (wr.alloc (Obj.cells #[.int .i64 22, .int .i64 22, .int .i64 1, .func (.func 64) #[] #[], .func (.func 65) #[] #[]] 82)), y.w.cell? ⟨w.heap.size, 7, none⟩ = some (.int .i64 n) := fun y => (unhide HI y.w y.h).1 7 _ rfl
      have ct : ∀ y : Sub (wr.heap.size + 1) (wr.alloc (Obj.cells #[.int .i64 22, .int .i64 22, .int .i64 1, .func (.func 64) #[] #[], .func (.func 65) #[] #[]] 82)), y.w.cell? ⟨0, k, none⟩ = some (.int .i64 bk) := fun y => (unhide HI y.w y.h).2
      have d0 : (wr.alloc (Obj.cells #[.int .i64 22, .int .i64 22, .int .i64 1, .func (.func 64) #[] #[], .func (.func 65) #[] #[]] 82)).cell? ⟨w.heap.size, 0, none⟩ = some (.int .i64 (k : Int)) := c0 (Sub.top wr (Obj.cells #[.int .i64 22, .int .i64 22, .int .i64 1, .func (.func 64) #[] #[], .func (.func 65) #[] #[]] 82))
      have f0 : ∀ y : Sub (wr.heap.size + 1) (wr.alloc (Obj.cells #[.int .i64 22, .int .i64 22, .int .i64 1, .func (.func 64) #[] #[], .func (.func 65) #[] #[]] 82)), y.w.cell? ⟨wr.heap.size, 0, none⟩ = some (.int .i64 22) := fun y => y.cells 0 _ rfl
      have f1 : ∀ y : Sub (wr.heap.size + 1) (wr.alloc (Obj.cells #[.int .i64 22, .int .i64 22, .int .i64 1, .func (.func 64) #[] #[], .func (.func 65) #[] #[]] 82)), y.w.cell? ⟨wr.heap.size, 1, none⟩ = some (.int .i64 22) := fun y => y.cells 1 _ rfl
      have f2 : ∀ y : Sub (wr.heap.size + 1) (wr.alloc (Obj.cells #[.int .i64 22, .int .i64 22, .int .i64 1, .func (.func 64) #[] #[], .func (.func 65) #[] #[]] 82)), y.w.cell? ⟨wr.heap.size, 2, none⟩ = some (.int .i64 1) := fun y => y.cells 2 _ rfl
      have f3 : ∀ y : Sub (wr.heap.size + 1) (wr.alloc (Obj.cells #[.int .i64 22, .int .i64 22, .int .i64 1, .func (.func 64) #[] #[], .func (.func 65) #[] #[]] 82)), y.w.cell? ⟨wr.heap.size, 3, none⟩ = some (.func (.func 64) #[] #[]) := fun y => y.cells 3 _ rfl
      have f4 : ∀ y : Sub (wr.heap.size + 1) (wr.alloc (Obj.cells #[.int .i64 22, .int .i64 22, .int .i64 1, .func (.func 64) #[] #[], .func (.func 65) #[] #[]] 82)), y.w.cell? ⟨wr.heap.size, 4, none⟩ = some (.func (.func 65) #[] #[]) := fun y => y.cells 4 _ rfl
      by_cases hl : k ≤ 22
      · have PK := hide (fun (w : World) => (unhide PA w).2.2.2.2.2.1 (by omega))
        clear PA
        go_wp2_with (refine wpList_index_at rfl 83 _ _ rfl formsA 5 _ rfl rfl ix_5 ?_)
        refine wp_region_sub (Sub.top wr (Obj.cells #[.int .i64 22, .int .i64 22, .int .i64 1, .func (.func 64) #[] #[], .func (.func 65) #[] #[]] 82)) (by kernel_rfl) (by kernel_rfl) ?_
        repeat (go_big_quiet_step (first | (go_at_call 64; exact Sub.call (unhide HZ2) (unhide PK _))))
        refine wpQuiet_nil ?_
        intro y
        go_wp2
        go_ret
        exact ⟨rfl, unhide HS _ (box_into hbel (unhide HZ) y.h)⟩
      · have HN := hide (box_into (o := (Obj.cells #[.int .i64 22, .int .i64 22, .int .i64 1, .func (.func 64) #[] #[], .func (.func 65) #[] #[]] 82)) hbel (unhide HZ) (Below.refl _ _))
        go_wp2_with (refine wpList_index_at rfl 83 _ _ rfl formsA 5 _ rfl rfl ix_5 ?_)
        go_roundw
        case rel => exact ⟨6, by omega, by go_num, by simp [firstOf]; omega, unhide HN⟩
        case measure => simp [intOf]
    · simp [firstOf] at hfj
      have ne := Sub.ne (wr.heap.size + 1) (wr.alloc (Obj.cells #[.int .i64 23, .int .i64 23, .int .i64 256, .func (.func 64) #[] #[], .func (.func 65) #[] #[]] 82))
      have HZ2 := hide (show wr.heap.size + 1 ≤ (wr.alloc (Obj.cells #[.int .i64 23, .int .i64 23, .int .i64 256, .func (.func 64) #[] #[], .func (.func 65) #[] #[]] 82)).heap.size by simp)
      have HI := hide (fun (w2 : World) (h : Below (wr.heap.size + 1) (wr.alloc (Obj.cells #[.int .i64 23, .int .i64 23, .int .i64 256, .func (.func 64) #[] #[], .func (.func 65) #[] #[]] 82)) w2) => unhide HIN w2 (box_into hbel (unhide HZ) h))
      have c0 : ∀ y : Sub (wr.heap.size + 1) (wr.alloc (Obj.cells #[.int .i64 23, .int .i64 23, .int .i64 256, .func (.func 64) #[] #[], .func (.func 65) #[] #[]] 82)), y.w.cell? ⟨w.heap.size, 0, none⟩ = some (.int .i64 (k : Int)) := fun y => (unhide HI y.w y.h).1 0 _ rfl
      have c1 : ∀ y : Sub (wr.heap.size + 1) (wr.alloc (Obj.cells #[.int .i64 23, .int .i64 23, .int .i64 256, .func (.func 64) #[] #[], .func (.func 65) #[] #[]] 82)), y.w.cell? ⟨w.heap.size, 1, none⟩ = some (.int .i64 sm) := fun y => (unhide HI y.w y.h).1 1 _ rfl
      have c2 : ∀ y : Sub (wr.heap.size + 1) (wr.alloc (Obj.cells #[.int .i64 23, .int .i64 23, .int .i64 256, .func (.func 64) #[] #[], .func (.func 65) #[] #[]] 82)), y.w.cell? ⟨w.heap.size, 2, none⟩ = some (.int .i64 sr) := fun y => (unhide HI y.w y.h).1 2 _ rfl
      have c3 : ∀ y : Sub (wr.heap.size + 1) (wr.alloc (Obj.cells #[.int .i64 23, .int .i64 23, .int .i64 256, .func (.func 64) #[] #[], .func (.func 65) #[] #[]] 82)), y.w.cell? ⟨w.heap.size, 3, none⟩ = some (.int .i64 sx) := fun y => (unhide HI y.w y.h).1 3 _ rfl
      have c4 : ∀ y : Sub (wr.heap.size + 1) (wr.alloc (Obj.cells #[.int .i64 23, .int .i64 23, .int .i64 256, .func (.func 64) #[] #[], .func (.func 65) #[] #[]] 82)), y.w.cell? ⟨w.heap.size, 4, none⟩ = some (.int .i64 dm) := fun y => (unhide HI y.w y.h).1 4 _ rfl
      have c5 : ∀ y : Sub (wr.heap.size + 1) (wr.alloc (Obj.cells #[.int .i64 23, .int .i64 23, .int .i64 256, .func (.func 64) #[] #[], .func (.func 65) #[] #[]] 82)), y.w.cell? ⟨w.heap.size, 5, none⟩ = some (.int .i64 dr) := fun y => (unhide HI y.w y.h).1 5 _ rfl
      have c6 : ∀ y : Sub (wr.heap.size + 1) (wr.alloc (Obj.cells #[.int .i64 23, .int .i64 23, .int .i64 256, .func (.func 64) #[] #[], .func (.func 65) #[] #[]] 82)), y.w.cell? ⟨w.heap.size, 6, none⟩ = some (.int .i64 dx) := fun y => (unhide HI y.w y.h).1 6 _ rfl
      have c7 : ∀ y : Sub (wr.heap.size + 1) (wr.alloc (Obj.cells #[.int .i64 23, .int .i64 23, .int .i64 256, .func (.func 64) #[] #[], .func (.func 65) #[] #[]] 82)), y.w.cell? ⟨w.heap.size, 7, none⟩ = some (.int .i64 n) := fun y => (unhide HI y.w y.h).1 7 _ rfl
      have ct : ∀ y : Sub (wr.heap.size + 1) (wr.alloc (Obj.cells #[.int .i64 23, .int .i64 23, .int .i64 256, .func (.func 64) #[] #[], .func (.func 65) #[] #[]] 82)), y.w.cell? ⟨0, k, none⟩ = some (.int .i64 bk) := fun y => (unhide HI y.w y.h).2
      have d0 : (wr.alloc (Obj.cells #[.int .i64 23, .int .i64 23, .int .i64 256, .func (.func 64) #[] #[], .func (.func 65) #[] #[]] 82)).cell? ⟨w.heap.size, 0, none⟩ = some (.int .i64 (k : Int)) := c0 (Sub.top wr (Obj.cells #[.int .i64 23, .int .i64 23, .int .i64 256, .func (.func 64) #[] #[], .func (.func 65) #[] #[]] 82))
      have f0 : ∀ y : Sub (wr.heap.size + 1) (wr.alloc (Obj.cells #[.int .i64 23, .int .i64 23, .int .i64 256, .func (.func 64) #[] #[], .func (.func 65) #[] #[]] 82)), y.w.cell? ⟨wr.heap.size, 0, none⟩ = some (.int .i64 23) := fun y => y.cells 0 _ rfl
      have f1 : ∀ y : Sub (wr.heap.size + 1) (wr.alloc (Obj.cells #[.int .i64 23, .int .i64 23, .int .i64 256, .func (.func 64) #[] #[], .func (.func 65) #[] #[]] 82)), y.w.cell? ⟨wr.heap.size, 1, none⟩ = some (.int .i64 23) := fun y => y.cells 1 _ rfl
      have f2 : ∀ y : Sub (wr.heap.size + 1) (wr.alloc (Obj.cells #[.int .i64 23, .int .i64 23, .int .i64 256, .func (.func 64) #[] #[], .func (.func 65) #[] #[]] 82)), y.w.cell? ⟨wr.heap.size, 2, none⟩ = some (.int .i64 256) := fun y => y.cells 2 _ rfl
      have f3 : ∀ y : Sub (wr.heap.size + 1) (wr.alloc (Obj.cells #[.int .i64 23, .int .i64 23, .int .i64 256, .func (.func 64) #[] #[], .func (.func 65) #[] #[]] 82)), y.w.cell? ⟨wr.heap.size, 3, none⟩ = some (.func (.func 64) #[] #[]) := fun y => y.cells 3 _ rfl
      have f4 : ∀ y : Sub (wr.heap.size + 1) (wr.alloc (Obj.cells #[.int .i64 23, .int .i64 23, .int .i64 256, .func (.func 64) #[] #[], .func (.func 65) #[] #[]] 82)), y.w.cell? ⟨wr.heap.size, 4, none⟩ = some (.func (.func 65) #[] #[]) := fun y => y.cells 4 _ rfl
      by_cases hl : k ≤ 23
      · have PK := hide (fun (w : World) => (unhide PA w).2.2.2.2.2.2 (by omega))
        clear PA
        go_wp2_with (refine wpList_index_at rfl 83 _ _ rfl formsA 6 _ rfl rfl ix_6 ?_)
        refine wp_region_sub (Sub.top wr (Obj.cells #[.int .i64 23, .int .i64 23, .int .i64 256, .func (.func 64) #[] #[], .func (.func 65) #[] #[]] 82)) (by kernel_rfl) (by kernel_rfl) ?_
        repeat (go_big_quiet_step (first | (go_at_call 64; exact Sub.call (unhide HZ2) (unhide PK _))))
        refine wpQuiet_nil ?_
        intro y
        go_wp2
        go_ret
        exact ⟨rfl, unhide HS _ (box_into hbel (unhide HZ) y.h)⟩
      · omega
    · simp [firstOf] at hfj
      omega
end Go.Proofs.YtboedaofbchdkaaDoor
