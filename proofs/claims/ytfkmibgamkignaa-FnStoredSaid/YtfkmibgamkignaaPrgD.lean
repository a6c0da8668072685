/- A register of the program's machine goes on, or back; over this seat's translation; conditions stand as hypotheses of each. -/
import Derived.Test.YtfkmibgamkignaaPlcD
import Derived.Test.YtfkmibgamkignaaPrgC
namespace Go.Proofs.Ytfkmibgamkignaa
open Go.ChangeShapes Go.WideShapes Go.ChangeAt Go.RowKit
set_option linter.unusedVariables false
set_option maxRecDepth 8000
set_option linter.unusedSimpArgs false

/-- The program's machine at a pointer: its row, and that its lists are owned; the block of its registers. -/
structure Pg (w : World) (g B gr rc : Nat) (y : Mv) (d : Md) : Prop where
  row : w.heap[g]? = some (.cells (bigA d.m y) 80 (0, 0))
  len : d.m.length = 256
  own : OwnM w B y d
  er : y.r = ⟨some ⟨gr, 0, none⟩, d.r.length, rc⟩
  ne : gr ≠ g
section
variable {w w' : World} {g B gr rc : Nat} {y : Mv} {d : Md}
theorem Pg.later (h : Pg w g B gr rc y d) (hb : Below w.heap.size w w') : Pg w' g B gr rc y d := ⟨row_lat h.row hb, h.len, h.own.later hb, h.er, h.ne⟩
theorem Pg.set (h : Pg w g B gr rc y d) (k : Nat) (v : Int) (hk : k < d.r.length) : Pg (w.setCell ⟨gr, k, none⟩ (.int .i64 v)) g B gr rc y (d.reg k v) ∧ w.grownBy (w.setCell ⟨gr, k, none⟩ (.int .i64 v)) (some gr) ∧ w.cell? ⟨gr, k, none⟩ = some (.int .i64 (nAt d.r k)) ∧ w.frozen? ⟨gr, k, none⟩ = false := by
  obtain ⟨o3, g3, _, _, c1, c2⟩ := own_setR h.own h.er k v hk
  exact ⟨⟨row_past h.row g3 h.ne, h.len, o3, by rw [h.er]; unfold Md.reg; simp, h.ne⟩, g3, c1, c2⟩
theorem Pg.cell (h : Pg w g B gr rc y d) (k : Nat) (hk : k < d.r.length) : w.cell? ⟨gr, k, none⟩ = some (.int .i64 (nAt d.r k)) := (h.set k 0 hk).2.2.1
theorem Pg.r (h : Pg w g B gr rc y d) : w.cell? ⟨g, 257, none⟩ = some (.slice (some ⟨gr, 0, none⟩) d.r.length rc) := by
  have c := big_cell h.row h.len 1 (.slice y.r.a y.r.n y.r.c) rfl
  rw [h.er] at c
  exact c
theorem Pg.word (h : Pg w g B gr rc y d) {a : Int} (ha : d.has a = true) : w.cell? ⟨g, (a / 2).toNat, none⟩ = some (.int .i64 (d.get a)) := by
  obtain ⟨ta, tl⟩ := has_t ha
  obtain ⟨t0, t1, _⟩ := adB_t ta
  rw [cell_of_row w g _ _ 80 _ h.row, bigA_mem y h.len (by omega)]
  unfold Md.get
  rw [if_pos ha]
end

set_option maxHeartbeats 1000000 in
theorem goOn_any (g B gr rc k : Nat) (y : Mv) (d : Md) (w : World) (P : Pg w g B gr rc y d) (hk : k < d.r.length) (w0 : 0 ≤ nAt d.r k) (w1 : nAt d.r k ≤ 65535) :
    Calls Try.prog 88 #[.pointer (some ⟨gr, k, none⟩)] w fun e w' => e = .returned (.int .i64 (nAt d.r k)) ∧ Pg w' g B gr rc y (d.reg k ((nAt d.r k + 2) % 65536)) ∧ w.grownBy w' (some gr) := by
  obtain ⟨p3, g3, c1, c2⟩ := P.set k ((nAt d.r k + 2) % 65536) hk
  have P3 := hide p3
  have G3 := hide g3
  have WR := hide (fun w => wrapI_any (nAt d.r k + 2) w)
  generalize (nAt d.r k + 2) % 65536 = t at P3 G3 WR ⊢
  generalize nAt d.r k = v at c1 WR w0 w1 ⊢
  have hw : IntKind.i64.wrap (v + 2) = v + 2 := by rw [IntKind.wrap_i64]; omega
  clear p3 g3 P
  go_enter Try.func88, Try.ntmps88
  go_wp2_with (first | (go_at_call 21; refine (unhide WR _).mono ?_; rintro e w' ⟨rfl, hw'⟩; rw [hw']; clear hw' w'))
  go_ret
  exact ⟨rfl, unhide P3, unhide G3⟩

set_option maxHeartbeats 1000000 in
theorem goBack_any (g B gr rc k : Nat) (y : Mv) (d : Md) (w : World) (P : Pg w g B gr rc y d) (hk : k < d.r.length) (w0 : 0 ≤ nAt d.r k) (w1 : nAt d.r k ≤ 65535) :
    Calls Try.prog 90 #[.pointer (some ⟨gr, k, none⟩)] w fun e w' => e = .returned (.int .i64 ((nAt d.r k - 2) % 65536)) ∧ Pg w' g B gr rc y (d.reg k ((nAt d.r k - 2) % 65536)) ∧ w.grownBy w' (some gr) := by
  obtain ⟨p3, g3, c1, c2⟩ := P.set k ((nAt d.r k - 2) % 65536) hk
  have P3 := hide p3
  have G3 := hide g3
  have e3 := p3.cell k (by unfold Md.reg; simpa using hk)
  have WR := hide (fun w => wrapI_any (nAt d.r k - 2) w)
  generalize (nAt d.r k - 2) % 65536 = t at P3 G3 WR ⊢
  generalize nAt d.r k = v at c1 WR w0 w1 ⊢
  have hw : IntKind.i64.wrap (v - 2) = v - 2 := by rw [IntKind.wrap_i64]; omega
  clear p3 g3 P e3
  go_enter Try.func90, Try.ntmps90
  go_wp2_with (first | (go_at_call 21; refine (unhide WR _).mono ?_; rintro e w' ⟨rfl, hw'⟩; rw [hw']; clear hw' w'))
  go_ret
  exact ⟨rfl, unhide P3, unhide G3⟩
end Go.Proofs.Ytfkmibgamkignaa
