/- Contracts over this seat's translation, laid together; conditions stand as hypotheses of each. -/
import Derived.Test.YtboedaofbchdkaaGreatDoorRsK
namespace Go.Proofs.YtboedaofbchdkaaGreatDoor
open Go.ChangeShapes Go.WideShapes Go.ChangeAt Go.RowKit
set_option maxHeartbeats 16000000
set_option linter.unusedVariables false
set_option maxRecDepth 8000
set_option linter.unusedSimpArgs false
section
def Ms.rg (t : Ms) (k : Nat) (v : Int) : Ms := { t with d := t.d.reg k v }
theorem Ms.rg_len (t : Ms) (k : Nat) (v : Int) : (t.rg k v).d.r.length = t.d.r.length := by unfold Ms.rg Md.reg; simp
section
variable {w : World} {B g gr rc : Nat} {y : Mv} {t : Ms} {st : Int}
theorem Sm.regs (h : Sm w B g y t st) (h8 : t.d.r.length = 8) : ∃ gr rc, y.r = ⟨some ⟨gr, 0, none⟩, 8, rc⟩ := by
 obtain ⟨a, b, e⟩ := sl_formP h.own.r (by omega)
 exact ⟨a, b, by rw [e, h8]⟩
theorem at_r (er : y.r = ⟨some ⟨gr, 0, none⟩, 8, rc⟩) : y.at gr := .inr (.inl (by rw [er]; rfl))
theorem Sm.setR (h : Sm w B g y t st) (er : y.r = ⟨some ⟨gr, 0, none⟩, 8, rc⟩) (k : Nat) (v : Int) (hk : k < t.d.r.length) :
  Sm (w.setCell ⟨gr, k, none⟩ (.int .i64 v)) B g y (t.rg k v) st ∧ Fm w (w.setCell ⟨gr, k, none⟩ (.int .i64 v)) g y y ∧ w.cell? ⟨gr, k, none⟩ = some (.int .i64 (nAt t.d.r k)) ∧ w.frozen? ⟨gr, k, none⟩ = false := by
 obtain ⟨o3, g3, _, _, c1, c2⟩ := own_setR h.own er k v hk
 exact ⟨⟨row_past h.row g3 (h.ne gr (at_r er)), o3, h.fl, h.lo, h.ne⟩, Fm.grown g3 (.inr (at_r er)) (fun _ e => e), c1, c2⟩
theorem Sm.rcell (h : Sm w B g y t st) (er : y.r = ⟨some ⟨gr, 0, none⟩, 8, rc⟩) : w.cell? ⟨g, 1, none⟩ = some (.slice (some ⟨gr, 0, none⟩) 8 rc) := by rw [row_r h.row, er]
theorem Sm.flz (h : Sm w B g y t st) : t.n = y.n ∧ t.z = y.z ∧ t.v = y.v ∧ t.c = y.c := by
 have := h.fl
 unfold Mv.fl Ms.fl at this
 simp at this
 exact ⟨this.1.symm, this.2.1.symm, this.2.2.1.symm, this.2.2.2.1.symm⟩
end
theorem ins_n {w : World} {g : Nat} {op a1 a2 a3 b1 b2 b3 n : Int} (h : w.heap[g]? = some (.cells #[.int .i64 op, .int .i64 a1, .int .i64 a2, .int .i64 a3, .int .i64 b1, .int .i64 b2, .int .i64 b3, .int .i64 n] 48 (0, 0))) : w.cell? ⟨g, 7, none⟩ = some (.int .i64 n) := (cell_of_row w g 7 _ 48 _ h).trans rfl
theorem ins_op {w : World} {g : Nat} {op a1 a2 a3 b1 b2 b3 n : Int} (h : w.heap[g]? = some (.cells #[.int .i64 op, .int .i64 a1, .int .i64 a2, .int .i64 a3, .int .i64 b1, .int .i64 b2, .int .i64 b3, .int .i64 n] 48 (0, 0))) : w.cell? ⟨g, 0, none⟩ = some (.int .i64 op) := (cell_of_row w g 0 _ 48 _ h).trans rfl
def Ms.goes (t : Ms) (op : Nat) : Bool := match op with | 18 => !t.z | 19 => t.z | 20 => t.n == t.v | 21 => t.n != t.v | _ => true
def Ms.branch (t : Ms) (op : Nat) (n : Int) : Ms := if t.goes op = true then t.rg 7 ((nAt t.d.r 7 + 2 * n) % 65536) else t
def BrIs (B g : Nat) (y : Mv) (t t2 : Ms) (st op a1 a2 a3 b1 b2 b3 n : Int) (w : World) : Prop :=
 Calls Tryz.prog 37 #[.pointer (some ⟨g, 0, none⟩), .agg #[.int .i64 op, .int .i64 a1, .int .i64 a2, .int .i64 a3, .int .i64 b1, .int .i64 b2, .int .i64 b3, .int .i64 n]] w fun e w' => e = .returned (.tuple #[]) ∧ Sm w' B g y t2 st ∧ Fm w w' g y y
theorem br_17 (B g : Nat) (y : Mv) (t : Ms) (st a1 a2 a3 b1 b2 b3 n : Int) (w : World) (h : Sm w B g y t st) (hk : Dk t.d) (hn : -1000 ≤ n ∧ n ≤ 1000) : BrIs B g y t (t.branch 17 n) st 17 a1 a2 a3 b1 b2 b3 n w := by
 obtain ⟨n0, n1⟩ := hn
 obtain ⟨gr, rc, er⟩ := h.regs hk.rl
 obtain ⟨v0, v1⟩ := hk.rw _ (nAt_mem (show 7 < t.d.r.length by have := hk.rl; omega))
 have GR := hide (show gr < w.heap.size from (h.own.lo (at_r er)).2)
 have H0 := hide (h.later (below_new w (Obj.cells #[.int .i64 17, .int .i64 a1, .int .i64 a2, .int .i64 a3, .int .i64 b1, .int .i64 b2, .int .i64 b3, .int .i64 n] 48)))
 have F0 := hide (Fm.of (g := g) (y := y) (below_new w (Obj.cells #[.int .i64 17, .int .i64 a1, .int .i64 a2, .int .i64 a3, .int .i64 b1, .int .i64 b2, .int .i64 b3, .int .i64 n] 48)))
 have R0 := hide (heap_alloc_last w (Obj.cells #[.int .i64 17, .int .i64 a1, .int .i64 a2, .int .i64 a3, .int .i64 b1, .int .i64 b2, .int .i64 b3, .int .i64 n] 48))
 obtain ⟨tn, tz, tv, -⟩ := h.flz
 have WR := hide (fun v => wrapS_any (nAt t.d.r 7 + 2 * n) v)
 have HW := hide (show IntKind.i64.wrap (nAt t.d.r 7 + 2 * n) = nAt t.d.r 7 + 2 * n by rw [IntKind.wrap_i64]; omega)
 have HW2 := hide (show IntKind.i64.wrap (2 * n) = 2 * n by rw [IntKind.wrap_i64]; omega)
 have SR := hide (fun v (p : Sm v B g y t st) => And.intro (p.rcell er) (p.setR er 7 ((nAt t.d.r 7 + 2 * n) % 65536) (by have := hk.rl; omega)))
 have o0 := ins_op (uh R0)
 unfold BrIs Ms.branch Ms.goes
 simp only [tn, tz, tv]
 generalize t.rg 7 ((nAt t.d.r 7 + 2 * n) % 65536) = t7 at SR ⊢
 generalize (nAt t.d.r 7 + 2 * n) % 65536 = x at WR SR
 generalize nAt t.d.r 7 = v7 at WR SR HW
 clear h hk er tn tz tv v0 v1
 simp only [if_true]
 go_enter Tryz.func37, Tryz.ntmps37
 go_wp2_with fail
 have HD := hide ((uh H0).later (below_drew (w := (w.alloc (Obj.cells #[.int .i64 17, .int .i64 a1, .int .i64 a2, .int .i64 a3, .int .i64 b1, .int .i64 b2, .int .i64 b3, .int .i64 n] 48)))))
 have FD := hide ((uh F0).trans (Fm.of (below_drew (w := (w.alloc (Obj.cells #[.int .i64 17, .int .i64 a1, .int .i64 a2, .int .i64 a3, .int .i64 b1, .int .i64 b2, .int .i64 b3, .int .i64 n] 48))))))
 have RD := hide (row_lat (uh R0) (below_drew (w := (w.alloc (Obj.cells #[.int .i64 17, .int .i64 a1, .int .i64 a2, .int .i64 a3, .int .i64 b1, .int .i64 b2, .int .i64 b3, .int .i64 n] 48)))))
 have c2 := ins_n (uh RD)
 obtain ⟨c1, h1, f1, c3, c4⟩ := uh SR _ (uh HD)
 have H1 := hide h1
 have F1 := hide ((uh FD).trans f1)
 clear h1 f1 SR
 refine wp_region_last (fun v => v = (w.alloc (Obj.cells #[.int .i64 17, .int .i64 a1, .int .i64 a2, .int .i64 a3, .int .i64 b1, .int .i64 b2, .int .i64 b3, .int .i64 n] 48)).drew) 16 (by kernel_rfl) ?_
 generalize (w.alloc (Obj.cells #[.int .i64 17, .int .i64 a1, .int .i64 a2, .int .i64 a3, .int .i64 b1, .int .i64 b2, .int .i64 b3, .int .i64 n] 48)).drew = wd at HD FD RD H1 F1 c1 c2 c3 c4 ⊢
 refine tvB 0 (.pointer (some ⟨g, 0, none⟩)) rfl (.inl rfl) ?_
 go_simp
 refine tvB 1 (.pointer (some ⟨g, 0, none⟩)) rfl (.inl rfl) ?_
 go_simp
 refine tvB 2 (.pointer (some ⟨g, 1, none⟩)) rfl (.inl rfl) ?_
 go_simp
 refine ttA 3 (.slice (some ⟨gr, 0, none⟩) 8 rc) rfl (.inl ⟨by rfl, fun w hc => ?_⟩) (rfl) ?_
 · rw [hc]; clear hc; go_simp
 go_simp
 refine tvB 4 (.pointer (some ⟨g, 0, none⟩)) rfl (.inl rfl) ?_
 go_simp
 refine tvB 5 (.pointer (some ⟨g, 0, none⟩)) rfl (.inl rfl) ?_
 go_simp
 refine tvB 6 (.pointer (some ⟨g, 1, none⟩)) rfl (.inl rfl) ?_
 go_simp
 refine ttA 7 (.slice (some ⟨gr, 0, none⟩) 8 rc) rfl (.inl ⟨by rfl, fun w hc => ?_⟩) (rfl) ?_
 · rw [hc]; clear hc; go_simp
 go_simp
 refine tvB 8 (.pointer (some ⟨gr, 7, none⟩)) rfl (.inl rfl) ?_
 go_simp
 refine ttA 9 (.int .i64 v7) rfl (.inl ⟨by rfl, fun w hc => ?_⟩) (rfl) ?_
 · rw [hc]; clear hc; go_simp
 go_simp
 refine tvB 10 (.pointer (some ⟨w.heap.size, 7, none⟩)) rfl (.inl rfl) ?_
 go_simp
 refine ttA 11 (.int .i64 n) rfl (.inl ⟨by rfl, fun w hc => ?_⟩) (rfl) ?_
 · rw [hc]; clear hc; go_simp
 go_simp
 refine tvA 12 (.int .i64 (2 * n)) rfl (.inl ⟨by rfl, fun w hc => ?_⟩) (.inl rfl) ?_
 · clear hc; have hw := uh HW2; go_simp
 go_simp
 refine tvA 13 (.int .i64 (v7 + 2 * n)) rfl (.inl ⟨by rfl, fun w hc => ?_⟩) (.inl rfl) ?_
 · clear hc; have hw := uh HW; go_simp
 go_simp
 refine wpAnyL_one (i := 14) (by kernel_rfl) rfl (fun K2 hK => ?_)
 go_simp
 refine (uh WR _).mono ?_
 rintro e w9 ⟨rfl, hw9⟩
 rw [hw9]
 clear hw9 w9
 refine hK.out _ _ (fun _ => rfl) ?_
 clear hK K2
 refine tvB 15 (.pointer (some ⟨gr, 7, none⟩)) rfl (.inl rfl) ?_
 go_simp
 refine wpAnyL_one (i := 16) (by kernel_rfl) rfl (fun K2 hK => ?_)
 go_simp
 refine hK.out _ _ (fun h => absurd h (by decide)) ?_
 clear hK K2
 refine wpAnyL_done (by kernel_rfl) ?_ _
 generalize wd.setCell ⟨gr, 7, none⟩ (.int .i64 x) = w5 at H1 F1 ⊢
 go_wp2
 go_end0
 exact ⟨rfl, uh H1, uh F1⟩
theorem br_18 (B g : Nat) (y : Mv) (t : Ms) (st a1 a2 a3 b1 b2 b3 n : Int) (w : World) (h : Sm w B g y t st) (hk : Dk t.d) (hn : -1000 ≤ n ∧ n ≤ 1000) : BrIs B g y t (t.branch 18 n) st 18 a1 a2 a3 b1 b2 b3 n w := by
 obtain ⟨n0, n1⟩ := hn
 obtain ⟨gr, rc, er⟩ := h.regs hk.rl
 obtain ⟨v0, v1⟩ := hk.rw _ (nAt_mem (show 7 < t.d.r.length by have := hk.rl; omega))
 have GR := hide (show gr < w.heap.size from (h.own.lo (at_r er)).2)
 have H0 := hide (h.later (below_new w (Obj.cells #[.int .i64 18, .int .i64 a1, .int .i64 a2, .int .i64 a3, .int .i64 b1, .int .i64 b2, .int .i64 b3, .int .i64 n] 48)))
 have F0 := hide (Fm.of (g := g) (y := y) (below_new w (Obj.cells #[.int .i64 18, .int .i64 a1, .int .i64 a2, .int .i64 a3, .int .i64 b1, .int .i64 b2, .int .i64 b3, .int .i64 n] 48)))
 have R0 := hide (heap_alloc_last w (Obj.cells #[.int .i64 18, .int .i64 a1, .int .i64 a2, .int .i64 a3, .int .i64 b1, .int .i64 b2, .int .i64 b3, .int .i64 n] 48))
 obtain ⟨tn, tz, tv, -⟩ := h.flz
 have WR := hide (fun v => wrapS_any (nAt t.d.r 7 + 2 * n) v)
 have HW := hide (show IntKind.i64.wrap (nAt t.d.r 7 + 2 * n) = nAt t.d.r 7 + 2 * n by rw [IntKind.wrap_i64]; omega)
 have HW2 := hide (show IntKind.i64.wrap (2 * n) = 2 * n by rw [IntKind.wrap_i64]; omega)
 have SR := hide (fun v (p : Sm v B g y t st) => And.intro (p.rcell er) (p.setR er 7 ((nAt t.d.r 7 + 2 * n) % 65536) (by have := hk.rl; omega)))
 have o0 := ins_op (uh R0)
 unfold BrIs Ms.branch Ms.goes
 simp only [tn, tz, tv]
 generalize t.rg 7 ((nAt t.d.r 7 + 2 * n) % 65536) = t7 at SR ⊢
 generalize (nAt t.d.r 7 + 2 * n) % 65536 = x at WR SR
 generalize nAt t.d.r 7 = v7 at WR SR HW
 have cf := row_z (uh H0).row
 generalize y.z = bz at cf ⊢
 clear h hk er tn tz tv v0 v1
 cases bz
 ·
  skip
  go_enter Tryz.func37, Tryz.ntmps37
  go_wp2_with fail
  have HD := hide ((uh H0).later (below_drew (w := (w.alloc (Obj.cells #[.int .i64 18, .int .i64 a1, .int .i64 a2, .int .i64 a3, .int .i64 b1, .int .i64 b2, .int .i64 b3, .int .i64 n] 48)))))
  have FD := hide ((uh F0).trans (Fm.of (below_drew (w := (w.alloc (Obj.cells #[.int .i64 18, .int .i64 a1, .int .i64 a2, .int .i64 a3, .int .i64 b1, .int .i64 b2, .int .i64 b3, .int .i64 n] 48))))))
  have RD := hide (row_lat (uh R0) (below_drew (w := (w.alloc (Obj.cells #[.int .i64 18, .int .i64 a1, .int .i64 a2, .int .i64 a3, .int .i64 b1, .int .i64 b2, .int .i64 b3, .int .i64 n] 48)))))
  have c2 := ins_n (uh RD)
  obtain ⟨c1, h1, f1, c3, c4⟩ := uh SR _ (uh HD)
  have H1 := hide h1
  have F1 := hide ((uh FD).trans f1)
  clear h1 f1 SR
  refine wp_region_last (fun v => v = (w.alloc (Obj.cells #[.int .i64 18, .int .i64 a1, .int .i64 a2, .int .i64 a3, .int .i64 b1, .int .i64 b2, .int .i64 b3, .int .i64 n] 48)).drew) 16 (by kernel_rfl) ?_
  generalize (w.alloc (Obj.cells #[.int .i64 18, .int .i64 a1, .int .i64 a2, .int .i64 a3, .int .i64 b1, .int .i64 b2, .int .i64 b3, .int .i64 n] 48)).drew = wd at HD FD RD H1 F1 c1 c2 c3 c4 ⊢
  refine tvB 0 (.pointer (some ⟨g, 0, none⟩)) rfl (.inl rfl) ?_
  go_simp
  refine tvB 1 (.pointer (some ⟨g, 0, none⟩)) rfl (.inl rfl) ?_
  go_simp
  refine tvB 2 (.pointer (some ⟨g, 1, none⟩)) rfl (.inl rfl) ?_
  go_simp
  refine ttA 3 (.slice (some ⟨gr, 0, none⟩) 8 rc) rfl (.inl ⟨by rfl, fun w hc => ?_⟩) (rfl) ?_
  · rw [hc]; clear hc; go_simp
  go_simp
  refine tvB 4 (.pointer (some ⟨g, 0, none⟩)) rfl (.inl rfl) ?_
  go_simp
  refine tvB 5 (.pointer (some ⟨g, 0, none⟩)) rfl (.inl rfl) ?_
  go_simp
  refine tvB 6 (.pointer (some ⟨g, 1, none⟩)) rfl (.inl rfl) ?_
  go_simp
  refine ttA 7 (.slice (some ⟨gr, 0, none⟩) 8 rc) rfl (.inl ⟨by rfl, fun w hc => ?_⟩) (rfl) ?_
  · rw [hc]; clear hc; go_simp
  go_simp
  refine tvB 8 (.pointer (some ⟨gr, 7, none⟩)) rfl (.inl rfl) ?_
  go_simp
  refine ttA 9 (.int .i64 v7) rfl (.inl ⟨by rfl, fun w hc => ?_⟩) (rfl) ?_
  · rw [hc]; clear hc; go_simp
  go_simp
  refine tvB 10 (.pointer (some ⟨w.heap.size, 7, none⟩)) rfl (.inl rfl) ?_
  go_simp
  refine ttA 11 (.int .i64 n) rfl (.inl ⟨by rfl, fun w hc => ?_⟩) (rfl) ?_
  · rw [hc]; clear hc; go_simp
  go_simp
  refine tvA 12 (.int .i64 (2 * n)) rfl (.inl ⟨by rfl, fun w hc => ?_⟩) (.inl rfl) ?_
  · clear hc; have hw := uh HW2; go_simp
  go_simp
  refine tvA 13 (.int .i64 (v7 + 2 * n)) rfl (.inl ⟨by rfl, fun w hc => ?_⟩) (.inl rfl) ?_
  · clear hc; have hw := uh HW; go_simp
  go_simp
  refine wpAnyL_one (i := 14) (by kernel_rfl) rfl (fun K2 hK => ?_)
  go_simp
  refine (uh WR _).mono ?_
  rintro e w9 ⟨rfl, hw9⟩
  rw [hw9]
  clear hw9 w9
  refine hK.out _ _ (fun _ => rfl) ?_
  clear hK K2
  refine tvB 15 (.pointer (some ⟨gr, 7, none⟩)) rfl (.inl rfl) ?_
  go_simp
  refine wpAnyL_one (i := 16) (by kernel_rfl) rfl (fun K2 hK => ?_)
  go_simp
  refine hK.out _ _ (fun h => absurd h (by decide)) ?_
  clear hK K2
  refine wpAnyL_done (by kernel_rfl) ?_ _
  generalize wd.setCell ⟨gr, 7, none⟩ (.int .i64 x) = w5 at H1 F1 ⊢
  go_wp2
  go_end0
  exact ⟨rfl, uh H1, uh F1⟩
 ·
  skip
  go_enter Tryz.func37, Tryz.ntmps37
  go_wp2
  go_end0
  exact ⟨rfl, uh H0, uh F0⟩
theorem br_19 (B g : Nat) (y : Mv) (t : Ms) (st a1 a2 a3 b1 b2 b3 n : Int) (w : World) (h : Sm w B g y t st) (hk : Dk t.d) (hn : -1000 ≤ n ∧ n ≤ 1000) : BrIs B g y t (t.branch 19 n) st 19 a1 a2 a3 b1 b2 b3 n w := by
 obtain ⟨n0, n1⟩ := hn
 obtain ⟨gr, rc, er⟩ := h.regs hk.rl
 obtain ⟨v0, v1⟩ := hk.rw _ (nAt_mem (show 7 < t.d.r.length by have := hk.rl; omega))
 have GR := hide (show gr < w.heap.size from (h.own.lo (at_r er)).2)
 have H0 := hide (h.later (below_new w (Obj.cells #[.int .i64 19, .int .i64 a1, .int .i64 a2, .int .i64 a3, .int .i64 b1, .int .i64 b2, .int .i64 b3, .int .i64 n] 48)))
 have F0 := hide (Fm.of (g := g) (y := y) (below_new w (Obj.cells #[.int .i64 19, .int .i64 a1, .int .i64 a2, .int .i64 a3, .int .i64 b1, .int .i64 b2, .int .i64 b3, .int .i64 n] 48)))
 have R0 := hide (heap_alloc_last w (Obj.cells #[.int .i64 19, .int .i64 a1, .int .i64 a2, .int .i64 a3, .int .i64 b1, .int .i64 b2, .int .i64 b3, .int .i64 n] 48))
 obtain ⟨tn, tz, tv, -⟩ := h.flz
 have WR := hide (fun v => wrapS_any (nAt t.d.r 7 + 2 * n) v)
 have HW := hide (show IntKind.i64.wrap (nAt t.d.r 7 + 2 * n) = nAt t.d.r 7 + 2 * n by rw [IntKind.wrap_i64]; omega)
 have HW2 := hide (show IntKind.i64.wrap (2 * n) = 2 * n by rw [IntKind.wrap_i64]; omega)
 have SR := hide (fun v (p : Sm v B g y t st) => And.intro (p.rcell er) (p.setR er 7 ((nAt t.d.r 7 + 2 * n) % 65536) (by have := hk.rl; omega)))
 have o0 := ins_op (uh R0)
 unfold BrIs Ms.branch Ms.goes
 simp only [tn, tz, tv]
 generalize t.rg 7 ((nAt t.d.r 7 + 2 * n) % 65536) = t7 at SR ⊢
 generalize (nAt t.d.r 7 + 2 * n) % 65536 = x at WR SR
 generalize nAt t.d.r 7 = v7 at WR SR HW
 have cf := row_z (uh H0).row
 generalize y.z = bz at cf ⊢
 clear h hk er tn tz tv v0 v1
 cases bz
 ·
  skip
  go_enter Tryz.func37, Tryz.ntmps37
  go_wp2
  go_end0
  exact ⟨rfl, uh H0, uh F0⟩
 ·
  skip
  go_enter Tryz.func37, Tryz.ntmps37
  go_wp2_with fail
  have HD := hide ((uh H0).later (below_drew (w := (w.alloc (Obj.cells #[.int .i64 19, .int .i64 a1, .int .i64 a2, .int .i64 a3, .int .i64 b1, .int .i64 b2, .int .i64 b3, .int .i64 n] 48)))))
  have FD := hide ((uh F0).trans (Fm.of (below_drew (w := (w.alloc (Obj.cells #[.int .i64 19, .int .i64 a1, .int .i64 a2, .int .i64 a3, .int .i64 b1, .int .i64 b2, .int .i64 b3, .int .i64 n] 48))))))
  have RD := hide (row_lat (uh R0) (below_drew (w := (w.alloc (Obj.cells #[.int .i64 19, .int .i64 a1, .int .i64 a2, .int .i64 a3, .int .i64 b1, .int .i64 b2, .int .i64 b3, .int .i64 n] 48)))))
  have c2 := ins_n (uh RD)
  obtain ⟨c1, h1, f1, c3, c4⟩ := uh SR _ (uh HD)
  have H1 := hide h1
  have F1 := hide ((uh FD).trans f1)
  clear h1 f1 SR
  refine wp_region_last (fun v => v = (w.alloc (Obj.cells #[.int .i64 19, .int .i64 a1, .int .i64 a2, .int .i64 a3, .int .i64 b1, .int .i64 b2, .int .i64 b3, .int .i64 n] 48)).drew) 16 (by kernel_rfl) ?_
  generalize (w.alloc (Obj.cells #[.int .i64 19, .int .i64 a1, .int .i64 a2, .int .i64 a3, .int .i64 b1, .int .i64 b2, .int .i64 b3, .int .i64 n] 48)).drew = wd at HD FD RD H1 F1 c1 c2 c3 c4 ⊢
  refine tvB 0 (.pointer (some ⟨g, 0, none⟩)) rfl (.inl rfl) ?_
  go_simp
  refine tvB 1 (.pointer (some ⟨g, 0, none⟩)) rfl (.inl rfl) ?_
  go_simp
  refine tvB 2 (.pointer (some ⟨g, 1, none⟩)) rfl (.inl rfl) ?_
  go_simp
  refine ttA 3 (.slice (some ⟨gr, 0, none⟩) 8 rc) rfl (.inl ⟨by rfl, fun w hc => ?_⟩) (rfl) ?_
  · rw [hc]; clear hc; go_simp
  go_simp
  refine tvB 4 (.pointer (some ⟨g, 0, none⟩)) rfl (.inl rfl) ?_
  go_simp
  refine tvB 5 (.pointer (some ⟨g, 0, none⟩)) rfl (.inl rfl) ?_
  go_simp
  refine tvB 6 (.pointer (some ⟨g, 1, none⟩)) rfl (.inl rfl) ?_
  go_simp
  refine ttA 7 (.slice (some ⟨gr, 0, none⟩) 8 rc) rfl (.inl ⟨by rfl, fun w hc => ?_⟩) (rfl) ?_
  · rw [hc]; clear hc; go_simp
  go_simp
  refine tvB 8 (.pointer (some ⟨gr, 7, none⟩)) rfl (.inl rfl) ?_
  go_simp
  refine ttA 9 (.int .i64 v7) rfl (.inl ⟨by rfl, fun w hc => ?_⟩) (rfl) ?_
  · rw [hc]; clear hc; go_simp
  go_simp
  refine tvB 10 (.pointer (some ⟨w.heap.size, 7, none⟩)) rfl (.inl rfl) ?_
  go_simp
  refine ttA 11 (.int .i64 n) rfl (.inl ⟨by rfl, fun w hc => ?_⟩) (rfl) ?_
  · rw [hc]; clear hc; go_simp
  go_simp
  refine tvA 12 (.int .i64 (2 * n)) rfl (.inl ⟨by rfl, fun w hc => ?_⟩) (.inl rfl) ?_
  · clear hc; have hw := uh HW2; go_simp
  go_simp
  refine tvA 13 (.int .i64 (v7 + 2 * n)) rfl (.inl ⟨by rfl, fun w hc => ?_⟩) (.inl rfl) ?_
  · clear hc; have hw := uh HW; go_simp
  go_simp
  refine wpAnyL_one (i := 14) (by kernel_rfl) rfl (fun K2 hK => ?_)
  go_simp
  refine (uh WR _).mono ?_
  rintro e w9 ⟨rfl, hw9⟩
  rw [hw9]
  clear hw9 w9
  refine hK.out _ _ (fun _ => rfl) ?_
  clear hK K2
  refine tvB 15 (.pointer (some ⟨gr, 7, none⟩)) rfl (.inl rfl) ?_
  go_simp
  refine wpAnyL_one (i := 16) (by kernel_rfl) rfl (fun K2 hK => ?_)
  go_simp
  refine hK.out _ _ (fun h => absurd h (by decide)) ?_
  clear hK K2
  refine wpAnyL_done (by kernel_rfl) ?_ _
  generalize wd.setCell ⟨gr, 7, none⟩ (.int .i64 x) = w5 at H1 F1 ⊢
  go_wp2
  go_end0
  exact ⟨rfl, uh H1, uh F1⟩
theorem br_20 (B g : Nat) (y : Mv) (t : Ms) (st a1 a2 a3 b1 b2 b3 n : Int) (w : World) (h : Sm w B g y t st) (hk : Dk t.d) (hn : -1000 ≤ n ∧ n ≤ 1000) : BrIs B g y t (t.branch 20 n) st 20 a1 a2 a3 b1 b2 b3 n w := by
 obtain ⟨n0, n1⟩ := hn
 obtain ⟨gr, rc, er⟩ := h.regs hk.rl
 obtain ⟨v0, v1⟩ := hk.rw _ (nAt_mem (show 7 < t.d.r.length by have := hk.rl; omega))
 have GR := hide (show gr < w.heap.size from (h.own.lo (at_r er)).2)
 have H0 := hide (h.later (below_new w (Obj.cells #[.int .i64 20, .int .i64 a1, .int .i64 a2, .int .i64 a3, .int .i64 b1, .int .i64 b2, .int .i64 b3, .int .i64 n] 48)))
 have F0 := hide (Fm.of (g := g) (y := y) (below_new w (Obj.cells #[.int .i64 20, .int .i64 a1, .int .i64 a2, .int .i64 a3, .int .i64 b1, .int .i64 b2, .int .i64 b3, .int .i64 n] 48)))
 have R0 := hide (heap_alloc_last w (Obj.cells #[.int .i64 20, .int .i64 a1, .int .i64 a2, .int .i64 a3, .int .i64 b1, .int .i64 b2, .int .i64 b3, .int .i64 n] 48))
 obtain ⟨tn, tz, tv, -⟩ := h.flz
 have WR := hide (fun v => wrapS_any (nAt t.d.r 7 + 2 * n) v)
 have HW := hide (show IntKind.i64.wrap (nAt t.d.r 7 + 2 * n) = nAt t.d.r 7 + 2 * n by rw [IntKind.wrap_i64]; omega)
 have HW2 := hide (show IntKind.i64.wrap (2 * n) = 2 * n by rw [IntKind.wrap_i64]; omega)
 have SR := hide (fun v (p : Sm v B g y t st) => And.intro (p.rcell er) (p.setR er 7 ((nAt t.d.r 7 + 2 * n) % 65536) (by have := hk.rl; omega)))
 have o0 := ins_op (uh R0)
 unfold BrIs Ms.branch Ms.goes
 simp only [tn, tz, tv]
 generalize t.rg 7 ((nAt t.d.r 7 + 2 * n) % 65536) = t7 at SR ⊢
 generalize (nAt t.d.r 7 + 2 * n) % 65536 = x at WR SR
 generalize nAt t.d.r 7 = v7 at WR SR HW
 have cn := hide (And.intro (row_n ((uh H0).later (below_drew (w := w.alloc (Obj.cells #[.int .i64 20, .int .i64 a1, .int .i64 a2, .int .i64 a3, .int .i64 b1, .int .i64 b2, .int .i64 b3, .int .i64 n] 48)))).row) (row_v ((uh H0).later (below_drew (w := w.alloc (Obj.cells #[.int .i64 20, .int .i64 a1, .int .i64 a2, .int .i64 a3, .int .i64 b1, .int .i64 b2, .int .i64 b3, .int .i64 n] 48)))).row))
 generalize y.n = bn at cn ⊢
 generalize y.v = bv at cn ⊢
 clear h hk er tn tz tv v0 v1
 have HQ := hide ((uh H0).later (below_drew (w := (w.alloc (Obj.cells #[.int .i64 20, .int .i64 a1, .int .i64 a2, .int .i64 a3, .int .i64 b1, .int .i64 b2, .int .i64 b3, .int .i64 n] 48)))))
 have FQ := hide ((uh F0).trans (Fm.of (below_drew (w := (w.alloc (Obj.cells #[.int .i64 20, .int .i64 a1, .int .i64 a2, .int .i64 a3, .int .i64 b1, .int .i64 b2, .int .i64 b3, .int .i64 n] 48))))))
 have RQ := hide (row_lat (uh R0) (below_drew (w := (w.alloc (Obj.cells #[.int .i64 20, .int .i64 a1, .int .i64 a2, .int .i64 a3, .int .i64 b1, .int .i64 b2, .int .i64 b3, .int .i64 n] 48)))))
 generalize hb : (bn == bv) = bb
 go_enter Tryz.func37, Tryz.ntmps37
 go_wp2_with fail
 refine wp_region_last (fun v => v.cell? ⟨g, 2, none⟩ = some (.bool bn) ∧ v.cell? ⟨g, 4, none⟩ = some (.bool bv)) 9 (by kernel_rfl) ?_
 generalize (w.alloc (Obj.cells #[.int .i64 20, .int .i64 a1, .int .i64 a2, .int .i64 a3, .int .i64 b1, .int .i64 b2, .int .i64 b3, .int .i64 n] 48)).drew = wq at HQ FQ RQ cn ⊢
 refine tvB 0 (.pointer (some ⟨g, 0, none⟩)) rfl (.inl (uh cn)) ?_
 go_simp
 refine tvB 1 (.pointer (some ⟨g, 0, none⟩)) rfl (.inl (uh cn)) ?_
 go_simp
 refine tvB 2 (.pointer (some ⟨g, 2, none⟩)) rfl (.inl (uh cn)) ?_
 go_simp
 refine ttA 3 (.bool bn) rfl (.inl ⟨by rfl, fun w hc => ?_⟩) (uh cn) ?_
 · obtain ⟨h1, h2⟩ := hc; go_simp
 go_simp
 refine tvB 4 (.pointer (some ⟨g, 0, none⟩)) rfl (.inl (uh cn)) ?_
 go_simp
 refine tvB 5 (.pointer (some ⟨g, 0, none⟩)) rfl (.inl (uh cn)) ?_
 go_simp
 refine tvB 6 (.pointer (some ⟨g, 4, none⟩)) rfl (.inl (uh cn)) ?_
 go_simp
 refine ttA 7 (.bool bv) rfl (.inl ⟨by rfl, fun w hc => ?_⟩) (uh cn) ?_
 · obtain ⟨h1, h2⟩ := hc; go_simp
 go_simp
 refine tvB 8 (.bool (bn == bv)) rfl (.inl (uh cn)) ?_
 go_simp
 refine wpAnyL_one (i := 9) (by kernel_rfl) rfl (fun K2 hK => ?_)
 go_simp
 refine hK.out _ _ (fun h => absurd h (by decide)) ?_
 clear hK K2
 refine wpAnyL_done (by kernel_rfl) ?_ _
 try rw [hb]
 cases bb
 ·
  go_wp2
  go_end0
  exact ⟨rfl, uh HQ, uh FQ⟩
 ·
  go_wp2_with fail
  have HD := hide ((uh HQ).later (below_drew (w := wq)))
  have FD := hide ((uh FQ).trans (Fm.of (below_drew (w := wq))))
  have RD := hide (row_lat (uh RQ) (below_drew (w := wq)))
  have c2 := ins_n (uh RD)
  obtain ⟨c1, h1, f1, c3, c4⟩ := uh SR _ (uh HD)
  have H1 := hide h1
  have F1 := hide ((uh FD).trans f1)
  clear h1 f1 SR
  refine wp_region_last (fun v => v = wq.drew) 16 (by kernel_rfl) ?_
  generalize wq.drew = wd at HD FD RD H1 F1 c1 c2 c3 c4 ⊢
  refine tvB 0 (.pointer (some ⟨g, 0, none⟩)) rfl (.inl rfl) ?_
  go_simp
  refine tvB 1 (.pointer (some ⟨g, 0, none⟩)) rfl (.inl rfl) ?_
  go_simp
  refine tvB 2 (.pointer (some ⟨g, 1, none⟩)) rfl (.inl rfl) ?_
  go_simp
  refine ttA 3 (.slice (some ⟨gr, 0, none⟩) 8 rc) rfl (.inl ⟨by rfl, fun w hc => ?_⟩) (rfl) ?_
  · rw [hc]; clear hc; go_simp
  go_simp
  refine tvB 4 (.pointer (some ⟨g, 0, none⟩)) rfl (.inl rfl) ?_
  go_simp
  refine tvB 5 (.pointer (some ⟨g, 0, none⟩)) rfl (.inl rfl) ?_
  go_simp
  refine tvB 6 (.pointer (some ⟨g, 1, none⟩)) rfl (.inl rfl) ?_
  go_simp
  refine ttA 7 (.slice (some ⟨gr, 0, none⟩) 8 rc) rfl (.inl ⟨by rfl, fun w hc => ?_⟩) (rfl) ?_
  · rw [hc]; clear hc; go_simp
  go_simp
  refine tvB 8 (.pointer (some ⟨gr, 7, none⟩)) rfl (.inl rfl) ?_
  go_simp
  refine ttA 9 (.int .i64 v7) rfl (.inl ⟨by rfl, fun w hc => ?_⟩) (rfl) ?_
  · rw [hc]; clear hc; go_simp
  go_simp
  refine tvB 10 (.pointer (some ⟨w.heap.size, 7, none⟩)) rfl (.inl rfl) ?_
  go_simp
  refine ttA 11 (.int .i64 n) rfl (.inl ⟨by rfl, fun w hc => ?_⟩) (rfl) ?_
  · rw [hc]; clear hc; go_simp
  go_simp
  refine tvA 12 (.int .i64 (2 * n)) rfl (.inl ⟨by rfl, fun w hc => ?_⟩) (.inl rfl) ?_
  · clear hc; have hw := uh HW2; go_simp
  go_simp
  refine tvA 13 (.int .i64 (v7 + 2 * n)) rfl (.inl ⟨by rfl, fun w hc => ?_⟩) (.inl rfl) ?_
  · clear hc; have hw := uh HW; go_simp
  go_simp
  refine wpAnyL_one (i := 14) (by kernel_rfl) rfl (fun K2 hK => ?_)
  go_simp
  refine (uh WR _).mono ?_
  rintro e w9 ⟨rfl, hw9⟩
  rw [hw9]
  clear hw9 w9
  refine hK.out _ _ (fun _ => rfl) ?_
  clear hK K2
  refine tvB 15 (.pointer (some ⟨gr, 7, none⟩)) rfl (.inl rfl) ?_
  go_simp
  refine wpAnyL_one (i := 16) (by kernel_rfl) rfl (fun K2 hK => ?_)
  go_simp
  refine hK.out _ _ (fun h => absurd h (by decide)) ?_
  clear hK K2
  refine wpAnyL_done (by kernel_rfl) ?_ _
  generalize wd.setCell ⟨gr, 7, none⟩ (.int .i64 x) = w5 at H1 F1 ⊢
  go_wp2
  go_end0
  exact ⟨rfl, uh H1, uh F1⟩
theorem br_21 (B g : Nat) (y : Mv) (t : Ms) (st a1 a2 a3 b1 b2 b3 n : Int) (w : World) (h : Sm w B g y t st) (hk : Dk t.d) (hn : -1000 ≤ n ∧ n ≤ 1000) : BrIs B g y t (t.branch 21 n) st 21 a1 a2 a3 b1 b2 b3 n w := by
 obtain ⟨n0, n1⟩ := hn
 obtain ⟨gr, rc, er⟩ := h.regs hk.rl
 obtain ⟨v0, v1⟩ := hk.rw _ (nAt_mem (show 7 < t.d.r.length by have := hk.rl; omega))
 have GR := hide (show gr < w.heap.size from (h.own.lo (at_r er)).2)
 have H0 := hide (h.later (below_new w (Obj.cells #[.int .i64 21, .int .i64 a1, .int .i64 a2, .int .i64 a3, .int .i64 b1, .int .i64 b2, .int .i64 b3, .int .i64 n] 48)))
 have F0 := hide (Fm.of (g := g) (y := y) (below_new w (Obj.cells #[.int .i64 21, .int .i64 a1, .int .i64 a2, .int .i64 a3, .int .i64 b1, .int .i64 b2, .int .i64 b3, .int .i64 n] 48)))
 have R0 := hide (heap_alloc_last w (Obj.cells #[.int .i64 21, .int .i64 a1, .int .i64 a2, .int .i64 a3, .int .i64 b1, .int .i64 b2, .int .i64 b3, .int .i64 n] 48))
 obtain ⟨tn, tz, tv, -⟩ := h.flz
 have WR := hide (fun v => wrapS_any (nAt t.d.r 7 + 2 * n) v)
 have HW := hide (show IntKind.i64.wrap (nAt t.d.r 7 + 2 * n) = nAt t.d.r 7 + 2 * n by rw [IntKind.wrap_i64]; omega)
 have HW2 := hide (show IntKind.i64.wrap (2 * n) = 2 * n by rw [IntKind.wrap_i64]; omega)
 have SR := hide (fun v (p : Sm v B g y t st) => And.intro (p.rcell er) (p.setR er 7 ((nAt t.d.r 7 + 2 * n) % 65536) (by have := hk.rl; omega)))
 have o0 := ins_op (uh R0)
 unfold BrIs Ms.branch Ms.goes
 simp only [tn, tz, tv]
 generalize t.rg 7 ((nAt t.d.r 7 + 2 * n) % 65536) = t7 at SR ⊢
 generalize (nAt t.d.r 7 + 2 * n) % 65536 = x at WR SR
 generalize nAt t.d.r 7 = v7 at WR SR HW
 have cn := hide (And.intro (row_n ((uh H0).later (below_drew (w := w.alloc (Obj.cells #[.int .i64 21, .int .i64 a1, .int .i64 a2, .int .i64 a3, .int .i64 b1, .int .i64 b2, .int .i64 b3, .int .i64 n] 48)))).row) (row_v ((uh H0).later (below_drew (w := w.alloc (Obj.cells #[.int .i64 21, .int .i64 a1, .int .i64 a2, .int .i64 a3, .int .i64 b1, .int .i64 b2, .int .i64 b3, .int .i64 n] 48)))).row))
 generalize y.n = bn at cn ⊢
 generalize y.v = bv at cn ⊢
 clear h hk er tn tz tv v0 v1
 have HQ := hide ((uh H0).later (below_drew (w := (w.alloc (Obj.cells #[.int .i64 21, .int .i64 a1, .int .i64 a2, .int .i64 a3, .int .i64 b1, .int .i64 b2, .int .i64 b3, .int .i64 n] 48)))))
 have FQ := hide ((uh F0).trans (Fm.of (below_drew (w := (w.alloc (Obj.cells #[.int .i64 21, .int .i64 a1, .int .i64 a2, .int .i64 a3, .int .i64 b1, .int .i64 b2, .int .i64 b3, .int .i64 n] 48))))))
 have RQ := hide (row_lat (uh R0) (below_drew (w := (w.alloc (Obj.cells #[.int .i64 21, .int .i64 a1, .int .i64 a2, .int .i64 a3, .int .i64 b1, .int .i64 b2, .int .i64 b3, .int .i64 n] 48)))))
 generalize hb : (bn != bv) = bb
 go_enter Tryz.func37, Tryz.ntmps37
 go_wp2_with fail
 refine wp_region_last (fun v => v.cell? ⟨g, 2, none⟩ = some (.bool bn) ∧ v.cell? ⟨g, 4, none⟩ = some (.bool bv)) 9 (by kernel_rfl) ?_
 generalize (w.alloc (Obj.cells #[.int .i64 21, .int .i64 a1, .int .i64 a2, .int .i64 a3, .int .i64 b1, .int .i64 b2, .int .i64 b3, .int .i64 n] 48)).drew = wq at HQ FQ RQ cn ⊢
 refine tvB 0 (.pointer (some ⟨g, 0, none⟩)) rfl (.inl (uh cn)) ?_
 go_simp
 refine tvB 1 (.pointer (some ⟨g, 0, none⟩)) rfl (.inl (uh cn)) ?_
 go_simp
 refine tvB 2 (.pointer (some ⟨g, 2, none⟩)) rfl (.inl (uh cn)) ?_
 go_simp
 refine ttA 3 (.bool bn) rfl (.inl ⟨by rfl, fun w hc => ?_⟩) (uh cn) ?_
 · obtain ⟨h1, h2⟩ := hc; go_simp
 go_simp
 refine tvB 4 (.pointer (some ⟨g, 0, none⟩)) rfl (.inl (uh cn)) ?_
 go_simp
 refine tvB 5 (.pointer (some ⟨g, 0, none⟩)) rfl (.inl (uh cn)) ?_
 go_simp
 refine tvB 6 (.pointer (some ⟨g, 4, none⟩)) rfl (.inl (uh cn)) ?_
 go_simp
 refine ttA 7 (.bool bv) rfl (.inl ⟨by rfl, fun w hc => ?_⟩) (uh cn) ?_
 · obtain ⟨h1, h2⟩ := hc; go_simp
 go_simp
 refine tvA 8 (.bool (bn != bv)) rfl (.inl ⟨by rfl, fun w hc => ?_⟩) (.inl (uh cn)) ?_
 ·
  clear hc; go_simp
  rw [← hb]
  cases bn <;> cases bv <;> rfl
 go_simp
 refine wpAnyL_one (i := 9) (by kernel_rfl) rfl (fun K2 hK => ?_)
 go_simp
 refine hK.out _ _ (fun h => absurd h (by decide)) ?_
 clear hK K2
 refine wpAnyL_done (by kernel_rfl) ?_ _
 try rw [hb]
 cases bb
 ·
  go_wp2
  go_end0
  exact ⟨rfl, uh HQ, uh FQ⟩
 ·
  go_wp2_with fail
  have HD := hide ((uh HQ).later (below_drew (w := wq)))
  have FD := hide ((uh FQ).trans (Fm.of (below_drew (w := wq))))
  have RD := hide (row_lat (uh RQ) (below_drew (w := wq)))
  have c2 := ins_n (uh RD)
  obtain ⟨c1, h1, f1, c3, c4⟩ := uh SR _ (uh HD)
  have H1 := hide h1
  have F1 := hide ((uh FD).trans f1)
  clear h1 f1 SR
  refine wp_region_last (fun v => v = wq.drew) 16 (by kernel_rfl) ?_
  generalize wq.drew = wd at HD FD RD H1 F1 c1 c2 c3 c4 ⊢
  refine tvB 0 (.pointer (some ⟨g, 0, none⟩)) rfl (.inl rfl) ?_
  go_simp
  refine tvB 1 (.pointer (some ⟨g, 0, none⟩)) rfl (.inl rfl) ?_
  go_simp
  refine tvB 2 (.pointer (some ⟨g, 1, none⟩)) rfl (.inl rfl) ?_
  go_simp
  refine ttA 3 (.slice (some ⟨gr, 0, none⟩) 8 rc) rfl (.inl ⟨by rfl, fun w hc => ?_⟩) (rfl) ?_
  · rw [hc]; clear hc; go_simp
  go_simp
  refine tvB 4 (.pointer (some ⟨g, 0, none⟩)) rfl (.inl rfl) ?_
  go_simp
  refine tvB 5 (.pointer (some ⟨g, 0, none⟩)) rfl (.inl rfl) ?_
  go_simp
  refine tvB 6 (.pointer (some ⟨g, 1, none⟩)) rfl (.inl rfl) ?_
  go_simp
  refine ttA 7 (.slice (some ⟨gr, 0, none⟩) 8 rc) rfl (.inl ⟨by rfl, fun w hc => ?_⟩) (rfl) ?_
  · rw [hc]; clear hc; go_simp
  go_simp
  refine tvB 8 (.pointer (some ⟨gr, 7, none⟩)) rfl (.inl rfl) ?_
  go_simp
  refine ttA 9 (.int .i64 v7) rfl (.inl ⟨by rfl, fun w hc => ?_⟩) (rfl) ?_
  · rw [hc]; clear hc; go_simp
  go_simp
  refine tvB 10 (.pointer (some ⟨w.heap.size, 7, none⟩)) rfl (.inl rfl) ?_
  go_simp
  refine ttA 11 (.int .i64 n) rfl (.inl ⟨by rfl, fun w hc => ?_⟩) (rfl) ?_
  · rw [hc]; clear hc; go_simp
  go_simp
  refine tvA 12 (.int .i64 (2 * n)) rfl (.inl ⟨by rfl, fun w hc => ?_⟩) (.inl rfl) ?_
  · clear hc; have hw := uh HW2; go_simp
  go_simp
  refine tvA 13 (.int .i64 (v7 + 2 * n)) rfl (.inl ⟨by rfl, fun w hc => ?_⟩) (.inl rfl) ?_
  · clear hc; have hw := uh HW; go_simp
  go_simp
  refine wpAnyL_one (i := 14) (by kernel_rfl) rfl (fun K2 hK => ?_)
  go_simp
  refine (uh WR _).mono ?_
  rintro e w9 ⟨rfl, hw9⟩
  rw [hw9]
  clear hw9 w9
  refine hK.out _ _ (fun _ => rfl) ?_
  clear hK K2
  refine tvB 15 (.pointer (some ⟨gr, 7, none⟩)) rfl (.inl rfl) ?_
  go_simp
  refine wpAnyL_one (i := 16) (by kernel_rfl) rfl (fun K2 hK => ?_)
  go_simp
  refine hK.out _ _ (fun h => absurd h (by decide)) ?_
  clear hK K2
  refine wpAnyL_done (by kernel_rfl) ?_ _
  generalize wd.setCell ⟨gr, 7, none⟩ (.int .i64 x) = w5 at H1 F1 ⊢
  go_wp2
  go_end0
  exact ⟨rfl, uh H1, uh F1⟩
theorem branch_any (B g : Nat) (y : Mv) (t : Ms) (st a1 a2 a3 b1 b2 b3 n : Int) (op : Nat) (ho : 17 ≤ op ∧ op ≤ 21) (w : World) (h : Sm w B g y t st) (hk : Dk t.d) (hn : -1000 ≤ n ∧ n ≤ 1000) : BrIs B g y t (t.branch op n) st op a1 a2 a3 b1 b2 b3 n w := by
 have e : op = 17 ∨ op = 18 ∨ op = 19 ∨ op = 20 ∨ op = 21 := by omega
 rcases e with rfl | rfl | rfl | rfl | rfl
 · exact br_17 B g y t st a1 a2 a3 b1 b2 b3 n w h hk hn
 · exact br_18 B g y t st a1 a2 a3 b1 b2 b3 n w h hk hn
 · exact br_19 B g y t st a1 a2 a3 b1 b2 b3 n w h hk hn
 · exact br_20 B g y t st a1 a2 a3 b1 b2 b3 n w h hk hn
 · exact br_21 B g y t st a1 a2 a3 b1 b2 b3 n w h hk hn
end
section
theorem bigA_setW {mem : List Int} (y : Mv) (k : Nat) (v : Int) (hm : mem.length = 256) (hk : k < 256) : (bigA mem y).setIfInBounds k (.int .i64 v) = bigA (mem.set k v) y := by
 unfold bigA
 rw [List.setIfInBounds_toArray, List.set_append_left _ _ (by rw [cellsN_length]; omega)]
 congr 2
 unfold cellsN
 rw [List.map_set]
theorem bigA_setF {mem : List Int} (y y' : Mv) (j : Nat) (v : Value) (hm : mem.length = 256) (he : y.cs.setIfInBounds j v = y'.cs) : (bigA mem y).setIfInBounds (256 + j) v = bigA mem y' := by
 unfold bigA
 rw [List.setIfInBounds_toArray, List.set_append_right _ _ (by rw [cellsN_length]; omega), cellsN_length, hm, show 256 + j - 256 = j by omega, ← he]
 congr 2
 simp
structure Pz (w : World) (g B gr rc : Nat) (y : Mv) (t : Ms) (st : Int) (m0 : List Int) : Prop where
 row : w.heap[g]? = some (.cells (bigA t.d.m y) 69 (0, 0))
 len : t.d.m.length = 256
 own : OwnM w B y ⟨m0, t.d.r, t.d.i, t.d.o⟩
 er : y.r = ⟨some ⟨gr, 0, none⟩, 8, rc⟩
 r8 : t.d.r.length = 8
 fl : y.fl = t.fl st
 lo : B ≤ g
 ne : ∀ b, y.at b → b ≠ g
section
variable {w w' : World} {g B gr rc : Nat} {y : Mv} {t : Ms} {st : Int} {m0 : List Int}
theorem Pz.later (h : Pz w g B gr rc y t st m0) (hb : Below w.heap.size w w') : Pz w' g B gr rc y t st m0 := ⟨row_lat h.row hb, h.len, h.own.later hb, h.er, h.r8, h.fl, h.lo, h.ne⟩
theorem Pz.atr (h : Pz w g B gr rc y t st m0) : y.at gr := .inr (.inl (by rw [h.er]; rfl))
theorem Pz.gl (h : Pz w g B gr rc y t st m0) : g < w.heap.size := row_lt h.row
theorem Pz.yl (h : Pz w g B gr rc y t st m0) {b : Nat} (hb : y.at b) : b < w.heap.size := (h.own.lo hb).2
theorem Pz.pg (h : Pz w g B gr rc y t st t.d.m) : Pg w g B gr rc y t.d := ⟨h.row, h.len, h.own, by rw [h.r8]; exact h.er, h.ne _ h.atr⟩
theorem Pz.ofPg {d2 : Md} (h : Pz w g B gr rc y t st t.d.m) (p : Pg w' g B gr rc y d2) : Pz w' g B gr rc y { t with d := d2 } st d2.m :=
 ⟨p.row, p.len, p.own, h.er, by have := p.er; rw [h.er] at this; injection this with _ e _; exact e.symm, h.fl, h.lo, h.ne⟩
theorem Pz.setF (h : Pz w g B gr rc y t st m0) (j : Nat) (v : Value) (y' : Mv) (t' : Ms) (st' : Int) (he : y.cs.setIfInBounds j v = y'.cs) (em : y'.m = y.m) (er : y'.r = y.r) (ei : y'.i = y.i) (eo : y'.o = y.o) (hd : t'.d = t.d) (hf : y'.fl = t'.fl st') :
  Pz (w.setCell ⟨g, 256 + j, none⟩ v) g B gr rc y' t' st' m0 ∧ Fm w (w.setCell ⟨g, 256 + j, none⟩ v) g y y' := by
 have hat : ∀ b, y'.at b → y.at b := fun b hb => by unfold Mv.at at hb ⊢; rw [em, er, ei, eo] at hb; exact hb
 refine ⟨⟨?_, by rw [hd]; exact h.len, ?_, by rw [er]; exact h.er, by rw [hd]; exact h.r8, hf, h.lo, fun b hb => h.ne b (hat b hb)⟩, Fm.grown (grownBy_set (b := g) (o := 256 + j) v) (.inl rfl) hat⟩
 ·
  rw [setCell_eq_setRow w g _ _ 69 (0, 0) _ h.row, bigA_setF y y' j v h.len he, hd]
  exact setRow_heap w g _ _ 69 _ h.row
 ·
  have o2 := h.own.keepH (w' := w.setCell ⟨g, 256 + j, none⟩ v) fun b hb _ => Below.heap_setCell w ⟨g, 256 + j, none⟩ v b (h.ne b hb)
  rw [hd]
  obtain ⟨o1, o3, o4, o5, a1, a2, a3, a4, a5, a6⟩ := o2
  exact ⟨by rw [em]; exact o1, by rw [er]; exact o3, by rw [ei]; exact o4, by rw [eo]; exact o5, by rw [em, er]; exact a1, by rw [em, ei]; exact a2, by rw [em, eo]; exact a3, by rw [er, ei]; exact a4, by rw [er, eo]; exact a5, by rw [ei, eo]; exact a6⟩
theorem Pz.setV (h : Pz w g B gr rc y t st m0) (b : Bool) : Pz (w.setCell ⟨g, 260, none⟩ (.bool b)) g B gr rc { y with v := b } { t with v := b } st m0 ∧ Fm w (w.setCell ⟨g, 260, none⟩ (.bool b)) g y { y with v := b } :=
 h.setF 4 (.bool b) { y with v := b } { t with v := b } st rfl rfl rfl rfl rfl rfl (by have := h.fl; unfold Mv.fl Ms.fl at *; simp at *; exact ⟨this.1, this.2.1, this.2.2.2⟩)
theorem Pz.setC (h : Pz w g B gr rc y t st m0) (b : Bool) : Pz (w.setCell ⟨g, 261, none⟩ (.bool b)) g B gr rc { y with c := b } { t with c := b } st m0 ∧ Fm w (w.setCell ⟨g, 261, none⟩ (.bool b)) g y { y with c := b } :=
 h.setF 5 (.bool b) { y with c := b } { t with c := b } st rfl rfl rfl rfl rfl rfl (by have := h.fl; unfold Mv.fl Ms.fl at *; simp at *; exact ⟨this.1, this.2.1, this.2.2.1, this.2.2.2.2⟩)
theorem Pz.setN (h : Pz w g B gr rc y t st m0) (b : Bool) : Pz (w.setCell ⟨g, 258, none⟩ (.bool b)) g B gr rc { y with n := b } { t with n := b } st m0 ∧ Fm w (w.setCell ⟨g, 258, none⟩ (.bool b)) g y { y with n := b } :=
 h.setF 2 (.bool b) { y with n := b } { t with n := b } st rfl rfl rfl rfl rfl rfl (by have := h.fl; unfold Mv.fl Ms.fl at *; simp at *; exact ⟨this.2.1, this.2.2⟩)
theorem Pz.setZ (h : Pz w g B gr rc y t st m0) (b : Bool) : Pz (w.setCell ⟨g, 259, none⟩ (.bool b)) g B gr rc { y with z := b } { t with z := b } st m0 ∧ Fm w (w.setCell ⟨g, 259, none⟩ (.bool b)) g y { y with z := b } :=
 h.setF 3 (.bool b) { y with z := b } { t with z := b } st rfl rfl rfl rfl rfl rfl (by have := h.fl; unfold Mv.fl Ms.fl at *; simp at *; exact ⟨this.1, this.2.2⟩)
theorem Pz.setS (h : Pz w g B gr rc y t st m0) (s : Int) : Pz (w.setCell ⟨g, 264, none⟩ (.int .i64 s)) g B gr rc { y with st := s } t s m0 ∧ Fm w (w.setCell ⟨g, 264, none⟩ (.int .i64 s)) g y { y with st := s } :=
 h.setF 8 (.int .i64 s) { y with st := s } t s rfl rfl rfl rfl rfl rfl (by have := h.fl; unfold Mv.fl Ms.fl at *; simp at *; exact ⟨this.1, this.2.1, this.2.2.1, this.2.2.2.1⟩)
theorem Pz.cell (h : Pz w g B gr rc y t st m0) (k : Nat) (v : Value) (hv : y.cs[k]? = some v) : w.cell? ⟨g, 256 + k, none⟩ = some v := big_cell h.row h.len k v hv
theorem Pz.fz (h : Pz w g B gr rc y t st m0) (j : Nat) : w.frozen? ⟨g, j, none⟩ = false := by simp [World.frozen?, h.row]
theorem Pz.cr (h : Pz w g B gr rc y t st m0) : w.cell? ⟨g, 257, none⟩ = some (.slice (some ⟨gr, 0, none⟩) 8 rc) := by
 have c := h.cell 1 (.slice y.r.a y.r.n y.r.c) rfl
 rw [h.er] at c
 exact c
theorem Pz.setR (h : Pz w g B gr rc y t st m0) (k : Nat) (v : Int) (hk : k < 8) : Pz (w.setCell ⟨gr, k, none⟩ (.int .i64 v)) g B gr rc y (t.rg k v) st m0 ∧ Fm w (w.setCell ⟨gr, k, none⟩ (.int .i64 v)) g y y ∧ w.cell? ⟨gr, k, none⟩ = some (.int .i64 (nAt t.d.r k)) ∧ w.frozen? ⟨gr, k, none⟩ = false := by
 obtain ⟨o3, g3, _, _, c1, c2⟩ := own_setR h.own (show y.r = ⟨some ⟨gr, 0, none⟩, (Md.mk m0 t.d.r t.d.i t.d.o).r.length, rc⟩ by rw [h.r8]; exact h.er) k v (by rw [h.r8]; exact hk)
 exact ⟨⟨row_past h.row g3 (h.ne _ h.atr), h.len, o3, h.er, by rw [Ms.rg_len]; exact h.r8, h.fl, h.lo, h.ne⟩, Fm.grown g3 (.inr h.atr) (fun k hk => hk), c1, c2⟩
theorem Pz.setM (h : Pz w g B gr rc y t st m0) (k : Nat) (v : Int) (hk : k < 256) : Pz (w.setCell ⟨g, k, none⟩ (.int .i64 v)) g B gr rc y { t with d := ⟨t.d.m.set k v, t.d.r, t.d.i, t.d.o⟩ } st m0 ∧ Fm w (w.setCell ⟨g, k, none⟩ (.int .i64 v)) g y y ∧ w.cell? ⟨g, k, none⟩ = some (.int .i64 (nAt t.d.m k)) ∧ w.frozen? ⟨g, k, none⟩ = false := by
 refine ⟨⟨?_, by simp [h.len], h.own.keepH (w' := w.setCell ⟨g, k, none⟩ (.int .i64 v)) fun b hb _ => Below.heap_setCell w ⟨g, k, none⟩ _ b (h.ne b hb), h.er, h.r8, h.fl, h.lo, h.ne⟩, Fm.grown (grownBy_set (b := g) (o := k) _) (.inl rfl) (fun k hk => hk), ?_, h.fz k⟩
 ·
  rw [setCell_eq_setRow w g _ _ 69 (0, 0) _ h.row, bigA_setW y k v h.len hk]
  exact setRow_heap w g _ _ 69 _ h.row
 · exact (cell_of_row w g k _ 69 _ h.row).trans (bigA_mem y h.len hk)
end
theorem Fm.grownR {w w' : World} {g gr : Nat} {y : Mv} (hg : w.grownBy w' (some gr)) (ha : y.at gr) : Fm w w' g y y := Fm.grown hg (.inr ha) (fun k hk => hk)
end
def sgI (n : Int) : Bool := decide (32768 ≤ n)
theorem hasSign_any (n : Int) (w : World) : Calls Tryz.prog 104 #[.int .i64 n] w fun e w' => e = .returned (.bool (sgI n)) ∧ w' = w := by
 unfold sgI
 go_enter Tryz.func104, Tryz.ntmps104
 go_wp2
 go_ret
 exact ⟨by simp, rfl⟩
def wkR (op : Nat) (s d : Int) : Int := match op with
 | 1 => s
 | 2 => (s - d) % 65536
 | 3 => bits .andNot .i64 d s
 | 4 => bits .or .i64 d s
 | 5 => (s + d) % 65536
 | 6 => (d - s) % 65536
 | 7 => 0
 | 8 => (d + 1) % 65536
 | 9 => (d - 1) % 65536
 | 10 => (-d) % 65536
 | 11 => d
 | 12 => (sgV d / 2) % 65536
 | _ => (2 * d) % 65536
def wkV (op : Nat) (s d : Int) : Bool := match op with
 | 2 => (sgI s != sgI d) && (sgI ((s - d) % 65536) == sgI d)
 | 5 => (sgI s == sgI d) && (sgI ((s + d) % 65536) != sgI s)
 | 6 => (sgI d != sgI s) && (sgI ((d - s) % 65536) == sgI s)
 | 8 => d == 32767
 | 9 => d == 32768
 | 10 => (-d) % 65536 == 32768
 | 12 => sgI ((sgV d / 2) % 65536) != (bits .and .i64 d 1 == 1)
 | 13 => sgI ((2 * d) % 65536) != sgI d
 | _ => false
def wkC (op : Nat) (s d : Int) (c : Bool) : Bool := match op with
 | 2 => decide (s < d)
 | 5 => !inB (s + d) 0 65535
 | 6 => decide (d < s)
 | 7 => false
 | 10 => (-d) % 65536 != 0
 | 11 => false
 | 12 => bits .and .i64 d 1 == 1
 | 13 => sgI d
 | _ => c
def Mv.wk (y : Mv) (op : Nat) (s d : Int) : Mv := { y with v := wkV op s d, c := wkC op s d y.c }
def Ms.wk (t : Ms) (op : Nat) (s d : Int) : Ms := { t with v := wkV op s d, c := wkC op s d t.c }
def WkIs (k op : Nat) : Prop := ∀ (g B gr rc : Nat) (y : Mv) (t : Ms) (st : Int) (m0 : List Int) (s d : Int) (w : World), Pz w g B gr rc y t st m0 → 0 ≤ s → s ≤ 65535 → 0 ≤ d → d ≤ 65535 →
 Calls Tryz.prog k #[.pointer (some ⟨g, 0, none⟩), .int .i64 s, .int .i64 d] w fun e w' => e = .returned (.int .i64 (wkR op s d)) ∧ Pz w' g B gr rc (y.wk op s d) (t.wk op s d) st m0 ∧ Fm w w' g y (y.wk op s d)
theorem Pz.flz {w : World} {g B gr rc : Nat} {y : Mv} {t : Ms} {st : Int} {m0 : List Int} (h : Pz w g B gr rc y t st m0) : t.n = y.n ∧ t.z = y.z ∧ t.v = y.v ∧ t.c = y.c ∧ st = y.st := by
 have := h.fl
 unfold Mv.fl Ms.fl at this
 simp at this
 exact ⟨this.1.symm, this.2.1.symm, this.2.2.1.symm, this.2.2.2.1.symm, this.2.2.2.2.symm⟩
theorem Pz.setVC {w : World} {g B gr rc : Nat} {y : Mv} {t : Ms} {st : Int} {m0 : List Int} (h : Pz w g B gr rc y t st m0) (a b : Bool) : Pz ((w.setCell ⟨g, 260, none⟩ (.bool a)).setCell ⟨g, 261, none⟩ (.bool b)) g B gr rc { y with v := a, c := b } { t with v := a, c := b } st m0 ∧ Fm w ((w.setCell ⟨g, 260, none⟩ (.bool a)).setCell ⟨g, 261, none⟩ (.bool b)) g y { y with v := a, c := b } :=
 ⟨((h.setV a).1.setC b).1, (h.setV a).2.trans ((h.setV a).1.setC b).2⟩
theorem wk_1 : WkIs 69 1 := by
 intro g B gr rc y t st m0 s d w h s0 s1 d0 d1
 have c4 := h.cell 4 _ rfl
 have f4 := h.fz 260
 have c5 := h.cell 5 _ rfl
 have f5 := h.fz 261
 have HT := hide h.flz.2.2.2.1
 have H := hide h
 unfold Mv.wk Ms.wk
 simp only [wkV, wkC, wkR]
 have H2 := hide (((uh H).setV false))
 clear h
 go_enter Tryz.func69, Tryz.ntmps69
 go_wp2
 go_ret
 rw [uh HT]
 have := uh HT
 exact ⟨rfl, by have q := (uh H2).1; rw [show ({ t with v := false } : Ms) = { t with v := false, c := y.c } by rw [← this]] at q; exact q, (uh H2).2⟩
theorem wk_3 : WkIs 72 3 := by
 intro g B gr rc y t st m0 s d w h s0 s1 d0 d1
 have c4 := h.cell 4 _ rfl
 have f4 := h.fz 260
 have c5 := h.cell 5 _ rfl
 have f5 := h.fz 261
 have HT := hide h.flz.2.2.2.1
 have H := hide h
 unfold Mv.wk Ms.wk
 simp only [wkV, wkC, wkR]
 have hq : bits .andNot .i64 d s = bits .andNot .i64 d s := rfl
 clear hq
 have H2 := hide (((uh H).setV false))
 clear h
 go_enter Tryz.func72, Tryz.ntmps72
 go_wp2
 go_ret
 rw [uh HT]
 have := uh HT
 exact ⟨rfl, by have q := (uh H2).1; rw [show ({ t with v := false } : Ms) = { t with v := false, c := y.c } by rw [← this]] at q; exact q, (uh H2).2⟩
theorem wk_4 : WkIs 73 4 := by
 intro g B gr rc y t st m0 s d w h s0 s1 d0 d1
 have c4 := h.cell 4 _ rfl
 have f4 := h.fz 260
 have c5 := h.cell 5 _ rfl
 have f5 := h.fz 261
 have HT := hide h.flz.2.2.2.1
 have H := hide h
 unfold Mv.wk Ms.wk
 simp only [wkV, wkC, wkR]
 have hq : bits .or .i64 d s = bits .or .i64 d s := rfl
 clear hq
 have H2 := hide (((uh H).setV false))
 clear h
 go_enter Tryz.func73, Tryz.ntmps73
 go_wp2
 go_ret
 rw [uh HT]
 have := uh HT
 exact ⟨rfl, by have q := (uh H2).1; rw [show ({ t with v := false } : Ms) = { t with v := false, c := y.c } by rw [← this]] at q; exact q, (uh H2).2⟩
theorem wk_8 : WkIs 77 8 := by
 intro g B gr rc y t st m0 s d w h s0 s1 d0 d1
 have c4 := h.cell 4 _ rfl
 have f4 := h.fz 260
 have c5 := h.cell 5 _ rfl
 have f5 := h.fz 261
 have HT := hide h.flz.2.2.2.1
 have H := hide h
 unfold Mv.wk Ms.wk
 simp only [wkV, wkC, wkR]
 have hw : IntKind.i64.wrap (d + 1) = d + 1 := by rw [IntKind.wrap_i64]; omega
 have WR := hide (fun v => wrapI_any (d + 1) v)
 generalize (d + 1) % 65536 = r at WR ⊢
 have H2 := hide (((uh H).setV (d == 32767)))
 clear h
 go_enter Tryz.func77, Tryz.ntmps77
 go_wp2_with fail
 refine (uh WR _).mono ?_
 rintro e w9 ⟨rfl, hw9⟩
 rw [hw9]
 clear hw9 w9
 go_wp2
 go_ret
 have := uh HT
 exact ⟨rfl, by have q := (uh H2).1; rw [show ({ t with v := (d == 32767) } : Ms) = { t with v := (d == 32767), c := t.c } from rfl] at q; exact q, (uh H2).2⟩
theorem wk_9 : WkIs 78 9 := by
 intro g B gr rc y t st m0 s d w h s0 s1 d0 d1
 have c4 := h.cell 4 _ rfl
 have f4 := h.fz 260
 have c5 := h.cell 5 _ rfl
 have f5 := h.fz 261
 have HT := hide h.flz.2.2.2.1
 have H := hide h
 unfold Mv.wk Ms.wk
 simp only [wkV, wkC, wkR]
 have hw : IntKind.i64.wrap (d - 1) = d - 1 := by rw [IntKind.wrap_i64]; omega
 have WR := hide (fun v => wrapI_any (d - 1) v)
 generalize (d - 1) % 65536 = r at WR ⊢
 have H2 := hide (((uh H).setV (d == 32768)))
 clear h
 go_enter Tryz.func78, Tryz.ntmps78
 go_wp2_with fail
 refine (uh WR _).mono ?_
 rintro e w9 ⟨rfl, hw9⟩
 rw [hw9]
 clear hw9 w9
 go_wp2
 go_ret
 have := uh HT
 exact ⟨rfl, by have q := (uh H2).1; rw [show ({ t with v := (d == 32768) } : Ms) = { t with v := (d == 32768), c := t.c } from rfl] at q; exact q, (uh H2).2⟩
theorem wk_7 : WkIs 76 7 := by
 intro g B gr rc y t st m0 s d w h s0 s1 d0 d1
 have c4 := h.cell 4 _ rfl
 have f4 := h.fz 260
 have c5 := h.cell 5 _ rfl
 have f5 := h.fz 261
 have HT := hide h.flz.2.2.2.1
 have H := hide h
 unfold Mv.wk Ms.wk
 simp only [wkV, wkC, wkR]
 have H2 := hide ((uh H).setVC false false)
 clear h
 go_enter Tryz.func76, Tryz.ntmps76
 go_wp2
 go_ret
 exact ⟨rfl, (uh H2).1, (uh H2).2⟩
theorem wk_11 : WkIs 80 11 := by
 intro g B gr rc y t st m0 s d w h s0 s1 d0 d1
 have c4 := h.cell 4 _ rfl
 have f4 := h.fz 260
 have c5 := h.cell 5 _ rfl
 have f5 := h.fz 261
 have HT := hide h.flz.2.2.2.1
 have H := hide h
 unfold Mv.wk Ms.wk
 simp only [wkV, wkC, wkR]
 have H2 := hide ((uh H).setVC false false)
 clear h
 go_enter Tryz.func80, Tryz.ntmps80
 go_wp2
 go_ret
 exact ⟨rfl, (uh H2).1, (uh H2).2⟩
end Go.Proofs.YtboedaofbchdkaaGreatDoor
