/- Contracts over this seat's translation, laid together; conditions stand as hypotheses of each. -/
import Derived.Test.YtboedaofbchdkaaGreatDoorRsN
namespace Go.Proofs.YtboedaofbchdkaaGreatDoor
open Go.ChangeShapes Go.WideShapes Go.ChangeAt Go.RowKit
set_option maxHeartbeats 16000000
set_option linter.unusedVariables false
set_option maxRecDepth 8000
set_option linter.unusedSimpArgs false
def GoesIs (k : Nat) (q : Ms → Bool) : Prop := ∀ (g B gr rc : Nat) (y : Mv) (t : Ms) (st : Int) (m0 : List Int) (w : World), Pz w g B gr rc y t st m0 → Calls Tryz.prog k #[.pointer (some ⟨g, 0, none⟩)] w fun e w' => e = .returned (.bool (q t)) ∧ Below w.heap.size w w' 
theorem goes_always : GoesIs 87 (fun _ => true) := by
 intro g B gr rc y t st m0 w h
 clear h
 go_enter Tryz.func87, Tryz.ntmps87
 go_wp2
 go_ret
 exact ⟨rfl, Below.refl _ _⟩
theorem goes_notZero : GoesIs 88 (fun t => !t.z) := by
 intro g B gr rc y t st m0 w h
 obtain ⟨tn, tz, tv, -, -⟩ := h.flz
 simp only [tz]
 have c3 : w.cell? ⟨g, 259, none⟩ = some (.bool y.z) := h.cell 3 _ rfl
 generalize y.z = b3 at c3 ⊢
 clear h
 go_enter Tryz.func88, Tryz.ntmps88
 go_wp2
 go_ret
 exact ⟨rfl, Below.refl _ _⟩
theorem goes_zero : GoesIs 89 (fun t => t.z) := by
 intro g B gr rc y t st m0 w h
 obtain ⟨tn, tz, tv, -, -⟩ := h.flz
 simp only [tz]
 have c3 : w.cell? ⟨g, 259, none⟩ = some (.bool y.z) := h.cell 3 _ rfl
 generalize y.z = b3 at c3 ⊢
 clear h
 go_enter Tryz.func89, Tryz.ntmps89
 go_wp2
 go_ret
 exact ⟨rfl, Below.refl _ _⟩
theorem goes_notLess : GoesIs 90 (fun t => t.n == t.v) := by
 intro g B gr rc y t st m0 w h
 obtain ⟨tn, tz, tv, -, -⟩ := h.flz
 simp only [tn, tv]
 have c2 : w.cell? ⟨g, 258, none⟩ = some (.bool y.n) := h.cell 2 _ rfl
 have c4 : w.cell? ⟨g, 260, none⟩ = some (.bool y.v) := h.cell 4 _ rfl
 generalize y.n = b2 at c2 ⊢
 generalize y.v = b4 at c4 ⊢
 clear h
 go_enter Tryz.func90, Tryz.ntmps90
 go_wp2_with fail
 go_region_held (fun v => v.cell? ⟨g, 258, none⟩ = some (.bool b2) ∧ v.cell? ⟨g, 260, none⟩ = some (.bool b4)) (go_keep) (fail)
 go_wp2
 go_ret
 exact ⟨by cases b2 <;> cases b4 <;> rfl, below_drew⟩
theorem goes_less : GoesIs 91 (fun t => t.n != t.v) := by
 intro g B gr rc y t st m0 w h
 obtain ⟨tn, tz, tv, -, -⟩ := h.flz
 simp only [tn, tv]
 have c2 : w.cell? ⟨g, 258, none⟩ = some (.bool y.n) := h.cell 2 _ rfl
 have c4 : w.cell? ⟨g, 260, none⟩ = some (.bool y.v) := h.cell 4 _ rfl
 generalize y.n = b2 at c2 ⊢
 generalize y.v = b4 at c4 ⊢
 clear h
 go_enter Tryz.func91, Tryz.ntmps91
 go_wp2_with fail
 go_region_held (fun v => v.cell? ⟨g, 258, none⟩ = some (.bool b2) ∧ v.cell? ⟨g, 260, none⟩ = some (.bool b4)) (go_keep) (fail)
 go_wp2
 go_ret
 exact ⟨by cases b2 <;> cases b4 <;> rfl, below_drew⟩
theorem br_goes (f fb g B gr rc op sm sr dm dr : Nat) (sx dx n : Int) (y : Mv) (t : Ms) (st : Int) (m0 : List Int) (w : World) (q : Ms → Bool) (G : GoesIs f q) (hcf : ∀ vs w, (callFunc f vs).run Tryz.prog w = .ok (.enter f vs) w) (h : Pz w g B gr rc y t st m0) (hk : Dk t.d) (hn : -1000 ≤ n ∧ n ≤ 1000) (hb : Bx w fb f 97) :
  Calls Tryz.prog 111 #[.pointer (some ⟨g, 0, none⟩), .agg #[.int .i64 (op : Int), .int .i64 (sm : Int), .int .i64 (sr : Int), .int .i64 sx, .int .i64 (dm : Int), .int .i64 (dr : Int), .int .i64 dx, .int .i64 n], .pointer (some ⟨fb, 0, none⟩)] w fun e w' => e = .returned (.bool true) ∧ Pz w' g B gr rc y (if q t = true then t.rg 7 ((nAt t.d.r 7 + 2 * n) % 65536) else t) st m0 ∧ Fm w w' g y y := by
 have GL := hide h.gl
 have YL := hide (fun b (hb : y.at b) => h.yl hb)
 have H1 := hide (h.later (below_new w (Obj.cells #[.int .i64 (op : Int), .int .i64 (sm : Int), .int .i64 (sr : Int), .int .i64 sx, .int .i64 (dm : Int), .int .i64 (dr : Int), .int .i64 dx, .int .i64 n] 48)))
 have F1 := hide (Fm.of (g := g) (y := y) (below_new w (Obj.cells #[.int .i64 (op : Int), .int .i64 (sm : Int), .int .i64 (sr : Int), .int .i64 sx, .int .i64 (dm : Int), .int .i64 (dr : Int), .int .i64 dx, .int .i64 n] 48)))
 have R1 := hide (heap_alloc_last w (Obj.cells #[.int .i64 (op : Int), .int .i64 (sm : Int), .int .i64 (sr : Int), .int .i64 sx, .int .i64 (dm : Int), .int .i64 (dr : Int), .int .i64 dx, .int .i64 n] 48))
 have CF : (w.alloc (Obj.cells #[.int .i64 (op : Int), .int .i64 (sm : Int), .int .i64 (sr : Int), .int .i64 sx, .int .i64 (dm : Int), .int .i64 (dr : Int), .int .i64 dx, .int .i64 n] 48)).cell? ⟨fb, 0, none⟩ = some (.func (.func f) #[] #[]) := (cell_of_row _ fb 0 _ 97 _ (hb.later (below_new w (Obj.cells #[.int .i64 (op : Int), .int .i64 (sm : Int), .int .i64 (sr : Int), .int .i64 sx, .int .i64 (dm : Int), .int .i64 (dr : Int), .int .i64 dx, .int .i64 n] 48)))).trans rfl
 have GO := hide (G g B gr rc y t st m0 _ (uh H1))
 have DK := hide hk
 obtain ⟨n0, n1⟩ := hn
 obtain ⟨v0, v1⟩ := hk.rw _ (nAt_mem (show 7 < t.d.r.length by have := hk.rl; omega))
 generalize q t = go at GO ⊢
 clear h hk hb
 cases go
 ·
  go_enter Tryz.func111, Tryz.ntmps111
  go_wp2_with fail
  refine (uh GO).mono ?_
  rintro e w2 ⟨rfl, b2⟩
  have H2 := hide ((uh H1).later b2)
  have F2 := hide ((uh F1).trans (Fm.of b2))
  clear b2
  go_wp2
  go_ret
  exact ⟨rfl, uh H2, uh F2⟩
 ·
  have WR := hide (fun v => wrapI_any (nAt t.d.r 7 + 2 * n) v)
  have SR := hide (fun v (p : Pz v g B gr rc y t st m0) => p.setR 7 ((nAt t.d.r 7 + 2 * n) % 65536) (by omega))
  simp only [if_true]
  generalize (nAt t.d.r 7 + 2 * n) % 65536 = x at WR SR ⊢
  generalize t.rg 7 x = t2 at SR ⊢
  generalize nAt t.d.r 7 = v7 at WR SR v0 v1
  have hw : IntKind.i64.wrap (v7 + 2 * n) = v7 + 2 * n := by rw [IntKind.wrap_i64]; omega
  have hw2 : IntKind.i64.wrap (2 * n) = 2 * n := by rw [IntKind.wrap_i64]; omega
  go_enter Tryz.func111, Tryz.ntmps111
  go_wp2_with fail
  refine (uh GO).mono ?_
  rintro e w2 ⟨rfl, b2⟩
  have H2 := hide ((uh H1).later b2)
  have F2 := hide ((uh F1).trans (Fm.of b2))
  have R2 := row_lat (uh R1) b2
  have H3 := hide ((uh H2).later (below_drew (w := w2)))
  have F3 := hide ((uh F2).trans (Fm.of (below_drew (w := w2))))
  have c1 := (uh H3).cr
  have c2 := insR 7 _ (row_lat R2 (below_drew (w := w2))) rfl
  obtain ⟨p4, f4, c3, c4⟩ := uh SR _ (uh H3)
  have H4 := hide p4
  have F4 := hide ((uh F3).trans f4)
  clear b2 R2 p4 f4 CF GO SR H2 F2 H3 F3
  go_wp2_with fail
  refine wp_region_last (fun v => v = w2.drew) 18 (by kernel_rfl) ?_
  generalize w2.drew = wd at H4 F4 c1 c2 c3 c4 ⊢
  refine twB 0 (.pointer (some ⟨g, 0, none⟩)) rfl (.inl rfl) ?_
  go_simp
  refine twB 1 (.pointer (some ⟨g, 0, none⟩)) rfl (.inl rfl) ?_
  go_simp
  refine twB 2 (.pointer (some ⟨g, 256, none⟩)) rfl (.inl rfl) ?_
  go_simp
  refine twB 3 (.pointer (some ⟨g, 257, none⟩)) rfl (.inl rfl) ?_
  go_simp
  refine tsA 4 (.slice (some ⟨gr, 0, none⟩) 8 rc) rfl (.inl ⟨by rfl, fun w hc => ?_⟩) (rfl) ?_
  · rw [hc]; clear hc; go_simp
  go_simp
  refine twB 5 (.pointer (some ⟨g, 0, none⟩)) rfl (.inl rfl) ?_
  go_simp
  refine twB 6 (.pointer (some ⟨g, 0, none⟩)) rfl (.inl rfl) ?_
  go_simp
  refine twB 7 (.pointer (some ⟨g, 256, none⟩)) rfl (.inl rfl) ?_
  go_simp
  refine twB 8 (.pointer (some ⟨g, 257, none⟩)) rfl (.inl rfl) ?_
  go_simp
  refine tsA 9 (.slice (some ⟨gr, 0, none⟩) 8 rc) rfl (.inl ⟨by rfl, fun w hc => ?_⟩) (rfl) ?_
  · rw [hc]; clear hc; go_simp
  go_simp
  refine twB 10 (.pointer (some ⟨gr, 7, none⟩)) rfl (.inl rfl) ?_
  go_simp
  refine tsA 11 (.int .i64 v7) rfl (.inl ⟨by rfl, fun w hc => ?_⟩) (rfl) ?_
  · rw [hc]; clear hc; go_simp
  go_simp
  refine twB 12 (.pointer (some ⟨w.heap.size, 7, none⟩)) rfl (.inl rfl) ?_
  go_simp
  refine tsA 13 (.int .i64 n) rfl (.inl ⟨by rfl, fun w hc => ?_⟩) (rfl) ?_
  · rw [hc]; clear hc; go_simp
  go_simp
  refine twB 14 (.int .i64 (2 * n)) rfl (.inl rfl) ?_
  go_simp
  refine twB 15 (.int .i64 (v7 + 2 * n)) rfl (.inl rfl) ?_
  go_simp
  refine wpAnyL_one (i := 16) (by kernel_rfl) rfl (fun K2 hK => ?_)
  go_simp
  refine (uh WR _).mono ?_
  rintro e w9 ⟨rfl, hw9⟩
  rw [hw9]
  clear hw9 w9
  refine hK.out _ _ (fun _ => rfl) ?_
  clear hK K2
  refine twB 17 (.pointer (some ⟨gr, 7, none⟩)) rfl (.inl rfl) ?_
  go_simp
  refine wpAnyL_one (i := 18) (by kernel_rfl) rfl (fun K2 hK => ?_)
  go_simp
  refine hK.out _ _ (fun h => absurd h (by decide)) ?_
  clear hK K2
  refine wpAnyL_done (by kernel_rfl) ?_ _
  go_wp2
  go_ret
  exact ⟨rfl, uh H4, uh F4⟩
theorem Ms.rg_same (t : Ms) (k : Nat) (v : Int) (h : k < t.d.r.length) : nAt (t.rg k v).d.r k = v := by
 unfold Ms.rg Md.reg nAt
 simp [List.getElem?_set, h]
theorem dk_stM {t : Ms} (h : Dk t.d) (r p n : Int) : Dk (t.st r p n).d := by
 unfold Ms.st
 exact dk_stS h r p n
theorem put7_st (B g : Nat) (y : Mv) (t : Ms) (st r a n : Int) (w : World) (h : Sm w B g y t st) (hk : Dk t.d) :
  Calls Tryz.prog 51 #[.pointer (some ⟨g, 0, none⟩), .agg #[.int .i64 r, .int .i64 a], .int .i64 n] w fun e w' => e = .returned (.bool (t.d.ldB r a)) ∧ ∃ y', Sm w' B g y' (t.st r a n) st ∧ Fm w w' g y y' := by
 unfold Ms.st
 exact put7_any B g y t st r a n w h hk
def Ms.go1 (t : Ms) : Ms := t.rg 6 ((nAt t.d.r 6 - 2) % 65536)
def Ms.go2 (t : Ms) (k : Nat) : Ms := t.go1.st (-1) ((nAt t.d.r 6 - 2) % 65536) (nAt t.go1.d.r k)
def Ms.go3 (t : Ms) (k : Nat) : Ms := (t.go2 k).rg k (nAt (t.go2 k).d.r 7)
def Ms.call (t : Ms) (k : Nat) (qa : Int) : Ms := (t.go3 k).rg 7 qa
def GoIs (B g : Nat) (y : Mv) (t t2 : Ms) (st qr qa n : Int) (ok : Bool) (w : World) : Prop :=
 Calls Tryz.prog 34 #[.pointer (some ⟨g, 0, none⟩), .agg #[.int .i64 qr, .int .i64 qa], .int .i64 n] w fun e w' => e = .returned (.bool ok) ∧ ∃ y', (ok = true → Sm w' B g y' t2 st) ∧ Fm w w' g y y'
theorem go_no (B g : Nat) (y : Mv) (t t2 : Ms) (st qr qa n : Int) (w : World) (h : Sm w B g y t st) (hq : qr ≠ -1) : GoIs B g y t t2 st qr qa n false w := by
 have b0 := row2S_0 (heap_alloc_last w (Obj.cells #[.int .i64 qr, .int .i64 qa] 57))
 have F0 := hide (Fm.of (g := g) (y := y) (below_new w (Obj.cells #[.int .i64 qr, .int .i64 qa] 57)))
 unfold GoIs
 clear h
 go_enter Tryz.func34, Tryz.ntmps34
 go_wp2
 go_ret
 exact ⟨rfl, y, fun h => Bool.noConfusion h, uh F0⟩
theorem go_j (B g : Nat) (y : Mv) (t : Ms) (st qa : Int) (w : World) (h : Sm w B g y t st) (hk : Dk t.d) : GoIs B g y t (t.rg 7 qa) st (-1) qa (-1) true w := by
 have GL := hide (show g < w.heap.size from row_lt h.row)
 have YQ := hide (show ¬ y.at w.heap.size from fun e => by have := (h.own.lo e).2; omega)
 have H0 := hide (h.later (below_new w (Obj.cells #[.int .i64 (-1), .int .i64 qa] 57)))
 have F0 := hide (Fm.of (g := g) (y := y) (below_new w (Obj.cells #[.int .i64 (-1), .int .i64 qa] 57)))
 have R0 := hide (heap_alloc_last w (Obj.cells #[.int .i64 (-1), .int .i64 qa] 57))
 have b0 := row2S_0 (heap_alloc_last w (Obj.cells #[.int .i64 (-1), .int .i64 qa] 57))
 have H8 := hide hk.rl
 obtain ⟨gr, rc, er⟩ := h.regs hk.rl
 have ER := hide er
 unfold GoIs
 clear h hk er
 go_enter Tryz.func34, Tryz.ntmps34
 have HE := hide ((uh H0).later (below_drew (w := (w.alloc (Obj.cells #[.int .i64 (-1), .int .i64 qa] 57)))))
 have FE := hide ((uh F0).trans (Fm.of (below_drew (w := (w.alloc (Obj.cells #[.int .i64 (-1), .int .i64 qa] 57))))))
 have RE := hide (row_lat (uh R0) (below_drew (w := (w.alloc (Obj.cells #[.int .i64 (-1), .int .i64 qa] 57)))))
 have c1 := (uh HE).rcell (uh ER)
 have c2 := row2S_1 (uh RE)
 obtain ⟨h9, f9, c3, c4⟩ := (uh HE).setR (uh ER) 7 qa (by have := uh H8; omega)
 have H9 := hide h9
 have F9 := hide ((uh FE).trans f9)
 clear h9 f9
 go_wp2_with fail
 refine wp_region_last (fun v => v = (w.alloc (Obj.cells #[.int .i64 (-1), .int .i64 qa] 57)).drew) 7 (by kernel_rfl) ?_
 generalize (w.alloc (Obj.cells #[.int .i64 (-1), .int .i64 qa] 57)).drew = we at HE FE RE H9 F9 c1 c2 c3 c4 ⊢
 refine tvB 0 (.pointer (some ⟨g, 0, none⟩)) rfl (.inl rfl) ?_
 go_simp
 refine tvB 1 (.pointer (some ⟨g, 0, none⟩)) rfl (.inl rfl) ?_
 go_simp
 refine tvB 2 (.pointer (some ⟨g, 1, none⟩)) rfl (.inl rfl) ?_
 go_simp
 refine ttA 3 (.slice (some ⟨gr, 0, none⟩) 8 rc) rfl (.inl ⟨by rfl, fun w hc => ?_⟩) (rfl) ?_
 · rw [hc]; clear hc; go_simp
 go_simp
 refine tvB 4 (.pointer (some ⟨w.heap.size, 1, none⟩)) rfl (.inl rfl) ?_
 go_simp
 refine ttA 5 (.int .i64 qa) rfl (.inl ⟨by rfl, fun w hc => ?_⟩) (rfl) ?_
 · rw [hc]; clear hc; go_simp
 go_simp
 refine tvB 6 (.pointer (some ⟨gr, 7, none⟩)) rfl (.inl rfl) ?_
 go_simp
 refine wpAnyL_one (i := 7) (by kernel_rfl) rfl (fun K2 hK => ?_)
 go_simp
 refine hK.out _ _ (fun h => absurd h (by decide)) ?_
 clear hK K2
 refine wpAnyL_done (by kernel_rfl) ?_ _
 generalize we.setCell ⟨gr, 7, none⟩ (.int .i64 qa) = w9 at H9 F9 ⊢
 go_wp2
 go_ret
 exact ⟨rfl, _, fun _ => uh H9, uh F9⟩
theorem go_any (B g k : Nat) (y : Mv) (t : Ms) (st qa : Int) (w : World) (h : Sm w B g y t st) (hk : Dk t.d) (hr : k < 8) : GoIs B g y t (t.call k qa) st (-1) qa k (t.go1.d.ldB (-1) ((nAt t.d.r 6 - 2) % 65536)) w := by
 have GL := hide (show g < w.heap.size from row_lt h.row)
 have YQ := hide (show ¬ y.at w.heap.size from fun e => by have := (h.own.lo e).2; omega)
 have H0 := hide (h.later (below_new w (Obj.cells #[.int .i64 (-1), .int .i64 qa] 57)))
 have F0 := hide (Fm.of (g := g) (y := y) (below_new w (Obj.cells #[.int .i64 (-1), .int .i64 qa] 57)))
 have R0 := hide (heap_alloc_last w (Obj.cells #[.int .i64 (-1), .int .i64 qa] 57))
 have b0 := row2S_0 (heap_alloc_last w (Obj.cells #[.int .i64 (-1), .int .i64 qa] 57))
 have H8 := hide hk.rl
 obtain ⟨gr, rc, er⟩ := h.regs hk.rl
 have ER := hide er
 have kr : (k : Int) < 8 := by omega
 have kn : ¬ (8 : Int) ≤ (k : Int) := by omega
 have k0 : (0 : Int) ≤ (k : Int) := by omega
 obtain ⟨s0, s1⟩ := hk.rw _ (nAt_mem (show 6 < t.d.r.length by have := hk.rl; omega))
 have D1 := hide (show Dk t.go1.d from hk.rgk 6 ((nAt t.d.r 6 - 2) % 65536) (by omega) (by omega))
 have E6 := hide (show nAt t.go1.d.r 6 = (nAt t.d.r 6 - 2) % 65536 from t.rg_same 6 ((nAt t.d.r 6 - 2) % 65536) (by have := hk.rl; omega))
 have WR := hide (fun v => wrapS_any (nAt t.d.r 6 - 2) v)
 have HW := hide (show IntKind.i64.wrap (nAt t.d.r 6 - 2) = nAt t.d.r 6 - 2 by rw [IntKind.wrap_i64]; omega)
 have SR := hide (show ∀ v, Sm v B g y t st → v.cell? ⟨g, 1, none⟩ = some (.slice (some ⟨gr, 0, none⟩) 8 rc) ∧ Sm (v.setCell ⟨gr, 6, none⟩ (.int .i64 ((nAt t.d.r 6 - 2) % 65536))) B g y t.go1 st ∧ Fm v (v.setCell ⟨gr, 6, none⟩ (.int .i64 ((nAt t.d.r 6 - 2) % 65536))) g y y ∧ v.cell? ⟨gr, 6, none⟩ = some (.int .i64 (nAt t.d.r 6)) ∧ v.frozen? ⟨gr, 6, none⟩ = false from fun v p => And.intro (p.rcell er) (p.setR er 6 ((nAt t.d.r 6 - 2) % 65536) (by have := hk.rl; omega)))
 have D2 := hide (show Dk (t.go2 k).d from dk_stM (uh D1) _ _ _)
 have PT := hide (fun v (p : Sm v B g y t.go1 st) => put7_st B g y t.go1 st (-1) ((nAt t.d.r 6 - 2) % 65536) (nAt t.go1.d.r k) v p (uh D1))
 rw [← show t.go2 k = t.go1.st (-1) ((nAt t.d.r 6 - 2) % 65536) (nAt t.go1.d.r k) from rfl] at PT
 have AR := hide (fun v (p : Sm v B g y t.go1 st) => And.intro (p.rcell er) (And.intro ((p.setR er 6 0 (by have := (uh D1).rl; omega)).2.2.1) ((p.setR er k 0 (by have := (uh D1).rl; omega)).2.2.1)))
 rw [uh E6] at AR
 unfold GoIs Ms.call Ms.go3
 generalize t.go2 k = t2 at PT D2 ⊢
 generalize t.go1.d.ldB (-1) ((nAt t.d.r 6 - 2) % 65536) = lb at PT ⊢
 generalize nAt t.go1.d.r k = vk at PT AR
 generalize t.go1 = t1 at PT AR SR D1 E6
 generalize (nAt t.d.r 6 - 2) % 65536 = a6 at PT AR SR WR
 generalize nAt t.d.r 6 = v6 at SR WR HW
 have L2 := hide (uh D2).rl
 clear h hk er s0 s1 D1 D2 E6
 have HD := hide ((uh H0).later (below_drew (w := (w.alloc (Obj.cells #[.int .i64 (-1), .int .i64 qa] 57)))))
 have FD := hide ((uh F0).trans (Fm.of (below_drew (w := (w.alloc (Obj.cells #[.int .i64 (-1), .int .i64 qa] 57))))))
 have RD := hide (row_lat (uh R0) (below_drew (w := (w.alloc (Obj.cells #[.int .i64 (-1), .int .i64 qa] 57)))))
 obtain ⟨c1, h1, f1, c3, c4⟩ := uh SR _ (uh HD)
 have H1 := hide h1
 have F1 := hide ((uh FD).trans f1)
 have R1 := hide (f1.row (uh RD) (by have := uh GL; omega) (uh YQ))
 clear h1 f1 SR
 go_enter Tryz.func34, Tryz.ntmps34
 go_wp2_with fail
 refine wp_region_last (fun v => v = (w.alloc (Obj.cells #[.int .i64 (-1), .int .i64 qa] 57)).drew) 13 (by kernel_rfl) ?_
 generalize (w.alloc (Obj.cells #[.int .i64 (-1), .int .i64 qa] 57)).drew = wd at HD FD RD H1 F1 R1 c1 c3 c4 ⊢
 refine tvB 0 (.pointer (some ⟨g, 0, none⟩)) rfl (.inl rfl) ?_
 go_simp
 refine tvB 1 (.pointer (some ⟨g, 0, none⟩)) rfl (.inl rfl) ?_
 go_simp
 refine tvB 2 (.pointer (some ⟨g, 1, none⟩)) rfl (.inl rfl) ?_
 go_simp
 refine ttA 3 (.slice (some ⟨gr, 0, none⟩) 8 rc) rfl (.inl ⟨by rfl, fun w hc => ?_⟩) (rfl) ?_
 · rw [hc]; clear hc; go_simp
 go_simp
 refine tvB 4 (.pointer (some ⟨g, 0, none⟩)) rfl (.inl rfl) ?_
 go_simp
 refine tvB 5 (.pointer (some ⟨g, 0, none⟩)) rfl (.inl rfl) ?_
 go_simp
 refine tvB 6 (.pointer (some ⟨g, 1, none⟩)) rfl (.inl rfl) ?_
 go_simp
 refine ttA 7 (.slice (some ⟨gr, 0, none⟩) 8 rc) rfl (.inl ⟨by rfl, fun w hc => ?_⟩) (rfl) ?_
 · rw [hc]; clear hc; go_simp
 go_simp
 refine tvB 8 (.pointer (some ⟨gr, 6, none⟩)) rfl (.inl rfl) ?_
 go_simp
 refine ttA 9 (.int .i64 v6) rfl (.inl ⟨by rfl, fun w hc => ?_⟩) (rfl) ?_
 · rw [hc]; clear hc; go_simp
 go_simp
 refine tvA 10 (.int .i64 (v6 - 2)) rfl (.inl ⟨by rfl, fun w hc => ?_⟩) (.inl rfl) ?_
 · clear hc; have hw := uh HW; go_simp
 go_simp
 refine wpAnyL_one (i := 11) (by kernel_rfl) rfl (fun K2 hK => ?_)
 go_simp
 refine (uh WR _).mono ?_
 rintro e w9 ⟨rfl, hw9⟩
 rw [hw9]
 clear hw9 w9
 refine hK.out _ _ (fun _ => rfl) ?_
 clear hK K2
 refine tvB 12 (.pointer (some ⟨gr, 6, none⟩)) rfl (.inl rfl) ?_
 go_simp
 refine wpAnyL_one (i := 13) (by kernel_rfl) rfl (fun K2 hK => ?_)
 go_simp
 refine hK.out _ _ (fun h => absurd h (by decide)) ?_
 clear hK K2
 refine wpAnyL_done (by kernel_rfl) ?_ _
 generalize wd.setCell ⟨gr, 6, none⟩ (.int .i64 a6) = w2 at H1 F1 R1 ⊢
 clear HD FD RD c1 c3 c4 WR HW b0
 have H2 := hide ((uh H1).later (below_drew (w := w2)))
 have F2 := hide ((uh F1).trans (Fm.of (below_drew (w := w2))))
 have R2 := hide (row_lat (uh R1) (below_drew (w := w2)))
 obtain ⟨c1, c2, c3⟩ := uh AR _ (uh H2)
 have PC := hide (uh PT _ (uh H2))
 clear H1 F1 R1 AR PT
 go_wp2_with fail
 refine wp_region_last (fun v => v = w2.drew) 15 (by kernel_rfl) ?_
 generalize w2.drew = we at H2 F2 R2 c1 c2 c3 PC ⊢
 refine tvB 0 (.pointer (some ⟨g, 0, none⟩)) rfl (.inl rfl) ?_
 go_simp
 refine tvB 1 (.pointer (some ⟨g, 0, none⟩)) rfl (.inl rfl) ?_
 go_simp
 refine tvB 2 (.pointer (some ⟨g, 0, none⟩)) rfl (.inl rfl) ?_
 go_simp
 refine tvB 3 (.pointer (some ⟨g, 1, none⟩)) rfl (.inl rfl) ?_
 go_simp
 refine ttA 4 (.slice (some ⟨gr, 0, none⟩) 8 rc) rfl (.inl ⟨by rfl, fun w hc => ?_⟩) (rfl) ?_
 · rw [hc]; clear hc; go_simp
 go_simp
 refine tvB 5 (.pointer (some ⟨gr, 6, none⟩)) rfl (.inl rfl) ?_
 go_simp
 refine ttA 6 (.int .i64 a6) rfl (.inl ⟨by rfl, fun w hc => ?_⟩) (rfl) ?_
 · rw [hc]; clear hc; go_simp
 go_simp
 refine tvB 7 (.agg #[.int .i64 (-1), .int .i64 a6]) rfl (.inl rfl) ?_
 go_simp
 refine tvB 8 (.pointer (some ⟨g, 0, none⟩)) rfl (.inl rfl) ?_
 go_simp
 refine tvB 9 (.pointer (some ⟨g, 0, none⟩)) rfl (.inl rfl) ?_
 go_simp
 refine tvB 10 (.pointer (some ⟨g, 1, none⟩)) rfl (.inl rfl) ?_
 go_simp
 refine ttA 11 (.slice (some ⟨gr, 0, none⟩) 8 rc) rfl (.inl ⟨by rfl, fun w hc => ?_⟩) (rfl) ?_
 · rw [hc]; clear hc; go_simp
 go_simp
 refine tvB 12 (.int .i64 (k : Int)) rfl (.inl rfl) ?_
 go_simp
 refine tvB 13 (.pointer (some ⟨gr, k, none⟩)) rfl (.inl rfl) ?_
 go_simp
 refine ttA 14 (.int .i64 vk) rfl (.inl ⟨by rfl, fun w hc => ?_⟩) (rfl) ?_
 · rw [hc]; clear hc; go_simp
 go_simp
 refine wpAnyL_one (i := 15) (by kernel_rfl) rfl (fun K2 hK => ?_)
 go_simp
 refine (uh PC).mono ?_
 rintro e w3 ⟨rfl, y3, h3, f3⟩
 have H3 := hide h3
 have F3 := hide ((uh F2).trans f3)
 have R3 := hide (f3.row (uh R2) (by have := uh GL; omega) (uh YQ))
 have YQ3 := hide (show ¬ y3.at w.heap.size from fun e => (f3.new _ e).elim (uh YQ) (fun l => by have := row_lt (uh R2); omega))
 refine hK.out _ _ (fun h => absurd h (by decide)) ?_
 clear hK K2 h3 f3 PC H2 F2 R2 c1 c2 c3
 refine tvB 16 (.bool (!lb)) rfl (.inr (by decide)) ?_
 go_simp
 refine wpAnyL_done (by kernel_rfl) ?_ _
 cases lb
 ·
  go_wp2
  go_ret
  exact ⟨rfl, y3, fun h => Bool.noConfusion h, uh F3⟩
 obtain ⟨gr2, rc2, er2⟩ := (uh H3).regs (uh L2)
 have ER2 := hide er2
 have H4 := hide ((uh H3).later (below_drew (w := w3)))
 have F4 := hide ((uh F3).trans (Fm.of (below_drew (w := w3))))
 have R4 := hide (row_lat (uh R3) (below_drew (w := w3)))
 have c1 := (uh H4).rcell er2
 have c2 := ((uh H4).setR er2 7 0 (by have := uh L2; omega)).2.2.1
 obtain ⟨h5, f5, c3, c4⟩ := (uh H4).setR er2 k (nAt t2.d.r 7) (by have := uh L2; omega)
 have H5 := hide h5
 have F5 := hide ((uh F4).trans f5)
 have R5 := hide (f5.row (uh R4) (by have := uh GL; omega) (uh YQ3))
 have L5 := hide (show (t2.rg k (nAt t2.d.r 7)).d.r.length = 8 by rw [Ms.rg_len, uh L2])
 obtain ⟨v7, hv7⟩ : ∃ q, nAt t2.d.r 7 = q := ⟨_, rfl⟩
 have V7 := hide hv7
 rw [hv7] at c2 H5 F5 R5 L5
 clear h5 f5 er2 hv7 H3 F3 R3
 go_wp2_with fail
 refine wp_region_last (fun v => v = w3.drew) 12 (by kernel_rfl) ?_
 generalize w3.drew = wf at H4 F4 R4 c1 c2 c3 c4 H5 F5 R5 ⊢
 refine tvB 0 (.pointer (some ⟨g, 0, none⟩)) rfl (.inl rfl) ?_
 go_simp
 refine tvB 1 (.pointer (some ⟨g, 0, none⟩)) rfl (.inl rfl) ?_
 go_simp
 refine tvB 2 (.pointer (some ⟨g, 1, none⟩)) rfl (.inl rfl) ?_
 go_simp
 refine ttA 3 (.slice (some ⟨gr2, 0, none⟩) 8 rc2) rfl (.inl ⟨by rfl, fun w hc => ?_⟩) (rfl) ?_
 · rw [hc]; clear hc; go_simp
 go_simp
 refine tvB 4 (.int .i64 (k : Int)) rfl (.inl rfl) ?_
 go_simp
 refine tvB 5 (.pointer (some ⟨g, 0, none⟩)) rfl (.inl rfl) ?_
 go_simp
 refine tvB 6 (.pointer (some ⟨g, 0, none⟩)) rfl (.inl rfl) ?_
 go_simp
 refine tvB 7 (.pointer (some ⟨g, 1, none⟩)) rfl (.inl rfl) ?_
 go_simp
 refine ttA 8 (.slice (some ⟨gr2, 0, none⟩) 8 rc2) rfl (.inl ⟨by rfl, fun w hc => ?_⟩) (rfl) ?_
 · rw [hc]; clear hc; go_simp
 go_simp
 refine tvB 9 (.pointer (some ⟨gr2, 7, none⟩)) rfl (.inl rfl) ?_
 go_simp
 refine ttA 10 (.int .i64 v7) rfl (.inl ⟨by rfl, fun w hc => ?_⟩) (rfl) ?_
 · rw [hc]; clear hc; go_simp
 go_simp
 refine tvB 11 (.pointer (some ⟨gr2, k, none⟩)) rfl (.inl rfl) ?_
 go_simp
 refine wpAnyL_one (i := 12) (by kernel_rfl) rfl (fun K2 hK => ?_)
 go_simp
 refine hK.out _ _ (fun h => absurd h (by decide)) ?_
 clear hK K2
 refine wpAnyL_done (by kernel_rfl) ?_ _
 generalize wf.setCell ⟨gr2, k, none⟩ (.int .i64 v7) = w5 at H5 F5 R5 ⊢
 clear H4 F4 R4 c1 c2 c3 c4
 have HE := hide ((uh H5).later (below_drew (w := w5)))
 have FE := hide ((uh F5).trans (Fm.of (below_drew (w := w5))))
 have RE := hide (row_lat (uh R5) (below_drew (w := w5)))
 have c1 := (uh HE).rcell (uh ER2)
 have c2 := row2S_1 (uh RE)
 obtain ⟨h9, f9, c3, c4⟩ := (uh HE).setR (uh ER2) 7 qa (by have := uh L5; omega)
 have H9 := hide h9
 have F9 := hide ((uh FE).trans f9)
 clear h9 f9
 go_wp2_with fail
 refine wp_region_last (fun v => v = w5.drew) 7 (by kernel_rfl) ?_
 generalize w5.drew = we at HE FE RE H9 F9 c1 c2 c3 c4 ⊢
 refine tvB 0 (.pointer (some ⟨g, 0, none⟩)) rfl (.inl rfl) ?_
 go_simp
 refine tvB 1 (.pointer (some ⟨g, 0, none⟩)) rfl (.inl rfl) ?_
 go_simp
 refine tvB 2 (.pointer (some ⟨g, 1, none⟩)) rfl (.inl rfl) ?_
 go_simp
 refine ttA 3 (.slice (some ⟨gr2, 0, none⟩) 8 rc2) rfl (.inl ⟨by rfl, fun w hc => ?_⟩) (rfl) ?_
 · rw [hc]; clear hc; go_simp
 go_simp
 refine tvB 4 (.pointer (some ⟨w.heap.size, 1, none⟩)) rfl (.inl rfl) ?_
 go_simp
 refine ttA 5 (.int .i64 qa) rfl (.inl ⟨by rfl, fun w hc => ?_⟩) (rfl) ?_
 · rw [hc]; clear hc; go_simp
 go_simp
 refine tvB 6 (.pointer (some ⟨gr2, 7, none⟩)) rfl (.inl rfl) ?_
 go_simp
 refine wpAnyL_one (i := 7) (by kernel_rfl) rfl (fun K2 hK => ?_)
 go_simp
 refine hK.out _ _ (fun h => absurd h (by decide)) ?_
 clear hK K2
 refine wpAnyL_done (by kernel_rfl) ?_ _
 generalize we.setCell ⟨gr2, 7, none⟩ (.int .i64 qa) = w9 at H9 F9 ⊢
 go_wp2
 go_ret
 first | exact ⟨rfl, _, fun _ => by rw [uh V7]; exact uh H9, uh F9⟩ | exact ⟨rfl, _, by rw [uh V7]; exact uh H9, uh F9⟩
def Ms.wd (t : Ms) (d2 : Md) : Ms := { t with d := d2 }
def tgO (t : Ms) (mo re : Nat) : Bool := t.d.plO mo re && (t.d.plR mo re == -1)
def TgIs (g B gr rc mo re : Nat) (X : Int) (y : Mv) (t : Ms) (d2 : Md) (st : Int) (w : World) : Prop :=
 Calls Tryz.prog 107 #[.pointer (some ⟨g, 0, none⟩), .agg #[.int .i64 (mo : Int), .int .i64 (re : Int), .int .i64 X]] w fun e w' => e = .returned (.tuple #[.int .i64 (t.d.plA mo re), .bool (tgO t mo re)]) ∧ Pz w' g B gr rc y (t.wd d2) st d2.m ∧ Fm w w' g y y
theorem target_any (g B gr rc mo re : Nat) (X : Int) (y : Mv) (t : Ms) (st : Int) (hk : Dk t.d) (h7 : mo ≤ 7) (hr : re < 8) :
  ∀ w, Pz w g B gr rc y t st t.d.m → ∃ d2, (t.d.plO mo re = true → d2 = t.d.plD mo re) ∧ Dk d2 ∧ TgIs g B gr rc mo re X y t d2 st w := by
 intro w h
 have H1 := hide (h.later (below_new w (Obj.cells #[.int .i64 (mo : Int), .int .i64 (re : Int), .int .i64 X] 46)))
 obtain ⟨d2, pq, e2, ec⟩ := po_all g B gr rc mo re X y t.d _ (uh H1).pg hk.r8 hr (h.small h.len hk) (hk.getb _) h7 ((uh H1).yl (uh H1).atr) (uh H1).gl
 refine ⟨d2, e2, ?_, ?_⟩
 ·
  rcases ec with rfl | rfl
  · exact dk_plS hk mo re
  · exact hk.regS _ _
 have F1 := hide (Fm.of (g := g) (y := y) (below_new w (Obj.cells #[.int .i64 (mo : Int), .int .i64 (re : Int), .int .i64 X] 46)))
 have AR := hide h.atr
 have PO := hide pq
 unfold PoIs at PO
 have GO := hide (show ∀ v, Pg v g B gr rc y d2 → Pz v g B gr rc y (t.wd d2) st d2.m from fun v p => h.ofPg p)
 unfold TgIs tgO
 generalize t.d.plR mo re = pr at PO ⊢
 generalize t.d.plA mo re = pa at PO ⊢
 generalize t.d.plO mo re = po at PO ⊢
 clear h hk e2 ec pq
 go_enter Tryz.func107, Tryz.ntmps107
 go_wp2_with fail
 refine (uh PO).mono ?_
 rintro e w2 ⟨rfl, p2, g2⟩
 have H3 := hide ((uh GO _ p2).later (below_new w2 (Obj.cells #[.int .i64 pr, .int .i64 pa] 57)))
 have R3 := (heap_alloc_last w2 (Obj.cells #[.int .i64 pr, .int .i64 pa] 57))
 have k0 := row2S_0 R3
 have k1 := row2S_1 R3
 have F3 := hide (((uh F1).trans (Fm.grownR g2 (uh AR))).trans (Fm.of (below_new w2 (Obj.cells #[.int .i64 pr, .int .i64 pa] 57))))
 clear p2 g2 PO R3
 go_wp2_with (first | (refine wpList_store_new rfl 57 _ _ rfl #[.int .i64 pr, .int .i64 pa] rfl rfl _ (by kernel_rfl) rfl rfl ?_))
 generalize w2.alloc (Obj.cells #[.int .i64 pr, .int .i64 pa] 57) = w3 at H3 F3 k0 k1 ⊢
 cases po
 ·
  go_quiet (fail)
  go_wp2
  go_ret2
  exact ⟨rfl, (uh H3).later (below_drewN (Below.refl _ _) _), (uh F3).trans (Fm.of (below_drewN (Below.refl _ _) _))⟩
 ·
  go_quiet (fail)
  go_wp2
  go_ret2
  exact ⟨by simp, (uh H3).later (below_drewN (Below.refl _ _) _), (uh F3).trans (Fm.of (below_drewN (Below.refl _ _) _))⟩
def JpIs (g B gr rc op sm sr dm dr : Nat) (sx dx n : Int) (y : Mv) (t : Ms) (st : Int) (w : World) : Prop :=
 Calls Tryz.prog 83 #[.pointer (some ⟨g, 0, none⟩), .agg #[.int .i64 (op : Int), .int .i64 (sm : Int), .int .i64 (sr : Int), .int .i64 sx, .int .i64 (dm : Int), .int .i64 (dr : Int), .int .i64 dx, .int .i64 n]] w fun e w' => e = .returned (.bool (tgO t dm dr)) ∧ AcE (tgO t dm dr) (Pz w' g B gr rc y ((t.op dm dr).rg 7 (t.d.plA dm dr)) st (t.op dm dr).d.m) (Fm w w' g y y)
theorem jump_any (g B gr rc op sm sr dm dr : Nat) (sx dx n : Int) (y : Mv) (t : Ms) (st : Int) (w : World) (h : Pz w g B gr rc y t st t.d.m) (hk : Dk t.d) (d7 : dm ≤ 7) (d8 : dr < 8) : JpIs g B gr rc op sm sr dm dr sx dx n y t st w := by
 have GL := hide h.gl
 have YL := hide (fun b (hb : y.at b) => h.yl hb)
 have H1 := hide (h.later (below_new w (Obj.cells #[.int .i64 (op : Int), .int .i64 (sm : Int), .int .i64 (sr : Int), .int .i64 sx, .int .i64 (dm : Int), .int .i64 (dr : Int), .int .i64 dx, .int .i64 n] 48)))
 have F1 := hide (Fm.of (g := g) (y := y) (below_new w (Obj.cells #[.int .i64 (op : Int), .int .i64 (sm : Int), .int .i64 (sr : Int), .int .i64 sx, .int .i64 (dm : Int), .int .i64 (dr : Int), .int .i64 dx, .int .i64 n] 48)))
 have R1 := hide (heap_alloc_last w (Obj.cells #[.int .i64 (op : Int), .int .i64 (sm : Int), .int .i64 (sr : Int), .int .i64 sx, .int .i64 (dm : Int), .int .i64 (dr : Int), .int .i64 dx, .int .i64 n] 48))
 obtain ⟨d2, e2, k2, tg⟩ := target_any g B gr rc dm dr dx y t st hk d7 d8 _ (uh H1)
 have TG := hide tg
 unfold TgIs at TG
 have E2 := hide (show tgO t dm dr = true → d2 = t.d.plD dm dr from fun ho => e2 (by unfold tgO at ho; simp only [Bool.and_eq_true] at ho; exact ho.1))
 unfold JpIs
 have k4 := insR 4 _ (uh R1) rfl
 have k5 := insR 5 _ (uh R1) rfl
 have k6 := insR 6 _ (uh R1) rfl
 generalize tgO t dm dr = ok at TG E2 ⊢
 generalize t.d.plA dm dr = pa at TG ⊢
 clear h hk e2 tg
 go_enter Tryz.func83, Tryz.ntmps83
 go_wp2_with fail
 refine (uh TG).mono ?_
 rintro e w2 ⟨rfl, p2, f2⟩
 have c1 := p2.cr
 obtain ⟨p3, f3, c2, c3⟩ := p2.setR 7 pa (by omega)
 have H3 := hide p3
 have F3 := hide (((uh F1).trans f2).trans f3)
 clear p2 f2 p3 f3 TG k4 k5 k6
 go_wp2
 go_ret
 exact ⟨rfl, ⟨fun ho => by have e := uh E2 ho; subst e; exact uh H3, uh F3⟩⟩
theorem halt_any (g B gr rc op sm sr dm dr : Nat) (sx dx n : Int) (y : Mv) (t : Ms) (st : Int) (w : World) (h : Pz w g B gr rc y t st t.d.m) (hk : Dk t.d) : Calls Tryz.prog 92 #[.pointer (some ⟨g, 0, none⟩), .agg #[.int .i64 (op : Int), .int .i64 (sm : Int), .int .i64 (sr : Int), .int .i64 sx, .int .i64 (dm : Int), .int .i64 (dr : Int), .int .i64 dx, .int .i64 n]] w fun e w' => e = .returned (.bool true) ∧ Pz w' g B gr rc { y with st := 1 } t 1 t.d.m ∧ Fm w w' g y { y with st := 1 } := by
 have H1 := hide (h.later (below_new w (Obj.cells #[.int .i64 (op : Int), .int .i64 (sm : Int), .int .i64 (sr : Int), .int .i64 sx, .int .i64 (dm : Int), .int .i64 (dr : Int), .int .i64 dx, .int .i64 n] 48)))
 have F1 := hide (Fm.of (g := g) (y := y) (below_new w (Obj.cells #[.int .i64 (op : Int), .int .i64 (sm : Int), .int .i64 (sr : Int), .int .i64 sx, .int .i64 (dm : Int), .int .i64 (dr : Int), .int .i64 dx, .int .i64 n] 48)))
 have c8 := (uh H1).cell 8 _ rfl
 have e8 := (uh H1).fz 264
 obtain ⟨h2, f2⟩ := (uh H1).setS 1
 have H2 := hide h2
 have F2 := hide ((uh F1).trans f2)
 clear h hk h2 f2
 go_enter Tryz.func92, Tryz.ntmps92
 go_wp2
 go_ret
 exact ⟨rfl, uh H2, uh F2⟩
theorem ad_sh (a : Int) (h : 0 ≤ a) : Psh (-1) a := .inl ⟨rfl, h⟩
def ClIs (g B gr rc op sm sr dm dr k : Nat) (sx dx : Int) (y : Mv) (t : Ms) (st : Int) (ok : Bool) (w : World) : Prop :=
 Calls Tryz.prog 84 #[.pointer (some ⟨g, 0, none⟩), .agg #[.int .i64 (op : Int), .int .i64 (sm : Int), .int .i64 (sr : Int), .int .i64 sx, .int .i64 (dm : Int), .int .i64 (dr : Int), .int .i64 dx, .int .i64 (k : Int)]] w fun e w' => e = .returned (.bool ok) ∧ AcE ok (Pz w' g B gr rc y ((((t.op dm dr).go2 k).rg k (nAt ((t.op dm dr).go2 k).d.r 7)).rg 7 (t.d.plA dm dr)) st (t.op dm dr).d.m) (Fm w w' g y y)
theorem Pz.atR {w : World} {g B gr rc : Nat} {y : Mv} {t : Ms} {st : Int} {m0 : List Int} (h : Pz w g B gr rc y t st m0) (k : Nat) (hk : k < 8) : w.cell? ⟨gr, k, none⟩ = some (.int .i64 (nAt t.d.r k)) := (h.setR k 0 hk).2.2.1
def clO (t : Ms) (dm dr : Nat) : Bool := tgO t dm dr && (t.op dm dr).go1.d.ldB (-1) ((nAt (t.op dm dr).d.r 6 - 2) % 65536)
theorem call_no (g B gr rc op sm sr dm dr : Nat) (k : Nat) (sx dx : Int) (y : Mv) (t : Ms) (st : Int) (w : World) (h : Pz w g B gr rc y t st t.d.m) (hk : Dk t.d) (d7 : dm ≤ 7) (d8 : dr < 8) (hno : clO t dm dr = false) : ClIs g B gr rc op sm sr dm dr k sx dx y t st false w := by
 have GL := hide h.gl
 have YL := hide (fun b (hb : y.at b) => h.yl hb)
 have H1 := hide (h.later (below_new w (Obj.cells #[.int .i64 (op : Int), .int .i64 (sm : Int), .int .i64 (sr : Int), .int .i64 sx, .int .i64 (dm : Int), .int .i64 (dr : Int), .int .i64 dx, .int .i64 (k : Int)] 48)))
 have F1 := hide (Fm.of (g := g) (y := y) (below_new w (Obj.cells #[.int .i64 (op : Int), .int .i64 (sm : Int), .int .i64 (sr : Int), .int .i64 sx, .int .i64 (dm : Int), .int .i64 (dr : Int), .int .i64 dx, .int .i64 (k : Int)] 48)))
 have R1 := hide (heap_alloc_last w (Obj.cells #[.int .i64 (op : Int), .int .i64 (sm : Int), .int .i64 (sr : Int), .int .i64 sx, .int .i64 (dm : Int), .int .i64 (dr : Int), .int .i64 dx, .int .i64 (k : Int)] 48))
 obtain ⟨d2, e2, k2, tg⟩ := target_any g B gr rc dm dr dx y t st hk d7 d8 _ (uh H1)
 have TG := hide tg
 unfold TgIs at TG
 have D8 := k2.rl
 obtain ⟨a0, a1⟩ := k2.rw _ (nAt_mem (show 6 < d2.r.length by omega))
 have GB := hide (fun v (p : Pz v g B gr rc y (t.wd d2) st d2.m) => goBack_any g B gr rc 6 y d2 v p.pg (by omega) a0 a1)
 have GO := hide (show ∀ v v', Pz v g B gr rc y (t.wd d2) st d2.m → Pg v' g B gr rc y (d2.reg 6 ((nAt d2.r 6 - 2) % 65536)) → Pz v' g B gr rc y ((t.wd d2).go1) st d2.m from fun v v' p q => p.ofPg q)
 have AD := hide (fun v => adPlace_any ((nAt d2.r 6 - 2) % 65536) v)
 have K3 := hide (show Dk (t.wd d2).go1.d from k2.regS _ _)
 have RC := hide (fun v (p : Pz v g B gr rc y (t.wd d2).go1 st d2.m) => reachZ p k2.ml (uh K3) (-1) ((nAt d2.r 6 - 2) % 65536) (ad_sh _ (by omega)))
 have NO := hide (show tgO t dm dr = true → (t.wd d2).go1.d.ldB (-1) ((nAt d2.r 6 - 2) % 65536) = false from fun ho => by
  have e := e2 (by unfold tgO at ho; simp only [Bool.and_eq_true] at ho; exact ho.1)
  subst e
  unfold clO at hno
  rw [ho] at hno
  exact hno)
 unfold ClIs
 generalize tgO t dm dr = ok at TG NO ⊢
 generalize t.d.plA dm dr = pa at TG
 generalize (nAt d2.r 6 - 2) % 65536 = a6 at GB GO AD RC NO
 generalize (t.wd d2).go1.d.ldB (-1) a6 = lb at RC NO
 generalize plP g gr (-1) a6 = pp at RC
 clear h hk e2 tg hno a0 a1 D8 k2
 cases ok
 ·
  have k4 := insR 4 _ (uh R1) rfl
  have k5 := insR 5 _ (uh R1) rfl
  have k6 := insR 6 _ (uh R1) rfl
  go_enter Tryz.func84, Tryz.ntmps84
  go_wp2_with fail
  refine (uh TG).mono ?_
  rintro e w2 ⟨rfl, p2, f2⟩
  have c1 := p2.cr
  have F2 := hide ((uh F1).trans f2)
  have R2 := hide (f2.row (uh R1) (by have := uh GL; omega) (fun e => by have := uh YL _ e; omega))
  have GBC := hide (uh GB _ p2)
  have P2 := hide p2
  clear p2 f2 TG k4 k5 k6
  go_wp2_with fail
  refine (uh GBC).mono ?_
  rintro e w3 ⟨rfl, p3, g3⟩
  have H3 := hide (uh GO _ _ (uh P2) p3)
  have f3 := Fm.grownR (g := g) g3 (uh P2).atr
  have F3 := hide ((uh F2).trans f3)
  have R3 := hide (f3.row (uh R2) (by have := uh GL; omega) (fun e => by have := uh YL _ e; omega))
  clear p3 g3 f3 GBC GO P2 R2 F2 c1
  go_wp2_with fail
  refine (uh AD _).mono ?_
  rintro e w4 ⟨rfl, b4⟩
  have H4 := hide ((uh H3).later b4)
  have F4 := hide ((uh F3).trans (Fm.of b4))
  have R4 := hide (row_lat (uh R3) b4)
  have RCC := hide (uh RC _ (uh H4))
  clear b4 AD RC
  go_wp2_with fail
  refine (uh RCC).mono ?_
  rintro e w5 ⟨rfl, b5⟩
  have H5 := hide ((uh H4).later b5)
  have F5 := hide ((uh F4).trans (Fm.of b5))
  have R5 := hide (row_lat (uh R4) b5)
  clear b5 RCC H3 F3 R3 H4 F4 R4
  cases lb
  ·
   go_wp2
   go_ret
   exact ⟨rfl, ⟨fun h => by simp at h, uh F5⟩⟩
  ·
   go_wp2
   go_ret
   exact ⟨rfl, ⟨fun h => by simp at h, uh F5⟩⟩
 ·
  have NO2 := uh NO (by trivial)
  subst NO2
  have k4 := insR 4 _ (uh R1) rfl
  have k5 := insR 5 _ (uh R1) rfl
  have k6 := insR 6 _ (uh R1) rfl
  go_enter Tryz.func84, Tryz.ntmps84
  go_wp2_with fail
  refine (uh TG).mono ?_
  rintro e w2 ⟨rfl, p2, f2⟩
  have c1 := p2.cr
  have F2 := hide ((uh F1).trans f2)
  have R2 := hide (f2.row (uh R1) (by have := uh GL; omega) (fun e => by have := uh YL _ e; omega))
  have GBC := hide (uh GB _ p2)
  have P2 := hide p2
  clear p2 f2 TG k4 k5 k6
  go_wp2_with fail
  refine (uh GBC).mono ?_
  rintro e w3 ⟨rfl, p3, g3⟩
  have H3 := hide (uh GO _ _ (uh P2) p3)
  have f3 := Fm.grownR (g := g) g3 (uh P2).atr
  have F3 := hide ((uh F2).trans f3)
  have R3 := hide (f3.row (uh R2) (by have := uh GL; omega) (fun e => by have := uh YL _ e; omega))
  clear p3 g3 f3 GBC GO P2 R2 F2 c1
  go_wp2_with fail
  refine (uh AD _).mono ?_
  rintro e w4 ⟨rfl, b4⟩
  have H4 := hide ((uh H3).later b4)
  have F4 := hide ((uh F3).trans (Fm.of b4))
  have R4 := hide (row_lat (uh R3) b4)
  have RCC := hide (uh RC _ (uh H4))
  clear b4 AD RC
  go_wp2_with fail
  refine (uh RCC).mono ?_
  rintro e w5 ⟨rfl, b5⟩
  have H5 := hide ((uh H4).later b5)
  have F5 := hide ((uh F4).trans (Fm.of b5))
  have R5 := hide (row_lat (uh R4) b5)
  clear b5 RCC H3 F3 R3 H4 F4 R4
  go_wp2
  go_ret
  exact ⟨rfl, ⟨fun h => by simp at h, uh F5⟩⟩
theorem call_yes (g B gr rc op sm sr dm dr : Nat) (k : Nat) (sx dx : Int) (y : Mv) (t : Ms) (st : Int) (w : World) (h : Pz w g B gr rc y t st t.d.m) (hk : Dk t.d) (d7 : dm ≤ 7) (d8 : dr < 8) (k8 : k < 8) (hy : clO t dm dr = true) : ClIs g B gr rc op sm sr dm dr k sx dx y t st true w := by
 have GL := hide h.gl
 have YL := hide (fun b (hb : y.at b) => h.yl hb)
 have H1 := hide (h.later (below_new w (Obj.cells #[.int .i64 (op : Int), .int .i64 (sm : Int), .int .i64 (sr : Int), .int .i64 sx, .int .i64 (dm : Int), .int .i64 (dr : Int), .int .i64 dx, .int .i64 (k : Int)] 48)))
 have F1 := hide (Fm.of (g := g) (y := y) (below_new w (Obj.cells #[.int .i64 (op : Int), .int .i64 (sm : Int), .int .i64 (sr : Int), .int .i64 sx, .int .i64 (dm : Int), .int .i64 (dr : Int), .int .i64 dx, .int .i64 (k : Int)] 48)))
 have R1 := hide (heap_alloc_last w (Obj.cells #[.int .i64 (op : Int), .int .i64 (sm : Int), .int .i64 (sr : Int), .int .i64 sx, .int .i64 (dm : Int), .int .i64 (dr : Int), .int .i64 dx, .int .i64 (k : Int)] 48))
 obtain ⟨d2, e2, k2, tg⟩ := target_any g B gr rc dm dr dx y t st hk d7 d8 _ (uh H1)
 have TG := hide tg
 unfold TgIs at TG
 have D8 := k2.rl
 obtain ⟨a0, a1⟩ := k2.rw _ (nAt_mem (show 6 < d2.r.length by omega))
 have GB := hide (fun v (p : Pz v g B gr rc y (t.wd d2) st d2.m) => goBack_any g B gr rc 6 y d2 v p.pg (by omega) a0 a1)
 have GO := hide (show ∀ v v', Pz v g B gr rc y (t.wd d2) st d2.m → Pg v' g B gr rc y (d2.reg 6 ((nAt d2.r 6 - 2) % 65536)) → Pz v' g B gr rc y ((t.wd d2).go1) st d2.m from fun v v' p q => p.ofPg q)
 have AD := hide (fun v => adPlace_any ((nAt d2.r 6 - 2) % 65536) v)
 have K3 := hide (show Dk (t.wd d2).go1.d from k2.regS _ _)
 have RC := hide (fun v (p : Pz v g B gr rc y (t.wd d2).go1 st d2.m) => reachZ p k2.ml (uh K3) (-1) ((nAt d2.r 6 - 2) % 65536) (ad_sh _ (by omega)))
 have hy2 : tgO t dm dr = true ∧ (t.op dm dr).go1.d.ldB (-1) ((nAt (t.op dm dr).d.r 6 - 2) % 65536) = true := by unfold clO at hy; simpa only [Bool.and_eq_true] using hy
 have e3 := e2 (by have := hy2.1; unfold tgO at this; simp only [Bool.and_eq_true] at this; exact this.1)
 subst e3
 have LB : (t.wd (t.d.plD dm dr)).go1.d.ldB (-1) ((nAt (t.d.plD dm dr).r 6 - 2) % 65536) = true := hy2.2
 rw [hy2.1] at TG
 rw [LB] at RC
 simp only [if_true] at RC
 have SH := ad_sh ((nAt (t.d.plD dm dr).r 6 - 2) % 65536) (by omega)
 have VK := (uh K3).rw _ (nAt_mem (show k < (t.wd (t.d.plD dm dr)).go1.d.r.length by have := (uh K3).rl; omega))
 have PL := hide (fun v (p : Pz v g B gr rc y (t.wd (t.d.plD dm dr)).go1 st (t.d.plD dm dr).m) => (p.place LB SH).imp id (fun q => And.intro q.1 (q.2 (nAt (t.wd (t.d.plD dm dr)).go1.d.r k) VK.1 VK.2)))
 have AR := hide (fun v (p : Pz v g B gr rc y (t.wd (t.d.plD dm dr)).go1 st (t.d.plD dm dr).m) => p.atR k k8)
 unfold ClIs
 rw [show (t.op dm dr).go2 k = (t.wd (t.d.plD dm dr)).go1.st (-1) ((nAt (t.d.plD dm dr).r 6 - 2) % 65536) (nAt (t.wd (t.d.plD dm dr)).go1.d.r k) from rfl]
 rw [show (t.op dm dr).d.m = (t.d.plD dm dr).m from rfl]
 generalize t.d.plA dm dr = pa at TG ⊢
 generalize (t.wd (t.d.plD dm dr)).go1.d.ldV (-1) ((nAt (t.d.plD dm dr).r 6 - 2) % 65536) = old at PL
 generalize (t.wd (t.d.plD dm dr)).go1.st (-1) ((nAt (t.d.plD dm dr).r 6 - 2) % 65536) (nAt (t.wd (t.d.plD dm dr)).go1.d.r k) = u2 at PL ⊢
 generalize nAt (t.wd (t.d.plD dm dr)).go1.d.r k = vk at PL AR
 generalize (nAt (t.d.plD dm dr).r 6 - 2) % 65536 = a6 at GB GO AD RC PL
 generalize plP g gr (-1) a6 = pp at RC PL
 clear h hk e2 tg hy hy2 a0 a1 D8 LB SH VK k2
 have kr : (k : Int) < 8 := by omega
 have kn : ¬ (8 : Int) ≤ (k : Int) := by omega
 have k4 := insR 4 _ (uh R1) rfl
 have k5 := insR 5 _ (uh R1) rfl
 have k6 := insR 6 _ (uh R1) rfl
 go_enter Tryz.func84, Tryz.ntmps84
 go_wp2_with fail
 refine (uh TG).mono ?_
 rintro e w2 ⟨rfl, p2, f2⟩
 have c1 := p2.cr
 have F2 := hide ((uh F1).trans f2)
 have R2 := hide (f2.row (uh R1) (by have := uh GL; omega) (fun e => by have := uh YL _ e; omega))
 have GBC := hide (uh GB _ p2)
 have P2 := hide p2
 clear p2 f2 TG k4 k5 k6
 go_wp2_with fail
 refine (uh GBC).mono ?_
 rintro e w3 ⟨rfl, p3, g3⟩
 have H3 := hide (uh GO _ _ (uh P2) p3)
 have f3 := Fm.grownR (g := g) g3 (uh P2).atr
 have F3 := hide ((uh F2).trans f3)
 have R3 := hide (f3.row (uh R2) (by have := uh GL; omega) (fun e => by have := uh YL _ e; omega))
 clear p3 g3 f3 GBC GO P2 R2 F2 c1
 go_wp2_with fail
 refine (uh AD _).mono ?_
 rintro e w4 ⟨rfl, b4⟩
 have H4 := hide ((uh H3).later b4)
 have F4 := hide ((uh F3).trans (Fm.of b4))
 have R4 := hide (row_lat (uh R3) b4)
 have RCC := hide (uh RC _ (uh H4))
 clear b4 AD RC
 go_wp2_with fail
 refine (uh RCC).mono ?_
 rintro e w5 ⟨rfl, b5⟩
 have H5 := hide ((uh H4).later b5)
 have F5 := hide ((uh F4).trans (Fm.of b5))
 have R5 := hide (row_lat (uh R4) b5)
 clear b5 RCC H3 F3 R3 H4 F4 R4
 have H6 := hide ((uh H5).later (below_drew (w := w5)))
 have F6 := hide ((uh F5).trans (Fm.of (below_drew (w := w5))))
 have R6 := hide (row_lat (uh R5) (below_drew (w := w5)))
 have c1 := (uh H6).cr
 have c2 := insR 7 _ (uh R6) rfl
 have c3 := uh AR _ (uh H6)
 obtain ⟨c4, c5, h7, f7⟩ := uh PL _ (uh H6)
 have H7 := hide h7
 have F7 := hide ((uh F6).trans f7)
 have R7 := hide (f7.row (uh R6) (by have := uh GL; omega) (fun e => by have := uh YL _ e; omega))
 clear h7 f7 AR PL H5 F5 R5
 go_wp2_with fail
 refine wp_region_last (fun v => v = w5.drew) 11 (by kernel_rfl) ?_
 generalize w5.drew = wd at H6 F6 R6 H7 F7 R7 c1 c2 c3 c4 c5 ⊢
 refine twB 0 (.pointer (some pp)) rfl (.inl rfl) ?_
 go_simp
 refine twB 1 (.pointer (some ⟨g, 0, none⟩)) rfl (.inl rfl) ?_
 go_simp
 refine twB 2 (.pointer (some ⟨g, 0, none⟩)) rfl (.inl rfl) ?_
 go_simp
 refine twB 3 (.pointer (some ⟨g, 256, none⟩)) rfl (.inl rfl) ?_
 go_simp
 refine twB 4 (.pointer (some ⟨g, 257, none⟩)) rfl (.inl rfl) ?_
 go_simp
 refine tsA 5 (.slice (some ⟨gr, 0, none⟩) 8 rc) rfl (.inl ⟨by rfl, fun w hc => ?_⟩) (rfl) ?_
 · rw [hc]; clear hc; go_simp
 go_simp
 refine twB 6 (.pointer (some ⟨w.heap.size, 7, none⟩)) rfl (.inl rfl) ?_
 go_simp
 refine tsA 7 (.int .i64 (k : Int)) rfl (.inl ⟨by rfl, fun w hc => ?_⟩) (rfl) ?_
 · rw [hc]; clear hc; go_simp
 go_simp
 refine twB 8 (.pointer (some ⟨gr, k, none⟩)) rfl (.inl rfl) ?_
 go_simp
 refine tsA 9 (.int .i64 vk) rfl (.inl ⟨by rfl, fun w hc => ?_⟩) (rfl) ?_
 · rw [hc]; clear hc; go_simp
 go_simp
 refine twB 10 (.pointer (some pp)) rfl (.inl rfl) ?_
 go_simp
 refine wpAnyL_one (i := 11) (by kernel_rfl) rfl (fun K2 hK => ?_)
 go_simp
 refine hK.out _ _ (fun h => absurd h (by decide)) ?_
 clear hK K2
 refine wpAnyL_done (by kernel_rfl) ?_ _
 generalize wd.setCell pp (.int .i64 vk) = w6 at H7 F7 R7 ⊢
 clear H6 F6 R6 c1 c2 c3 c4 c5
 have H8 := hide ((uh H7).later (below_drew (w := w6)))
 have F8 := hide ((uh F7).trans (Fm.of (below_drew (w := w6))))
 have R8 := hide (row_lat (uh R7) (below_drew (w := w6)))
 have c1 := (uh H8).cr
 have c2 := insR 7 _ (uh R8) rfl
 have c3 := (uh H8).atR 7 (by omega)
 obtain ⟨h9, f9, c4, c5⟩ := (uh H8).setR k (nAt u2.d.r 7) k8
 have H9 := hide h9
 have F9 := hide ((uh F8).trans f9)
 obtain ⟨v7, hv7⟩ : ∃ q, nAt u2.d.r 7 = q := ⟨_, rfl⟩
 have HV := hide hv7
 rw [hv7] at c3 H9 F9
 clear hv7
 clear h9 f9 H7 F7 R7
 go_wp2_with fail
 refine wp_region_last (fun v => v = w6.drew) 15 (by kernel_rfl) ?_
 generalize w6.drew = we at H8 F8 R8 H9 F9 c1 c2 c3 c4 c5 ⊢
 refine twB 0 (.pointer (some ⟨g, 0, none⟩)) rfl (.inl rfl) ?_
 go_simp
 refine twB 1 (.pointer (some ⟨g, 0, none⟩)) rfl (.inl rfl) ?_
 go_simp
 refine twB 2 (.pointer (some ⟨g, 256, none⟩)) rfl (.inl rfl) ?_
 go_simp
 refine twB 3 (.pointer (some ⟨g, 257, none⟩)) rfl (.inl rfl) ?_
 go_simp
 refine tsA 4 (.slice (some ⟨gr, 0, none⟩) 8 rc) rfl (.inl ⟨by rfl, fun w hc => ?_⟩) (rfl) ?_
 · rw [hc]; clear hc; go_simp
 go_simp
 refine twB 5 (.pointer (some ⟨w.heap.size, 7, none⟩)) rfl (.inl rfl) ?_
 go_simp
 refine tsA 6 (.int .i64 (k : Int)) rfl (.inl ⟨by rfl, fun w hc => ?_⟩) (rfl) ?_
 · rw [hc]; clear hc; go_simp
 go_simp
 refine twB 7 (.pointer (some ⟨g, 0, none⟩)) rfl (.inl rfl) ?_
 go_simp
 refine twB 8 (.pointer (some ⟨g, 0, none⟩)) rfl (.inl rfl) ?_
 go_simp
 refine twB 9 (.pointer (some ⟨g, 256, none⟩)) rfl (.inl rfl) ?_
 go_simp
 refine twB 10 (.pointer (some ⟨g, 257, none⟩)) rfl (.inl rfl) ?_
 go_simp
 refine tsA 11 (.slice (some ⟨gr, 0, none⟩) 8 rc) rfl (.inl ⟨by rfl, fun w hc => ?_⟩) (rfl) ?_
 · rw [hc]; clear hc; go_simp
 go_simp
 refine twB 12 (.pointer (some ⟨gr, 7, none⟩)) rfl (.inl rfl) ?_
 go_simp
 refine tsA 13 (.int .i64 v7) rfl (.inl ⟨by rfl, fun w hc => ?_⟩) (rfl) ?_
 · rw [hc]; clear hc; go_simp
 go_simp
 refine twB 14 (.pointer (some ⟨gr, k, none⟩)) rfl (.inl rfl) ?_
 go_simp
 refine wpAnyL_one (i := 15) (by kernel_rfl) rfl (fun K2 hK => ?_)
 go_simp
 refine hK.out _ _ (fun h => absurd h (by decide)) ?_
 clear hK K2
 refine wpAnyL_done (by kernel_rfl) ?_ _
 generalize we.setCell ⟨gr, k, none⟩ (.int .i64 v7) = w7 at H9 F9 ⊢
 clear H8 F8 R8 c1 c2 c3 c4 c5
 have c1 := (uh H9).cr
 obtain ⟨h10, f10, c4, c5⟩ := (uh H9).setR 7 pa (by omega)
 have H10 := hide h10
 have F10 := hide ((uh F9).trans f10)
 clear h10 f10
 go_wp2
 go_ret
 exact ⟨rfl, ⟨fun _ => by rw [uh HV]; exact uh H10, uh F10⟩⟩
def CbIs (g B gr rc op sm sr dm dr k : Nat) (sx dx : Int) (y : Mv) (t : Ms) (st : Int) (ok : Bool) (w : World) : Prop :=
 Calls Tryz.prog 85 #[.pointer (some ⟨g, 0, none⟩), .agg #[.int .i64 (op : Int), .int .i64 (sm : Int), .int .i64 (sr : Int), .int .i64 sx, .int .i64 (dm : Int), .int .i64 (dr : Int), .int .i64 dx, .int .i64 (k : Int)]] w fun e w' => e = .returned (.bool ok) ∧ AcE ok (Pz w' g B gr rc y (t.back k) st t.d.m) (Fm w w' g y y)
theorem rg6 (t : Ms) (k : Nat) : nAt (t.rg 7 (nAt t.d.r k)).d.r 6 = nAt t.d.r 6 := Ms.rg_at t 7 6 _ (by omega)
theorem back_anyI (g B gr rc op sm sr dm dr : Nat) (k : Nat) (sx dx : Int) (y : Mv) (t : Ms) (st : Int) (w : World) (h : Pz w g B gr rc y t st t.d.m) (hk : Dk t.d) (k8 : k < 8) : CbIs g B gr rc op sm sr dm dr k sx dx y t st ((t.back1 k).d.has (nAt t.d.r 6)) w := by
 have GL := hide h.gl
 have YL := hide (fun b (hb : y.at b) => h.yl hb)
 have H1 := hide (h.later (below_new w (Obj.cells #[.int .i64 (op : Int), .int .i64 (sm : Int), .int .i64 (sr : Int), .int .i64 sx, .int .i64 (dm : Int), .int .i64 (dr : Int), .int .i64 dx, .int .i64 (k : Int)] 48)))
 have F1 := hide (Fm.of (g := g) (y := y) (below_new w (Obj.cells #[.int .i64 (op : Int), .int .i64 (sm : Int), .int .i64 (sr : Int), .int .i64 sx, .int .i64 (dm : Int), .int .i64 (dr : Int), .int .i64 dx, .int .i64 (k : Int)] 48)))
 have R1 := hide (heap_alloc_last w (Obj.cells #[.int .i64 (op : Int), .int .i64 (sm : Int), .int .i64 (sr : Int), .int .i64 sx, .int .i64 (dm : Int), .int .i64 (dr : Int), .int .i64 dx, .int .i64 (k : Int)] 48))
 have VK := hk.rw _ (nAt_mem (show k < t.d.r.length by have := hk.rl; omega))
 have K1 := hide (show Dk (t.rg 7 (nAt t.d.r k)).d from hk.rgk 7 _ VK.1 VK.2)
 have V6 := hk.rw _ (nAt_mem (show 6 < t.d.r.length by have := hk.rl; omega))
 have SR := hide (fun v (p : Pz v g B gr rc y t st t.d.m) => p.setR 7 (nAt t.d.r k) (by omega))
 have AR := hide (fun v (p : Pz v g B gr rc y t st t.d.m) => p.atR k k8)
 have GB := hide (fun v (p : Pz v g B gr rc y (t.rg 7 (nAt t.d.r k)) st t.d.m) => goOn_any g B gr rc 6 y (t.rg 7 (nAt t.d.r k)).d v p.pg (by rw [(uh K1).rl]; omega) (by rw [rg6]; exact V6.1) (by rw [rg6]; exact V6.2))
 rw [rg6] at GB
 have GO := hide (show ∀ v v', Pz v g B gr rc y (t.rg 7 (nAt t.d.r k)) st t.d.m → Pg v' g B gr rc y ((t.rg 7 (nAt t.d.r k)).d.reg 6 ((nAt t.d.r 6 + 2) % 65536)) → Pz v' g B gr rc y ((t.rg 7 (nAt t.d.r k)).rg 6 ((nAt t.d.r 6 + 2) % 65536)) st t.d.m from fun v v' p q => p.ofPg q)
 have AD := hide (fun v => adPlace_any (nAt t.d.r 6) v)
 have K3 := hide (show Dk ((t.rg 7 (nAt t.d.r k)).rg 6 ((nAt t.d.r 6 + 2) % 65536)).d from (uh K1).regS _ _)
 have SH := ad_sh (nAt t.d.r 6) V6.1
 have RC := hide (fun v (p : Pz v g B gr rc y ((t.rg 7 (nAt t.d.r k)).rg 6 ((nAt t.d.r 6 + 2) % 65536)) st t.d.m) => reachZ p hk.ml (uh K3) (-1) (nAt t.d.r 6) SH)
 have PL := hide (fun v (hb : ((t.rg 7 (nAt t.d.r k)).rg 6 ((nAt t.d.r 6 + 2) % 65536)).d.ldB (-1) (nAt t.d.r 6) = true) (p : Pz v g B gr rc y ((t.rg 7 (nAt t.d.r k)).rg 6 ((nAt t.d.r 6 + 2) % 65536)) st t.d.m) => (p.place hb SH).1)
 unfold CbIs
 rw [show (t.back1 k).d.has (nAt t.d.r 6) = ((t.rg 7 (nAt t.d.r k)).rg 6 ((nAt t.d.r 6 + 2) % 65536)).d.ldB (-1) (nAt t.d.r 6) from rfl]
 rw [show t.back k = ((t.rg 7 (nAt t.d.r k)).rg 6 ((nAt t.d.r 6 + 2) % 65536)).rg k (((t.rg 7 (nAt t.d.r k)).rg 6 ((nAt t.d.r 6 + 2) % 65536)).d.ldV (-1) (nAt t.d.r 6)) from rfl]
 have S3 := hide (fun v (u : Int) (p : Pz v g B gr rc y ((t.rg 7 (nAt t.d.r k)).rg 6 ((nAt t.d.r 6 + 2) % 65536)) st t.d.m) => p.setR k u k8)
 generalize ((t.rg 7 (nAt t.d.r k)).rg 6 ((nAt t.d.r 6 + 2) % 65536)).d.ldB (-1) (nAt t.d.r 6) = lb at RC PL ⊢
 generalize ((t.rg 7 (nAt t.d.r k)).rg 6 ((nAt t.d.r 6 + 2) % 65536)).d.ldV (-1) (nAt t.d.r 6) = lv at PL ⊢
 generalize (nAt t.d.r 6 + 2) % 65536 = x6 at GB GO RC PL S3 ⊢
 generalize (t.rg 7 (nAt t.d.r k)).rg 6 x6 = u2 at GO RC PL S3 ⊢
 generalize plP g gr (-1) (nAt t.d.r 6) = pp at RC PL
 generalize (t.rg 7 (nAt t.d.r k)).d.reg 6 x6 = dd at GB GO
 generalize nAt t.d.r 6 = v6 at GB AD RC
 generalize t.rg 7 (nAt t.d.r k) = u1 at SR GB GO
 generalize nAt t.d.r k = vk at SR AR
 clear hk VK V6 SH K1 K3
 have kr : (k : Int) < 8 := by omega
 have kn : ¬ (8 : Int) ≤ (k : Int) := by omega
 have H2 := hide ((uh H1).later (below_drew (w := w.alloc (Obj.cells #[.int .i64 (op : Int), .int .i64 (sm : Int), .int .i64 (sr : Int), .int .i64 sx, .int .i64 (dm : Int), .int .i64 (dr : Int), .int .i64 dx, .int .i64 (k : Int)] 48))))
 have F2 := hide ((uh F1).trans (Fm.of (below_drew (w := w.alloc (Obj.cells #[.int .i64 (op : Int), .int .i64 (sm : Int), .int .i64 (sr : Int), .int .i64 sx, .int .i64 (dm : Int), .int .i64 (dr : Int), .int .i64 dx, .int .i64 (k : Int)] 48)))))
 have R2 := hide (row_lat (uh R1) (below_drew (w := w.alloc (Obj.cells #[.int .i64 (op : Int), .int .i64 (sm : Int), .int .i64 (sr : Int), .int .i64 sx, .int .i64 (dm : Int), .int .i64 (dr : Int), .int .i64 dx, .int .i64 (k : Int)] 48))))
 have c1 := (uh H2).cr
 have c2 := insR 7 _ (uh R2) rfl
 have c3 := uh AR _ (uh H2)
 obtain ⟨h3, f3, c4, c5⟩ := uh SR _ (uh H2)
 have H3 := hide h3
 have F3 := hide ((uh F2).trans f3)
 have R3 := hide (f3.row (uh R2) (by have := uh GL; omega) (fun e => by have := uh YL _ e; omega))
 clear h3 f3 h AR SR
 go_enter Tryz.func85, Tryz.ntmps85
 go_wp2_with fail
 refine wp_region_last (fun v => v = (w.alloc (Obj.cells #[.int .i64 (op : Int), .int .i64 (sm : Int), .int .i64 (sr : Int), .int .i64 sx, .int .i64 (dm : Int), .int .i64 (dr : Int), .int .i64 dx, .int .i64 (k : Int)] 48)).drew) 15 (by kernel_rfl) ?_
 generalize (w.alloc (Obj.cells #[.int .i64 (op : Int), .int .i64 (sm : Int), .int .i64 (sr : Int), .int .i64 sx, .int .i64 (dm : Int), .int .i64 (dr : Int), .int .i64 dx, .int .i64 (k : Int)] 48)).drew = wd at H2 F2 R2 H3 F3 R3 c1 c2 c3 c4 c5 ⊢
 refine twB 0 (.pointer (some ⟨g, 0, none⟩)) rfl (.inl rfl) ?_
 go_simp
 refine twB 1 (.pointer (some ⟨g, 0, none⟩)) rfl (.inl rfl) ?_
 go_simp
 refine twB 2 (.pointer (some ⟨g, 256, none⟩)) rfl (.inl rfl) ?_
 go_simp
 refine twB 3 (.pointer (some ⟨g, 257, none⟩)) rfl (.inl rfl) ?_
 go_simp
 refine tsA 4 (.slice (some ⟨gr, 0, none⟩) 8 rc) rfl (.inl ⟨by rfl, fun w hc => ?_⟩) (rfl) ?_
 · rw [hc]; clear hc; go_simp
 go_simp
 refine twB 5 (.pointer (some ⟨g, 0, none⟩)) rfl (.inl rfl) ?_
 go_simp
 refine twB 6 (.pointer (some ⟨g, 0, none⟩)) rfl (.inl rfl) ?_
 go_simp
 refine twB 7 (.pointer (some ⟨g, 256, none⟩)) rfl (.inl rfl) ?_
 go_simp
 refine twB 8 (.pointer (some ⟨g, 257, none⟩)) rfl (.inl rfl) ?_
 go_simp
 refine tsA 9 (.slice (some ⟨gr, 0, none⟩) 8 rc) rfl (.inl ⟨by rfl, fun w hc => ?_⟩) (rfl) ?_
 · rw [hc]; clear hc; go_simp
 go_simp
 refine twB 10 (.pointer (some ⟨w.heap.size, 7, none⟩)) rfl (.inl rfl) ?_
 go_simp
 refine tsA 11 (.int .i64 (k : Int)) rfl (.inl ⟨by rfl, fun w hc => ?_⟩) (rfl) ?_
 · rw [hc]; clear hc; go_simp
 go_simp
 refine twB 12 (.pointer (some ⟨gr, k, none⟩)) rfl (.inl rfl) ?_
 go_simp
 refine tsA 13 (.int .i64 vk) rfl (.inl ⟨by rfl, fun w hc => ?_⟩) (rfl) ?_
 · rw [hc]; clear hc; go_simp
 go_simp
 refine twB 14 (.pointer (some ⟨gr, 7, none⟩)) rfl (.inl rfl) ?_
 go_simp
 refine wpAnyL_one (i := 15) (by kernel_rfl) rfl (fun K2 hK => ?_)
 go_simp
 refine hK.out _ _ (fun h => absurd h (by decide)) ?_
 clear hK K2
 refine wpAnyL_done (by kernel_rfl) ?_ _
 generalize wd.setCell ⟨gr, 7, none⟩ (.int .i64 vk) = w3 at H3 F3 R3 ⊢
 clear H2 F2 R2 H1 F1 R1 c1 c2 c3 c4 c5
 have c1 := (uh H3).cr
 have GBC := hide (uh GB _ (uh H3))
 clear GB
 go_wp2_with fail
 refine (uh GBC).mono ?_
 rintro e w4 ⟨rfl, p4, g4⟩
 have H4 := hide (uh GO _ _ (uh H3) p4)
 have f4 := Fm.grownR (g := g) g4 (uh H3).atr
 have F4 := hide ((uh F3).trans f4)
 have R4 := hide (f4.row (uh R3) (by have := uh GL; omega) (fun e => by have := uh YL _ e; omega))
 clear p4 g4 f4 GBC GO H3 F3 R3 c1
 go_wp2_with fail
 refine (uh AD _).mono ?_
 rintro e w5 ⟨rfl, b5⟩
 have H5 := hide ((uh H4).later b5)
 have F5 := hide ((uh F4).trans (Fm.of b5))
 have R5 := hide (row_lat (uh R4) b5)
 have RCC := hide (uh RC _ (uh H5))
 clear b5 AD RC
 go_wp2_with fail
 refine (uh RCC).mono ?_
 rintro e w6 ⟨rfl, b6⟩
 have H6 := hide ((uh H5).later b6)
 have F6 := hide ((uh F5).trans (Fm.of b6))
 have R6 := hide (row_lat (uh R5) b6)
 clear b6 RCC H4 F4 R4 H5 F5 R5
 cases lb
 ·
  go_wp2
  go_ret
  exact ⟨rfl, ⟨fun h => by simp at h, uh F6⟩⟩
 ·
  have H7 := hide ((uh H6).later (below_drew (w := w6)))
  have F7 := hide ((uh F6).trans (Fm.of (below_drew (w := w6))))
  have R7 := hide (row_lat (uh R6) (below_drew (w := w6)))
  have c1 := (uh H7).cr
  have c2 := insR 7 _ (uh R7) rfl
  have c3 := uh PL _ (by trivial) (uh H7)
  obtain ⟨h8, f8, c4, c5⟩ := uh S3 _ lv (uh H7)
  have H8 := hide h8
  have F8 := hide ((uh F7).trans f8)
  clear h8 f8 S3 PL H6 F6 R6
  go_wp2_with fail
  refine wp_region_last (fun v => v = w6.drew) 11 (by kernel_rfl) ?_
  generalize w6.drew = we at H7 F7 R7 H8 F8 c1 c2 c3 c4 c5 ⊢
  refine twB 0 (.pointer (some ⟨g, 0, none⟩)) rfl (.inl rfl) ?_
  go_simp
  refine twB 1 (.pointer (some ⟨g, 0, none⟩)) rfl (.inl rfl) ?_
  go_simp
  refine twB 2 (.pointer (some ⟨g, 256, none⟩)) rfl (.inl rfl) ?_
  go_simp
  refine twB 3 (.pointer (some ⟨g, 257, none⟩)) rfl (.inl rfl) ?_
  go_simp
  refine tsA 4 (.slice (some ⟨gr, 0, none⟩) 8 rc) rfl (.inl ⟨by rfl, fun w hc => ?_⟩) (rfl) ?_
  · rw [hc]; clear hc; go_simp
  go_simp
  refine twB 5 (.pointer (some ⟨w.heap.size, 7, none⟩)) rfl (.inl rfl) ?_
  go_simp
  refine tsA 6 (.int .i64 (k : Int)) rfl (.inl ⟨by rfl, fun w hc => ?_⟩) (rfl) ?_
  · rw [hc]; clear hc; go_simp
  go_simp
  refine twB 7 (.pointer (some pp)) rfl (.inl rfl) ?_
  go_simp
  refine twB 8 (.pointer (some pp)) rfl (.inl rfl) ?_
  go_simp
  refine tsA 9 (.int .i64 lv) rfl (.inl ⟨by rfl, fun w hc => ?_⟩) (rfl) ?_
  · rw [hc]; clear hc; go_simp
  go_simp
  refine twB 10 (.pointer (some ⟨gr, k, none⟩)) rfl (.inl rfl) ?_
  go_simp
  refine wpAnyL_one (i := 11) (by kernel_rfl) rfl (fun K2 hK => ?_)
  go_simp
  refine hK.out _ _ (fun h => absurd h (by decide)) ?_
  clear hK K2
  refine wpAnyL_done (by kernel_rfl) ?_ _
  generalize we.setCell ⟨gr, k, none⟩ (.int .i64 lv) = w8 at H8 F8 ⊢
  go_wp2
  go_ret
  exact ⟨rfl, ⟨fun _ => uh H8, uh F8⟩⟩
def EmIs (B g : Nat) (y : Mv) (t t2 : Ms) (st n : Int) (ok : Bool) (w : World) : Prop :=
 Calls Tryz.prog 38 #[.pointer (some ⟨g, 0, none⟩), .int .i64 n] w fun e w' => e = .returned (.bool ok) ∧ ∃ y', (ok = true → Sm w' B g y' t2 st) ∧ Fm w w' g y y'
theorem emt_x (B g : Nat) (y : Mv) (t t2 : Ms) (st n : Int) (w : World) (h : Sm w B g y t st) (n1 : n ≠ 1) (n2 : n ≠ 2) : EmIs B g y t t2 st n false w := by
 have F0 := hide (Fm.of (g := g) (y := y) (Below.refl w.heap.size w))
 unfold EmIs
 clear h
 go_enter Tryz.func38, Tryz.ntmps38
 go_wp2
 go_ret
 exact ⟨rfl, y, fun h => Bool.noConfusion h, uh F0⟩
theorem emt_f (B g : Nat) (y : Mv) (t t2 : Ms) (st : Int) (w : World) (h : Sm w B g y t st) (hk : Dk t.d) (hl : 50 ≤ t.d.o.length) : EmIs B g y t t2 st 1 false w := by
 have F0 := hide (Fm.of (g := g) (y := y) (Below.refl w.heap.size w))
 have co := row_o h.row
 have hn : (50 : Int) ≤ y.o.n := by have := h.own.o.len; omega
 have hn2 : ¬ (y.o.n : Int) < 50 := by omega
 unfold EmIs
 generalize y.o.n = on at co hn hn2
 clear h hk
 go_enter Tryz.func38, Tryz.ntmps38
 go_wp2
 go_ret
 first | exact ⟨rfl, y, fun h => Bool.noConfusion h, uh F0⟩ | exact ⟨rfl, y, uh F0⟩
theorem emt_2e (B g : Nat) (y : Mv) (t : Ms) (st : Int) (w : World) (h : Sm w B g y t st) (hk : Dk t.d) (hl : t.d.i = []) : EmIs B g y t ((t.rg 0 65535).cs true) st 2 true w := by
 have ci := row_i h.row
 have hn : y.i.n = 0 := by have := h.own.i.len; rw [hl] at this; simp at this; omega
 rw [hn] at ci
 obtain ⟨gr, rc, er⟩ := h.regs hk.rl
 have c1 := h.rcell er
 have SC := hide (h.setR er 0 65535 (by have := hk.rl; omega))
 have c2 := (uh SC).2.2.1
 have c3 := (uh SC).2.2.2
 have H1 := hide (uh SC).1
 have F1 := hide (uh SC).2.1
 have c5 := row_c (uh H1).row
 have f5 := row_fz (uh H1).row 5
 obtain ⟨h4, f4⟩ := (uh H1).setC true
 have H4 := hide h4
 have F4 := hide ((uh F1).trans f4)
 unfold EmIs
 clear h hk hl hn er SC h4 f4 H1 F1
 go_enter Tryz.func38, Tryz.ntmps38
 go_wp2
 go_ret
 exact ⟨rfl, _, fun _ => uh H4, uh F4⟩
end Go.Proofs.YtboedaofbchdkaaGreatDoor
