/- Contracts over this seat's translation, laid together; conditions stand as hypotheses of each. -/
import Derived.Test.YtjpbjbnialehbaaGreatDoorBsB
import Derived.Test.YtjpbjbnialehbaaGreatDoorBsF
import Derived.Test.YtjpbjbnialehbaaGreatDoorBsG
import Derived.Deep.RegionHeld

namespace Go.Proofs.YtjpbjbnialehbaaGreatDoor
open Go.ChangeShapes Go.WideShapes Go.ChangeAt Go.RowKit
set_option linter.unusedVariables false
set_option maxRecDepth 8000
set_option linter.unusedSimpArgs false
/-- What a branch's question answers. -/
def GoesIs (k : Nat) (q : Ms → Bool) : Prop := ∀ (g B gr rc : Nat) (y : Mv) (t : Ms) (st : Int) (m0 : List Int) (w : World), Pz w g B gr rc y t st m0 → Calls Tryz.prog k #[.pointer (some ⟨g, 0, none⟩)] w fun e w' => e = .returned (.bool (q t)) ∧ Below w.heap.size w w' 
theorem goes_always : GoesIs 79 (fun _ => true) := by
  intro g B gr rc y t st m0 w h
  clear h
  go_enter Tryz.func79, Tryz.ntmps79
  go_wp2
  go_ret
  exact ⟨rfl, Below.refl _ _⟩
set_option maxHeartbeats 1000000 in
theorem goes_notZero : GoesIs 80 (fun t => !t.z) := by
  intro g B gr rc y t st m0 w h
  obtain ⟨tn, tz, tv, -, -⟩ := h.flz
  simp only [tz]
  have c3 : w.cell? ⟨g, 259, none⟩ = some (.bool y.z) := h.cell 3 _ rfl
  generalize y.z = b3 at c3 ⊢
  clear h
  go_enter Tryz.func80, Tryz.ntmps80
  go_wp2
  go_ret
  exact ⟨rfl, Below.refl _ _⟩
set_option maxHeartbeats 1000000 in
theorem goes_zero : GoesIs 81 (fun t => t.z) := by
  intro g B gr rc y t st m0 w h
  obtain ⟨tn, tz, tv, -, -⟩ := h.flz
  simp only [tz]
  have c3 : w.cell? ⟨g, 259, none⟩ = some (.bool y.z) := h.cell 3 _ rfl
  generalize y.z = b3 at c3 ⊢
  clear h
  go_enter Tryz.func81, Tryz.ntmps81
  go_wp2
  go_ret
  exact ⟨rfl, Below.refl _ _⟩
set_option maxHeartbeats 1000000 in
theorem goes_notLess : GoesIs 82 (fun t => t.n == t.v) := by
  intro g B gr rc y t st m0 w h
  obtain ⟨tn, tz, tv, -, -⟩ := h.flz
  simp only [tn, tv]
  have c2 : w.cell? ⟨g, 258, none⟩ = some (.bool y.n) := h.cell 2 _ rfl
  have c4 : w.cell? ⟨g, 260, none⟩ = some (.bool y.v) := h.cell 4 _ rfl
  generalize y.n = b2 at c2 ⊢
  generalize y.v = b4 at c4 ⊢
  clear h
  go_enter Tryz.func82, Tryz.ntmps82
  go_wp2_with fail
  go_region_held (fun v => v.cell? ⟨g, 258, none⟩ = some (.bool b2) ∧ v.cell? ⟨g, 260, none⟩ = some (.bool b4)) (go_keep) (fail)
  go_wp2
  go_ret
  exact ⟨by cases b2 <;> cases b4 <;> rfl, below_drew⟩
set_option maxHeartbeats 1000000 in
theorem goes_less : GoesIs 83 (fun t => t.n != t.v) := by
  intro g B gr rc y t st m0 w h
  obtain ⟨tn, tz, tv, -, -⟩ := h.flz
  simp only [tn, tv]
  have c2 : w.cell? ⟨g, 258, none⟩ = some (.bool y.n) := h.cell 2 _ rfl
  have c4 : w.cell? ⟨g, 260, none⟩ = some (.bool y.v) := h.cell 4 _ rfl
  generalize y.n = b2 at c2 ⊢
  generalize y.v = b4 at c4 ⊢
  clear h
  go_enter Tryz.func83, Tryz.ntmps83
  go_wp2_with fail
  go_region_held (fun v => v.cell? ⟨g, 258, none⟩ = some (.bool b2) ∧ v.cell? ⟨g, 260, none⟩ = some (.bool b4)) (go_keep) (fail)
  go_wp2
  go_ret
  exact ⟨by cases b2 <;> cases b4 <;> rfl, below_drew⟩
set_option maxHeartbeats 4000000 in
theorem br_goes (f fb g B gr rc op sm sr dm dr : Nat) (sx dx n : Int) (y : Mv) (t : Ms) (st : Int) (m0 : List Int) (w : World) (q : Ms → Bool) (G : GoesIs f q) (hcf : ∀ vs w, (callFunc f vs).run Tryz.prog w = .ok (.enter f vs) w) (h : Pz w g B gr rc y t st m0) (hk : Dk t.d) (hn : -1000 ≤ n ∧ n ≤ 1000) (hb : Bx w fb f 93) :
    Calls Tryz.prog 116 #[.pointer (some ⟨g, 0, none⟩), .agg #[.int .i64 (op : Int), .int .i64 (sm : Int), .int .i64 (sr : Int), .int .i64 sx, .int .i64 (dm : Int), .int .i64 (dr : Int), .int .i64 dx, .int .i64 n], .pointer (some ⟨fb, 0, none⟩)] w fun e w' => e = .returned (.bool true) ∧ Pz w' g B gr rc y (if q t = true then t.rg 7 ((nAt t.d.r 7 + 2 * n) % 65536) else t) st m0 ∧ Fm w w' g y y := by
  have GL := hide h.gl
  have YL := hide (fun b (hb : y.at b) => h.yl hb)
  have H1 := hide (h.later (below_new w (Obj.cells #[.int .i64 (op : Int), .int .i64 (sm : Int), .int .i64 (sr : Int), .int .i64 sx, .int .i64 (dm : Int), .int .i64 (dr : Int), .int .i64 dx, .int .i64 n] 69)))
  have F1 := hide (Fm.of (g := g) (y := y) (below_new w (Obj.cells #[.int .i64 (op : Int), .int .i64 (sm : Int), .int .i64 (sr : Int), .int .i64 sx, .int .i64 (dm : Int), .int .i64 (dr : Int), .int .i64 dx, .int .i64 n] 69)))
  have R1 := hide (heap_alloc_last w (Obj.cells #[.int .i64 (op : Int), .int .i64 (sm : Int), .int .i64 (sr : Int), .int .i64 sx, .int .i64 (dm : Int), .int .i64 (dr : Int), .int .i64 dx, .int .i64 n] 69))
  have CF : (w.alloc (Obj.cells #[.int .i64 (op : Int), .int .i64 (sm : Int), .int .i64 (sr : Int), .int .i64 sx, .int .i64 (dm : Int), .int .i64 (dr : Int), .int .i64 dx, .int .i64 n] 69)).cell? ⟨fb, 0, none⟩ = some (.func (.func f) #[] #[]) := (cell_of_row _ fb 0 _ 93 _ (hb.later (below_new w (Obj.cells #[.int .i64 (op : Int), .int .i64 (sm : Int), .int .i64 (sr : Int), .int .i64 sx, .int .i64 (dm : Int), .int .i64 (dr : Int), .int .i64 dx, .int .i64 n] 69)))).trans rfl
  have GO := hide (G g B gr rc y t st m0 _ (unhide H1))
  have DK := hide hk
  obtain ⟨n0, n1⟩ := hn
  obtain ⟨v0, v1⟩ := hk.rw _ (nAt_mem (show 7 < t.d.r.length by have := hk.rl; omega))
  generalize q t = go at GO ⊢
  clear h hk hb
  cases go
  · go_enter Tryz.func116, Tryz.ntmps116
    go_wp2_with fail
    refine (unhide GO).mono ?_
    rintro e w2 ⟨rfl, b2⟩
    have H2 := hide ((unhide H1).later b2)
    have F2 := hide ((unhide F1).trans (Fm.of b2))
    clear b2
    go_wp2
    go_ret
    exact ⟨rfl, unhide H2, unhide F2⟩
  · have WR := hide (fun v => wrapI_any (nAt t.d.r 7 + 2 * n) v)
    have SR := hide (fun v (p : Pz v g B gr rc y t st m0) => p.setR 7 ((nAt t.d.r 7 + 2 * n) % 65536) (by omega))
    simp only [if_true]
    generalize (nAt t.d.r 7 + 2 * n) % 65536 = x at WR SR ⊢
    generalize t.rg 7 x = t2 at SR ⊢
    generalize nAt t.d.r 7 = v7 at WR SR v0 v1
    have hw : IntKind.i64.wrap (v7 + 2 * n) = v7 + 2 * n := by rw [IntKind.wrap_i64]; omega
    have hw2 : IntKind.i64.wrap (2 * n) = 2 * n := by rw [IntKind.wrap_i64]; omega
    go_enter Tryz.func116, Tryz.ntmps116
    go_wp2_with fail
    refine (unhide GO).mono ?_
    rintro e w2 ⟨rfl, b2⟩
    have H2 := hide ((unhide H1).later b2)
    have F2 := hide ((unhide F1).trans (Fm.of b2))
    have R2 := row_lat (unhide R1) b2
    have H3 := hide ((unhide H2).later (below_drew (w := w2)))
    have F3 := hide ((unhide F2).trans (Fm.of (below_drew (w := w2))))
    have c1 := (unhide H3).cr
    have c2 := insR 7 _ (row_lat R2 (below_drew (w := w2))) rfl
    obtain ⟨p4, f4, c3, c4⟩ := unhide SR _ (unhide H3)
    have H4 := hide p4
    have F4 := hide ((unhide F3).trans f4)
    clear b2 R2 p4 f4 CF GO SR H2 F2 H3 F3
    go_wp2_with fail
    refine wp_region_last (fun v => v = w2.drew) 18 (by kernel_rfl) ?_
    generalize w2.drew = wd at H4 F4 c1 c2 c3 c4 ⊢
    refine wpAnyL_takeW (i := 0) (v := .pointer (some ⟨g, 0, none⟩)) rfl (by kernel_rfl) (by kernel_rfl) (by kernel_rfl) (by kernel_rfl) (fun _ _ _ h => h) (Or.inl ⟨by rfl, fun w hc => ?_⟩) (.inl rfl) ?_
    · clear hc; go_simp
    go_simp
    refine wpAnyL_takeW (i := 1) (v := .pointer (some ⟨g, 0, none⟩)) rfl (by kernel_rfl) (by kernel_rfl) (by kernel_rfl) (by kernel_rfl) (fun _ _ _ h => h) (Or.inl ⟨by rfl, fun w hc => ?_⟩) (.inl rfl) ?_
    · clear hc; go_simp
    go_simp
    refine wpAnyL_takeW (i := 2) (v := .pointer (some ⟨g, 256, none⟩)) rfl (by kernel_rfl) (by kernel_rfl) (by kernel_rfl) (by kernel_rfl) (fun _ _ _ h => h) (Or.inl ⟨by rfl, fun w hc => ?_⟩) (.inl rfl) ?_
    · clear hc; go_simp
    go_simp
    refine wpAnyL_takeW (i := 3) (v := .pointer (some ⟨g, 257, none⟩)) rfl (by kernel_rfl) (by kernel_rfl) (by kernel_rfl) (by kernel_rfl) (fun _ _ _ h => h) (Or.inl ⟨by rfl, fun w hc => ?_⟩) (.inl rfl) ?_
    · clear hc; go_simp
    go_simp
    refine wpAnyL_takeS (i := 4) (v := .slice (some ⟨gr, 0, none⟩) 8 rc) rfl (by kernel_rfl) (by kernel_rfl) (by kernel_rfl) (by kernel_rfl) (by kernel_rfl) (fun _ _ _ h => h) (Or.inl ⟨by rfl, fun w hc => ?_⟩) (rfl) ?_
    · rw [hc]; clear hc; go_simp
    go_simp
    refine wpAnyL_takeW (i := 5) (v := .pointer (some ⟨g, 0, none⟩)) rfl (by kernel_rfl) (by kernel_rfl) (by kernel_rfl) (by kernel_rfl) (fun _ _ _ h => h) (Or.inl ⟨by rfl, fun w hc => ?_⟩) (.inl rfl) ?_
    · clear hc; go_simp
    go_simp
    refine wpAnyL_takeW (i := 6) (v := .pointer (some ⟨g, 0, none⟩)) rfl (by kernel_rfl) (by kernel_rfl) (by kernel_rfl) (by kernel_rfl) (fun _ _ _ h => h) (Or.inl ⟨by rfl, fun w hc => ?_⟩) (.inl rfl) ?_
    · clear hc; go_simp
    go_simp
    refine wpAnyL_takeW (i := 7) (v := .pointer (some ⟨g, 256, none⟩)) rfl (by kernel_rfl) (by kernel_rfl) (by kernel_rfl) (by kernel_rfl) (fun _ _ _ h => h) (Or.inl ⟨by rfl, fun w hc => ?_⟩) (.inl rfl) ?_
    · clear hc; go_simp
    go_simp
    refine wpAnyL_takeW (i := 8) (v := .pointer (some ⟨g, 257, none⟩)) rfl (by kernel_rfl) (by kernel_rfl) (by kernel_rfl) (by kernel_rfl) (fun _ _ _ h => h) (Or.inl ⟨by rfl, fun w hc => ?_⟩) (.inl rfl) ?_
    · clear hc; go_simp
    go_simp
    refine wpAnyL_takeS (i := 9) (v := .slice (some ⟨gr, 0, none⟩) 8 rc) rfl (by kernel_rfl) (by kernel_rfl) (by kernel_rfl) (by kernel_rfl) (by kernel_rfl) (fun _ _ _ h => h) (Or.inl ⟨by rfl, fun w hc => ?_⟩) (rfl) ?_
    · rw [hc]; clear hc; go_simp
    go_simp
    refine wpAnyL_takeW (i := 10) (v := .pointer (some ⟨gr, 7, none⟩)) rfl (by kernel_rfl) (by kernel_rfl) (by kernel_rfl) (by kernel_rfl) (fun _ _ _ h => h) (Or.inl ⟨by rfl, fun w hc => ?_⟩) (.inl rfl) ?_
    · clear hc; go_simp
    go_simp
    refine wpAnyL_takeS (i := 11) (v := .int .i64 v7) rfl (by kernel_rfl) (by kernel_rfl) (by kernel_rfl) (by kernel_rfl) (by kernel_rfl) (fun _ _ _ h => h) (Or.inl ⟨by rfl, fun w hc => ?_⟩) (rfl) ?_
    · rw [hc]; clear hc; go_simp
    go_simp
    refine wpAnyL_takeW (i := 12) (v := .pointer (some ⟨w.heap.size, 7, none⟩)) rfl (by kernel_rfl) (by kernel_rfl) (by kernel_rfl) (by kernel_rfl) (fun _ _ _ h => h) (Or.inl ⟨by rfl, fun w hc => ?_⟩) (.inl rfl) ?_
    · clear hc; go_simp
    go_simp
    refine wpAnyL_takeS (i := 13) (v := .int .i64 n) rfl (by kernel_rfl) (by kernel_rfl) (by kernel_rfl) (by kernel_rfl) (by kernel_rfl) (fun _ _ _ h => h) (Or.inl ⟨by rfl, fun w hc => ?_⟩) (rfl) ?_
    · rw [hc]; clear hc; go_simp
    go_simp
    refine wpAnyL_takeW (i := 14) (v := .int .i64 (2 * n)) rfl (by kernel_rfl) (by kernel_rfl) (by kernel_rfl) (by kernel_rfl) (fun _ _ _ h => h) (Or.inl ⟨by rfl, fun w hc => ?_⟩) (.inl rfl) ?_
    · clear hc; go_simp
    go_simp
    refine wpAnyL_takeW (i := 15) (v := .int .i64 (v7 + 2 * n)) rfl (by kernel_rfl) (by kernel_rfl) (by kernel_rfl) (by kernel_rfl) (fun _ _ _ h => h) (Or.inl ⟨by rfl, fun w hc => ?_⟩) (.inl rfl) ?_
    · clear hc; go_simp
    go_simp
    refine wpAnyL_one (i := 16) (by kernel_rfl) rfl (fun K2 hK => ?_)
    go_simp
    refine (unhide WR _).mono ?_
    rintro e w9 ⟨rfl, hw9⟩
    rw [hw9]
    clear hw9 w9
    refine hK.out _ _ (fun _ => rfl) ?_
    clear hK K2
    refine wpAnyL_takeW (i := 17) (v := .pointer (some ⟨gr, 7, none⟩)) rfl (by kernel_rfl) (by kernel_rfl) (by kernel_rfl) (by kernel_rfl) (fun _ _ _ h => h) (Or.inl ⟨by rfl, fun w hc => ?_⟩) (.inl rfl) ?_
    · clear hc; go_simp
    go_simp
    refine wpAnyL_one (i := 18) (by kernel_rfl) rfl (fun K2 hK => ?_)
    go_simp
    refine hK.out _ _ (fun h => absurd h (by decide)) ?_
    clear hK K2
    refine wpAnyL_done (by kernel_rfl) ?_ _
    go_wp2
    go_ret
    exact ⟨rfl, unhide H4, unhide F4⟩
end Go.Proofs.YtjpbjbnialehbaaGreatDoor

namespace Go.Proofs.YtjpbjbnialehbaaGreatDoor
open Go.ChangeShapes Go.WideShapes Go.ChangeAt Go.RowKit
set_option linter.unusedVariables false
set_option maxRecDepth 8000
set_option linter.unusedSimpArgs false
theorem Ms.rg_same (t : Ms) (k : Nat) (v : Int) (h : k < t.d.r.length) : nAt (t.rg k v).d.r k = v := by
  unfold Ms.rg Md.reg nAt
  simp [List.getElem?_set, h]
theorem dk_stM {t : Ms} (h : Dk t.d) (r p n : Int) : Dk (t.st r p n).d := by
  unfold Ms.st
  exact dk_stS h r p n
theorem put7_st (B g : Nat) (y : Mv) (t : Ms) (st r a n : Int) (w : World) (h : Sm w B g y t st) (hk : Dk t.d) :
    Calls Tryz.prog 124 #[.pointer (some ⟨g, 0, none⟩), .agg #[.int .i64 r, .int .i64 a], .int .i64 n] w fun e w' => e = .returned (.bool (t.d.ldB r a)) ∧ ∃ y', Sm w' B g y' (t.st r a n) st ∧ Fm w w' g y y' := by
  unfold Ms.st
  exact put7_any B g y t st r a n w h hk
def Ms.go1 (t : Ms) : Ms := t.rg 6 ((nAt t.d.r 6 - 2) % 65536)
def Ms.go2 (t : Ms) (k : Nat) : Ms := t.go1.st (-1) ((nAt t.d.r 6 - 2) % 65536) (nAt t.go1.d.r k)
def Ms.go3 (t : Ms) (k : Nat) : Ms := (t.go2 k).rg k (nAt (t.go2 k).d.r 7)
def Ms.call (t : Ms) (k : Nat) (qa : Int) : Ms := (t.go3 k).rg 7 qa
def GoIs (B g : Nat) (y : Mv) (t t2 : Ms) (st qr qa n : Int) (ok : Bool) (w : World) : Prop :=
  Calls Tryz.prog 92 #[.pointer (some ⟨g, 0, none⟩), .agg #[.int .i64 qr, .int .i64 qa], .int .i64 n] w fun e w' => e = .returned (.bool ok) ∧ ∃ y', (ok = true → Sm w' B g y' t2 st) ∧ Fm w w' g y y'
theorem go_no (B g : Nat) (y : Mv) (t t2 : Ms) (st qr qa n : Int) (w : World) (h : Sm w B g y t st) (hq : qr ≠ -1) : GoIs B g y t t2 st qr qa n false w := by
  have b0 := row2S_0 (heap_alloc_last w (Obj.cells #[.int .i64 qr, .int .i64 qa] 97))
  have F0 := hide (Fm.of (g := g) (y := y) (below_new w (Obj.cells #[.int .i64 qr, .int .i64 qa] 97)))
  unfold GoIs
  clear h
  go_enter Tryz.func92, Tryz.ntmps92
  go_wp2
  go_ret
  exact ⟨rfl, y, fun h => Bool.noConfusion h, unhide F0⟩
set_option maxHeartbeats 4000000 in
theorem go_j (B g : Nat) (y : Mv) (t : Ms) (st qa : Int) (w : World) (h : Sm w B g y t st) (hk : Dk t.d) : GoIs B g y t (t.rg 7 qa) st (-1) qa (-1) true w := by
  have GL := hide (show g < w.heap.size from row_lt h.row)
  have YQ := hide (show ¬ y.at w.heap.size from fun e => by have := (h.own.lo e).2; omega)
  have H0 := hide (h.later (below_new w (Obj.cells #[.int .i64 (-1), .int .i64 qa] 97)))
  have F0 := hide (Fm.of (g := g) (y := y) (below_new w (Obj.cells #[.int .i64 (-1), .int .i64 qa] 97)))
  have R0 := hide (heap_alloc_last w (Obj.cells #[.int .i64 (-1), .int .i64 qa] 97))
  have b0 := row2S_0 (heap_alloc_last w (Obj.cells #[.int .i64 (-1), .int .i64 qa] 97))
  have H8 := hide hk.rl
  obtain ⟨gr, rc, er⟩ := h.regs hk.rl
  have ER := hide er
  unfold GoIs
  clear h hk er
  go_enter Tryz.func92, Tryz.ntmps92
  have HE := hide ((unhide H0).later (below_drew (w := (w.alloc (Obj.cells #[.int .i64 (-1), .int .i64 qa] 97)))))
  have FE := hide ((unhide F0).trans (Fm.of (below_drew (w := (w.alloc (Obj.cells #[.int .i64 (-1), .int .i64 qa] 97))))))
  have RE := hide (row_lat (unhide R0) (below_drew (w := (w.alloc (Obj.cells #[.int .i64 (-1), .int .i64 qa] 97)))))
  have c1 := (unhide HE).rcell (unhide ER)
  have c2 := row2S_1 (unhide RE)
  obtain ⟨h9, f9, c3, c4⟩ := (unhide HE).setR (unhide ER) 7 qa (by have := unhide H8; omega)
  have H9 := hide h9
  have F9 := hide ((unhide FE).trans f9)
  clear h9 f9
  go_wp2_with fail
  refine wp_region_last (fun v => v = (w.alloc (Obj.cells #[.int .i64 (-1), .int .i64 qa] 97)).drew) 7 (by kernel_rfl) ?_
  generalize (w.alloc (Obj.cells #[.int .i64 (-1), .int .i64 qa] 97)).drew = we at HE FE RE H9 F9 c1 c2 c3 c4 ⊢
  refine tkW (i := 0) (v := .pointer (some ⟨g, 0, none⟩)) rfl (by kernel_rfl) (fun _ _ _ h => h) (.inl ⟨by rfl, fun w hc => ?_⟩) (.inl rfl) ?_
  · clear hc; go_simp
  go_simp
  refine tkW (i := 1) (v := .pointer (some ⟨g, 0, none⟩)) rfl (by kernel_rfl) (fun _ _ _ h => h) (.inl ⟨by rfl, fun w hc => ?_⟩) (.inl rfl) ?_
  · clear hc; go_simp
  go_simp
  refine tkW (i := 2) (v := .pointer (some ⟨g, 1, none⟩)) rfl (by kernel_rfl) (fun _ _ _ h => h) (.inl ⟨by rfl, fun w hc => ?_⟩) (.inl rfl) ?_
  · clear hc; go_simp
  go_simp
  refine tkT (i := 3) (v := .slice (some ⟨gr, 0, none⟩) 8 rc) rfl (by kernel_rfl) (fun _ _ _ h => h) (.inl ⟨by rfl, fun w hc => ?_⟩) (rfl) ?_
  · rw [hc]; clear hc; go_simp
  go_simp
  refine tkW (i := 4) (v := .pointer (some ⟨w.heap.size, 1, none⟩)) rfl (by kernel_rfl) (fun _ _ _ h => h) (.inl ⟨by rfl, fun w hc => ?_⟩) (.inl rfl) ?_
  · clear hc; go_simp
  go_simp
  refine tkT (i := 5) (v := .int .i64 qa) rfl (by kernel_rfl) (fun _ _ _ h => h) (.inl ⟨by rfl, fun w hc => ?_⟩) (rfl) ?_
  · rw [hc]; clear hc; go_simp
  go_simp
  refine tkW (i := 6) (v := .pointer (some ⟨gr, 7, none⟩)) rfl (by kernel_rfl) (fun _ _ _ h => h) (.inl ⟨by rfl, fun w hc => ?_⟩) (.inl rfl) ?_
  · clear hc; go_simp
  go_simp
  refine wpAnyL_one (i := 7) (by kernel_rfl) rfl (fun K2 hK => ?_)
  go_simp
  refine hK.out _ _ (fun h => absurd h (by decide)) ?_
  clear hK K2
  refine wpAnyL_done (by kernel_rfl) ?_ _
  generalize we.setCell ⟨gr, 7, none⟩ (.int .i64 qa) = w9 at H9 F9 ⊢
  go_wp2
  go_ret
  exact ⟨rfl, _, fun _ => unhide H9, unhide F9⟩
set_option maxHeartbeats 8000000 in
theorem go_any (B g k : Nat) (y : Mv) (t : Ms) (st qa : Int) (w : World) (h : Sm w B g y t st) (hk : Dk t.d) (hr : k < 8) : GoIs B g y t (t.call k qa) st (-1) qa k (t.go1.d.ldB (-1) ((nAt t.d.r 6 - 2) % 65536)) w := by
  have GL := hide (show g < w.heap.size from row_lt h.row)
  have YQ := hide (show ¬ y.at w.heap.size from fun e => by have := (h.own.lo e).2; omega)
  have H0 := hide (h.later (below_new w (Obj.cells #[.int .i64 (-1), .int .i64 qa] 97)))
  have F0 := hide (Fm.of (g := g) (y := y) (below_new w (Obj.cells #[.int .i64 (-1), .int .i64 qa] 97)))
  have R0 := hide (heap_alloc_last w (Obj.cells #[.int .i64 (-1), .int .i64 qa] 97))
  have b0 := row2S_0 (heap_alloc_last w (Obj.cells #[.int .i64 (-1), .int .i64 qa] 97))
  have H8 := hide hk.rl
  obtain ⟨gr, rc, er⟩ := h.regs hk.rl
  have ER := hide er
  have kr : (k : Int) < 8 := by omega
  have kn : ¬ (8 : Int) ≤ (k : Int) := by omega
  have k0 : (0 : Int) ≤ (k : Int) := by omega
  obtain ⟨s0, s1⟩ := hk.rw _ (nAt_mem (show 6 < t.d.r.length by have := hk.rl; omega))
  have D1 := hide (show Dk t.go1.d from hk.rgk 6 ((nAt t.d.r 6 - 2) % 65536) (by omega) (by omega))
  have E6 := hide (show nAt t.go1.d.r 6 = (nAt t.d.r 6 - 2) % 65536 from t.rg_same 6 ((nAt t.d.r 6 - 2) % 65536) (by have := hk.rl; omega))
  have WR := hide (fun v => wrapS_any (nAt t.d.r 6 - 2) v)
  have HW := hide (show IntKind.i64.wrap (nAt t.d.r 6 - 2) = nAt t.d.r 6 - 2 by rw [IntKind.wrap_i64]; omega)
  have SR := hide (show ∀ v, Sm v B g y t st → v.cell? ⟨g, 1, none⟩ = some (.slice (some ⟨gr, 0, none⟩) 8 rc) ∧ Sm (v.setCell ⟨gr, 6, none⟩ (.int .i64 ((nAt t.d.r 6 - 2) % 65536))) B g y t.go1 st ∧ Fm v (v.setCell ⟨gr, 6, none⟩ (.int .i64 ((nAt t.d.r 6 - 2) % 65536))) g y y ∧ v.cell? ⟨gr, 6, none⟩ = some (.int .i64 (nAt t.d.r 6)) ∧ v.frozen? ⟨gr, 6, none⟩ = false from fun v p => And.intro (p.rcell er) (p.setR er 6 ((nAt t.d.r 6 - 2) % 65536) (by have := hk.rl; omega)))
  have D2 := hide (show Dk (t.go2 k).d from dk_stM (unhide D1) _ _ _)
  have PT := hide (fun v (p : Sm v B g y t.go1 st) => put7_st B g y t.go1 st (-1) ((nAt t.d.r 6 - 2) % 65536) (nAt t.go1.d.r k) v p (unhide D1))
  rw [← show t.go2 k = t.go1.st (-1) ((nAt t.d.r 6 - 2) % 65536) (nAt t.go1.d.r k) from rfl] at PT
  have AR := hide (fun v (p : Sm v B g y t.go1 st) => And.intro (p.rcell er) (And.intro ((p.setR er 6 0 (by have := (unhide D1).rl; omega)).2.2.1) ((p.setR er k 0 (by have := (unhide D1).rl; omega)).2.2.1)))
  rw [unhide E6] at AR
  unfold GoIs Ms.call Ms.go3
  generalize t.go2 k = t2 at PT D2 ⊢
  generalize t.go1.d.ldB (-1) ((nAt t.d.r 6 - 2) % 65536) = lb at PT ⊢
  generalize nAt t.go1.d.r k = vk at PT AR
  generalize t.go1 = t1 at PT AR SR D1 E6
  generalize (nAt t.d.r 6 - 2) % 65536 = a6 at PT AR SR WR
  generalize nAt t.d.r 6 = v6 at SR WR HW
  have L2 := hide (unhide D2).rl
  clear h hk er s0 s1 D1 D2 E6
  have HD := hide ((unhide H0).later (below_drew (w := (w.alloc (Obj.cells #[.int .i64 (-1), .int .i64 qa] 97)))))
  have FD := hide ((unhide F0).trans (Fm.of (below_drew (w := (w.alloc (Obj.cells #[.int .i64 (-1), .int .i64 qa] 97))))))
  have RD := hide (row_lat (unhide R0) (below_drew (w := (w.alloc (Obj.cells #[.int .i64 (-1), .int .i64 qa] 97)))))
  obtain ⟨c1, h1, f1, c3, c4⟩ := unhide SR _ (unhide HD)
  have H1 := hide h1
  have F1 := hide ((unhide FD).trans f1)
  have R1 := hide (f1.row (unhide RD) (by have := unhide GL; omega) (unhide YQ))
  clear h1 f1 SR
  go_enter Tryz.func92, Tryz.ntmps92
  go_wp2_with fail
  refine wp_region_last (fun v => v = (w.alloc (Obj.cells #[.int .i64 (-1), .int .i64 qa] 97)).drew) 13 (by kernel_rfl) ?_
  generalize (w.alloc (Obj.cells #[.int .i64 (-1), .int .i64 qa] 97)).drew = wd at HD FD RD H1 F1 R1 c1 c3 c4 ⊢
  refine tkW (i := 0) (v := .pointer (some ⟨g, 0, none⟩)) rfl (by kernel_rfl) (fun _ _ _ h => h) (.inl ⟨by rfl, fun w hc => ?_⟩) (.inl rfl) ?_
  · clear hc; go_simp
  go_simp
  refine tkW (i := 1) (v := .pointer (some ⟨g, 0, none⟩)) rfl (by kernel_rfl) (fun _ _ _ h => h) (.inl ⟨by rfl, fun w hc => ?_⟩) (.inl rfl) ?_
  · clear hc; go_simp
  go_simp
  refine tkW (i := 2) (v := .pointer (some ⟨g, 1, none⟩)) rfl (by kernel_rfl) (fun _ _ _ h => h) (.inl ⟨by rfl, fun w hc => ?_⟩) (.inl rfl) ?_
  · clear hc; go_simp
  go_simp
  refine tkT (i := 3) (v := .slice (some ⟨gr, 0, none⟩) 8 rc) rfl (by kernel_rfl) (fun _ _ _ h => h) (.inl ⟨by rfl, fun w hc => ?_⟩) (rfl) ?_
  · rw [hc]; clear hc; go_simp
  go_simp
  refine tkW (i := 4) (v := .pointer (some ⟨g, 0, none⟩)) rfl (by kernel_rfl) (fun _ _ _ h => h) (.inl ⟨by rfl, fun w hc => ?_⟩) (.inl rfl) ?_
  · clear hc; go_simp
  go_simp
  refine tkW (i := 5) (v := .pointer (some ⟨g, 0, none⟩)) rfl (by kernel_rfl) (fun _ _ _ h => h) (.inl ⟨by rfl, fun w hc => ?_⟩) (.inl rfl) ?_
  · clear hc; go_simp
  go_simp
  refine tkW (i := 6) (v := .pointer (some ⟨g, 1, none⟩)) rfl (by kernel_rfl) (fun _ _ _ h => h) (.inl ⟨by rfl, fun w hc => ?_⟩) (.inl rfl) ?_
  · clear hc; go_simp
  go_simp
  refine tkT (i := 7) (v := .slice (some ⟨gr, 0, none⟩) 8 rc) rfl (by kernel_rfl) (fun _ _ _ h => h) (.inl ⟨by rfl, fun w hc => ?_⟩) (rfl) ?_
  · rw [hc]; clear hc; go_simp
  go_simp
  refine tkW (i := 8) (v := .pointer (some ⟨gr, 6, none⟩)) rfl (by kernel_rfl) (fun _ _ _ h => h) (.inl ⟨by rfl, fun w hc => ?_⟩) (.inl rfl) ?_
  · clear hc; go_simp
  go_simp
  refine tkT (i := 9) (v := .int .i64 v6) rfl (by kernel_rfl) (fun _ _ _ h => h) (.inl ⟨by rfl, fun w hc => ?_⟩) (rfl) ?_
  · rw [hc]; clear hc; go_simp
  go_simp
  refine tkW (i := 10) (v := .int .i64 (v6 - 2)) rfl (by kernel_rfl) (fun _ _ _ h => h) (.inl ⟨by rfl, fun w hc => ?_⟩) (.inl rfl) ?_
  · clear hc; have hw := unhide HW; go_simp
  go_simp
  refine wpAnyL_one (i := 11) (by kernel_rfl) rfl (fun K2 hK => ?_)
  go_simp
  refine (unhide WR _).mono ?_
  rintro e w9 ⟨rfl, hw9⟩
  rw [hw9]
  clear hw9 w9
  refine hK.out _ _ (fun _ => rfl) ?_
  clear hK K2
  refine tkW (i := 12) (v := .pointer (some ⟨gr, 6, none⟩)) rfl (by kernel_rfl) (fun _ _ _ h => h) (.inl ⟨by rfl, fun w hc => ?_⟩) (.inl rfl) ?_
  · clear hc; go_simp
  go_simp
  refine wpAnyL_one (i := 13) (by kernel_rfl) rfl (fun K2 hK => ?_)
  go_simp
  refine hK.out _ _ (fun h => absurd h (by decide)) ?_
  clear hK K2
  refine wpAnyL_done (by kernel_rfl) ?_ _
  generalize wd.setCell ⟨gr, 6, none⟩ (.int .i64 a6) = w2 at H1 F1 R1 ⊢
  clear HD FD RD c1 c3 c4 WR HW b0
  have H2 := hide ((unhide H1).later (below_drew (w := w2)))
  have F2 := hide ((unhide F1).trans (Fm.of (below_drew (w := w2))))
  have R2 := hide (row_lat (unhide R1) (below_drew (w := w2)))
  obtain ⟨c1, c2, c3⟩ := unhide AR _ (unhide H2)
  have PC := hide (unhide PT _ (unhide H2))
  clear H1 F1 R1 AR PT
  go_wp2_with fail
  refine wp_region_last (fun v => v = w2.drew) 15 (by kernel_rfl) ?_
  generalize w2.drew = we at H2 F2 R2 c1 c2 c3 PC ⊢
  refine tkW (i := 0) (v := .pointer (some ⟨g, 0, none⟩)) rfl (by kernel_rfl) (fun _ _ _ h => h) (.inl ⟨by rfl, fun w hc => ?_⟩) (.inl rfl) ?_
  · clear hc; go_simp
  go_simp
  refine tkW (i := 1) (v := .pointer (some ⟨g, 0, none⟩)) rfl (by kernel_rfl) (fun _ _ _ h => h) (.inl ⟨by rfl, fun w hc => ?_⟩) (.inl rfl) ?_
  · clear hc; go_simp
  go_simp
  refine tkW (i := 2) (v := .pointer (some ⟨g, 0, none⟩)) rfl (by kernel_rfl) (fun _ _ _ h => h) (.inl ⟨by rfl, fun w hc => ?_⟩) (.inl rfl) ?_
  · clear hc; go_simp
  go_simp
  refine tkW (i := 3) (v := .pointer (some ⟨g, 1, none⟩)) rfl (by kernel_rfl) (fun _ _ _ h => h) (.inl ⟨by rfl, fun w hc => ?_⟩) (.inl rfl) ?_
  · clear hc; go_simp
  go_simp
  refine tkT (i := 4) (v := .slice (some ⟨gr, 0, none⟩) 8 rc) rfl (by kernel_rfl) (fun _ _ _ h => h) (.inl ⟨by rfl, fun w hc => ?_⟩) (rfl) ?_
  · rw [hc]; clear hc; go_simp
  go_simp
  refine tkW (i := 5) (v := .pointer (some ⟨gr, 6, none⟩)) rfl (by kernel_rfl) (fun _ _ _ h => h) (.inl ⟨by rfl, fun w hc => ?_⟩) (.inl rfl) ?_
  · clear hc; go_simp
  go_simp
  refine tkT (i := 6) (v := .int .i64 a6) rfl (by kernel_rfl) (fun _ _ _ h => h) (.inl ⟨by rfl, fun w hc => ?_⟩) (rfl) ?_
  · rw [hc]; clear hc; go_simp
  go_simp
  refine tkW (i := 7) (v := .agg #[.int .i64 (-1), .int .i64 a6]) rfl (by kernel_rfl) (fun _ _ _ h => h) (.inl ⟨by rfl, fun w hc => ?_⟩) (.inl rfl) ?_
  · clear hc; go_simp
  go_simp
  refine tkW (i := 8) (v := .pointer (some ⟨g, 0, none⟩)) rfl (by kernel_rfl) (fun _ _ _ h => h) (.inl ⟨by rfl, fun w hc => ?_⟩) (.inl rfl) ?_
  · clear hc; go_simp
  go_simp
  refine tkW (i := 9) (v := .pointer (some ⟨g, 0, none⟩)) rfl (by kernel_rfl) (fun _ _ _ h => h) (.inl ⟨by rfl, fun w hc => ?_⟩) (.inl rfl) ?_
  · clear hc; go_simp
  go_simp
  refine tkW (i := 10) (v := .pointer (some ⟨g, 1, none⟩)) rfl (by kernel_rfl) (fun _ _ _ h => h) (.inl ⟨by rfl, fun w hc => ?_⟩) (.inl rfl) ?_
  · clear hc; go_simp
  go_simp
  refine tkT (i := 11) (v := .slice (some ⟨gr, 0, none⟩) 8 rc) rfl (by kernel_rfl) (fun _ _ _ h => h) (.inl ⟨by rfl, fun w hc => ?_⟩) (rfl) ?_
  · rw [hc]; clear hc; go_simp
  go_simp
  refine tkW (i := 12) (v := .int .i64 (k : Int)) rfl (by kernel_rfl) (fun _ _ _ h => h) (.inl ⟨by rfl, fun w hc => ?_⟩) (.inl rfl) ?_
  · clear hc; go_simp
  go_simp
  refine tkW (i := 13) (v := .pointer (some ⟨gr, k, none⟩)) rfl (by kernel_rfl) (fun _ _ _ h => h) (.inl ⟨by rfl, fun w hc => ?_⟩) (.inl rfl) ?_
  · clear hc; go_simp
  go_simp
  refine tkT (i := 14) (v := .int .i64 vk) rfl (by kernel_rfl) (fun _ _ _ h => h) (.inl ⟨by rfl, fun w hc => ?_⟩) (rfl) ?_
  · rw [hc]; clear hc; go_simp
  go_simp
  refine wpAnyL_one (i := 15) (by kernel_rfl) rfl (fun K2 hK => ?_)
  go_simp
  refine (unhide PC).mono ?_
  rintro e w3 ⟨rfl, y3, h3, f3⟩
  have H3 := hide h3
  have F3 := hide ((unhide F2).trans f3)
  have R3 := hide (f3.row (unhide R2) (by have := unhide GL; omega) (unhide YQ))
  have YQ3 := hide (show ¬ y3.at w.heap.size from fun e => (f3.new _ e).elim (unhide YQ) (fun l => by have := row_lt (unhide R2); omega))
  refine hK.out _ _ (fun h => absurd h (by decide)) ?_
  clear hK K2 h3 f3 PC H2 F2 R2 c1 c2 c3
  refine tkW (i := 16) (v := .bool (!lb)) rfl (by kernel_rfl) (fun _ _ _ h => h) (.inl ⟨by rfl, fun w hc => ?_⟩) (.inr (by decide)) ?_
  · clear hc; go_simp
  go_simp
  refine wpAnyL_done (by kernel_rfl) ?_ _
  cases lb
  · go_wp2
    go_ret
    exact ⟨rfl, y3, fun h => Bool.noConfusion h, unhide F3⟩
  obtain ⟨gr2, rc2, er2⟩ := (unhide H3).regs (unhide L2)
  have ER2 := hide er2
  have H4 := hide ((unhide H3).later (below_drew (w := w3)))
  have F4 := hide ((unhide F3).trans (Fm.of (below_drew (w := w3))))
  have R4 := hide (row_lat (unhide R3) (below_drew (w := w3)))
  have c1 := (unhide H4).rcell er2
  have c2 := ((unhide H4).setR er2 7 0 (by have := unhide L2; omega)).2.2.1
  obtain ⟨h5, f5, c3, c4⟩ := (unhide H4).setR er2 k (nAt t2.d.r 7) (by have := unhide L2; omega)
  have H5 := hide h5
  have F5 := hide ((unhide F4).trans f5)
  have R5 := hide (f5.row (unhide R4) (by have := unhide GL; omega) (unhide YQ3))
  have L5 := hide (show (t2.rg k (nAt t2.d.r 7)).d.r.length = 8 by rw [Ms.rg_len, unhide L2])
  obtain ⟨v7, hv7⟩ : ∃ q, nAt t2.d.r 7 = q := ⟨_, rfl⟩
  have V7 := hide hv7
  rw [hv7] at c2 H5 F5 R5 L5
  clear h5 f5 er2 hv7 H3 F3 R3
  go_wp2_with fail
  refine wp_region_last (fun v => v = w3.drew) 12 (by kernel_rfl) ?_
  generalize w3.drew = wf at H4 F4 R4 c1 c2 c3 c4 H5 F5 R5 ⊢
  refine tkW (i := 0) (v := .pointer (some ⟨g, 0, none⟩)) rfl (by kernel_rfl) (fun _ _ _ h => h) (.inl ⟨by rfl, fun w hc => ?_⟩) (.inl rfl) ?_
  · clear hc; go_simp
  go_simp
  refine tkW (i := 1) (v := .pointer (some ⟨g, 0, none⟩)) rfl (by kernel_rfl) (fun _ _ _ h => h) (.inl ⟨by rfl, fun w hc => ?_⟩) (.inl rfl) ?_
  · clear hc; go_simp
  go_simp
  refine tkW (i := 2) (v := .pointer (some ⟨g, 1, none⟩)) rfl (by kernel_rfl) (fun _ _ _ h => h) (.inl ⟨by rfl, fun w hc => ?_⟩) (.inl rfl) ?_
  · clear hc; go_simp
  go_simp
  refine tkT (i := 3) (v := .slice (some ⟨gr2, 0, none⟩) 8 rc2) rfl (by kernel_rfl) (fun _ _ _ h => h) (.inl ⟨by rfl, fun w hc => ?_⟩) (rfl) ?_
  · rw [hc]; clear hc; go_simp
  go_simp
  refine tkW (i := 4) (v := .int .i64 (k : Int)) rfl (by kernel_rfl) (fun _ _ _ h => h) (.inl ⟨by rfl, fun w hc => ?_⟩) (.inl rfl) ?_
  · clear hc; go_simp
  go_simp
  refine tkW (i := 5) (v := .pointer (some ⟨g, 0, none⟩)) rfl (by kernel_rfl) (fun _ _ _ h => h) (.inl ⟨by rfl, fun w hc => ?_⟩) (.inl rfl) ?_
  · clear hc; go_simp
  go_simp
  refine tkW (i := 6) (v := .pointer (some ⟨g, 0, none⟩)) rfl (by kernel_rfl) (fun _ _ _ h => h) (.inl ⟨by rfl, fun w hc => ?_⟩) (.inl rfl) ?_
  · clear hc; go_simp
  go_simp
  refine tkW (i := 7) (v := .pointer (some ⟨g, 1, none⟩)) rfl (by kernel_rfl) (fun _ _ _ h => h) (.inl ⟨by rfl, fun w hc => ?_⟩) (.inl rfl) ?_
  · clear hc; go_simp
  go_simp
  refine tkT (i := 8) (v := .slice (some ⟨gr2, 0, none⟩) 8 rc2) rfl (by kernel_rfl) (fun _ _ _ h => h) (.inl ⟨by rfl, fun w hc => ?_⟩) (rfl) ?_
  · rw [hc]; clear hc; go_simp
  go_simp
  refine tkW (i := 9) (v := .pointer (some ⟨gr2, 7, none⟩)) rfl (by kernel_rfl) (fun _ _ _ h => h) (.inl ⟨by rfl, fun w hc => ?_⟩) (.inl rfl) ?_
  · clear hc; go_simp
  go_simp
  refine tkT (i := 10) (v := .int .i64 v7) rfl (by kernel_rfl) (fun _ _ _ h => h) (.inl ⟨by rfl, fun w hc => ?_⟩) (rfl) ?_
  · rw [hc]; clear hc; go_simp
  go_simp
  refine tkW (i := 11) (v := .pointer (some ⟨gr2, k, none⟩)) rfl (by kernel_rfl) (fun _ _ _ h => h) (.inl ⟨by rfl, fun w hc => ?_⟩) (.inl rfl) ?_
  · clear hc; go_simp
  go_simp
  refine wpAnyL_one (i := 12) (by kernel_rfl) rfl (fun K2 hK => ?_)
  go_simp
  refine hK.out _ _ (fun h => absurd h (by decide)) ?_
  clear hK K2
  refine wpAnyL_done (by kernel_rfl) ?_ _
  generalize wf.setCell ⟨gr2, k, none⟩ (.int .i64 v7) = w5 at H5 F5 R5 ⊢
  clear H4 F4 R4 c1 c2 c3 c4
  have HE := hide ((unhide H5).later (below_drew (w := w5)))
  have FE := hide ((unhide F5).trans (Fm.of (below_drew (w := w5))))
  have RE := hide (row_lat (unhide R5) (below_drew (w := w5)))
  have c1 := (unhide HE).rcell (unhide ER2)
  have c2 := row2S_1 (unhide RE)
  obtain ⟨h9, f9, c3, c4⟩ := (unhide HE).setR (unhide ER2) 7 qa (by have := unhide L5; omega)
  have H9 := hide h9
  have F9 := hide ((unhide FE).trans f9)
  clear h9 f9
  go_wp2_with fail
  refine wp_region_last (fun v => v = w5.drew) 7 (by kernel_rfl) ?_
  generalize w5.drew = we at HE FE RE H9 F9 c1 c2 c3 c4 ⊢
  refine tkW (i := 0) (v := .pointer (some ⟨g, 0, none⟩)) rfl (by kernel_rfl) (fun _ _ _ h => h) (.inl ⟨by rfl, fun w hc => ?_⟩) (.inl rfl) ?_
  · clear hc; go_simp
  go_simp
  refine tkW (i := 1) (v := .pointer (some ⟨g, 0, none⟩)) rfl (by kernel_rfl) (fun _ _ _ h => h) (.inl ⟨by rfl, fun w hc => ?_⟩) (.inl rfl) ?_
  · clear hc; go_simp
  go_simp
  refine tkW (i := 2) (v := .pointer (some ⟨g, 1, none⟩)) rfl (by kernel_rfl) (fun _ _ _ h => h) (.inl ⟨by rfl, fun w hc => ?_⟩) (.inl rfl) ?_
  · clear hc; go_simp
  go_simp
  refine tkT (i := 3) (v := .slice (some ⟨gr2, 0, none⟩) 8 rc2) rfl (by kernel_rfl) (fun _ _ _ h => h) (.inl ⟨by rfl, fun w hc => ?_⟩) (rfl) ?_
  · rw [hc]; clear hc; go_simp
  go_simp
  refine tkW (i := 4) (v := .pointer (some ⟨w.heap.size, 1, none⟩)) rfl (by kernel_rfl) (fun _ _ _ h => h) (.inl ⟨by rfl, fun w hc => ?_⟩) (.inl rfl) ?_
  · clear hc; go_simp
  go_simp
  refine tkT (i := 5) (v := .int .i64 qa) rfl (by kernel_rfl) (fun _ _ _ h => h) (.inl ⟨by rfl, fun w hc => ?_⟩) (rfl) ?_
  · rw [hc]; clear hc; go_simp
  go_simp
  refine tkW (i := 6) (v := .pointer (some ⟨gr2, 7, none⟩)) rfl (by kernel_rfl) (fun _ _ _ h => h) (.inl ⟨by rfl, fun w hc => ?_⟩) (.inl rfl) ?_
  · clear hc; go_simp
  go_simp
  refine wpAnyL_one (i := 7) (by kernel_rfl) rfl (fun K2 hK => ?_)
  go_simp
  refine hK.out _ _ (fun h => absurd h (by decide)) ?_
  clear hK K2
  refine wpAnyL_done (by kernel_rfl) ?_ _
  generalize we.setCell ⟨gr2, 7, none⟩ (.int .i64 qa) = w9 at H9 F9 ⊢
  go_wp2
  go_ret
  first | exact ⟨rfl, _, fun _ => by rw [unhide V7]; exact unhide H9, unhide F9⟩ | exact ⟨rfl, _, by rw [unhide V7]; exact unhide H9, unhide F9⟩
end Go.Proofs.YtjpbjbnialehbaaGreatDoor

namespace Go.Proofs.YtjpbjbnialehbaaGreatDoor
open Go.ChangeShapes Go.WideShapes Go.ChangeAt Go.RowKit
set_option linter.unusedVariables false
set_option maxRecDepth 8000
set_option linter.unusedSimpArgs false
def Ms.wd (t : Ms) (d2 : Md) : Ms := { t with d := d2 }
def tgO (t : Ms) (mo re : Nat) : Bool := t.d.plO mo re && (t.d.plR mo re == -1)
/-- What target answers. -/
def TgIs (g B gr rc mo re : Nat) (X : Int) (y : Mv) (t : Ms) (d2 : Md) (st : Int) (w : World) : Prop :=
  Calls Tryz.prog 112 #[.pointer (some ⟨g, 0, none⟩), .agg #[.int .i64 (mo : Int), .int .i64 (re : Int), .int .i64 X]] w fun e w' => e = .returned (.tuple #[.int .i64 (t.d.plA mo re), .bool (tgO t mo re)]) ∧ Pz w' g B gr rc y (t.wd d2) st d2.m ∧ Fm w w' g y y
set_option maxHeartbeats 4000000 in
theorem target_any (g B gr rc mo re : Nat) (X : Int) (y : Mv) (t : Ms) (st : Int) (hk : Dk t.d) (h7 : mo ≤ 7) (hr : re < 8) :
    ∀ w, Pz w g B gr rc y t st t.d.m → ∃ d2, (t.d.plO mo re = true → d2 = t.d.plD mo re) ∧ Dk d2 ∧ TgIs g B gr rc mo re X y t d2 st w := by
  intro w h
  have H1 := hide (h.later (below_new w (Obj.cells #[.int .i64 (mo : Int), .int .i64 (re : Int), .int .i64 X] 67)))
  obtain ⟨d2, pq, e2, ec⟩ := po_all g B gr rc mo re X y t.d _ (unhide H1).pg hk.r8 hr (h.small h.len hk) (hk.getb _) h7 ((unhide H1).yl (unhide H1).atr) (unhide H1).gl
  refine ⟨d2, e2, ?_, ?_⟩
  · rcases ec with rfl | rfl
    · exact dk_plS hk mo re
    · exact hk.regS _ _
  have F1 := hide (Fm.of (g := g) (y := y) (below_new w (Obj.cells #[.int .i64 (mo : Int), .int .i64 (re : Int), .int .i64 X] 67)))
  have AR := hide h.atr
  have PO := hide pq
  unfold PoIs at PO
  have GO := hide (show ∀ v, Pg v g B gr rc y d2 → Pz v g B gr rc y (t.wd d2) st d2.m from fun v p => h.ofPg p)
  unfold TgIs tgO
  generalize t.d.plR mo re = pr at PO ⊢
  generalize t.d.plA mo re = pa at PO ⊢
  generalize t.d.plO mo re = po at PO ⊢
  clear h hk e2 ec pq
  go_enter Tryz.func112, Tryz.ntmps112
  go_wp2_with fail
  refine (unhide PO).mono ?_
  rintro e w2 ⟨rfl, p2, g2⟩
  have H3 := hide ((unhide GO _ p2).later (below_new w2 (Obj.cells #[.int .i64 pr, .int .i64 pa] 97)))
  have R3 := (heap_alloc_last w2 (Obj.cells #[.int .i64 pr, .int .i64 pa] 97))
  have k0 := row2S_0 R3
  have k1 := row2S_1 R3
  have F3 := hide (((unhide F1).trans (Fm.grownR g2 (unhide AR))).trans (Fm.of (below_new w2 (Obj.cells #[.int .i64 pr, .int .i64 pa] 97))))
  clear p2 g2 PO R3
  go_wp2_with (first | (refine wpList_store_new rfl 97 _ _ rfl #[.int .i64 pr, .int .i64 pa] rfl rfl _ (by kernel_rfl) rfl rfl ?_))
  generalize w2.alloc (Obj.cells #[.int .i64 pr, .int .i64 pa] 97) = w3 at H3 F3 k0 k1 ⊢
  cases po
  · go_quiet (fail)
    go_wp2
    go_ret2
    exact ⟨rfl, (unhide H3).later (below_drewN (Below.refl _ _) _), (unhide F3).trans (Fm.of (below_drewN (Below.refl _ _) _))⟩
  · go_quiet (fail)
    go_wp2
    go_ret2
    exact ⟨by simp, (unhide H3).later (below_drewN (Below.refl _ _) _), (unhide F3).trans (Fm.of (below_drewN (Below.refl _ _) _))⟩
def JpIs (g B gr rc op sm sr dm dr : Nat) (sx dx n : Int) (y : Mv) (t : Ms) (st : Int) (w : World) : Prop :=
  Calls Tryz.prog 75 #[.pointer (some ⟨g, 0, none⟩), .agg #[.int .i64 (op : Int), .int .i64 (sm : Int), .int .i64 (sr : Int), .int .i64 sx, .int .i64 (dm : Int), .int .i64 (dr : Int), .int .i64 dx, .int .i64 n]] w fun e w' => e = .returned (.bool (tgO t dm dr)) ∧ AcE (tgO t dm dr) (Pz w' g B gr rc y ((t.op dm dr).rg 7 (t.d.plA dm dr)) st (t.op dm dr).d.m) (Fm w w' g y y)
set_option maxHeartbeats 4000000 in
theorem jump_any (g B gr rc op sm sr dm dr : Nat) (sx dx n : Int) (y : Mv) (t : Ms) (st : Int) (w : World) (h : Pz w g B gr rc y t st t.d.m) (hk : Dk t.d) (d7 : dm ≤ 7) (d8 : dr < 8) : JpIs g B gr rc op sm sr dm dr sx dx n y t st w := by
  have GL := hide h.gl
  have YL := hide (fun b (hb : y.at b) => h.yl hb)
  have H1 := hide (h.later (below_new w (Obj.cells #[.int .i64 (op : Int), .int .i64 (sm : Int), .int .i64 (sr : Int), .int .i64 sx, .int .i64 (dm : Int), .int .i64 (dr : Int), .int .i64 dx, .int .i64 n] 69)))
  have F1 := hide (Fm.of (g := g) (y := y) (below_new w (Obj.cells #[.int .i64 (op : Int), .int .i64 (sm : Int), .int .i64 (sr : Int), .int .i64 sx, .int .i64 (dm : Int), .int .i64 (dr : Int), .int .i64 dx, .int .i64 n] 69)))
  have R1 := hide (heap_alloc_last w (Obj.cells #[.int .i64 (op : Int), .int .i64 (sm : Int), .int .i64 (sr : Int), .int .i64 sx, .int .i64 (dm : Int), .int .i64 (dr : Int), .int .i64 dx, .int .i64 n] 69))
  obtain ⟨d2, e2, k2, tg⟩ := target_any g B gr rc dm dr dx y t st hk d7 d8 _ (unhide H1)
  have TG := hide tg
  unfold TgIs at TG
  have E2 := hide (show tgO t dm dr = true → d2 = t.d.plD dm dr from fun ho => e2 (by unfold tgO at ho; simp only [Bool.and_eq_true] at ho; exact ho.1))
  unfold JpIs
  have k4 := insR 4 _ (unhide R1) rfl
  have k5 := insR 5 _ (unhide R1) rfl
  have k6 := insR 6 _ (unhide R1) rfl
  generalize tgO t dm dr = ok at TG E2 ⊢
  generalize t.d.plA dm dr = pa at TG ⊢
  clear h hk e2 tg
  go_enter Tryz.func75, Tryz.ntmps75
  go_wp2_with fail
  refine (unhide TG).mono ?_
  rintro e w2 ⟨rfl, p2, f2⟩
  have c1 := p2.cr
  obtain ⟨p3, f3, c2, c3⟩ := p2.setR 7 pa (by omega)
  have H3 := hide p3
  have F3 := hide (((unhide F1).trans f2).trans f3)
  clear p2 f2 p3 f3 TG k4 k5 k6
  go_wp2
  go_ret
  exact ⟨rfl, ⟨fun ho => by have e := unhide E2 ho; subst e; exact unhide H3, unhide F3⟩⟩
set_option maxHeartbeats 1000000 in
theorem halt_any (g B gr rc op sm sr dm dr : Nat) (sx dx n : Int) (y : Mv) (t : Ms) (st : Int) (w : World) (h : Pz w g B gr rc y t st t.d.m) (hk : Dk t.d) : Calls Tryz.prog 84 #[.pointer (some ⟨g, 0, none⟩), .agg #[.int .i64 (op : Int), .int .i64 (sm : Int), .int .i64 (sr : Int), .int .i64 sx, .int .i64 (dm : Int), .int .i64 (dr : Int), .int .i64 dx, .int .i64 n]] w fun e w' => e = .returned (.bool true) ∧ Pz w' g B gr rc { y with st := 1 } t 1 t.d.m ∧ Fm w w' g y { y with st := 1 } := by
  have H1 := hide (h.later (below_new w (Obj.cells #[.int .i64 (op : Int), .int .i64 (sm : Int), .int .i64 (sr : Int), .int .i64 sx, .int .i64 (dm : Int), .int .i64 (dr : Int), .int .i64 dx, .int .i64 n] 69)))
  have F1 := hide (Fm.of (g := g) (y := y) (below_new w (Obj.cells #[.int .i64 (op : Int), .int .i64 (sm : Int), .int .i64 (sr : Int), .int .i64 sx, .int .i64 (dm : Int), .int .i64 (dr : Int), .int .i64 dx, .int .i64 n] 69)))
  have c8 := (unhide H1).cell 8 _ rfl
  have e8 := (unhide H1).fz 264
  obtain ⟨h2, f2⟩ := (unhide H1).setS 1
  have H2 := hide h2
  have F2 := hide ((unhide F1).trans f2)
  clear h hk h2 f2
  go_enter Tryz.func84, Tryz.ntmps84
  go_wp2
  go_ret
  exact ⟨rfl, unhide H2, unhide F2⟩
/-- The stack's next place, and what stands there. -/
theorem ad_sh (a : Int) (h : 0 ≤ a) : Psh (-1) a := .inl ⟨rfl, h⟩
def ClIs (g B gr rc op sm sr dm dr k : Nat) (sx dx : Int) (y : Mv) (t : Ms) (st : Int) (ok : Bool) (w : World) : Prop :=
  Calls Tryz.prog 76 #[.pointer (some ⟨g, 0, none⟩), .agg #[.int .i64 (op : Int), .int .i64 (sm : Int), .int .i64 (sr : Int), .int .i64 sx, .int .i64 (dm : Int), .int .i64 (dr : Int), .int .i64 dx, .int .i64 (k : Int)]] w fun e w' => e = .returned (.bool ok) ∧ AcE ok (Pz w' g B gr rc y ((((t.op dm dr).go2 k).rg k (nAt ((t.op dm dr).go2 k).d.r 7)).rg 7 (t.d.plA dm dr)) st (t.op dm dr).d.m) (Fm w w' g y y)
theorem Pz.atR {w : World} {g B gr rc : Nat} {y : Mv} {t : Ms} {st : Int} {m0 : List Int} (h : Pz w g B gr rc y t st m0) (k : Nat) (hk : k < 8) : w.cell? ⟨gr, k, none⟩ = some (.int .i64 (nAt t.d.r k)) := (h.setR k 0 hk).2.2.1
def clO (t : Ms) (dm dr : Nat) : Bool := tgO t dm dr && (t.op dm dr).go1.d.ldB (-1) ((nAt (t.op dm dr).d.r 6 - 2) % 65536)
set_option maxHeartbeats 4000000 in
theorem call_no (g B gr rc op sm sr dm dr : Nat) (k : Nat) (sx dx : Int) (y : Mv) (t : Ms) (st : Int) (w : World) (h : Pz w g B gr rc y t st t.d.m) (hk : Dk t.d) (d7 : dm ≤ 7) (d8 : dr < 8) (hno : clO t dm dr = false) : ClIs g B gr rc op sm sr dm dr k sx dx y t st false w := by
  have GL := hide h.gl
  have YL := hide (fun b (hb : y.at b) => h.yl hb)
  have H1 := hide (h.later (below_new w (Obj.cells #[.int .i64 (op : Int), .int .i64 (sm : Int), .int .i64 (sr : Int), .int .i64 sx, .int .i64 (dm : Int), .int .i64 (dr : Int), .int .i64 dx, .int .i64 (k : Int)] 69)))
  have F1 := hide (Fm.of (g := g) (y := y) (below_new w (Obj.cells #[.int .i64 (op : Int), .int .i64 (sm : Int), .int .i64 (sr : Int), .int .i64 sx, .int .i64 (dm : Int), .int .i64 (dr : Int), .int .i64 dx, .int .i64 (k : Int)] 69)))
  have R1 := hide (heap_alloc_last w (Obj.cells #[.int .i64 (op : Int), .int .i64 (sm : Int), .int .i64 (sr : Int), .int .i64 sx, .int .i64 (dm : Int), .int .i64 (dr : Int), .int .i64 dx, .int .i64 (k : Int)] 69))
  obtain ⟨d2, e2, k2, tg⟩ := target_any g B gr rc dm dr dx y t st hk d7 d8 _ (unhide H1)
  have TG := hide tg
  unfold TgIs at TG
  have D8 := k2.rl
  obtain ⟨a0, a1⟩ := k2.rw _ (nAt_mem (show 6 < d2.r.length by omega))
  have GB := hide (fun v (p : Pz v g B gr rc y (t.wd d2) st d2.m) => goBack_any g B gr rc 6 y d2 v p.pg (by omega) a0 a1)
  have GO := hide (show ∀ v v', Pz v g B gr rc y (t.wd d2) st d2.m → Pg v' g B gr rc y (d2.reg 6 ((nAt d2.r 6 - 2) % 65536)) → Pz v' g B gr rc y ((t.wd d2).go1) st d2.m from fun v v' p q => p.ofPg q)
  have AD := hide (fun v => adPlace_any ((nAt d2.r 6 - 2) % 65536) v)
  have K3 := hide (show Dk (t.wd d2).go1.d from k2.regS _ _)
  have RC := hide (fun v (p : Pz v g B gr rc y (t.wd d2).go1 st d2.m) => reachZ p k2.ml (unhide K3) (-1) ((nAt d2.r 6 - 2) % 65536) (ad_sh _ (by omega)))
  have NO := hide (show tgO t dm dr = true → (t.wd d2).go1.d.ldB (-1) ((nAt d2.r 6 - 2) % 65536) = false from fun ho => by
    have e := e2 (by unfold tgO at ho; simp only [Bool.and_eq_true] at ho; exact ho.1)
    subst e
    unfold clO at hno
    rw [ho] at hno
    exact hno)
  unfold ClIs
  generalize tgO t dm dr = ok at TG NO ⊢
  generalize t.d.plA dm dr = pa at TG
  generalize (nAt d2.r 6 - 2) % 65536 = a6 at GB GO AD RC NO
  generalize (t.wd d2).go1.d.ldB (-1) a6 = lb at RC NO
  generalize plP g gr (-1) a6 = pp at RC
  clear h hk e2 tg hno a0 a1 D8 k2
  cases ok
  · have k4 := insR 4 _ (unhide R1) rfl
    have k5 := insR 5 _ (unhide R1) rfl
    have k6 := insR 6 _ (unhide R1) rfl
    go_enter Tryz.func76, Tryz.ntmps76
    go_wp2_with fail
    refine (unhide TG).mono ?_
    rintro e w2 ⟨rfl, p2, f2⟩
    have c1 := p2.cr
    have F2 := hide ((unhide F1).trans f2)
    have R2 := hide (f2.row (unhide R1) (by have := unhide GL; omega) (fun e => by have := unhide YL _ e; omega))
    have GBC := hide (unhide GB _ p2)
    have P2 := hide p2
    clear p2 f2 TG k4 k5 k6
    go_wp2_with fail
    refine (unhide GBC).mono ?_
    rintro e w3 ⟨rfl, p3, g3⟩
    have H3 := hide (unhide GO _ _ (unhide P2) p3)
    have f3 := Fm.grownR (g := g) g3 (unhide P2).atr
    have F3 := hide ((unhide F2).trans f3)
    have R3 := hide (f3.row (unhide R2) (by have := unhide GL; omega) (fun e => by have := unhide YL _ e; omega))
    clear p3 g3 f3 GBC GO P2 R2 F2 c1
    go_wp2_with fail
    refine (unhide AD _).mono ?_
    rintro e w4 ⟨rfl, b4⟩
    have H4 := hide ((unhide H3).later b4)
    have F4 := hide ((unhide F3).trans (Fm.of b4))
    have R4 := hide (row_lat (unhide R3) b4)
    have RCC := hide (unhide RC _ (unhide H4))
    clear b4 AD RC
    go_wp2_with fail
    refine (unhide RCC).mono ?_
    rintro e w5 ⟨rfl, b5⟩
    have H5 := hide ((unhide H4).later b5)
    have F5 := hide ((unhide F4).trans (Fm.of b5))
    have R5 := hide (row_lat (unhide R4) b5)
    clear b5 RCC H3 F3 R3 H4 F4 R4
    cases lb
    · go_wp2
      go_ret
      exact ⟨rfl, ⟨fun h => by simp at h, unhide F5⟩⟩
    · go_wp2
      go_ret
      exact ⟨rfl, ⟨fun h => by simp at h, unhide F5⟩⟩
  · have NO2 := unhide NO (by trivial)
    subst NO2
    have k4 := insR 4 _ (unhide R1) rfl
    have k5 := insR 5 _ (unhide R1) rfl
    have k6 := insR 6 _ (unhide R1) rfl
    go_enter Tryz.func76, Tryz.ntmps76
    go_wp2_with fail
    refine (unhide TG).mono ?_
    rintro e w2 ⟨rfl, p2, f2⟩
    have c1 := p2.cr
    have F2 := hide ((unhide F1).trans f2)
    have R2 := hide (f2.row (unhide R1) (by have := unhide GL; omega) (fun e => by have := unhide YL _ e; omega))
    have GBC := hide (unhide GB _ p2)
    have P2 := hide p2
    clear p2 f2 TG k4 k5 k6
    go_wp2_with fail
    refine (unhide GBC).mono ?_
    rintro e w3 ⟨rfl, p3, g3⟩
    have H3 := hide (unhide GO _ _ (unhide P2) p3)
    have f3 := Fm.grownR (g := g) g3 (unhide P2).atr
    have F3 := hide ((unhide F2).trans f3)
    have R3 := hide (f3.row (unhide R2) (by have := unhide GL; omega) (fun e => by have := unhide YL _ e; omega))
    clear p3 g3 f3 GBC GO P2 R2 F2 c1
    go_wp2_with fail
    refine (unhide AD _).mono ?_
    rintro e w4 ⟨rfl, b4⟩
    have H4 := hide ((unhide H3).later b4)
    have F4 := hide ((unhide F3).trans (Fm.of b4))
    have R4 := hide (row_lat (unhide R3) b4)
    have RCC := hide (unhide RC _ (unhide H4))
    clear b4 AD RC
    go_wp2_with fail
    refine (unhide RCC).mono ?_
    rintro e w5 ⟨rfl, b5⟩
    have H5 := hide ((unhide H4).later b5)
    have F5 := hide ((unhide F4).trans (Fm.of b5))
    have R5 := hide (row_lat (unhide R4) b5)
    clear b5 RCC H3 F3 R3 H4 F4 R4
    go_wp2
    go_ret
    exact ⟨rfl, ⟨fun h => by simp at h, unhide F5⟩⟩
set_option maxHeartbeats 8000000 in
theorem call_yes (g B gr rc op sm sr dm dr : Nat) (k : Nat) (sx dx : Int) (y : Mv) (t : Ms) (st : Int) (w : World) (h : Pz w g B gr rc y t st t.d.m) (hk : Dk t.d) (d7 : dm ≤ 7) (d8 : dr < 8) (k8 : k < 8) (hy : clO t dm dr = true) : ClIs g B gr rc op sm sr dm dr k sx dx y t st true w := by
  have GL := hide h.gl
  have YL := hide (fun b (hb : y.at b) => h.yl hb)
  have H1 := hide (h.later (below_new w (Obj.cells #[.int .i64 (op : Int), .int .i64 (sm : Int), .int .i64 (sr : Int), .int .i64 sx, .int .i64 (dm : Int), .int .i64 (dr : Int), .int .i64 dx, .int .i64 (k : Int)] 69)))
  have F1 := hide (Fm.of (g := g) (y := y) (below_new w (Obj.cells #[.int .i64 (op : Int), .int .i64 (sm : Int), .int .i64 (sr : Int), .int .i64 sx, .int .i64 (dm : Int), .int .i64 (dr : Int), .int .i64 dx, .int .i64 (k : Int)] 69)))
  have R1 := hide (heap_alloc_last w (Obj.cells #[.int .i64 (op : Int), .int .i64 (sm : Int), .int .i64 (sr : Int), .int .i64 sx, .int .i64 (dm : Int), .int .i64 (dr : Int), .int .i64 dx, .int .i64 (k : Int)] 69))
  obtain ⟨d2, e2, k2, tg⟩ := target_any g B gr rc dm dr dx y t st hk d7 d8 _ (unhide H1)
  have TG := hide tg
  unfold TgIs at TG
  have D8 := k2.rl
  obtain ⟨a0, a1⟩ := k2.rw _ (nAt_mem (show 6 < d2.r.length by omega))
  have GB := hide (fun v (p : Pz v g B gr rc y (t.wd d2) st d2.m) => goBack_any g B gr rc 6 y d2 v p.pg (by omega) a0 a1)
  have GO := hide (show ∀ v v', Pz v g B gr rc y (t.wd d2) st d2.m → Pg v' g B gr rc y (d2.reg 6 ((nAt d2.r 6 - 2) % 65536)) → Pz v' g B gr rc y ((t.wd d2).go1) st d2.m from fun v v' p q => p.ofPg q)
  have AD := hide (fun v => adPlace_any ((nAt d2.r 6 - 2) % 65536) v)
  have K3 := hide (show Dk (t.wd d2).go1.d from k2.regS _ _)
  have RC := hide (fun v (p : Pz v g B gr rc y (t.wd d2).go1 st d2.m) => reachZ p k2.ml (unhide K3) (-1) ((nAt d2.r 6 - 2) % 65536) (ad_sh _ (by omega)))
  have hy2 : tgO t dm dr = true ∧ (t.op dm dr).go1.d.ldB (-1) ((nAt (t.op dm dr).d.r 6 - 2) % 65536) = true := by unfold clO at hy; simpa only [Bool.and_eq_true] using hy
  have e3 := e2 (by have := hy2.1; unfold tgO at this; simp only [Bool.and_eq_true] at this; exact this.1)
  subst e3
  have LB : (t.wd (t.d.plD dm dr)).go1.d.ldB (-1) ((nAt (t.d.plD dm dr).r 6 - 2) % 65536) = true := hy2.2
  rw [hy2.1] at TG
  rw [LB] at RC
  simp only [if_true] at RC
  have SH := ad_sh ((nAt (t.d.plD dm dr).r 6 - 2) % 65536) (by omega)
  have VK := (unhide K3).rw _ (nAt_mem (show k < (t.wd (t.d.plD dm dr)).go1.d.r.length by have := (unhide K3).rl; omega))
  have PL := hide (fun v (p : Pz v g B gr rc y (t.wd (t.d.plD dm dr)).go1 st (t.d.plD dm dr).m) => (p.place LB SH).imp id (fun q => And.intro q.1 (q.2 (nAt (t.wd (t.d.plD dm dr)).go1.d.r k) VK.1 VK.2)))
  have AR := hide (fun v (p : Pz v g B gr rc y (t.wd (t.d.plD dm dr)).go1 st (t.d.plD dm dr).m) => p.atR k k8)
  unfold ClIs
  rw [show (t.op dm dr).go2 k = (t.wd (t.d.plD dm dr)).go1.st (-1) ((nAt (t.d.plD dm dr).r 6 - 2) % 65536) (nAt (t.wd (t.d.plD dm dr)).go1.d.r k) from rfl]
  rw [show (t.op dm dr).d.m = (t.d.plD dm dr).m from rfl]
  generalize t.d.plA dm dr = pa at TG ⊢
  generalize (t.wd (t.d.plD dm dr)).go1.d.ldV (-1) ((nAt (t.d.plD dm dr).r 6 - 2) % 65536) = old at PL
  generalize (t.wd (t.d.plD dm dr)).go1.st (-1) ((nAt (t.d.plD dm dr).r 6 - 2) % 65536) (nAt (t.wd (t.d.plD dm dr)).go1.d.r k) = u2 at PL ⊢
  generalize nAt (t.wd (t.d.plD dm dr)).go1.d.r k = vk at PL AR
  generalize (nAt (t.d.plD dm dr).r 6 - 2) % 65536 = a6 at GB GO AD RC PL
  generalize plP g gr (-1) a6 = pp at RC PL
  clear h hk e2 tg hy hy2 a0 a1 D8 LB SH VK k2
  have kr : (k : Int) < 8 := by omega
  have kn : ¬ (8 : Int) ≤ (k : Int) := by omega
  have k4 := insR 4 _ (unhide R1) rfl
  have k5 := insR 5 _ (unhide R1) rfl
  have k6 := insR 6 _ (unhide R1) rfl
  go_enter Tryz.func76, Tryz.ntmps76
  go_wp2_with fail
  refine (unhide TG).mono ?_
  rintro e w2 ⟨rfl, p2, f2⟩
  have c1 := p2.cr
  have F2 := hide ((unhide F1).trans f2)
  have R2 := hide (f2.row (unhide R1) (by have := unhide GL; omega) (fun e => by have := unhide YL _ e; omega))
  have GBC := hide (unhide GB _ p2)
  have P2 := hide p2
  clear p2 f2 TG k4 k5 k6
  go_wp2_with fail
  refine (unhide GBC).mono ?_
  rintro e w3 ⟨rfl, p3, g3⟩
  have H3 := hide (unhide GO _ _ (unhide P2) p3)
  have f3 := Fm.grownR (g := g) g3 (unhide P2).atr
  have F3 := hide ((unhide F2).trans f3)
  have R3 := hide (f3.row (unhide R2) (by have := unhide GL; omega) (fun e => by have := unhide YL _ e; omega))
  clear p3 g3 f3 GBC GO P2 R2 F2 c1
  go_wp2_with fail
  refine (unhide AD _).mono ?_
  rintro e w4 ⟨rfl, b4⟩
  have H4 := hide ((unhide H3).later b4)
  have F4 := hide ((unhide F3).trans (Fm.of b4))
  have R4 := hide (row_lat (unhide R3) b4)
  have RCC := hide (unhide RC _ (unhide H4))
  clear b4 AD RC
  go_wp2_with fail
  refine (unhide RCC).mono ?_
  rintro e w5 ⟨rfl, b5⟩
  have H5 := hide ((unhide H4).later b5)
  have F5 := hide ((unhide F4).trans (Fm.of b5))
  have R5 := hide (row_lat (unhide R4) b5)
  clear b5 RCC H3 F3 R3 H4 F4 R4
  have H6 := hide ((unhide H5).later (below_drew (w := w5)))
  have F6 := hide ((unhide F5).trans (Fm.of (below_drew (w := w5))))
  have R6 := hide (row_lat (unhide R5) (below_drew (w := w5)))
  have c1 := (unhide H6).cr
  have c2 := insR 7 _ (unhide R6) rfl
  have c3 := unhide AR _ (unhide H6)
  obtain ⟨c4, c5, h7, f7⟩ := unhide PL _ (unhide H6)
  have H7 := hide h7
  have F7 := hide ((unhide F6).trans f7)
  have R7 := hide (f7.row (unhide R6) (by have := unhide GL; omega) (fun e => by have := unhide YL _ e; omega))
  clear h7 f7 AR PL H5 F5 R5
  go_wp2_with fail
  refine wp_region_last (fun v => v = w5.drew) 11 (by kernel_rfl) ?_
  generalize w5.drew = wd at H6 F6 R6 H7 F7 R7 c1 c2 c3 c4 c5 ⊢
  refine wpAnyL_takeW (i := 0) (v := .pointer (some pp)) rfl (by kernel_rfl) (by kernel_rfl) (by kernel_rfl) (by kernel_rfl) (fun _ _ _ h => h) (Or.inl ⟨by rfl, fun w hc => ?_⟩) (.inl rfl) ?_
  · clear hc; go_simp
  go_simp
  refine wpAnyL_takeW (i := 1) (v := .pointer (some ⟨g, 0, none⟩)) rfl (by kernel_rfl) (by kernel_rfl) (by kernel_rfl) (by kernel_rfl) (fun _ _ _ h => h) (Or.inl ⟨by rfl, fun w hc => ?_⟩) (.inl rfl) ?_
  · clear hc; go_simp
  go_simp
  refine wpAnyL_takeW (i := 2) (v := .pointer (some ⟨g, 0, none⟩)) rfl (by kernel_rfl) (by kernel_rfl) (by kernel_rfl) (by kernel_rfl) (fun _ _ _ h => h) (Or.inl ⟨by rfl, fun w hc => ?_⟩) (.inl rfl) ?_
  · clear hc; go_simp
  go_simp
  refine wpAnyL_takeW (i := 3) (v := .pointer (some ⟨g, 256, none⟩)) rfl (by kernel_rfl) (by kernel_rfl) (by kernel_rfl) (by kernel_rfl) (fun _ _ _ h => h) (Or.inl ⟨by rfl, fun w hc => ?_⟩) (.inl rfl) ?_
  · clear hc; go_simp
  go_simp
  refine wpAnyL_takeW (i := 4) (v := .pointer (some ⟨g, 257, none⟩)) rfl (by kernel_rfl) (by kernel_rfl) (by kernel_rfl) (by kernel_rfl) (fun _ _ _ h => h) (Or.inl ⟨by rfl, fun w hc => ?_⟩) (.inl rfl) ?_
  · clear hc; go_simp
  go_simp
  refine wpAnyL_takeS (i := 5) (v := .slice (some ⟨gr, 0, none⟩) 8 rc) rfl (by kernel_rfl) (by kernel_rfl) (by kernel_rfl) (by kernel_rfl) (by kernel_rfl) (fun _ _ _ h => h) (Or.inl ⟨by rfl, fun w hc => ?_⟩) (rfl) ?_
  · rw [hc]; clear hc; go_simp
  go_simp
  refine wpAnyL_takeW (i := 6) (v := .pointer (some ⟨w.heap.size, 7, none⟩)) rfl (by kernel_rfl) (by kernel_rfl) (by kernel_rfl) (by kernel_rfl) (fun _ _ _ h => h) (Or.inl ⟨by rfl, fun w hc => ?_⟩) (.inl rfl) ?_
  · clear hc; go_simp
  go_simp
  refine wpAnyL_takeS (i := 7) (v := .int .i64 (k : Int)) rfl (by kernel_rfl) (by kernel_rfl) (by kernel_rfl) (by kernel_rfl) (by kernel_rfl) (fun _ _ _ h => h) (Or.inl ⟨by rfl, fun w hc => ?_⟩) (rfl) ?_
  · rw [hc]; clear hc; go_simp
  go_simp
  refine wpAnyL_takeW (i := 8) (v := .pointer (some ⟨gr, k, none⟩)) rfl (by kernel_rfl) (by kernel_rfl) (by kernel_rfl) (by kernel_rfl) (fun _ _ _ h => h) (Or.inl ⟨by rfl, fun w hc => ?_⟩) (.inl rfl) ?_
  · clear hc; go_simp
  go_simp
  refine wpAnyL_takeS (i := 9) (v := .int .i64 vk) rfl (by kernel_rfl) (by kernel_rfl) (by kernel_rfl) (by kernel_rfl) (by kernel_rfl) (fun _ _ _ h => h) (Or.inl ⟨by rfl, fun w hc => ?_⟩) (rfl) ?_
  · rw [hc]; clear hc; go_simp
  go_simp
  refine wpAnyL_takeW (i := 10) (v := .pointer (some pp)) rfl (by kernel_rfl) (by kernel_rfl) (by kernel_rfl) (by kernel_rfl) (fun _ _ _ h => h) (Or.inl ⟨by rfl, fun w hc => ?_⟩) (.inl rfl) ?_
  · clear hc; go_simp
  go_simp
  refine wpAnyL_one (i := 11) (by kernel_rfl) rfl (fun K2 hK => ?_)
  go_simp
  refine hK.out _ _ (fun h => absurd h (by decide)) ?_
  clear hK K2
  refine wpAnyL_done (by kernel_rfl) ?_ _
  generalize wd.setCell pp (.int .i64 vk) = w6 at H7 F7 R7 ⊢
  clear H6 F6 R6 c1 c2 c3 c4 c5
  have H8 := hide ((unhide H7).later (below_drew (w := w6)))
  have F8 := hide ((unhide F7).trans (Fm.of (below_drew (w := w6))))
  have R8 := hide (row_lat (unhide R7) (below_drew (w := w6)))
  have c1 := (unhide H8).cr
  have c2 := insR 7 _ (unhide R8) rfl
  have c3 := (unhide H8).atR 7 (by omega)
  obtain ⟨h9, f9, c4, c5⟩ := (unhide H8).setR k (nAt u2.d.r 7) k8
  have H9 := hide h9
  have F9 := hide ((unhide F8).trans f9)
  obtain ⟨v7, hv7⟩ : ∃ q, nAt u2.d.r 7 = q := ⟨_, rfl⟩
  have HV := hide hv7
  rw [hv7] at c3 H9 F9
  clear hv7
  clear h9 f9 H7 F7 R7
  go_wp2_with fail
  refine wp_region_last (fun v => v = w6.drew) 15 (by kernel_rfl) ?_
  generalize w6.drew = we at H8 F8 R8 H9 F9 c1 c2 c3 c4 c5 ⊢
  refine wpAnyL_takeW (i := 0) (v := .pointer (some ⟨g, 0, none⟩)) rfl (by kernel_rfl) (by kernel_rfl) (by kernel_rfl) (by kernel_rfl) (fun _ _ _ h => h) (Or.inl ⟨by rfl, fun w hc => ?_⟩) (.inl rfl) ?_
  · clear hc; go_simp
  go_simp
  refine wpAnyL_takeW (i := 1) (v := .pointer (some ⟨g, 0, none⟩)) rfl (by kernel_rfl) (by kernel_rfl) (by kernel_rfl) (by kernel_rfl) (fun _ _ _ h => h) (Or.inl ⟨by rfl, fun w hc => ?_⟩) (.inl rfl) ?_
  · clear hc; go_simp
  go_simp
  refine wpAnyL_takeW (i := 2) (v := .pointer (some ⟨g, 256, none⟩)) rfl (by kernel_rfl) (by kernel_rfl) (by kernel_rfl) (by kernel_rfl) (fun _ _ _ h => h) (Or.inl ⟨by rfl, fun w hc => ?_⟩) (.inl rfl) ?_
  · clear hc; go_simp
  go_simp
  refine wpAnyL_takeW (i := 3) (v := .pointer (some ⟨g, 257, none⟩)) rfl (by kernel_rfl) (by kernel_rfl) (by kernel_rfl) (by kernel_rfl) (fun _ _ _ h => h) (Or.inl ⟨by rfl, fun w hc => ?_⟩) (.inl rfl) ?_
  · clear hc; go_simp
  go_simp
  refine wpAnyL_takeS (i := 4) (v := .slice (some ⟨gr, 0, none⟩) 8 rc) rfl (by kernel_rfl) (by kernel_rfl) (by kernel_rfl) (by kernel_rfl) (by kernel_rfl) (fun _ _ _ h => h) (Or.inl ⟨by rfl, fun w hc => ?_⟩) (rfl) ?_
  · rw [hc]; clear hc; go_simp
  go_simp
  refine wpAnyL_takeW (i := 5) (v := .pointer (some ⟨w.heap.size, 7, none⟩)) rfl (by kernel_rfl) (by kernel_rfl) (by kernel_rfl) (by kernel_rfl) (fun _ _ _ h => h) (Or.inl ⟨by rfl, fun w hc => ?_⟩) (.inl rfl) ?_
  · clear hc; go_simp
  go_simp
  refine wpAnyL_takeS (i := 6) (v := .int .i64 (k : Int)) rfl (by kernel_rfl) (by kernel_rfl) (by kernel_rfl) (by kernel_rfl) (by kernel_rfl) (fun _ _ _ h => h) (Or.inl ⟨by rfl, fun w hc => ?_⟩) (rfl) ?_
  · rw [hc]; clear hc; go_simp
  go_simp
  refine wpAnyL_takeW (i := 7) (v := .pointer (some ⟨g, 0, none⟩)) rfl (by kernel_rfl) (by kernel_rfl) (by kernel_rfl) (by kernel_rfl) (fun _ _ _ h => h) (Or.inl ⟨by rfl, fun w hc => ?_⟩) (.inl rfl) ?_
  · clear hc; go_simp
  go_simp
  refine wpAnyL_takeW (i := 8) (v := .pointer (some ⟨g, 0, none⟩)) rfl (by kernel_rfl) (by kernel_rfl) (by kernel_rfl) (by kernel_rfl) (fun _ _ _ h => h) (Or.inl ⟨by rfl, fun w hc => ?_⟩) (.inl rfl) ?_
  · clear hc; go_simp
  go_simp
  refine wpAnyL_takeW (i := 9) (v := .pointer (some ⟨g, 256, none⟩)) rfl (by kernel_rfl) (by kernel_rfl) (by kernel_rfl) (by kernel_rfl) (fun _ _ _ h => h) (Or.inl ⟨by rfl, fun w hc => ?_⟩) (.inl rfl) ?_
  · clear hc; go_simp
  go_simp
  refine wpAnyL_takeW (i := 10) (v := .pointer (some ⟨g, 257, none⟩)) rfl (by kernel_rfl) (by kernel_rfl) (by kernel_rfl) (by kernel_rfl) (fun _ _ _ h => h) (Or.inl ⟨by rfl, fun w hc => ?_⟩) (.inl rfl) ?_
  · clear hc; go_simp
  go_simp
  refine wpAnyL_takeS (i := 11) (v := .slice (some ⟨gr, 0, none⟩) 8 rc) rfl (by kernel_rfl) (by kernel_rfl) (by kernel_rfl) (by kernel_rfl) (by kernel_rfl) (fun _ _ _ h => h) (Or.inl ⟨by rfl, fun w hc => ?_⟩) (rfl) ?_
  · rw [hc]; clear hc; go_simp
  go_simp
  refine wpAnyL_takeW (i := 12) (v := .pointer (some ⟨gr, 7, none⟩)) rfl (by kernel_rfl) (by kernel_rfl) (by kernel_rfl) (by kernel_rfl) (fun _ _ _ h => h) (Or.inl ⟨by rfl, fun w hc => ?_⟩) (.inl rfl) ?_
  · clear hc; go_simp
  go_simp
  refine wpAnyL_takeS (i := 13) (v := .int .i64 v7) rfl (by kernel_rfl) (by kernel_rfl) (by kernel_rfl) (by kernel_rfl) (by kernel_rfl) (fun _ _ _ h => h) (Or.inl ⟨by rfl, fun w hc => ?_⟩) (rfl) ?_
  · rw [hc]; clear hc; go_simp
  go_simp
  refine wpAnyL_takeW (i := 14) (v := .pointer (some ⟨gr, k, none⟩)) rfl (by kernel_rfl) (by kernel_rfl) (by kernel_rfl) (by kernel_rfl) (fun _ _ _ h => h) (Or.inl ⟨by rfl, fun w hc => ?_⟩) (.inl rfl) ?_
  · clear hc; go_simp
  go_simp
  refine wpAnyL_one (i := 15) (by kernel_rfl) rfl (fun K2 hK => ?_)
  go_simp
  refine hK.out _ _ (fun h => absurd h (by decide)) ?_
  clear hK K2
  refine wpAnyL_done (by kernel_rfl) ?_ _
  generalize we.setCell ⟨gr, k, none⟩ (.int .i64 v7) = w7 at H9 F9 ⊢
  clear H8 F8 R8 c1 c2 c3 c4 c5
  have c1 := (unhide H9).cr
  obtain ⟨h10, f10, c4, c5⟩ := (unhide H9).setR 7 pa (by omega)
  have H10 := hide h10
  have F10 := hide ((unhide F9).trans f10)
  clear h10 f10
  go_wp2
  go_ret
  exact ⟨rfl, ⟨fun _ => by rw [unhide HV]; exact unhide H10, unhide F10⟩⟩
def CbIs (g B gr rc op sm sr dm dr k : Nat) (sx dx : Int) (y : Mv) (t : Ms) (st : Int) (ok : Bool) (w : World) : Prop :=
  Calls Tryz.prog 77 #[.pointer (some ⟨g, 0, none⟩), .agg #[.int .i64 (op : Int), .int .i64 (sm : Int), .int .i64 (sr : Int), .int .i64 sx, .int .i64 (dm : Int), .int .i64 (dr : Int), .int .i64 dx, .int .i64 (k : Int)]] w fun e w' => e = .returned (.bool ok) ∧ AcE ok (Pz w' g B gr rc y (t.back k) st t.d.m) (Fm w w' g y y)
theorem rg6 (t : Ms) (k : Nat) : nAt (t.rg 7 (nAt t.d.r k)).d.r 6 = nAt t.d.r 6 := Ms.rg_at t 7 6 _ (by omega)
set_option maxHeartbeats 8000000 in
theorem back_anyI (g B gr rc op sm sr dm dr : Nat) (k : Nat) (sx dx : Int) (y : Mv) (t : Ms) (st : Int) (w : World) (h : Pz w g B gr rc y t st t.d.m) (hk : Dk t.d) (k8 : k < 8) : CbIs g B gr rc op sm sr dm dr k sx dx y t st ((t.back1 k).d.has (nAt t.d.r 6)) w := by
  have GL := hide h.gl
  have YL := hide (fun b (hb : y.at b) => h.yl hb)
  have H1 := hide (h.later (below_new w (Obj.cells #[.int .i64 (op : Int), .int .i64 (sm : Int), .int .i64 (sr : Int), .int .i64 sx, .int .i64 (dm : Int), .int .i64 (dr : Int), .int .i64 dx, .int .i64 (k : Int)] 69)))
  have F1 := hide (Fm.of (g := g) (y := y) (below_new w (Obj.cells #[.int .i64 (op : Int), .int .i64 (sm : Int), .int .i64 (sr : Int), .int .i64 sx, .int .i64 (dm : Int), .int .i64 (dr : Int), .int .i64 dx, .int .i64 (k : Int)] 69)))
  have R1 := hide (heap_alloc_last w (Obj.cells #[.int .i64 (op : Int), .int .i64 (sm : Int), .int .i64 (sr : Int), .int .i64 sx, .int .i64 (dm : Int), .int .i64 (dr : Int), .int .i64 dx, .int .i64 (k : Int)] 69))
  have VK := hk.rw _ (nAt_mem (show k < t.d.r.length by have := hk.rl; omega))
  have K1 := hide (show Dk (t.rg 7 (nAt t.d.r k)).d from hk.rgk 7 _ VK.1 VK.2)
  have V6 := hk.rw _ (nAt_mem (show 6 < t.d.r.length by have := hk.rl; omega))
  have SR := hide (fun v (p : Pz v g B gr rc y t st t.d.m) => p.setR 7 (nAt t.d.r k) (by omega))
  have AR := hide (fun v (p : Pz v g B gr rc y t st t.d.m) => p.atR k k8)
  have GB := hide (fun v (p : Pz v g B gr rc y (t.rg 7 (nAt t.d.r k)) st t.d.m) => goOn_any g B gr rc 6 y (t.rg 7 (nAt t.d.r k)).d v p.pg (by rw [(unhide K1).rl]; omega) (by rw [rg6]; exact V6.1) (by rw [rg6]; exact V6.2))
  rw [rg6] at GB
  have GO := hide (show ∀ v v', Pz v g B gr rc y (t.rg 7 (nAt t.d.r k)) st t.d.m → Pg v' g B gr rc y ((t.rg 7 (nAt t.d.r k)).d.reg 6 ((nAt t.d.r 6 + 2) % 65536)) → Pz v' g B gr rc y ((t.rg 7 (nAt t.d.r k)).rg 6 ((nAt t.d.r 6 + 2) % 65536)) st t.d.m from fun v v' p q => p.ofPg q)
  have AD := hide (fun v => adPlace_any (nAt t.d.r 6) v)
  have K3 := hide (show Dk ((t.rg 7 (nAt t.d.r k)).rg 6 ((nAt t.d.r 6 + 2) % 65536)).d from (unhide K1).regS _ _)
  have SH := ad_sh (nAt t.d.r 6) V6.1
  have RC := hide (fun v (p : Pz v g B gr rc y ((t.rg 7 (nAt t.d.r k)).rg 6 ((nAt t.d.r 6 + 2) % 65536)) st t.d.m) => reachZ p hk.ml (unhide K3) (-1) (nAt t.d.r 6) SH)
  have PL := hide (fun v (hb : ((t.rg 7 (nAt t.d.r k)).rg 6 ((nAt t.d.r 6 + 2) % 65536)).d.ldB (-1) (nAt t.d.r 6) = true) (p : Pz v g B gr rc y ((t.rg 7 (nAt t.d.r k)).rg 6 ((nAt t.d.r 6 + 2) % 65536)) st t.d.m) => (p.place hb SH).1)
  unfold CbIs
  rw [show (t.back1 k).d.has (nAt t.d.r 6) = ((t.rg 7 (nAt t.d.r k)).rg 6 ((nAt t.d.r 6 + 2) % 65536)).d.ldB (-1) (nAt t.d.r 6) from rfl]
  rw [show t.back k = ((t.rg 7 (nAt t.d.r k)).rg 6 ((nAt t.d.r 6 + 2) % 65536)).rg k (((t.rg 7 (nAt t.d.r k)).rg 6 ((nAt t.d.r 6 + 2) % 65536)).d.ldV (-1) (nAt t.d.r 6)) from rfl]
  have S3 := hide (fun v (u : Int) (p : Pz v g B gr rc y ((t.rg 7 (nAt t.d.r k)).rg 6 ((nAt t.d.r 6 + 2) % 65536)) st t.d.m) => p.setR k u k8)
  generalize ((t.rg 7 (nAt t.d.r k)).rg 6 ((nAt t.d.r 6 + 2) % 65536)).d.ldB (-1) (nAt t.d.r 6) = lb at RC PL ⊢
  generalize ((t.rg 7 (nAt t.d.r k)).rg 6 ((nAt t.d.r 6 + 2) % 65536)).d.ldV (-1) (nAt t.d.r 6) = lv at PL ⊢
  generalize (nAt t.d.r 6 + 2) % 65536 = x6 at GB GO RC PL S3 ⊢
  generalize (t.rg 7 (nAt t.d.r k)).rg 6 x6 = u2 at GO RC PL S3 ⊢
  generalize plP g gr (-1) (nAt t.d.r 6) = pp at RC PL
  generalize (t.rg 7 (nAt t.d.r k)).d.reg 6 x6 = dd at GB GO
  generalize nAt t.d.r 6 = v6 at GB AD RC
  generalize t.rg 7 (nAt t.d.r k) = u1 at SR GB GO
  generalize nAt t.d.r k = vk at SR AR
  clear hk VK V6 SH K1 K3
  have kr : (k : Int) < 8 := by omega
  have kn : ¬ (8 : Int) ≤ (k : Int) := by omega
  have H2 := hide ((unhide H1).later (below_drew (w := w.alloc (Obj.cells #[.int .i64 (op : Int), .int .i64 (sm : Int), .int .i64 (sr : Int), .int .i64 sx, .int .i64 (dm : Int), .int .i64 (dr : Int), .int .i64 dx, .int .i64 (k : Int)] 69))))
  have F2 := hide ((unhide F1).trans (Fm.of (below_drew (w := w.alloc (Obj.cells #[.int .i64 (op : Int), .int .i64 (sm : Int), .int .i64 (sr : Int), .int .i64 sx, .int .i64 (dm : Int), .int .i64 (dr : Int), .int .i64 dx, .int .i64 (k : Int)] 69)))))
  have R2 := hide (row_lat (unhide R1) (below_drew (w := w.alloc (Obj.cells #[.int .i64 (op : Int), .int .i64 (sm : Int), .int .i64 (sr : Int), .int .i64 sx, .int .i64 (dm : Int), .int .i64 (dr : Int), .int .i64 dx, .int .i64 (k : Int)] 69))))
  have c1 := (unhide H2).cr
  have c2 := insR 7 _ (unhide R2) rfl
  have c3 := unhide AR _ (unhide H2)
  obtain ⟨h3, f3, c4, c5⟩ := unhide SR _ (unhide H2)
  have H3 := hide h3
  have F3 := hide ((unhide F2).trans f3)
  have R3 := hide (f3.row (unhide R2) (by have := unhide GL; omega) (fun e => by have := unhide YL _ e; omega))
  clear h3 f3 h AR SR
  go_enter Tryz.func77, Tryz.ntmps77
  go_wp2_with fail
  refine wp_region_last (fun v => v = (w.alloc (Obj.cells #[.int .i64 (op : Int), .int .i64 (sm : Int), .int .i64 (sr : Int), .int .i64 sx, .int .i64 (dm : Int), .int .i64 (dr : Int), .int .i64 dx, .int .i64 (k : Int)] 69)).drew) 15 (by kernel_rfl) ?_
  generalize (w.alloc (Obj.cells #[.int .i64 (op : Int), .int .i64 (sm : Int), .int .i64 (sr : Int), .int .i64 sx, .int .i64 (dm : Int), .int .i64 (dr : Int), .int .i64 dx, .int .i64 (k : Int)] 69)).drew = wd at H2 F2 R2 H3 F3 R3 c1 c2 c3 c4 c5 ⊢
  refine wpAnyL_takeW (i := 0) (v := .pointer (some ⟨g, 0, none⟩)) rfl (by kernel_rfl) (by kernel_rfl) (by kernel_rfl) (by kernel_rfl) (fun _ _ _ h => h) (Or.inl ⟨by rfl, fun w hc => ?_⟩) (.inl rfl) ?_
  · clear hc; go_simp
  go_simp
  refine wpAnyL_takeW (i := 1) (v := .pointer (some ⟨g, 0, none⟩)) rfl (by kernel_rfl) (by kernel_rfl) (by kernel_rfl) (by kernel_rfl) (fun _ _ _ h => h) (Or.inl ⟨by rfl, fun w hc => ?_⟩) (.inl rfl) ?_
  · clear hc; go_simp
  go_simp
  refine wpAnyL_takeW (i := 2) (v := .pointer (some ⟨g, 256, none⟩)) rfl (by kernel_rfl) (by kernel_rfl) (by kernel_rfl) (by kernel_rfl) (fun _ _ _ h => h) (Or.inl ⟨by rfl, fun w hc => ?_⟩) (.inl rfl) ?_
  · clear hc; go_simp
  go_simp
  refine wpAnyL_takeW (i := 3) (v := .pointer (some ⟨g, 257, none⟩)) rfl (by kernel_rfl) (by kernel_rfl) (by kernel_rfl) (by kernel_rfl) (fun _ _ _ h => h) (Or.inl ⟨by rfl, fun w hc => ?_⟩) (.inl rfl) ?_
  · clear hc; go_simp
  go_simp
  refine wpAnyL_takeS (i := 4) (v := .slice (some ⟨gr, 0, none⟩) 8 rc) rfl (by kernel_rfl) (by kernel_rfl) (by kernel_rfl) (by kernel_rfl) (by kernel_rfl) (fun _ _ _ h => h) (Or.inl ⟨by rfl, fun w hc => ?_⟩) (rfl) ?_
  · rw [hc]; clear hc; go_simp
  go_simp
  refine wpAnyL_takeW (i := 5) (v := .pointer (some ⟨g, 0, none⟩)) rfl (by kernel_rfl) (by kernel_rfl) (by kernel_rfl) (by kernel_rfl) (fun _ _ _ h => h) (Or.inl ⟨by rfl, fun w hc => ?_⟩) (.inl rfl) ?_
  · clear hc; go_simp
  go_simp
  refine wpAnyL_takeW (i := 6) (v := .pointer (some ⟨g, 0, none⟩)) rfl (by kernel_rfl) (by kernel_rfl) (by kernel_rfl) (by kernel_rfl) (fun _ _ _ h => h) (Or.inl ⟨by rfl, fun w hc => ?_⟩) (.inl rfl) ?_
  · clear hc; go_simp
  go_simp
  refine wpAnyL_takeW (i := 7) (v := .pointer (some ⟨g, 256, none⟩)) rfl (by kernel_rfl) (by kernel_rfl) (by kernel_rfl) (by kernel_rfl) (fun _ _ _ h => h) (Or.inl ⟨by rfl, fun w hc => ?_⟩) (.inl rfl) ?_
  · clear hc; go_simp
  go_simp
  refine wpAnyL_takeW (i := 8) (v := .pointer (some ⟨g, 257, none⟩)) rfl (by kernel_rfl) (by kernel_rfl) (by kernel_rfl) (by kernel_rfl) (fun _ _ _ h => h) (Or.inl ⟨by rfl, fun w hc => ?_⟩) (.inl rfl) ?_
  · clear hc; go_simp
  go_simp
  refine wpAnyL_takeS (i := 9) (v := .slice (some ⟨gr, 0, none⟩) 8 rc) rfl (by kernel_rfl) (by kernel_rfl) (by kernel_rfl) (by kernel_rfl) (by kernel_rfl) (fun _ _ _ h => h) (Or.inl ⟨by rfl, fun w hc => ?_⟩) (rfl) ?_
  · rw [hc]; clear hc; go_simp
  go_simp
  refine wpAnyL_takeW (i := 10) (v := .pointer (some ⟨w.heap.size, 7, none⟩)) rfl (by kernel_rfl) (by kernel_rfl) (by kernel_rfl) (by kernel_rfl) (fun _ _ _ h => h) (Or.inl ⟨by rfl, fun w hc => ?_⟩) (.inl rfl) ?_
  · clear hc; go_simp
  go_simp
  refine wpAnyL_takeS (i := 11) (v := .int .i64 (k : Int)) rfl (by kernel_rfl) (by kernel_rfl) (by kernel_rfl) (by kernel_rfl) (by kernel_rfl) (fun _ _ _ h => h) (Or.inl ⟨by rfl, fun w hc => ?_⟩) (rfl) ?_
  · rw [hc]; clear hc; go_simp
  go_simp
  refine wpAnyL_takeW (i := 12) (v := .pointer (some ⟨gr, k, none⟩)) rfl (by kernel_rfl) (by kernel_rfl) (by kernel_rfl) (by kernel_rfl) (fun _ _ _ h => h) (Or.inl ⟨by rfl, fun w hc => ?_⟩) (.inl rfl) ?_
  · clear hc; go_simp
  go_simp
  refine wpAnyL_takeS (i := 13) (v := .int .i64 vk) rfl (by kernel_rfl) (by kernel_rfl) (by kernel_rfl) (by kernel_rfl) (by kernel_rfl) (fun _ _ _ h => h) (Or.inl ⟨by rfl, fun w hc => ?_⟩) (rfl) ?_
  · rw [hc]; clear hc; go_simp
  go_simp
  refine wpAnyL_takeW (i := 14) (v := .pointer (some ⟨gr, 7, none⟩)) rfl (by kernel_rfl) (by kernel_rfl) (by kernel_rfl) (by kernel_rfl) (fun _ _ _ h => h) (Or.inl ⟨by rfl, fun w hc => ?_⟩) (.inl rfl) ?_
  · clear hc; go_simp
  go_simp
  refine wpAnyL_one (i := 15) (by kernel_rfl) rfl (fun K2 hK => ?_)
  go_simp
  refine hK.out _ _ (fun h => absurd h (by decide)) ?_
  clear hK K2
  refine wpAnyL_done (by kernel_rfl) ?_ _
  generalize wd.setCell ⟨gr, 7, none⟩ (.int .i64 vk) = w3 at H3 F3 R3 ⊢
  clear H2 F2 R2 H1 F1 R1 c1 c2 c3 c4 c5
  have c1 := (unhide H3).cr
  have GBC := hide (unhide GB _ (unhide H3))
  clear GB
  go_wp2_with fail
  refine (unhide GBC).mono ?_
  rintro e w4 ⟨rfl, p4, g4⟩
  have H4 := hide (unhide GO _ _ (unhide H3) p4)
  have f4 := Fm.grownR (g := g) g4 (unhide H3).atr
  have F4 := hide ((unhide F3).trans f4)
  have R4 := hide (f4.row (unhide R3) (by have := unhide GL; omega) (fun e => by have := unhide YL _ e; omega))
  clear p4 g4 f4 GBC GO H3 F3 R3 c1
  go_wp2_with fail
  refine (unhide AD _).mono ?_
  rintro e w5 ⟨rfl, b5⟩
  have H5 := hide ((unhide H4).later b5)
  have F5 := hide ((unhide F4).trans (Fm.of b5))
  have R5 := hide (row_lat (unhide R4) b5)
  have RCC := hide (unhide RC _ (unhide H5))
  clear b5 AD RC
  go_wp2_with fail
  refine (unhide RCC).mono ?_
  rintro e w6 ⟨rfl, b6⟩
  have H6 := hide ((unhide H5).later b6)
  have F6 := hide ((unhide F5).trans (Fm.of b6))
  have R6 := hide (row_lat (unhide R5) b6)
  clear b6 RCC H4 F4 R4 H5 F5 R5
  cases lb
  · go_wp2
    go_ret
    exact ⟨rfl, ⟨fun h => by simp at h, unhide F6⟩⟩
  · have H7 := hide ((unhide H6).later (below_drew (w := w6)))
    have F7 := hide ((unhide F6).trans (Fm.of (below_drew (w := w6))))
    have R7 := hide (row_lat (unhide R6) (below_drew (w := w6)))
    have c1 := (unhide H7).cr
    have c2 := insR 7 _ (unhide R7) rfl
    have c3 := unhide PL _ (by trivial) (unhide H7)
    obtain ⟨h8, f8, c4, c5⟩ := unhide S3 _ lv (unhide H7)
    have H8 := hide h8
    have F8 := hide ((unhide F7).trans f8)
    clear h8 f8 S3 PL H6 F6 R6
    go_wp2_with fail
    refine wp_region_last (fun v => v = w6.drew) 11 (by kernel_rfl) ?_
    generalize w6.drew = we at H7 F7 R7 H8 F8 c1 c2 c3 c4 c5 ⊢
    refine wpAnyL_takeW (i := 0) (v := .pointer (some ⟨g, 0, none⟩)) rfl (by kernel_rfl) (by kernel_rfl) (by kernel_rfl) (by kernel_rfl) (fun _ _ _ h => h) (Or.inl ⟨by rfl, fun w hc => ?_⟩) (.inl rfl) ?_
    · clear hc; go_simp
    go_simp
    refine wpAnyL_takeW (i := 1) (v := .pointer (some ⟨g, 0, none⟩)) rfl (by kernel_rfl) (by kernel_rfl) (by kernel_rfl) (by kernel_rfl) (fun _ _ _ h => h) (Or.inl ⟨by rfl, fun w hc => ?_⟩) (.inl rfl) ?_
    · clear hc; go_simp
    go_simp
    refine wpAnyL_takeW (i := 2) (v := .pointer (some ⟨g, 256, none⟩)) rfl (by kernel_rfl) (by kernel_rfl) (by kernel_rfl) (by kernel_rfl) (fun _ _ _ h => h) (Or.inl ⟨by rfl, fun w hc => ?_⟩) (.inl rfl) ?_
    · clear hc; go_simp
    go_simp
    refine wpAnyL_takeW (i := 3) (v := .pointer (some ⟨g, 257, none⟩)) rfl (by kernel_rfl) (by kernel_rfl) (by kernel_rfl) (by kernel_rfl) (fun _ _ _ h => h) (Or.inl ⟨by rfl, fun w hc => ?_⟩) (.inl rfl) ?_
    · clear hc; go_simp
    go_simp
    refine wpAnyL_takeS (i := 4) (v := .slice (some ⟨gr, 0, none⟩) 8 rc) rfl (by kernel_rfl) (by kernel_rfl) (by kernel_rfl) (by kernel_rfl) (by kernel_rfl) (fun _ _ _ h => h) (Or.inl ⟨by rfl, fun w hc => ?_⟩) (rfl) ?_
    · rw [hc]; clear hc; go_simp
    go_simp
    refine wpAnyL_takeW (i := 5) (v := .pointer (some ⟨w.heap.size, 7, none⟩)) rfl (by kernel_rfl) (by kernel_rfl) (by kernel_rfl) (by kernel_rfl) (fun _ _ _ h => h) (Or.inl ⟨by rfl, fun w hc => ?_⟩) (.inl rfl) ?_
    · clear hc; go_simp
    go_simp
    refine wpAnyL_takeS (i := 6) (v := .int .i64 (k : Int)) rfl (by kernel_rfl) (by kernel_rfl) (by kernel_rfl) (by kernel_rfl) (by kernel_rfl) (fun _ _ _ h => h) (Or.inl ⟨by rfl, fun w hc => ?_⟩) (rfl) ?_
    · rw [hc]; clear hc; go_simp
    go_simp
    refine wpAnyL_takeW (i := 7) (v := .pointer (some pp)) rfl (by kernel_rfl) (by kernel_rfl) (by kernel_rfl) (by kernel_rfl) (fun _ _ _ h => h) (Or.inl ⟨by rfl, fun w hc => ?_⟩) (.inl rfl) ?_
    · clear hc; go_simp
    go_simp
    refine wpAnyL_takeW (i := 8) (v := .pointer (some pp)) rfl (by kernel_rfl) (by kernel_rfl) (by kernel_rfl) (by kernel_rfl) (fun _ _ _ h => h) (Or.inl ⟨by rfl, fun w hc => ?_⟩) (.inl rfl) ?_
    · clear hc; go_simp
    go_simp
    refine wpAnyL_takeS (i := 9) (v := .int .i64 lv) rfl (by kernel_rfl) (by kernel_rfl) (by kernel_rfl) (by kernel_rfl) (by kernel_rfl) (fun _ _ _ h => h) (Or.inl ⟨by rfl, fun w hc => ?_⟩) (rfl) ?_
    · rw [hc]; clear hc; go_simp
    go_simp
    refine wpAnyL_takeW (i := 10) (v := .pointer (some ⟨gr, k, none⟩)) rfl (by kernel_rfl) (by kernel_rfl) (by kernel_rfl) (by kernel_rfl) (fun _ _ _ h => h) (Or.inl ⟨by rfl, fun w hc => ?_⟩) (.inl rfl) ?_
    · clear hc; go_simp
    go_simp
    refine wpAnyL_one (i := 11) (by kernel_rfl) rfl (fun K2 hK => ?_)
    go_simp
    refine hK.out _ _ (fun h => absurd h (by decide)) ?_
    clear hK K2
    refine wpAnyL_done (by kernel_rfl) ?_ _
    generalize we.setCell ⟨gr, k, none⟩ (.int .i64 lv) = w8 at H8 F8 ⊢
    go_wp2
    go_ret
    exact ⟨rfl, ⟨fun _ => unhide H8, unhide F8⟩⟩
end Go.Proofs.YtjpbjbnialehbaaGreatDoor

namespace Go.Proofs.YtjpbjbnialehbaaGreatDoor
open Go.ChangeShapes Go.WideShapes Go.ChangeAt Go.RowKit
set_option linter.unusedVariables false
set_option maxRecDepth 8000
set_option linter.unusedSimpArgs false
def EmIs (B g : Nat) (y : Mv) (t t2 : Ms) (st n : Int) (ok : Bool) (w : World) : Prop :=
  Calls Tryz.prog 96 #[.pointer (some ⟨g, 0, none⟩), .int .i64 n] w fun e w' => e = .returned (.bool ok) ∧ ∃ y', (ok = true → Sm w' B g y' t2 st) ∧ Fm w w' g y y'
set_option maxHeartbeats 1000000 in
theorem emt_x (B g : Nat) (y : Mv) (t t2 : Ms) (st n : Int) (w : World) (h : Sm w B g y t st) (n1 : n ≠ 1) (n2 : n ≠ 2) : EmIs B g y t t2 st n false w := by
  have F0 := hide (Fm.of (g := g) (y := y) (Below.refl w.heap.size w))
  unfold EmIs
  clear h
  go_enter Tryz.func96, Tryz.ntmps96
  go_wp2
  go_ret
  exact ⟨rfl, y, fun h => Bool.noConfusion h, unhide F0⟩
set_option maxHeartbeats 1000000 in
theorem emt_f (B g : Nat) (y : Mv) (t t2 : Ms) (st : Int) (w : World) (h : Sm w B g y t st) (hk : Dk t.d) (hl : 50 ≤ t.d.o.length) : EmIs B g y t t2 st 1 false w := by
  have F0 := hide (Fm.of (g := g) (y := y) (Below.refl w.heap.size w))
  have co := row_o h.row
  have hn : (50 : Int) ≤ y.o.n := by have := h.own.o.len; omega
  have hn2 : ¬ (y.o.n : Int) < 50 := by omega
  unfold EmIs
  generalize y.o.n = on at co hn hn2
  clear h hk
  go_enter Tryz.func96, Tryz.ntmps96
  go_wp2
  go_ret
  first | exact ⟨rfl, y, fun h => Bool.noConfusion h, unhide F0⟩ | exact ⟨rfl, y, unhide F0⟩
set_option maxHeartbeats 1000000 in
theorem emt_2e (B g : Nat) (y : Mv) (t : Ms) (st : Int) (w : World) (h : Sm w B g y t st) (hk : Dk t.d) (hl : t.d.i = []) : EmIs B g y t ((t.rg 0 65535).cs true) st 2 true w := by
  have ci := row_i h.row
  have hn : y.i.n = 0 := by have := h.own.i.len; rw [hl] at this; simp at this; omega
  rw [hn] at ci
  obtain ⟨gr, rc, er⟩ := h.regs hk.rl
  have c1 := h.rcell er
  have SC := hide (h.setR er 0 65535 (by have := hk.rl; omega))
  have c2 := (unhide SC).2.2.1
  have c3 := (unhide SC).2.2.2
  have H1 := hide (unhide SC).1
  have F1 := hide (unhide SC).2.1
  have c5 := row_c (unhide H1).row
  have f5 := row_fz (unhide H1).row 5
  obtain ⟨h4, f4⟩ := (unhide H1).setC true
  have H4 := hide h4
  have F4 := hide ((unhide F1).trans f4)
  unfold EmIs
  clear h hk hl hn er SC h4 f4 H1 F1
  go_enter Tryz.func96, Tryz.ntmps96
  go_wp2
  go_ret
  exact ⟨rfl, _, fun _ => unhide H4, unhide F4⟩
end Go.Proofs.YtjpbjbnialehbaaGreatDoor

namespace Go.Proofs.YtjpbjbnialehbaaGreatDoor
open Go.ChangeShapes Go.WideShapes Go.ChangeAt Go.RowKit
set_option linter.unusedVariables false
set_option maxRecDepth 8000
set_option linter.unusedSimpArgs false
theorem OwnM.putO {w w' : World} {B : Nat} {x : Mv} {d : Md} {ns : List Int} (h : OwnM w B x d) (o' : Sl) (hg : w.grownBy w' x.o.v.ownBlock) (ho : OwnN w' B o'.v ns) (hb : ∀ b, o'.v.ownBlock = some b → x.o.v.ownBlock = some b ∨ w.heap.size ≤ b) : OwnM w' B { x with o := o' } ⟨d.m, d.r, d.i, ns⟩ :=
  { m := h.m.keep fun q hv hq => hg.block q hq (fun e => h.mo q hv e.symm)
    r := h.r.keep fun q hv hq => hg.block q hq (fun e => h.ro q hv e.symm)
    i := h.i.keep fun q hv hq => hg.block q hq (fun e => h.io q hv e.symm)
    o := ho
    mr := h.mr
    mi := h.mi
    ri := h.ri
    mo := fun b hm k => (hb b k).elim (fun e => h.mo b hm e) (fun l => by have := (h.m.lt hm).2; omega)
    ro := fun b hm k => (hb b k).elim (fun e => h.ro b hm e) (fun l => by have := (h.r.lt hm).2; omega)
    io := fun b hm k => (hb b k).elim (fun e => h.io b hm e) (fun l => by have := (h.i.lt hm).2; omega) }
def Ms.out (t : Ms) (ns : List Int) : Ms := { t with d := ⟨t.d.m, t.d.r, t.d.i, ns⟩ }
theorem Sm.mid {w w1 : World} {B g : Nat} {y : Mv} {t : Ms} {st : Int} (h : Sm w B g y t st) (hg : w.grownBy w1 y.o.v.ownBlock) : w1.heap[g]? = some (.cells y.cs 26 (0, 0)) :=
  (hg.block g (row_lt h.row) (fun e => h.ne g (.inr (.inr (.inr e.symm))) rfl)).trans h.row
theorem Sm.putO {w w1 : World} {B g : Nat} {y : Mv} {t : Ms} {st : Int} {ns : List Int} (h : Sm w B g y t st) (o' : Sl) (hg : w.grownBy w1 y.o.v.ownBlock) (ho : OwnN w1 B o'.v ns) (hb : ∀ b, o'.v.ownBlock = some b → y.o.v.ownBlock = some b ∨ w.heap.size ≤ b) :
    Sm (w1.setCell ⟨g, 7, none⟩ o'.v) B g { y with o := o' } (t.out ns) st ∧ Fm w (w1.setCell ⟨g, 7, none⟩ o'.v) g y { y with o := o' } := by
  have hat : ∀ b, Mv.at { y with o := o' } b → y.at b ∨ w.heap.size ≤ b := fun b k => by
    rcases k with k | k | k | k
    · exact .inl (.inl k)
    · exact .inl (.inr (.inl k))
    · exact .inl (.inr (.inr (.inl k)))
    · exact (hb b k).elim (fun e => .inl (.inr (.inr (.inr e)))) .inr
  have hne : ∀ b, Mv.at { y with o := o' } b → b ≠ g := fun b k e => (hat b k).elim (fun a => h.ne b a e) (fun l => by have := row_lt h.row; omega)
  have F1 : Fm w w1 g y { y with o := o' } := ⟨hg.os, hg.tape, hg.output, hg.size, fun k hk _ hy => hg.block k hk (fun e => hy (.inr (.inr (.inr e.symm)))), hat⟩
  refine ⟨⟨row_put (h.mid hg) 7 o'.v { y with o := o' } rfl, (h.own.putO o' hg ho hb).keepH fun b k _ => Below.heap_setCell w1 ⟨g, 7, none⟩ o'.v b (hne b k), h.fl, h.lo, hne⟩, F1.trans (Fm.grown (grownBy_set (b := g) (o := 7) o'.v) (.inl rfl) (fun k hk => hk))⟩
theorem rdN_one {w : World} {g : Nat} {x : Int} {τ : TypeId} (h : w.heap[g]? = some (.cells #[.int .i64 x] τ (0, 0))) : RdN w (some ⟨g, 0, none⟩) [x] :=
  .inr ⟨g, 0, rfl, row_lt h, fun j hj => by
    have : j = 0 := by simpa using hj
    subst this
    exact (cell_of_row w g 0 _ τ _ h).trans rfl⟩
set_option maxHeartbeats 2000000 in
theorem emt_1 (B g : Nat) (y : Mv) (t : Ms) (st : Int) (w : World) (h : Sm w B g y t st) (hk : Dk t.d) (hl : t.d.o.length < 50) : EmIs B g y t (t.out (t.d.o ++ [nAt t.d.r 0])) st 1 true w := by
  have GL := hide (show g < w.heap.size from row_lt h.row)
  obtain ⟨gr, rc, er⟩ := h.regs hk.rl
  have ER := hide er
  have co := row_o h.row
  have HD := hide (h.later (below_drew (w := w)))
  have C0 := hide (show w.drew.cell? ⟨g, 1, none⟩ = some (.slice (some ⟨gr, 0, none⟩) 8 rc) ∧ w.drew.cell? ⟨gr, 0, none⟩ = some (.int .i64 (nAt t.d.r 0)) from ⟨(unhide HD).rcell er, ((unhide HD).setR er 0 0 (by have := hk.rl; omega)).2.2.1⟩)
  have CO := hide (row_o (unhide HD).row)
  have F0 := hide (Fm.of (g := g) (y := y) (below_drew (w := w)))
  have hl2 := h.own.o.len
  have hn : (y.o.n : Int) < 50 := by omega
  have HL := hide hl
  have T8 := hide hk.rl
  unfold EmIs
  obtain ⟨r0, hr0⟩ : ∃ q, nAt t.d.r 0 = q := ⟨_, rfl⟩
  have ER0 := hide hr0
  rw [hr0] at C0 ⊢
  clear hr0
  have AO := hide (fun v (hv : Sm v B g y t st) => hv.own.o)
  obtain ⟨oa, hoa⟩ : ∃ q, y.o.a = q := ⟨_, rfl⟩
  obtain ⟨on, hon⟩ : ∃ q, y.o.n = q := ⟨_, rfl⟩
  obtain ⟨oc, hoc⟩ : ∃ q, y.o.c = q := ⟨_, rfl⟩
  have HO := hide (show y.o.v = .slice oa on oc by unfold Sl.v; rw [hoa, hon, hoc])
  rw [hoa, hon, hoc] at co CO
  rw [hon] at hn
  have hn0 : (0 : Int) ≤ (on : Int) := by omega
  clear hoa hon hoc h hk er hl hl2
  go_enter Tryz.func96, Tryz.ntmps96
  go_wp2_with fail
  refine wp_region_held_drew (S := fun v => v.cell? ⟨g, 1, none⟩ = some (.slice (some ⟨gr, 0, none⟩) 8 rc) ∧ v.cell? ⟨gr, 0, none⟩ = some (.int .i64 r0)) (by kernel_rfl) (unhide C0) (fun hS => ?_)
  have HS := hide hS
  clear hS
  generalize w.drew = wd at HD C0 CO F0 HS ⊢
  refine wpAnyH_take (i := 0) (v := .pointer (some ⟨g, 0, none⟩)) rfl (by kernel_rfl) (by kernel_rfl) (by kernel_rfl) (fun _ _ _ h => h) (Or.inl ⟨by rfl, fun w hc => ?_⟩) (unhide HS) ?_
  · clear hc; go_simp
  go_simp
  refine wpAnyH_take (i := 1) (v := .pointer (some ⟨g, 0, none⟩)) rfl (by kernel_rfl) (by kernel_rfl) (by kernel_rfl) (fun _ _ _ h => h) (Or.inl ⟨by rfl, fun w hc => ?_⟩) (unhide HS) ?_
  · clear hc; go_simp
  go_simp
  refine wpAnyH_take (i := 2) (v := .pointer (some ⟨g, 0, none⟩)) rfl (by kernel_rfl) (by kernel_rfl) (by kernel_rfl) (fun _ _ _ h => h) (Or.inl ⟨by rfl, fun w hc => ?_⟩) (unhide HS) ?_
  · clear hc; go_simp
  go_simp
  refine wpAnyH_take (i := 3) (v := .pointer (some ⟨g, 7, none⟩)) rfl (by kernel_rfl) (by kernel_rfl) (by kernel_rfl) (fun _ _ _ h => h) (Or.inl ⟨by rfl, fun w hc => ?_⟩) (unhide HS) ?_
  · clear hc; go_simp
  go_simp
  refine wpAnyH_take (i := 5) (v := .pointer (some ⟨g, 0, none⟩)) rfl (by kernel_rfl) (by kernel_rfl) (by kernel_rfl) (fun _ _ _ h => h) (Or.inl ⟨by rfl, fun w hc => ?_⟩) (unhide HS) ?_
  · clear hc; go_simp
  go_simp
  refine wpAnyH_take (i := 6) (v := .pointer (some ⟨g, 0, none⟩)) rfl (by kernel_rfl) (by kernel_rfl) (by kernel_rfl) (fun _ _ _ h => h) (Or.inl ⟨by rfl, fun w hc => ?_⟩) (unhide HS) ?_
  · clear hc; go_simp
  go_simp
  refine wpAnyH_take (i := 7) (v := .pointer (some ⟨g, 1, none⟩)) rfl (by kernel_rfl) (by kernel_rfl) (by kernel_rfl) (fun _ _ _ h => h) (Or.inl ⟨by rfl, fun w hc => ?_⟩) (unhide HS) ?_
  · clear hc; go_simp
  go_simp
  refine wpAnyH_take (i := 8) (v := .slice (some ⟨gr, 0, none⟩) 8 rc) rfl (by kernel_rfl) (by kernel_rfl) (by kernel_rfl) (fun _ _ _ h => h) (Or.inl ⟨by rfl, fun w hc => ?_⟩) (unhide HS) ?_
  · obtain ⟨h1, h2⟩ := hc; go_simp
  go_simp
  refine wpAnyH_take (i := 9) (v := .pointer (some ⟨gr, 0, none⟩)) rfl (by kernel_rfl) (by kernel_rfl) (by kernel_rfl) (fun _ _ _ h => h) (Or.inl ⟨by rfl, fun w hc => ?_⟩) (unhide HS) ?_
  · clear hc; go_simp
  go_simp
  refine wpAnyH_take (i := 10) (v := .int .i64 r0) rfl (by kernel_rfl) (by kernel_rfl) (by kernel_rfl) (fun _ _ _ h => h) (Or.inl ⟨by rfl, fun w hc => ?_⟩) (unhide HS) ?_
  · obtain ⟨h1, h2⟩ := hc; go_simp
  go_simp
  refine wpAnyH_ready (rs := [4, 11]) (by kernel_rfl) (by simp) ?_
  refine AllReadyH.cons rfl (fun K2 hK => ?_) (AllReadyH.cons rfl (fun K2 hK => ?_) (AllReadyH.nil))
  · skip
    have c2 := unhide CO
    go_simp
    clear c2
    refine hK.out _ _ (unhide C0) (fun hS => ?_)
    clear HS
    have HS := hide hS
    clear hS hK K2
    refine wpAnyH_ready (rs := [11]) (by kernel_rfl) (by simp) ?_
    refine AllReadyH.cons rfl (fun K2 hK => ?_) (AllReadyH.nil)
    go_simp
    have HA := hide ((unhide HD).later (below_new wd (Obj.cells #[.int .i64 r0] 3)))
    have FA := hide ((unhide F0).trans (Fm.of (below_new wd (Obj.cells #[.int .i64 r0] 3))))
    have C1 := hide (show (wd.alloc (Obj.cells #[.int .i64 r0] 3)).cell? ⟨g, 1, none⟩ = some (.slice (some ⟨gr, 0, none⟩) 8 rc) ∧ (wd.alloc (Obj.cells #[.int .i64 r0] 3)).cell? ⟨gr, 0, none⟩ = some (.int .i64 r0) from ⟨(unhide HA).rcell (unhide ER), ((below_new wd (Obj.cells #[.int .i64 r0] 3)).cell (p := ⟨gr, 0, none⟩) ((unhide HD).own.lo (at_r (unhide ER))).2).trans (unhide C0).2⟩)
    have CA := hide (show (wd.alloc (Obj.cells #[.int .i64 r0] 3)).cell? ⟨g, 7, none⟩ = some (.slice oa on oc) from ((below_new wd (Obj.cells #[.int .i64 r0] 3)).cell (p := ⟨g, 7, none⟩) (row_lt (unhide HD).row)).trans (unhide CO))
    have RA := hide (heap_alloc_last wd (Obj.cells #[.int .i64 r0] 3))
    refine hK.out _ _ (unhide C1) (fun hS => ?_)
    clear HS
    have HS := hide hS
    clear hS hK K2
    refine wpAnyH_ready (rs := [12]) (by kernel_rfl) (by simp) ?_
    refine AllReadyH.cons rfl (fun K2 hK => ?_) (AllReadyH.nil)
    rw [if_pos (by rfl)]
    refine wp_app _ _ rfl B (.slice oa on oc) t.d.o rfl (by rw [← unhide HO]; exact unhide AO _ (unhide HA)) ⟨some ⟨wd.heap.size, 0, none⟩, 1, 1⟩ [r0] rfl (rdN_one (unhide RA)) rfl (fun e => by cases e) (by have := unhide HL; simp; omega) (by have := (unhide HA).lo; have := row_lt (unhide HA).row; omega) (fun v' w2 o2 g2 b2 => ?_)
    have G2 := hide (show (wd.alloc (Obj.cells #[.int .i64 r0] 3)).grownBy w2 y.o.v.ownBlock by rw [unhide HO]; exact g2)
    have RK := hide (show OwnN w2 B (.slice (some ⟨gr, 0, none⟩) 8 rc) t.d.r by
      have k := (unhide HA).own.r.keep fun q hv hq => (unhide G2).block q hq (fun e => (unhide HA).own.ro q hv e.symm)
      rw [unhide ER] at k
      exact k)
    have C2 := hide (show w2.cell? ⟨g, 1, none⟩ = some (.slice (some ⟨gr, 0, none⟩) 8 rc) ∧ w2.cell? ⟨gr, 0, none⟩ = some (.int .i64 r0) from ⟨by rw [row_r ((unhide HA).mid (unhide G2)), unhide ER], by rw [((unhide RK).cellAt 0 (by have := unhide T8; omega)).1, unhide ER0]⟩)
    have C3 := hide (And.intro (row_o ((unhide HA).mid (unhide G2))) (row_fz ((unhide HA).mid (unhide G2)) 7))
    rcases o2.form with ⟨_, e0⟩ | ⟨gb, cap, rfl, _⟩
    · exact absurd e0 (by simp)
    have PO := hide ((unhide HA).putO ⟨some ⟨gb, 0, none⟩, (t.d.o ++ [r0]).length, cap⟩ (unhide G2) o2 (fun b hb => b2.elim (fun k => .inl (by rw [unhide HO, ← k]; exact hb)) (fun k => .inr (by have k2 := hb.symm.trans k; cases k2; exact Nat.le_refl _))))
    have H9 := hide (unhide PO).1
    have F9 := hide ((unhide FA).trans (unhide PO).2)
    have C9 := hide (show (w2.setCell ⟨g, 7, none⟩ (.slice (some ⟨gb, 0, none⟩) (t.d.o ++ [r0]).length cap)).cell? ⟨g, 1, none⟩ = some (.slice (some ⟨gr, 0, none⟩) 8 rc) ∧ (w2.setCell ⟨g, 7, none⟩ (.slice (some ⟨gb, 0, none⟩) (t.d.o ++ [r0]).length cap)).cell? ⟨gr, 0, none⟩ = some (.int .i64 r0) from
      ⟨(unhide H9).rcell (unhide ER), (((unhide H9).setR (unhide ER) 0 0 (by show 0 < t.d.r.length; have := unhide T8; omega)).2.2.1).trans (congrArg (fun q : Int => some (Value.int .i64 q)) (unhide ER0))⟩)
    generalize hN : (t.d.o ++ [r0]).length = oN at C9 H9 F9 ⊢
    clear o2 g2 b2 PO G2 RK RA CA C1 HA FA hN
    refine hK.out _ _ (unhide C2) (fun hS => ?_)
    clear HS
    have HS := hide hS
    clear hS hK K2
    refine wpAnyH_take (i := 13) (v := .pointer (some ⟨g, 0, none⟩)) rfl (by kernel_rfl) (by kernel_rfl) (by kernel_rfl) (fun _ _ _ h => h) (Or.inl ⟨by rfl, fun w hc => ?_⟩) (unhide HS) ?_
    · clear hc; go_simp
    go_simp
    refine wpAnyH_take (i := 14) (v := .pointer (some ⟨g, 7, none⟩)) rfl (by kernel_rfl) (by kernel_rfl) (by kernel_rfl) (fun _ _ _ h => h) (Or.inl ⟨by rfl, fun w hc => ?_⟩) (unhide HS) ?_
    · clear hc; go_simp
    go_simp
    refine wpAnyH_ready (rs := [15]) (by kernel_rfl) (by simp) ?_
    refine AllReadyH.cons rfl (fun K2 hK => ?_) (AllReadyH.nil)
    obtain ⟨c2, c3⟩ := unhide C3
    go_simp
    clear c2 c3
    refine hK.out _ _ (unhide C9) (fun hS => ?_)
    clear HS
    have HS := hide hS
    clear hS hK K2
    refine wpAnyH_done (by kernel_rfl) ?_ _
    clear HS
    go_wp2_with fail
    go_ret
    exact ⟨rfl, _, fun _ => unhide H9, unhide F9⟩
  · skip
    go_simp
    have HA := hide ((unhide HD).later (below_new wd (Obj.cells #[.int .i64 r0] 3)))
    have FA := hide ((unhide F0).trans (Fm.of (below_new wd (Obj.cells #[.int .i64 r0] 3))))
    have C1 := hide (show (wd.alloc (Obj.cells #[.int .i64 r0] 3)).cell? ⟨g, 1, none⟩ = some (.slice (some ⟨gr, 0, none⟩) 8 rc) ∧ (wd.alloc (Obj.cells #[.int .i64 r0] 3)).cell? ⟨gr, 0, none⟩ = some (.int .i64 r0) from ⟨(unhide HA).rcell (unhide ER), ((below_new wd (Obj.cells #[.int .i64 r0] 3)).cell (p := ⟨gr, 0, none⟩) ((unhide HD).own.lo (at_r (unhide ER))).2).trans (unhide C0).2⟩)
    have CA := hide (show (wd.alloc (Obj.cells #[.int .i64 r0] 3)).cell? ⟨g, 7, none⟩ = some (.slice oa on oc) from ((below_new wd (Obj.cells #[.int .i64 r0] 3)).cell (p := ⟨g, 7, none⟩) (row_lt (unhide HD).row)).trans (unhide CO))
    have RA := hide (heap_alloc_last wd (Obj.cells #[.int .i64 r0] 3))
    refine hK.out _ _ (unhide C1) (fun hS => ?_)
    clear HS
    have HS := hide hS
    clear hS hK K2
    refine wpAnyH_ready (rs := [4]) (by kernel_rfl) (by simp) ?_
    refine AllReadyH.cons rfl (fun K2 hK => ?_) (AllReadyH.nil)
    have c2 := unhide CA
    go_simp
    clear c2
    refine hK.out _ _ (unhide C1) (fun hS => ?_)
    clear HS
    have HS := hide hS
    clear hS hK K2
    refine wpAnyH_ready (rs := [12]) (by kernel_rfl) (by simp) ?_
    refine AllReadyH.cons rfl (fun K2 hK => ?_) (AllReadyH.nil)
    rw [if_pos (by rfl)]
    refine wp_app _ _ rfl B (.slice oa on oc) t.d.o rfl (by rw [← unhide HO]; exact unhide AO _ (unhide HA)) ⟨some ⟨wd.heap.size, 0, none⟩, 1, 1⟩ [r0] rfl (rdN_one (unhide RA)) rfl (fun e => by cases e) (by have := unhide HL; simp; omega) (by have := (unhide HA).lo; have := row_lt (unhide HA).row; omega) (fun v' w2 o2 g2 b2 => ?_)
    have G2 := hide (show (wd.alloc (Obj.cells #[.int .i64 r0] 3)).grownBy w2 y.o.v.ownBlock by rw [unhide HO]; exact g2)
    have RK := hide (show OwnN w2 B (.slice (some ⟨gr, 0, none⟩) 8 rc) t.d.r by
      have k := (unhide HA).own.r.keep fun q hv hq => (unhide G2).block q hq (fun e => (unhide HA).own.ro q hv e.symm)
      rw [unhide ER] at k
      exact k)
    have C2 := hide (show w2.cell? ⟨g, 1, none⟩ = some (.slice (some ⟨gr, 0, none⟩) 8 rc) ∧ w2.cell? ⟨gr, 0, none⟩ = some (.int .i64 r0) from ⟨by rw [row_r ((unhide HA).mid (unhide G2)), unhide ER], by rw [((unhide RK).cellAt 0 (by have := unhide T8; omega)).1, unhide ER0]⟩)
    have C3 := hide (And.intro (row_o ((unhide HA).mid (unhide G2))) (row_fz ((unhide HA).mid (unhide G2)) 7))
    rcases o2.form with ⟨_, e0⟩ | ⟨gb, cap, rfl, _⟩
    · exact absurd e0 (by simp)
    have PO := hide ((unhide HA).putO ⟨some ⟨gb, 0, none⟩, (t.d.o ++ [r0]).length, cap⟩ (unhide G2) o2 (fun b hb => b2.elim (fun k => .inl (by rw [unhide HO, ← k]; exact hb)) (fun k => .inr (by have k2 := hb.symm.trans k; cases k2; exact Nat.le_refl _))))
    have H9 := hide (unhide PO).1
    have F9 := hide ((unhide FA).trans (unhide PO).2)
    have C9 := hide (show (w2.setCell ⟨g, 7, none⟩ (.slice (some ⟨gb, 0, none⟩) (t.d.o ++ [r0]).length cap)).cell? ⟨g, 1, none⟩ = some (.slice (some ⟨gr, 0, none⟩) 8 rc) ∧ (w2.setCell ⟨g, 7, none⟩ (.slice (some ⟨gb, 0, none⟩) (t.d.o ++ [r0]).length cap)).cell? ⟨gr, 0, none⟩ = some (.int .i64 r0) from
      ⟨(unhide H9).rcell (unhide ER), (((unhide H9).setR (unhide ER) 0 0 (by show 0 < t.d.r.length; have := unhide T8; omega)).2.2.1).trans (congrArg (fun q : Int => some (Value.int .i64 q)) (unhide ER0))⟩)
    generalize hN : (t.d.o ++ [r0]).length = oN at C9 H9 F9 ⊢
    clear o2 g2 b2 PO G2 RK RA CA C1 HA FA hN
    refine hK.out _ _ (unhide C2) (fun hS => ?_)
    clear HS
    have HS := hide hS
    clear hS hK K2
    refine wpAnyH_take (i := 13) (v := .pointer (some ⟨g, 0, none⟩)) rfl (by kernel_rfl) (by kernel_rfl) (by kernel_rfl) (fun _ _ _ h => h) (Or.inl ⟨by rfl, fun w hc => ?_⟩) (unhide HS) ?_
    · clear hc; go_simp
    go_simp
    refine wpAnyH_take (i := 14) (v := .pointer (some ⟨g, 7, none⟩)) rfl (by kernel_rfl) (by kernel_rfl) (by kernel_rfl) (fun _ _ _ h => h) (Or.inl ⟨by rfl, fun w hc => ?_⟩) (unhide HS) ?_
    · clear hc; go_simp
    go_simp
    refine wpAnyH_ready (rs := [15]) (by kernel_rfl) (by simp) ?_
    refine AllReadyH.cons rfl (fun K2 hK => ?_) (AllReadyH.nil)
    obtain ⟨c2, c3⟩ := unhide C3
    go_simp
    clear c2 c3
    refine hK.out _ _ (unhide C9) (fun hS => ?_)
    clear HS
    have HS := hide hS
    clear hS hK K2
    refine wpAnyH_done (by kernel_rfl) ?_ _
    clear HS
    go_wp2_with fail
    go_ret
    exact ⟨rfl, _, fun _ => unhide H9, unhide F9⟩
end Go.Proofs.YtjpbjbnialehbaaGreatDoor

namespace Go.Proofs.YtjpbjbnialehbaaGreatDoor
open Go.ChangeShapes Go.WideShapes Go.ChangeAt Go.RowKit
set_option linter.unusedVariables false
set_option maxRecDepth 8000
set_option linter.unusedSimpArgs false
theorem own_formL {w : World} {B : Nat} {s : Sl} {ns : List Int} (h : OwnN w B s.v ns) (h0 : 0 < ns.length) : ∃ g c, s = ⟨some ⟨g, 0, none⟩, ns.length, c⟩ ∧ ns.length ≤ c := by
  obtain ⟨sa, sn, sc⟩ := s
  rcases h.form with ⟨_, e⟩ | ⟨g, c, e, _, _, hc, _⟩
  · rw [e] at h0; simp at h0
  · unfold Sl.v at e
    simp at e
    obtain ⟨rfl, rfl, rfl⟩ := e
    exact ⟨g, sc, rfl, hc⟩
theorem rdN_tl {w : World} {b : Nat} {x : Int} {xs : List Int} (h : RdN w (some ⟨b, 0, none⟩) (x :: xs)) : RdN w (some ⟨b, 1, none⟩) xs := by
  rcases h with h | ⟨b', off, ha, hlt, hc⟩
  · cases h
  · cases ha
    exact .inr ⟨b, 1, rfl, hlt, fun i hi => by
      have k := hc (i + 1) (by simp; omega)
      rw [show 0 + (i + 1) = 1 + i by omega] at k
      exact k⟩
theorem OwnM.putI {w w' : World} {B : Nat} {x : Mv} {d : Md} {ns : List Int} (h : OwnM w B x d) (i' : Sl) (hg : Below w.heap.size w w') (ho : OwnN w' B i'.v ns) (hb : ∀ b, i'.v.ownBlock = some b → w.heap.size ≤ b) : OwnM w' B { x with i := i' } ⟨d.m, d.r, ns, d.o⟩ :=
  { m := h.m.later hg
    r := h.r.later hg
    i := ho
    o := h.o.later hg
    mr := h.mr
    mo := h.mo
    ro := h.ro
    mi := fun b hm k => by have := (h.m.lt hm).2; have := hb b k; omega
    ri := fun b hm k => by have := (h.r.lt hm).2; have := hb b k; omega
    io := fun b k hm => by have := (h.o.lt hm).2; have := hb b k; omega }
def Ms.inp (t : Ms) (ns : List Int) : Ms := { t with d := ⟨t.d.m, t.d.r, ns, t.d.o⟩ }
theorem Sm.putI {w w1 : World} {B g : Nat} {y : Mv} {t : Ms} {st : Int} {ns : List Int} (h : Sm w B g y t st) (i' : Sl) (hg : Below w.heap.size w w1) (ho : OwnN w1 B i'.v ns) (hb : ∀ b, i'.v.ownBlock = some b → w.heap.size ≤ b) :
    Sm (w1.setCell ⟨g, 6, none⟩ i'.v) B g { y with i := i' } (t.inp ns) st ∧ Fm w (w1.setCell ⟨g, 6, none⟩ i'.v) g y { y with i := i' } := by
  have hat : ∀ b, Mv.at { y with i := i' } b → y.at b ∨ w.heap.size ≤ b := fun b k => by
    rcases k with k | k | k | k
    · exact .inl (.inl k)
    · exact .inl (.inr (.inl k))
    · exact .inr (hb b k)
    · exact .inl (.inr (.inr (.inr k)))
  have hne : ∀ b, Mv.at { y with i := i' } b → b ≠ g := fun b k e => (hat b k).elim (fun a => h.ne b a e) (fun l => by have := row_lt h.row; omega)
  have F1 : Fm w w1 g y { y with i := i' } := ⟨hg.os, hg.tape, hg.output, hg.size, fun k hk _ hy => hg.block k hk, hat⟩
  refine ⟨⟨row_put (row_lat h.row hg) 6 i'.v { y with i := i' } rfl, (h.own.putI i' hg ho hb).keepH fun b k _ => Below.heap_setCell w1 ⟨g, 6, none⟩ i'.v b (hne b k), h.fl, h.lo, hne⟩, F1.trans (Fm.grown (grownBy_set (b := g) (o := 6) i'.v) (.inl rfl) (fun k hk => hk))⟩
set_option maxHeartbeats 2000000 in
theorem emt_2 (B g : Nat) (y : Mv) (t : Ms) (st x : Int) (xs : List Int) (w : World) (h : Sm w B g y t st) (hk : Dk t.d) (hi : t.d.i = x :: xs) : EmIs B g y t (((t.rg 0 x).inp xs).cs false) st 2 true w := by
  obtain ⟨gr, rc, er⟩ := h.regs hk.rl
  have ER := hide er
  obtain ⟨gi, ic, ei, hic⟩ : ∃ g c, y.i = ⟨some ⟨g, 0, none⟩, xs.length + 1, c⟩ ∧ xs.length + 1 ≤ c := by
    obtain ⟨a, b, q1, q2⟩ := own_formL h.own.i (by rw [hi]; simp)
    rw [hi] at q1 q2
    exact ⟨a, b, q1, q2⟩
  have EI := hide ei
  have HD := hide (h.later (below_drew (w := w)))
  have HSI := hide (fun (v : World) (t' : Ms) (hv : Sm v B g y t' st) (hx : t'.d.i = x :: xs) => (show v.cell? ⟨g, 6, none⟩ = some (.slice (some ⟨gi, 0, none⟩) (xs.length + 1) ic) ∧ v.cell? ⟨gi, 0, none⟩ = some (.int .i64 x) from ⟨by rw [row_i hv.row, ei], by
    have k := hv.own.i
    rw [ei, hx] at k
    exact (k.cellAt 0 (by simp)).1⟩))
  have SC := hide ((unhide HD).setR er 0 x (by have := hk.rl; omega))
  have C0 := hide (show w.drew.cell? ⟨g, 1, none⟩ = some (.slice (some ⟨gr, 0, none⟩) 8 rc) ∧ w.drew.cell? ⟨g, 6, none⟩ = some (.slice (some ⟨gi, 0, none⟩) (xs.length + 1) ic) ∧ w.drew.cell? ⟨gi, 0, none⟩ = some (.int .i64 x) from ⟨(unhide HD).rcell er, unhide HSI _ t (unhide HD) hi⟩)
  have CK := hide (unhide SC).2.2
  have H1 := hide (unhide SC).1
  have F1 := hide ((Fm.of (g := g) (y := y) (below_drew (w := w))).trans (unhide SC).2.1)
  have C4 := hide (show (w.drew.setCell ⟨gr, 0, none⟩ (.int .i64 x)).cell? ⟨g, 1, none⟩ = some (.slice (some ⟨gr, 0, none⟩) 8 rc) ∧ (w.drew.setCell ⟨gr, 0, none⟩ (.int .i64 x)).cell? ⟨g, 6, none⟩ = some (.slice (some ⟨gi, 0, none⟩) (xs.length + 1) ic) ∧ (w.drew.setCell ⟨gr, 0, none⟩ (.int .i64 x)).cell? ⟨gi, 0, none⟩ = some (.int .i64 x) from ⟨(unhide H1).rcell er, unhide HSI _ (t.rg 0 x) (unhide H1) hi⟩)
  have ci := (unhide HSI w t h hi).1
  have HI := hide (show (t.rg 0 x).d.i = x :: xs from hi)
  have hlt : xs.length + 1 ≤ 50 := by
    have := hk.il
    rw [hi] at this
    simpa using this
  have il0 : ¬ ((xs.length + 1 : Nat) : Int) ≤ 0 := by omega
  have il1 : (0 : Int) < ((xs.length + 1 : Nat) : Int) := by omega
  have HC1 := hide hic
  unfold EmIs
  clear h hk hi er ei SC HD
  generalize t.rg 0 x = t1 at H1 HI ⊢
  go_enter Tryz.func96, Tryz.ntmps96
  go_wp2_with fail
  refine wp_region_held_drew (S := fun v => v.cell? ⟨g, 1, none⟩ = some (.slice (some ⟨gr, 0, none⟩) 8 rc) ∧ v.cell? ⟨g, 6, none⟩ = some (.slice (some ⟨gi, 0, none⟩) (xs.length + 1) ic) ∧ v.cell? ⟨gi, 0, none⟩ = some (.int .i64 x)) (by kernel_rfl) (unhide C0) (fun hS => ?_)
  have HS := hide hS
  clear hS
  refine wpAnyH_take (i := 0) (v := .pointer (some ⟨g, 0, none⟩)) rfl (by kernel_rfl) (by kernel_rfl) (by kernel_rfl) (fun _ _ _ h => h) (Or.inl ⟨by rfl, fun w hc => ?_⟩) (unhide HS) ?_
  · clear hc; go_simp
  go_simp
  refine wpAnyH_take (i := 1) (v := .pointer (some ⟨g, 0, none⟩)) rfl (by kernel_rfl) (by kernel_rfl) (by kernel_rfl) (fun _ _ _ h => h) (Or.inl ⟨by rfl, fun w hc => ?_⟩) (unhide HS) ?_
  · clear hc; go_simp
  go_simp
  refine wpAnyH_take (i := 2) (v := .pointer (some ⟨g, 1, none⟩)) rfl (by kernel_rfl) (by kernel_rfl) (by kernel_rfl) (fun _ _ _ h => h) (Or.inl ⟨by rfl, fun w hc => ?_⟩) (unhide HS) ?_
  · clear hc; go_simp
  go_simp
  refine wpAnyH_take (i := 3) (v := .slice (some ⟨gr, 0, none⟩) 8 rc) rfl (by kernel_rfl) (by kernel_rfl) (by kernel_rfl) (fun _ _ _ h => h) (Or.inl ⟨by rfl, fun w hc => ?_⟩) (unhide HS) ?_
  · obtain ⟨h1, h2, h3⟩ := hc; go_simp
  go_simp
  refine wpAnyH_take (i := 4) (v := .pointer (some ⟨g, 0, none⟩)) rfl (by kernel_rfl) (by kernel_rfl) (by kernel_rfl) (fun _ _ _ h => h) (Or.inl ⟨by rfl, fun w hc => ?_⟩) (unhide HS) ?_
  · clear hc; go_simp
  go_simp
  refine wpAnyH_take (i := 5) (v := .pointer (some ⟨g, 0, none⟩)) rfl (by kernel_rfl) (by kernel_rfl) (by kernel_rfl) (fun _ _ _ h => h) (Or.inl ⟨by rfl, fun w hc => ?_⟩) (unhide HS) ?_
  · clear hc; go_simp
  go_simp
  refine wpAnyH_take (i := 6) (v := .pointer (some ⟨g, 6, none⟩)) rfl (by kernel_rfl) (by kernel_rfl) (by kernel_rfl) (fun _ _ _ h => h) (Or.inl ⟨by rfl, fun w hc => ?_⟩) (unhide HS) ?_
  · clear hc; go_simp
  go_simp
  refine wpAnyH_take (i := 7) (v := .slice (some ⟨gi, 0, none⟩) (xs.length + 1) ic) rfl (by kernel_rfl) (by kernel_rfl) (by kernel_rfl) (fun _ _ _ h => h) (Or.inl ⟨by rfl, fun w hc => ?_⟩) (unhide HS) ?_
  · obtain ⟨h1, h2, h3⟩ := hc; go_simp
  go_simp
  refine wpAnyH_take (i := 8) (v := .pointer (some ⟨gi, 0, none⟩)) rfl (by kernel_rfl) (by kernel_rfl) (by kernel_rfl) (fun _ _ _ h => h) (Or.inl ⟨by rfl, fun w hc => ?_⟩) (unhide HS) ?_
  · clear hc; go_simp
  go_simp
  refine wpAnyH_take (i := 9) (v := .int .i64 x) rfl (by kernel_rfl) (by kernel_rfl) (by kernel_rfl) (fun _ _ _ h => h) (Or.inl ⟨by rfl, fun w hc => ?_⟩) (unhide HS) ?_
  · obtain ⟨h1, h2, h3⟩ := hc; go_simp
  go_simp
  refine wpAnyH_take (i := 10) (v := .pointer (some ⟨gr, 0, none⟩)) rfl (by kernel_rfl) (by kernel_rfl) (by kernel_rfl) (fun _ _ _ h => h) (Or.inl ⟨by rfl, fun w hc => ?_⟩) (unhide HS) ?_
  · clear hc; go_simp
  go_simp
  refine wpAnyH_ready (rs := [11]) (by kernel_rfl) (by simp) ?_
  refine AllReadyH.cons rfl (fun K2 hK => ?_) (AllReadyH.nil)
  obtain ⟨c2, c3⟩ := unhide CK
  go_simp
  clear c2 c3
  refine hK.out _ _ (unhide C4) (fun hS => ?_)
  clear HS
  have HS := hide hS
  clear hS hK K2
  refine wpAnyH_done (by kernel_rfl) ?_ _
  clear HS
  generalize hwd : w.drew.setCell ⟨gr, 0, none⟩ (.int .i64 x) = w1 at H1 F1 C4
  rw [show (w.setCell ⟨gr, 0, none⟩ (.int .i64 x)).drew = w1 from hwd]
  clear hwd C0 CK ci
  have c6 := ((below_new w1 (Obj.cells #[] 3)).cell (p := ⟨g, 6, none⟩) (row_lt (unhide H1).row)).trans (unhide C4).2.1
  have OE := hide (show OwnN (w1.alloc (Obj.cells #[] 3)) w1.heap.size (.slice (some ⟨w1.heap.size, 0, none⟩) 0 0) [] from own_made (n := 0) (heap_alloc_last w1 (Obj.cells #[] 3)) (Nat.le_refl _) (by omega))
  have RT := hide (show RdN (w1.alloc (Obj.cells #[] 3)) (some ⟨gi, 0, none⟩) (x :: xs) by
    have k := (unhide H1).own.i.rdS
    rw [unhide HI, unhide EI] at k
    exact k.later (below_new w1 (Obj.cells #[] 3)))
  have HB := hide (show w1.heap.size ≤ (w1.alloc (Obj.cells #[] 3)).heap.size by simp)
  have BG := hide (show B ≤ w1.heap.size from Nat.le_of_lt (Nat.lt_of_le_of_lt (unhide H1).lo (row_lt (unhide H1).row)))
  by_cases hc1 : ic = 1
  · skip
    obtain rfl : xs = [] := List.eq_nil_of_length_eq_zero (by have := unhide HC1; omega)
    subst hc1
    go_wp2_with (at_builtin; refine wpList_app rfl _ _ rfl w1.heap.size (.slice (some ⟨w1.heap.size, 0, none⟩) 0 0) [] rfl (unhide OE) ⟨some ⟨gi, 0, none⟩, 0, 0⟩ [] rfl (.inl rfl) rfl (fun e => by cases e) (by first | (simp; omega) | simp) (unhide HB) ?_; intro v' w2 ho hg; obtain ⟨a0, n0, c0, rfl⟩ : ∃ a n c, v' = Value.slice a n c := (by obtain ⟨a, c, e, _⟩ := ho.rd; exact ⟨_, _, _, e⟩); have BL := hide ((below_new w1 (Obj.cells #[] 3)).trans (show Below w1.heap.size (w1.alloc (Obj.cells #[] 3)) w2 from ⟨hg.os, hg.tape, hg.output, hg.size, fun k hk => hg.block k (by simp; omega) (fun e => Nat.lt_irrefl w1.heap.size (by cases e; exact hk))⟩)); have PI := hide ((unhide H1).putI ⟨a0, n0, c0⟩ (unhide BL) (show OwnN w2 B (.slice a0 n0 c0) ([] : List Int) from ho.base (unhide BG)) (fun b hb => (ho.lt hb).1)); have ca := row_i (row_lat (unhide H1).row (unhide BL)); have cb := row_fz (row_lat (unhide H1).row (unhide BL)) 6; have H5 := hide (unhide PI).1; have F5 := hide ((unhide F1).trans (unhide PI).2); clear PI BL ho hg; have c5 := row_c (unhide H5).row; change (w2.setCell ⟨g, 6, none⟩ (Value.slice a0 n0 c0)).cell? ⟨g, 5, none⟩ = some (.bool y.c) at c5; have f5 := row_fz (unhide H5).row 5; change (w2.setCell ⟨g, 6, none⟩ (Value.slice a0 n0 c0)).frozen? ⟨g, 5, none⟩ = false at f5; have S6 := hide ((unhide H5).setC false); have H6 := hide (unhide S6).1; have F6 := hide ((unhide F5).trans (unhide S6).2); clear S6 H5 F5)
    go_ret
    first | exact ⟨rfl, _, fun _ => unhide H6, unhide F6⟩ | exact ⟨rfl, _, unhide H6, unhide F6⟩
  · skip
    have hc2 : 1 < ic := by have := unhide HC1; omega
    go_wp2_with (at_builtin; refine wpList_app rfl _ _ rfl w1.heap.size (.slice (some ⟨w1.heap.size, 0, none⟩) 0 0) [] rfl (unhide OE) ⟨some ⟨gi, 1, none⟩, xs.length, ic - 1⟩ xs rfl (rdN_tl (unhide RT)) rfl (fun e => by cases e) (by first | (simp; omega) | simp) (unhide HB) ?_; intro v' w2 ho hg; obtain ⟨a0, n0, c0, rfl⟩ : ∃ a n c, v' = Value.slice a n c := (by obtain ⟨a, c, e, _⟩ := ho.rd; exact ⟨_, _, _, e⟩); have BL := hide ((below_new w1 (Obj.cells #[] 3)).trans (show Below w1.heap.size (w1.alloc (Obj.cells #[] 3)) w2 from ⟨hg.os, hg.tape, hg.output, hg.size, fun k hk => hg.block k (by simp; omega) (fun e => Nat.lt_irrefl w1.heap.size (by cases e; exact hk))⟩)); have PI := hide ((unhide H1).putI ⟨a0, n0, c0⟩ (unhide BL) (show OwnN w2 B (.slice a0 n0 c0) xs from ho.base (unhide BG)) (fun b hb => (ho.lt hb).1)); have ca := row_i (row_lat (unhide H1).row (unhide BL)); have cb := row_fz (row_lat (unhide H1).row (unhide BL)) 6; have H5 := hide (unhide PI).1; have F5 := hide ((unhide F1).trans (unhide PI).2); clear PI BL ho hg; have c5 := row_c (unhide H5).row; change (w2.setCell ⟨g, 6, none⟩ (Value.slice a0 n0 c0)).cell? ⟨g, 5, none⟩ = some (.bool y.c) at c5; have f5 := row_fz (unhide H5).row 5; change (w2.setCell ⟨g, 6, none⟩ (Value.slice a0 n0 c0)).frozen? ⟨g, 5, none⟩ = false at f5; have S6 := hide ((unhide H5).setC false); have H6 := hide (unhide S6).1; have F6 := hide ((unhide F5).trans (unhide S6).2); clear S6 H5 F5)
    go_ret
    first | exact ⟨rfl, _, fun _ => unhide H6, unhide F6⟩ | exact ⟨rfl, _, unhide H6, unhide F6⟩
/-- What goes out or comes in. -/
def Ms.emt (t : Ms) (n : Int) : Ms := if n = 1 then t.out (t.d.o ++ [nAt t.d.r 0]) else match t.d.i with
  | [] => (t.rg 0 65535).cs true
  | x :: xs => ((t.rg 0 x).inp xs).cs false
def Ms.emtB (t : Ms) (n : Int) : Bool := if n = 1 then decide (t.d.o.length < 50) else decide (n = 2)
theorem emt_any (B g : Nat) (y : Mv) (t : Ms) (st n : Int) (w : World) (h : Sm w B g y t st) (hk : Dk t.d) : EmIs B g y t (t.emt n) st n (t.emtB n) w := by
  unfold Ms.emt Ms.emtB
  by_cases h1 : n = 1
  · subst h1
    rw [if_pos rfl, if_pos rfl]
    by_cases hl : t.d.o.length < 50
    · rw [decide_eq_true hl]
      exact emt_1 B g y t st w h hk hl
    · rw [decide_eq_false hl]
      exact emt_f B g y t _ st w h hk (by omega)
  · rw [if_neg h1, if_neg h1]
    by_cases h2 : n = 2
    · subst h2
      rw [decide_eq_true rfl]
      cases hi : t.d.i with
      | nil => exact emt_2e B g y t st w h hk hi
      | cons x xs => exact emt_2 B g y t st x xs w h hk hi
    · rw [decide_eq_false h2]
      exact emt_x B g y t _ st n w h h1 h2
end Go.Proofs.YtjpbjbnialehbaaGreatDoor

namespace Go.Proofs.YtjpbjbnialehbaaGreatDoor
open Go.ChangeShapes Go.WideShapes Go.ChangeAt Go.RowKit
set_option linter.unusedVariables false
set_option maxRecDepth 8000
set_option linter.unusedSimpArgs false
/-- A slice of the call's own, at whatever place of its block. -/
def OwnO (w : World) (B : Nat) (s : Sl) (ns : List Int) : Prop :=
  (s = ⟨none, 0, 0⟩ ∧ ns = []) ∨ ∃ g off cap, s = ⟨some ⟨g, off, none⟩, ns.length, cap⟩ ∧ B ≤ g ∧ ns.length ≤ cap ∧ cap ≤ maxLen ∧ (∃ cur, w.heap[g]? = some (.cells cur 3 (0, 0)) ∧ off + ns.length ≤ cur.size) ∧ ∀ i, i < ns.length → w.cell? ⟨g, off + i, none⟩ = some (.int .i64 (nAt ns i))
section
variable {w w' : World} {B C : Nat} {s : Sl} {ns : List Int}
theorem OwnO.lt (h : OwnO w B s ns) {g : Nat} (hg : s.v.ownBlock = some g) : B ≤ g ∧ g < w.heap.size := by
  rcases h with ⟨rfl, _⟩ | ⟨b, off, cap, rfl, hB, _, _, ⟨cur, hc, _⟩, _⟩
  · cases hg
  · cases hg; exact ⟨hB, row_lt hc⟩
theorem OwnO.keep (h : OwnO w B s ns) (hs : ∀ g, s.v.ownBlock = some g → g < w.heap.size → w'.heap[g]? = w.heap[g]?) : OwnO w' B s ns := by
  rcases h with h | ⟨b, off, cap, rfl, hB, h1, h2, ⟨cur, hc, h3⟩, h4⟩
  · exact .inl h
  · have e := hs b rfl (row_lt hc)
    exact .inr ⟨b, off, cap, rfl, hB, h1, h2, ⟨cur, e.trans hc, h3⟩, fun i hi => by rw [cell_of_row w' b (off + i) cur 3 (0, 0) (e.trans hc), ← cell_of_row w b (off + i) cur 3 (0, 0) hc]; exact h4 i hi⟩
theorem OwnO.base (h : OwnO w B s ns) (hB : C ≤ B) : OwnO w C s ns := by
  rcases h with h | ⟨b, off, cap, e, h0, h⟩
  · exact .inl h
  · exact .inr ⟨b, off, cap, e, Nat.le_trans hB h0, h⟩
theorem OwnO.rdS (h : OwnO w B s ns) : RdN w s.a ns := by
  rcases h with ⟨_, h⟩ | ⟨b, off, cap, rfl, _, _, _, ⟨cur, hc, _⟩, h4⟩
  · exact .inl h
  · exact .inr ⟨b, off, rfl, row_lt hc, h4⟩
theorem OwnO.len (h : OwnO w B s ns) : ns.length = s.n := by
  rcases h with ⟨rfl, rfl⟩ | ⟨b, off, cap, rfl, _⟩ <;> rfl
theorem OwnN.toO (h : OwnN w B s.v ns) : OwnO w B s ns := by
  obtain ⟨sa, sn, sc⟩ := s
  obtain ⟨hl, ⟨e, h0⟩ | ⟨g, cap, cur, e, hB, hh, hn, hm, hs, ht⟩⟩ := id h
  · unfold Sl.v at e
    simp at e
    obtain ⟨rfl, rfl, rfl⟩ := e
    exact .inl ⟨rfl, List.eq_nil_of_length_eq_zero h0⟩
  · unfold Sl.v at e h
    simp at e
    obtain ⟨rfl, rfl, rfl⟩ := e
    exact .inr ⟨g, 0, sc, rfl, hB, hn, hm, ⟨cur, hh, by simp at hs; omega⟩, fun i hi => by rw [Nat.zero_add]; exact (h.cellAt i hi).1⟩
theorem OwnO.tl {g c : Nat} {x : Int} {xs : List Int} (h : OwnN w B (Sl.v ⟨some ⟨g, 0, none⟩, xs.length + 1, c⟩) (x :: xs)) : OwnO w B ⟨some ⟨g, 1, none⟩, xs.length, c - 1⟩ xs := by
  obtain ⟨hl, ⟨e, h0⟩ | ⟨g2, cap, cur, e, hB, hh, hn, hm, hs, ht⟩⟩ := id h
  · simp at h0
  · unfold Sl.v at e h
    simp at e
    obtain ⟨rfl, rfl⟩ := e
    refine .inr ⟨g, 1, c - 1, rfl, hB, by simp at hn; omega, by omega, ⟨cur, hh, by simp at hs hn; omega⟩, fun i hi => ?_⟩
    have k := (h.cellAt (i + 1) (by simp; omega)).1
    rw [Nat.add_comm 1 i]
    exact k
theorem OwnO.nil {g c : Nat} {xs : List Int} (h : OwnN w B (Sl.v ⟨some ⟨g, 0, none⟩, xs.length, c⟩) xs) : OwnO w B ⟨some ⟨g, 0, none⟩, 0, 0⟩ [] := by
  obtain ⟨hl, ⟨e, h0⟩ | ⟨g2, cap, cur, e, hB, hh, hn, hm, hs, ht⟩⟩ := id h
  · unfold Sl.v at e
    cases e
  · unfold Sl.v at e
    simp at e
    obtain ⟨rfl, rfl⟩ := e
    exact .inr ⟨g, 0, 0, rfl, hB, by simp, by omega, ⟨cur, hh, by simp⟩, fun i hi => by simp at hi⟩
end
/-- A machine of blocks from B on, each list in a block of its own; In may begin behind its block's beginning. -/
structure OwnE (w : World) (B : Nat) (x : Mv) (d : Md) : Prop where
  m : OwnN w B x.m.v d.m
  r : OwnN w B x.r.v d.r
  i : OwnO w B x.i d.i
  o : OwnN w B x.o.v d.o
  mr : Ap x.m x.r
  mi : Ap x.m x.i
  mo : Ap x.m x.o
  ri : Ap x.r x.i
  ro : Ap x.r x.o
  io : Ap x.i x.o
section
variable {w w' : World} {B C : Nat} {x : Mv} {d : Md}
theorem OwnM.toE (h : OwnM w B x d) : OwnE w B x d := ⟨h.m, h.r, h.i.toO, h.o, h.mr, h.mi, h.mo, h.ri, h.ro, h.io⟩
theorem OwnE.lo (h : OwnE w B x d) {b : Nat} (hb : x.at b) : B ≤ b ∧ b < w.heap.size := by
  rcases hb with h1 | h1 | h1 | h1
  · exact h.m.lt h1
  · exact h.r.lt h1
  · exact h.i.lt h1
  · exact h.o.lt h1
theorem OwnE.keepH (h : OwnE w B x d) (hs : ∀ g, x.at g → g < w.heap.size → w'.heap[g]? = w.heap[g]?) : OwnE w' B x d :=
  { h with m := h.m.keep fun g hv hg => hs g (.inl hv) hg, r := h.r.keep fun g hv hg => hs g (.inr (.inl hv)) hg, i := h.i.keep fun g hv hg => hs g (.inr (.inr (.inl hv))) hg, o := h.o.keep fun g hv hg => hs g (.inr (.inr (.inr hv))) hg }
theorem OwnE.later (h : OwnE w B x d) (hb : Below w.heap.size w w') : OwnE w' B x d := h.keepH fun g _ hg => hb.block g hg
theorem OwnE.base (h : OwnE w B x d) (hB : C ≤ B) : OwnE w C x d := { h with m := h.m.base hB, r := h.r.base hB, i := h.i.base hB, o := h.o.base hB }
theorem OwnE.rd (h : OwnE w B x d) : RdM w x d := ⟨h.m.rdS, h.r.rdS, h.i.rdS, h.o.rdS, h.m.len, h.r.len, h.i.len, h.o.len⟩
end
/-- The program's machine at a pointer, when its instruction is done. -/
structure Pe (w : World) (g B : Nat) (y : Mv) (t : Ms) (st : Int) : Prop where
  row : w.heap[g]? = some (.cells (bigA t.d.m y) 44 (0, 0))
  len : t.d.m.length = 256
  own : ∃ m0, m0.length = 256 ∧ OwnE w B y ⟨m0, t.d.r, t.d.i, t.d.o⟩
  fl : y.fl = t.fl st
  ne : ∀ b, y.at b → b ≠ g
theorem Pz.pe {w : World} {g B gr rc : Nat} {y : Mv} {t : Ms} {st : Int} {m0 : List Int} (h : Pz w g B gr rc y t st m0) (hm : m0.length = 256) : Pe w g B y t st := ⟨h.row, h.len, ⟨m0, hm, h.own.toE⟩, h.fl, h.ne⟩
/-- What is out is laid anew. -/
theorem Pz.putO {w w1 : World} {g B gr rc : Nat} {y : Mv} {t : Ms} {st : Int} {m0 ns : List Int} (h : Pz w g B gr rc y t st m0) (o' : Sl) (hg : w.grownBy w1 y.o.v.ownBlock) (ho : OwnN w1 B o'.v ns) (hb : ∀ b, o'.v.ownBlock = some b → y.o.v.ownBlock = some b ∨ w.heap.size ≤ b) :
    Pz (w1.setCell ⟨g, 263, none⟩ o'.v) g B gr rc { y with o := o' } (t.out ns) st m0 ∧ Fm w (w1.setCell ⟨g, 263, none⟩ o'.v) g y { y with o := o' } := by
  have hat : ∀ b, Mv.at { y with o := o' } b → y.at b ∨ w.heap.size ≤ b := fun b k => by
    rcases k with k | k | k | k
    · exact .inl (.inl k)
    · exact .inl (.inr (.inl k))
    · exact .inl (.inr (.inr (.inl k)))
    · exact (hb b k).elim (fun e => .inl (.inr (.inr (.inr e)))) .inr
  have hne : ∀ b, Mv.at { y with o := o' } b → b ≠ g := fun b k e => (hat b k).elim (fun a => h.ne b a e) (fun l => by have := row_lt h.row; omega)
  have hrow : w1.heap[g]? = some (.cells (bigA t.d.m y) 44 (0, 0)) := (hg.block g (row_lt h.row) (fun e => h.ne g (.inr (.inr (.inr e.symm))) rfl)).trans h.row
  have F1 : Fm w w1 g y { y with o := o' } := ⟨hg.os, hg.tape, hg.output, hg.size, fun k hk _ hy => hg.block k hk (fun e => hy (.inr (.inr (.inr e.symm)))), hat⟩
  refine ⟨⟨?_, h.len, (h.own.putO o' hg ho hb).keepH fun b k _ => Below.heap_setCell w1 ⟨g, 263, none⟩ o'.v b (hne b k), h.er, h.r8, h.fl, h.lo, hne⟩, F1.trans (Fm.grown (grownBy_set (b := g) (o := 263) o'.v) (.inl rfl) (fun k hk => hk))⟩
  rw [setCell_eq_setRow w1 g _ _ 44 (0, 0) _ hrow, show (263 : Nat) = 256 + 7 from rfl, bigA_setF y { y with o := o' } 7 o'.v h.len rfl]
  exact setRow_heap w1 g _ _ 44 _ hrow
/-- What is to come is laid anew: its end. -/
theorem Pz.putI {w : World} {g B gr rc : Nat} {y : Mv} {t : Ms} {st : Int} {m0 ns : List Int} (h : Pz w g B gr rc y t st m0) (i' : Sl) (hm : m0.length = 256) (ho : OwnO w B i' ns) (hb : ∀ b, i'.v.ownBlock = some b → y.i.v.ownBlock = some b) :
    Pe (w.setCell ⟨g, 262, none⟩ i'.v) g B { y with i := i' } (t.inp ns) st ∧ Fm w (w.setCell ⟨g, 262, none⟩ i'.v) g y { y with i := i' } := by
  have hat : ∀ b, Mv.at { y with i := i' } b → y.at b := fun b k => by
    rcases k with k | k | k | k
    · exact .inl k
    · exact .inr (.inl k)
    · exact .inr (.inr (.inl (hb b k)))
    · exact .inr (.inr (.inr k))
  have hne : ∀ b, Mv.at { y with i := i' } b → b ≠ g := fun b k e => h.ne b (hat b k) e
  have ow : OwnE w B { y with i := i' } ⟨m0, t.d.r, ns, t.d.o⟩ := ⟨h.own.m, h.own.r, ho, h.own.o, h.own.mr, (fun b a c => h.own.mi b a (hb b c)), h.own.mo, (fun b a c => h.own.ri b a (hb b c)), h.own.ro, (fun b a c => h.own.io b (hb b a) c)⟩
  refine ⟨⟨?_, h.len, ⟨m0, hm, ow.keepH fun b k _ => Below.heap_setCell w ⟨g, 262, none⟩ i'.v b (hne b k)⟩, h.fl, hne⟩, Fm.grown (grownBy_set (b := g) (o := 262) i'.v) (.inl rfl) hat⟩
  rw [setCell_eq_setRow w g _ _ 44 (0, 0) _ h.row, show (262 : Nat) = 256 + 6 from rfl, bigA_setF y { y with i := i' } 6 i'.v h.len rfl]
  exact setRow_heap w g _ _ 44 _ h.row
def SoIs (g B : Nat) (y : Mv) (t t2 : Ms) (st : Int) (ok : Bool) (w : World) : Prop :=
  Calls Tryz.prog 117 #[.pointer (some ⟨g, 0, none⟩)] w fun e w' => ∃ y', e = .returned (.bool ok) ∧ AcE ok (Pe w' g B y' t2 st) (Fm w w' g y y')
set_option maxHeartbeats 2000000 in
theorem send_no (g B gr rc : Nat) (y : Mv) (t : Ms) (st : Int) (w : World) (h : Pz w g B gr rc y t st t.d.m) (hk : Dk t.d) (hl : t.d.o.length = 50) : SoIs g B y t t st false w := by
  have F0 := hide (Fm.of (g := g) (y := y) (Below.refl w.heap.size w))
  have co : w.cell? ⟨g, 263, none⟩ = some (.slice y.o.a y.o.n y.o.c) := h.cell 7 _ rfl
  have hn : y.o.n = 50 := by have := h.own.o.len; simp at this; omega
  rw [hn] at co
  unfold SoIs
  clear h hk
  go_enter Tryz.func117, Tryz.ntmps117
  go_wp2
  go_ret
  exact ⟨y, rfl, ⟨fun h => by simp at h, unhide F0⟩⟩
set_option maxHeartbeats 4000000 in
theorem send_yes (g B gr rc : Nat) (y : Mv) (t : Ms) (st : Int) (w : World) (h : Pz w g B gr rc y t st t.d.m) (hk : Dk t.d) (hl : t.d.o.length < 50) : SoIs g B y t (t.out (t.d.o ++ [nAt t.d.r 0])) st true w := by
  have co : w.cell? ⟨g, 263, none⟩ = some (.slice y.o.a y.o.n y.o.c) := h.cell 7 _ rfl
  have hl2 := h.own.o.len
  simp at hl2
  have hne : (y.o.n : Int) ≠ 50 := by omega
  have hn : (y.o.n : Int) < 50 := by omega
  have HD := hide (h.later (below_drew (w := w)))
  have F0 := hide (Fm.of (g := g) (y := y) (below_drew (w := w)))
  have CO := hide (show w.drew.cell? ⟨g, 263, none⟩ = some (.slice y.o.a y.o.n y.o.c) from (unhide HD).cell 7 _ rfl)
  have C1 := hide (unhide HD).cr
  have C2 := hide ((unhide HD).atR 0 (by omega))
  have SH := hide (fun v (p : Pz v g B gr rc y t st t.d.m) => And.intro (show v.cell? ⟨g, 263, none⟩ = some (.slice y.o.a y.o.n y.o.c) from p.cell 7 _ rfl) (And.intro p.cr (p.atR 0 (by omega))))
  have ML := hide hk.ml
  have HL := hide hl
  unfold SoIs
  obtain ⟨r0, hr0⟩ : ∃ q, nAt t.d.r 0 = q := ⟨_, rfl⟩
  obtain ⟨oa, hoa⟩ : ∃ q, y.o.a = q := ⟨_, rfl⟩
  obtain ⟨on, hon⟩ : ∃ q, y.o.n = q := ⟨_, rfl⟩
  obtain ⟨oc, hoc⟩ : ∃ q, y.o.c = q := ⟨_, rfl⟩
  have HO := hide (show y.o.v = .slice oa on oc by unfold Sl.v; rw [hoa, hon, hoc])
  rw [hoa, hon, hoc] at co CO SH
  rw [hon] at hn hne
  rw [hr0] at C2 SH ⊢
  have hn0 : (0 : Int) ≤ (on : Int) := by omega
  clear hoa hon hoc h hk hl hl2 hr0
  go_enter Tryz.func117, Tryz.ntmps117
  go_wp2_with fail
  have HS := hide (show w.drew.cell? ⟨g, 263, none⟩ = some (.slice oa on oc) ∧ w.drew.cell? ⟨g, 257, none⟩ = some (.slice (some ⟨gr, 0, none⟩) 8 rc) ∧ w.drew.cell? ⟨gr, 0, none⟩ = some (.int .i64 r0) from ⟨unhide CO, unhide C1, unhide C2⟩)
  refine wp_region_last (fun v => v.cell? ⟨g, 263, none⟩ = some (.slice oa on oc) ∧ v.cell? ⟨g, 257, none⟩ = some (.slice (some ⟨gr, 0, none⟩) 8 rc) ∧ v.cell? ⟨gr, 0, none⟩ = some (.int .i64 r0)) 18 (by kernel_rfl) ?_
  generalize w.drew = wd at HD F0 CO C1 C2 HS ⊢
  refine wpAnyL_takeW (i := 0) (v := .pointer (some ⟨g, 0, none⟩)) rfl (by kernel_rfl) (by kernel_rfl) (by kernel_rfl) (by kernel_rfl) (fun _ _ _ h => h) (Or.inl ⟨by rfl, fun w hc => ?_⟩) (.inl (unhide HS)) ?_
  · clear hc; go_simp
  go_simp
  refine wpAnyL_takeW (i := 1) (v := .pointer (some ⟨g, 0, none⟩)) rfl (by kernel_rfl) (by kernel_rfl) (by kernel_rfl) (by kernel_rfl) (fun _ _ _ h => h) (Or.inl ⟨by rfl, fun w hc => ?_⟩) (.inl (unhide HS)) ?_
  · clear hc; go_simp
  go_simp
  refine wpAnyL_takeW (i := 2) (v := .pointer (some ⟨g, 0, none⟩)) rfl (by kernel_rfl) (by kernel_rfl) (by kernel_rfl) (by kernel_rfl) (fun _ _ _ h => h) (Or.inl ⟨by rfl, fun w hc => ?_⟩) (.inl (unhide HS)) ?_
  · clear hc; go_simp
  go_simp
  refine wpAnyL_takeW (i := 3) (v := .pointer (some ⟨g, 256, none⟩)) rfl (by kernel_rfl) (by kernel_rfl) (by kernel_rfl) (by kernel_rfl) (fun _ _ _ h => h) (Or.inl ⟨by rfl, fun w hc => ?_⟩) (.inl (unhide HS)) ?_
  · clear hc; go_simp
  go_simp
  refine wpAnyL_takeW (i := 4) (v := .pointer (some ⟨g, 263, none⟩)) rfl (by kernel_rfl) (by kernel_rfl) (by kernel_rfl) (by kernel_rfl) (fun _ _ _ h => h) (Or.inl ⟨by rfl, fun w hc => ?_⟩) (.inl (unhide HS)) ?_
  · clear hc; go_simp
  go_simp
  refine wpAnyL_takeS (i := 5) (v := .slice oa on oc) rfl (by kernel_rfl) (by kernel_rfl) (by kernel_rfl) (by kernel_rfl) (by kernel_rfl) (fun _ _ _ h => h) (Or.inl ⟨by rfl, fun w hc => ?_⟩) (unhide HS) ?_
  · obtain ⟨h1, h2, h3⟩ := hc; go_simp
  go_simp
  refine wpAnyL_takeW (i := 6) (v := .pointer (some ⟨g, 0, none⟩)) rfl (by kernel_rfl) (by kernel_rfl) (by kernel_rfl) (by kernel_rfl) (fun _ _ _ h => h) (Or.inl ⟨by rfl, fun w hc => ?_⟩) (.inl (unhide HS)) ?_
  · clear hc; go_simp
  go_simp
  refine wpAnyL_takeW (i := 7) (v := .pointer (some ⟨g, 0, none⟩)) rfl (by kernel_rfl) (by kernel_rfl) (by kernel_rfl) (by kernel_rfl) (fun _ _ _ h => h) (Or.inl ⟨by rfl, fun w hc => ?_⟩) (.inl (unhide HS)) ?_
  · clear hc; go_simp
  go_simp
  refine wpAnyL_takeW (i := 8) (v := .pointer (some ⟨g, 256, none⟩)) rfl (by kernel_rfl) (by kernel_rfl) (by kernel_rfl) (by kernel_rfl) (fun _ _ _ h => h) (Or.inl ⟨by rfl, fun w hc => ?_⟩) (.inl (unhide HS)) ?_
  · clear hc; go_simp
  go_simp
  refine wpAnyL_takeW (i := 9) (v := .pointer (some ⟨g, 257, none⟩)) rfl (by kernel_rfl) (by kernel_rfl) (by kernel_rfl) (by kernel_rfl) (fun _ _ _ h => h) (Or.inl ⟨by rfl, fun w hc => ?_⟩) (.inl (unhide HS)) ?_
  · clear hc; go_simp
  go_simp
  refine wpAnyL_takeS (i := 10) (v := .slice (some ⟨gr, 0, none⟩) 8 rc) rfl (by kernel_rfl) (by kernel_rfl) (by kernel_rfl) (by kernel_rfl) (by kernel_rfl) (fun _ _ _ h => h) (Or.inl ⟨by rfl, fun w hc => ?_⟩) (unhide HS) ?_
  · obtain ⟨h1, h2, h3⟩ := hc; go_simp
  go_simp
  refine wpAnyL_takeW (i := 11) (v := .pointer (some ⟨gr, 0, none⟩)) rfl (by kernel_rfl) (by kernel_rfl) (by kernel_rfl) (by kernel_rfl) (fun _ _ _ h => h) (Or.inl ⟨by rfl, fun w hc => ?_⟩) (.inl (unhide HS)) ?_
  · clear hc; go_simp
  go_simp
  refine wpAnyL_takeS (i := 12) (v := .int .i64 r0) rfl (by kernel_rfl) (by kernel_rfl) (by kernel_rfl) (by kernel_rfl) (by kernel_rfl) (fun _ _ _ h => h) (Or.inl ⟨by rfl, fun w hc => ?_⟩) (unhide HS) ?_
  · obtain ⟨h1, h2, h3⟩ := hc; go_simp
  go_simp
  refine wpAnyL_one (i := 13) (by kernel_rfl) rfl (fun K2 hK => ?_)
  go_simp
  have HA := hide ((unhide HD).later (below_new wd (Obj.cells #[.int .i64 r0] 3)))
  have FA := hide ((unhide F0).trans (Fm.of (below_new wd (Obj.cells #[.int .i64 r0] 3))))
  have RA := hide (heap_alloc_last wd (Obj.cells #[.int .i64 r0] 3))
  refine hK.out _ _ (fun _ => unhide SH _ (unhide HA)) ?_
  clear hK K2
  refine wpAnyL_one (i := 14) (by kernel_rfl) rfl (fun K2 hK => ?_)
  rw [if_pos (by rfl)]
  refine wp_app _ _ rfl B (.slice oa on oc) t.d.o rfl (by rw [← unhide HO]; exact (unhide HA).own.o) ⟨some ⟨wd.heap.size, 0, none⟩, 1, 1⟩ [r0] rfl (rdN_one (unhide RA)) rfl (fun e => by cases e) (by have := unhide HL; simp; omega) (by have := (unhide HA).lo; have := row_lt (unhide HA).row; omega) (fun v' w2 o2 g2 b2 => ?_)
  have G2 := hide (show (wd.alloc (Obj.cells #[.int .i64 r0] 3)).grownBy w2 y.o.v.ownBlock by rw [unhide HO]; exact g2)
  have F2 := hide (show Fm (wd.alloc (Obj.cells #[.int .i64 r0] 3)) w2 g y y from ⟨(unhide G2).os, (unhide G2).tape, (unhide G2).output, (unhide G2).size, fun k hk _ hy => (unhide G2).block k hk (fun e => hy (.inr (.inr (.inr e.symm)))), fun b hb => .inl hb⟩)
  have G3 := hide (show w2.heap[g]? = (wd.alloc (Obj.cells #[.int .i64 r0] 3)).heap[g]? from (unhide G2).block g (row_lt (unhide HA).row) (fun e => (unhide HA).ne g (.inr (.inr (.inr e.symm))) rfl))
  have G4 := hide (show w2.heap[gr]? = (wd.alloc (Obj.cells #[.int .i64 r0] 3)).heap[gr]? from (unhide G2).block gr ((unhide HA).yl (unhide HA).atr) (fun e => (unhide HA).own.ro gr (by rw [(unhide HA).er]; rfl) e.symm))
  have C3 := hide (show w2.cell? ⟨g, 263, none⟩ = some (.slice oa on oc) ∧ w2.cell? ⟨g, 257, none⟩ = some (.slice (some ⟨gr, 0, none⟩) 8 rc) ∧ w2.cell? ⟨gr, 0, none⟩ = some (.int .i64 r0) from by
    have k := unhide SH _ (unhide HA)
    unfold World.cell? at k ⊢
    simp only [unhide G3, unhide G4]
    exact k)
  have C4 := hide (show w2.frozen? ⟨g, 263, none⟩ = false from by
    have k := (unhide HA).fz 263
    unfold World.frozen? at k ⊢
    simp only [unhide G3]
    exact k)
  rcases o2.form with ⟨_, e0⟩ | ⟨gb, cap, rfl, _⟩
  · exact absurd e0 (by simp)
  have PO := hide ((unhide HA).putO ⟨some ⟨gb, 0, none⟩, (t.d.o ++ [r0]).length, cap⟩ (unhide G2) o2 (fun b hb => b2.elim (fun k => .inl (by rw [unhide HO, ← k]; exact hb)) (fun k => .inr (by have k2 := hb.symm.trans k; cases k2; exact Nat.le_refl _))))
  have H9 := hide ((unhide PO).1.pe (unhide ML))
  have F9 := hide ((unhide FA).trans (unhide PO).2)
  generalize hN : (t.d.o ++ [r0]).length = oN at H9 F9 ⊢
  refine hK.out _ _ (fun _ => unhide C3) ?_
  clear hK K2 HS o2 g2 b2 PO G2 RA HA FA hN
  have HS := hide (unhide C3)
  refine wpAnyL_takeW (i := 15) (v := .pointer (some ⟨g, 0, none⟩)) rfl (by kernel_rfl) (by kernel_rfl) (by kernel_rfl) (by kernel_rfl) (fun _ _ _ h => h) (Or.inl ⟨by rfl, fun w hc => ?_⟩) (.inl (unhide HS)) ?_
  · clear hc; go_simp
  go_simp
  refine wpAnyL_takeW (i := 16) (v := .pointer (some ⟨g, 256, none⟩)) rfl (by kernel_rfl) (by kernel_rfl) (by kernel_rfl) (by kernel_rfl) (fun _ _ _ h => h) (Or.inl ⟨by rfl, fun w hc => ?_⟩) (.inl (unhide HS)) ?_
  · clear hc; go_simp
  go_simp
  refine wpAnyL_takeW (i := 17) (v := .pointer (some ⟨g, 263, none⟩)) rfl (by kernel_rfl) (by kernel_rfl) (by kernel_rfl) (by kernel_rfl) (fun _ _ _ h => h) (Or.inl ⟨by rfl, fun w hc => ?_⟩) (.inl (unhide HS)) ?_
  · clear hc; go_simp
  go_simp
  have c1 := (unhide C3).1
  have c2 := unhide C4
  refine wpAnyL_one (i := 18) (by kernel_rfl) rfl (fun K2 hK => ?_)
  go_simp
  refine hK.out _ _ (fun h => absurd h (by decide)) ?_
  clear hK K2
  refine wpAnyL_done (by kernel_rfl) ?_ _
  clear c1 c2
  unfold Sl.v at H9 F9
  generalize w2.setCell ⟨g, 263, none⟩ (.slice (some ⟨gb, 0, none⟩) oN cap) = w3 at H9 F9 ⊢
  go_wp2
  go_ret
  exact ⟨_, rfl, ⟨fun _ => unhide H9, unhide F9⟩⟩
end Go.Proofs.YtjpbjbnialehbaaGreatDoor
