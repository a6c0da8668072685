/- Contracts over this seat's translation, laid together; conditions stand as hypotheses of each. -/
import Derived.Test.YtjpbjbnialehbaaDoorAsG
import Derived.Test.YtjpbjbnialehbaaDoorAsK
import Derived.Deep.RegionHeld

namespace Go.Proofs.YtjpbjbnialehbaaDoor
open Go.ChangeShapes Go.WideShapes Go.ChangeAt Go.RowKit
set_option linter.unusedVariables false
set_option maxRecDepth 8000
set_option linter.unusedSimpArgs false
/-- What a branch's question answers. -/
def GoesIs (k : Nat) (q : Ms → Bool) : Prop := ∀ (g B gr rc : Nat) (y : Mv) (t : Ms) (st : Int) (m0 : List Int) (w : World), Pz w g B gr rc y t st m0 → Calls Tryd.prog k #[.pointer (some ⟨g, 0, none⟩)] w fun e w' => e = .returned (.bool (q t)) ∧ Below w.heap.size w w' 
theorem goes_always : GoesIs 68 (fun _ => true) := by
  intro g B gr rc y t st m0 w h
  clear h
  go_enter Tryd.func68, Tryd.ntmps68
  go_wp2
  go_ret
  exact ⟨rfl, Below.refl _ _⟩
set_option maxHeartbeats 1000000 in
theorem goes_notZero : GoesIs 69 (fun t => !t.z) := by
  intro g B gr rc y t st m0 w h
  obtain ⟨tn, tz, tv, -, -⟩ := h.flz
  simp only [tz]
  have c3 : w.cell? ⟨g, 259, none⟩ = some (.bool y.z) := h.cell 3 _ rfl
  generalize y.z = b3 at c3 ⊢
  clear h
  go_enter Tryd.func69, Tryd.ntmps69
  go_wp2
  go_ret
  exact ⟨rfl, Below.refl _ _⟩
set_option maxHeartbeats 1000000 in
theorem goes_zero : GoesIs 70 (fun t => t.z) := by
  intro g B gr rc y t st m0 w h
  obtain ⟨tn, tz, tv, -, -⟩ := h.flz
  simp only [tz]
  have c3 : w.cell? ⟨g, 259, none⟩ = some (.bool y.z) := h.cell 3 _ rfl
  generalize y.z = b3 at c3 ⊢
  clear h
  go_enter Tryd.func70, Tryd.ntmps70
  go_wp2
  go_ret
  exact ⟨rfl, Below.refl _ _⟩
set_option maxHeartbeats 1000000 in
theorem goes_notLess : GoesIs 71 (fun t => t.n == t.v) := by
  intro g B gr rc y t st m0 w h
  obtain ⟨tn, tz, tv, -, -⟩ := h.flz
  simp only [tn, tv]
  have c2 : w.cell? ⟨g, 258, none⟩ = some (.bool y.n) := h.cell 2 _ rfl
  have c4 : w.cell? ⟨g, 260, none⟩ = some (.bool y.v) := h.cell 4 _ rfl
  generalize y.n = b2 at c2 ⊢
  generalize y.v = b4 at c4 ⊢
  clear h
  go_enter Tryd.func71, Tryd.ntmps71
  go_wp2_with fail
  go_region_held (fun v => v.cell? ⟨g, 258, none⟩ = some (.bool b2) ∧ v.cell? ⟨g, 260, none⟩ = some (.bool b4)) (go_keep) (fail)
  go_wp2
  go_ret
  exact ⟨by cases b2 <;> cases b4 <;> rfl, below_drew⟩
set_option maxHeartbeats 1000000 in
theorem goes_less : GoesIs 72 (fun t => t.n != t.v) := by
  intro g B gr rc y t st m0 w h
  obtain ⟨tn, tz, tv, -, -⟩ := h.flz
  simp only [tn, tv]
  have c2 : w.cell? ⟨g, 258, none⟩ = some (.bool y.n) := h.cell 2 _ rfl
  have c4 : w.cell? ⟨g, 260, none⟩ = some (.bool y.v) := h.cell 4 _ rfl
  generalize y.n = b2 at c2 ⊢
  generalize y.v = b4 at c4 ⊢
  clear h
  go_enter Tryd.func72, Tryd.ntmps72
  go_wp2_with fail
  go_region_held (fun v => v.cell? ⟨g, 258, none⟩ = some (.bool b2) ∧ v.cell? ⟨g, 260, none⟩ = some (.bool b4)) (go_keep) (fail)
  go_wp2
  go_ret
  exact ⟨by cases b2 <;> cases b4 <;> rfl, below_drew⟩
set_option maxHeartbeats 4000000 in
theorem br_goes (f fb g B gr rc op sm sr dm dr : Nat) (sx dx n : Int) (y : Mv) (t : Ms) (st : Int) (m0 : List Int) (w : World) (q : Ms → Bool) (G : GoesIs f q) (hcf : ∀ vs w, (callFunc f vs).run Tryd.prog w = .ok (.enter f vs) w) (h : Pz w g B gr rc y t st m0) (hk : Dk t.d) (hn : -1000 ≤ n ∧ n ≤ 1000) (hb : Bx w fb f 85) :
    Calls Tryd.prog 86 #[.pointer (some ⟨g, 0, none⟩), .agg #[.int .i64 (op : Int), .int .i64 (sm : Int), .int .i64 (sr : Int), .int .i64 sx, .int .i64 (dm : Int), .int .i64 (dr : Int), .int .i64 dx, .int .i64 n], .pointer (some ⟨fb, 0, none⟩)] w fun e w' => e = .returned (.bool true) ∧ Pz w' g B gr rc y (if q t = true then t.rg 7 ((nAt t.d.r 7 + 2 * n) % 65536) else t) st m0 ∧ Fm w w' g y y := by
  have GL := hide h.gl
  have YL := hide (fun b (hb : y.at b) => h.yl hb)
  have H1 := hide (h.later (below_new w (Obj.cells #[.int .i64 (op : Int), .int .i64 (sm : Int), .int .i64 (sr : Int), .int .i64 sx, .int .i64 (dm : Int), .int .i64 (dr : Int), .int .i64 dx, .int .i64 n] 30)))
  have F1 := hide (Fm.of (g := g) (y := y) (below_new w (Obj.cells #[.int .i64 (op : Int), .int .i64 (sm : Int), .int .i64 (sr : Int), .int .i64 sx, .int .i64 (dm : Int), .int .i64 (dr : Int), .int .i64 dx, .int .i64 n] 30)))
  have R1 := hide (heap_alloc_last w (Obj.cells #[.int .i64 (op : Int), .int .i64 (sm : Int), .int .i64 (sr : Int), .int .i64 sx, .int .i64 (dm : Int), .int .i64 (dr : Int), .int .i64 dx, .int .i64 n] 30))
  have CF : (w.alloc (Obj.cells #[.int .i64 (op : Int), .int .i64 (sm : Int), .int .i64 (sr : Int), .int .i64 sx, .int .i64 (dm : Int), .int .i64 (dr : Int), .int .i64 dx, .int .i64 n] 30)).cell? ⟨fb, 0, none⟩ = some (.func (.func f) #[] #[]) := (cell_of_row _ fb 0 _ 85 _ (hb.later (below_new w (Obj.cells #[.int .i64 (op : Int), .int .i64 (sm : Int), .int .i64 (sr : Int), .int .i64 sx, .int .i64 (dm : Int), .int .i64 (dr : Int), .int .i64 dx, .int .i64 n] 30)))).trans rfl
  have GO := hide (G g B gr rc y t st m0 _ (unhide H1))
  have DK := hide hk
  obtain ⟨n0, n1⟩ := hn
  obtain ⟨v0, v1⟩ := hk.rw _ (nAt_mem (show 7 < t.d.r.length by have := hk.rl; omega))
  generalize q t = go at GO ⊢
  clear h hk hb
  cases go
  · go_enter Tryd.func86, Tryd.ntmps86
    go_wp2_with fail
    refine (unhide GO).mono ?_
    rintro e w2 ⟨rfl, b2⟩
    have H2 := hide ((unhide H1).later b2)
    have F2 := hide ((unhide F1).trans (Fm.of b2))
    clear b2
    go_wp2
    go_ret
    exact ⟨rfl, unhide H2, unhide F2⟩
  · have WR := hide (fun v => wrapI_any (nAt t.d.r 7 + 2 * n) v)
    have SR := hide (fun v (p : Pz v g B gr rc y t st m0) => p.setR 7 ((nAt t.d.r 7 + 2 * n) % 65536) (by omega))
    simp only [if_true]
    generalize (nAt t.d.r 7 + 2 * n) % 65536 = x at WR SR ⊢
    generalize t.rg 7 x = t2 at SR ⊢
    generalize nAt t.d.r 7 = v7 at WR SR v0 v1
    have hw : IntKind.i64.wrap (v7 + 2 * n) = v7 + 2 * n := by rw [IntKind.wrap_i64]; omega
    have hw2 : IntKind.i64.wrap (2 * n) = 2 * n := by rw [IntKind.wrap_i64]; omega
    go_enter Tryd.func86, Tryd.ntmps86
    go_wp2_with fail
    refine (unhide GO).mono ?_
    rintro e w2 ⟨rfl, b2⟩
    have H2 := hide ((unhide H1).later b2)
    have F2 := hide ((unhide F1).trans (Fm.of b2))
    have R2 := row_lat (unhide R1) b2
    have H3 := hide ((unhide H2).later (below_drew (w := w2)))
    have F3 := hide ((unhide F2).trans (Fm.of (below_drew (w := w2))))
    have c1 := (unhide H3).cr
    have c2 := insR 7 _ (row_lat R2 (below_drew (w := w2))) rfl
    obtain ⟨p4, f4, c3, c4⟩ := unhide SR _ (unhide H3)
    have H4 := hide p4
    have F4 := hide ((unhide F3).trans f4)
    clear b2 R2 p4 f4 CF GO SR H2 F2 H3 F3
    go_wp2_with fail
    refine wp_region_last (fun v => v = w2.drew) 18 (by kernel_rfl) ?_
    generalize w2.drew = wd at H4 F4 c1 c2 c3 c4 ⊢
    refine wpAnyL_takeW (i := 0) (v := .pointer (some ⟨g, 0, none⟩)) rfl (by kernel_rfl) (by kernel_rfl) (by kernel_rfl) (by kernel_rfl) (fun _ _ _ h => h) (Or.inl ⟨by rfl, fun w hc => ?_⟩) (.inl rfl) ?_
    · clear hc; go_simp
    go_simp
    refine wpAnyL_takeW (i := 1) (v := .pointer (some ⟨g, 0, none⟩)) rfl (by kernel_rfl) (by kernel_rfl) (by kernel_rfl) (by kernel_rfl) (fun _ _ _ h => h) (Or.inl ⟨by rfl, fun w hc => ?_⟩) (.inl rfl) ?_
    · clear hc; go_simp
    go_simp
    refine wpAnyL_takeW (i := 2) (v := .pointer (some ⟨g, 256, none⟩)) rfl (by kernel_rfl) (by kernel_rfl) (by kernel_rfl) (by kernel_rfl) (fun _ _ _ h => h) (Or.inl ⟨by rfl, fun w hc => ?_⟩) (.inl rfl) ?_
    · clear hc; go_simp
    go_simp
    refine wpAnyL_takeW (i := 3) (v := .pointer (some ⟨g, 257, none⟩)) rfl (by kernel_rfl) (by kernel_rfl) (by kernel_rfl) (by kernel_rfl) (fun _ _ _ h => h) (Or.inl ⟨by rfl, fun w hc => ?_⟩) (.inl rfl) ?_
    · clear hc; go_simp
    go_simp
    refine wpAnyL_takeS (i := 4) (v := .slice (some ⟨gr, 0, none⟩) 8 rc) rfl (by kernel_rfl) (by kernel_rfl) (by kernel_rfl) (by kernel_rfl) (by kernel_rfl) (fun _ _ _ h => h) (Or.inl ⟨by rfl, fun w hc => ?_⟩) (rfl) ?_
    · rw [hc]; clear hc; go_simp
    go_simp
    refine wpAnyL_takeW (i := 5) (v := .pointer (some ⟨g, 0, none⟩)) rfl (by kernel_rfl) (by kernel_rfl) (by kernel_rfl) (by kernel_rfl) (fun _ _ _ h => h) (Or.inl ⟨by rfl, fun w hc => ?_⟩) (.inl rfl) ?_
    · clear hc; go_simp
    go_simp
    refine wpAnyL_takeW (i := 6) (v := .pointer (some ⟨g, 0, none⟩)) rfl (by kernel_rfl) (by kernel_rfl) (by kernel_rfl) (by kernel_rfl) (fun _ _ _ h => h) (Or.inl ⟨by rfl, fun w hc => ?_⟩) (.inl rfl) ?_
    · clear hc; go_simp
    go_simp
    refine wpAnyL_takeW (i := 7) (v := .pointer (some ⟨g, 256, none⟩)) rfl (by kernel_rfl) (by kernel_rfl) (by kernel_rfl) (by kernel_rfl) (fun _ _ _ h => h) (Or.inl ⟨by rfl, fun w hc => ?_⟩) (.inl rfl) ?_
    · clear hc; go_simp
    go_simp
    refine wpAnyL_takeW (i := 8) (v := .pointer (some ⟨g, 257, none⟩)) rfl (by kernel_rfl) (by kernel_rfl) (by kernel_rfl) (by kernel_rfl) (fun _ _ _ h => h) (Or.inl ⟨by rfl, fun w hc => ?_⟩) (.inl rfl) ?_
    · clear hc; go_simp
    go_simp
    refine wpAnyL_takeS (i := 9) (v := .slice (some ⟨gr, 0, none⟩) 8 rc) rfl (by kernel_rfl) (by kernel_rfl) (by kernel_rfl) (by kernel_rfl) (by kernel_rfl) (fun _ _ _ h => h) (Or.inl ⟨by rfl, fun w hc => ?_⟩) (rfl) ?_
    · rw [hc]; clear hc; go_simp
    go_simp
    refine wpAnyL_takeW (i := 10) (v := .pointer (some ⟨gr, 7, none⟩)) rfl (by kernel_rfl) (by kernel_rfl) (by kernel_rfl) (by kernel_rfl) (fun _ _ _ h => h) (Or.inl ⟨by rfl, fun w hc => ?_⟩) (.inl rfl) ?_
    · clear hc; go_simp
    go_simp
    refine wpAnyL_takeS (i := 11) (v := .int .i64 v7) rfl (by kernel_rfl) (by kernel_rfl) (by kernel_rfl) (by kernel_rfl) (by kernel_rfl) (fun _ _ _ h => h) (Or.inl ⟨by rfl, fun w hc => ?_⟩) (rfl) ?_
    · rw [hc]; clear hc; go_simp
    go_simp
    refine wpAnyL_takeW (i := 12) (v := .pointer (some ⟨w.heap.size, 7, none⟩)) rfl (by kernel_rfl) (by kernel_rfl) (by kernel_rfl) (by kernel_rfl) (fun _ _ _ h => h) (Or.inl ⟨by rfl, fun w hc => ?_⟩) (.inl rfl) ?_
    · clear hc; go_simp
    go_simp
    refine wpAnyL_takeS (i := 13) (v := .int .i64 n) rfl (by kernel_rfl) (by kernel_rfl) (by kernel_rfl) (by kernel_rfl) (by kernel_rfl) (fun _ _ _ h => h) (Or.inl ⟨by rfl, fun w hc => ?_⟩) (rfl) ?_
    · rw [hc]; clear hc; go_simp
    go_simp
    refine wpAnyL_takeW (i := 14) (v := .int .i64 (2 * n)) rfl (by kernel_rfl) (by kernel_rfl) (by kernel_rfl) (by kernel_rfl) (fun _ _ _ h => h) (Or.inl ⟨by rfl, fun w hc => ?_⟩) (.inl rfl) ?_
    · clear hc; go_simp
    go_simp
    refine wpAnyL_takeW (i := 15) (v := .int .i64 (v7 + 2 * n)) rfl (by kernel_rfl) (by kernel_rfl) (by kernel_rfl) (by kernel_rfl) (fun _ _ _ h => h) (Or.inl ⟨by rfl, fun w hc => ?_⟩) (.inl rfl) ?_
    · clear hc; go_simp
    go_simp
    refine wpAnyL_one (i := 16) (by kernel_rfl) rfl (fun K2 hK => ?_)
    go_simp
    refine (unhide WR _).mono ?_
    rintro e w9 ⟨rfl, hw9⟩
    rw [hw9]
    clear hw9 w9
    refine hK.out _ _ (fun _ => rfl) ?_
    clear hK K2
    refine wpAnyL_takeW (i := 17) (v := .pointer (some ⟨gr, 7, none⟩)) rfl (by kernel_rfl) (by kernel_rfl) (by kernel_rfl) (by kernel_rfl) (fun _ _ _ h => h) (Or.inl ⟨by rfl, fun w hc => ?_⟩) (.inl rfl) ?_
    · clear hc; go_simp
    go_simp
    refine wpAnyL_one (i := 18) (by kernel_rfl) rfl (fun K2 hK => ?_)
    go_simp
    refine hK.out _ _ (fun h => absurd h (by decide)) ?_
    clear hK K2
    refine wpAnyL_done (by kernel_rfl) ?_ _
    go_wp2
    go_ret
    exact ⟨rfl, unhide H4, unhide F4⟩
end Go.Proofs.YtjpbjbnialehbaaDoor

namespace Go.Proofs.YtjpbjbnialehbaaDoor
open Go.ChangeShapes Go.WideShapes Go.ChangeAt Go.RowKit
set_option linter.unusedVariables false
set_option maxRecDepth 8000
set_option linter.unusedSimpArgs false
def Ms.go1 (t : Ms) : Ms := t.rg 6 ((nAt t.d.r 6 - 2) % 65536)
def Ms.go2 (t : Ms) (k : Nat) : Ms := t.go1.st (-1) ((nAt t.d.r 6 - 2) % 65536) (nAt t.go1.d.r k)
def Ms.go3 (t : Ms) (k : Nat) : Ms := (t.go2 k).rg k (nAt (t.go2 k).d.r 7)
def Ms.call (t : Ms) (k : Nat) (qa : Int) : Ms := (t.go3 k).rg 7 qa
end Go.Proofs.YtjpbjbnialehbaaDoor
