/- Contracts over this seat's translation, laid together; conditions stand as hypotheses of each. -/
import Derived.Test.YtjpbjbnialehbaaGreatDoorBsA
import Derived.Test.YtjpbjbnialehbaaGreatDoorBsG
import Derived.Test.YtjpbjbnialehbaaGreatDoorBsH
import Derived.Laws.BitsAllLaws

namespace Go.Proofs.YtjpbjbnialehbaaGreatDoor
open Go.ChangeShapes Go.WideShapes Go.ChangeAt Go.RowKit
set_option linter.unusedVariables false
set_option maxRecDepth 8000
set_option linter.unusedSimpArgs false
def TiIs (g B : Nat) (y : Mv) (t2 : Ms) (st : Int) (w : World) : Prop :=
  Calls Tryz.prog 118 #[.pointer (some ⟨g, 0, none⟩)] w fun e w' => ∃ y', e = .returned (.tuple #[]) ∧ Pe w' g B y' t2 st ∧ Fm w w' g y y'
set_option maxHeartbeats 2000000 in
theorem take_e (g B gr rc : Nat) (y : Mv) (t : Ms) (st : Int) (w : World) (h : Pz w g B gr rc y t st t.d.m) (hk : Dk t.d) (hl : t.d.i = []) : TiIs g B y ((t.rg 0 65535).cs true) st w := by
  have ci : w.cell? ⟨g, 262, none⟩ = some (.slice y.i.a y.i.n y.i.c) := h.cell 6 _ rfl
  have hn : y.i.n = 0 := by have := h.own.i.len; simp [hl] at this; omega
  rw [hn] at ci
  have c5 : w.cell? ⟨g, 261, none⟩ = some (.bool y.c) := h.cell 5 _ rfl
  have f5 := h.fz 261
  obtain ⟨h2, f2⟩ := h.setC true
  have d5 : (w.setCell ⟨g, 261, none⟩ (.bool true)).cell? ⟨g, 261, none⟩ = some (.bool true) := h2.cell 5 _ rfl
  have d1 := h2.cr
  obtain ⟨h3, f3, d2, d3⟩ := h2.setR 0 65535 (by omega)
  have H3 := hide (h3.pe hk.ml)
  have F3 := hide (f2.trans f3)
  unfold TiIs
  clear h hk h2 f2 h3 f3 hn
  go_enter Tryz.func118, Tryz.ntmps118
  go_wp2
  refine bodyPost_ret (results_none rfl _ _ _) rfl ?_
  first | exact ⟨rfl, _, unhide H3, unhide F3⟩ | exact ⟨_, rfl, unhide H3, unhide F3⟩
set_option maxHeartbeats 4000000 in
theorem take_x (g B gr rc : Nat) (y : Mv) (t : Ms) (st : Int) (w : World) (h : Pz w g B gr rc y t st t.d.m) (hk : Dk t.d) (x : Int) (xs : List Int) (hi : t.d.i = x :: xs) : TiIs g B y (((t.rg 0 x).inp xs).cs false) st w := by
  obtain ⟨gi, ic, ei, hic⟩ : ∃ g c, y.i = ⟨some ⟨g, 0, none⟩, xs.length + 1, c⟩ ∧ xs.length + 1 ≤ c := by
    obtain ⟨a, b, q1, q2⟩ := own_formL h.own.i (by simp [hi])
    simp only [hi] at q1 q2
    exact ⟨a, b, q1, q2⟩
  have HSI := hide (fun (v : World) (y' : Mv) (t' : Ms) (ey : y'.i = y.i) (hv : Pz v g B gr rc y' t' st t.d.m) (hx : t'.d.i = x :: xs) => (show v.cell? ⟨g, 257, none⟩ = some (.slice (some ⟨gr, 0, none⟩) 8 rc) ∧ v.cell? ⟨g, 262, none⟩ = some (.slice (some ⟨gi, 0, none⟩) (xs.length + 1) ic) ∧ v.cell? ⟨gi, 0, none⟩ = some (.int .i64 x) from ⟨hv.cr, by have k := hv.cell 6 (.slice y'.i.a y'.i.n y'.i.c) rfl; rw [ey, ei] at k; exact k, by
    have k := hv.own.i
    rw [ey, ei] at k
    simp only [hx] at k
    exact (k.cellAt 0 (by simp)).1⟩))
  have ci := (unhide HSI w y t rfl h hi).2.1
  have hlt : xs.length + 1 ≤ 50 := by
    have := hk.il
    rw [hi] at this
    simpa using this
  have il0 : ¬ ((xs.length + 1 : Nat) : Int) = 0 := by omega
  have il2 : ¬ ((xs.length + 1 : Nat) : Int) ≤ 0 := by omega
  have il1 : (0 : Int) < ((xs.length + 1 : Nat) : Int) := by omega
  have il3 : (1 : Int) ≤ ((xs.length + 1 : Nat) : Int) := by omega
  have c5 : w.cell? ⟨g, 261, none⟩ = some (.bool y.c) := h.cell 5 _ rfl
  have f5 := h.fz 261
  obtain ⟨h2, f2⟩ := h.setC false
  have d5 : (w.setCell ⟨g, 261, none⟩ (.bool false)).cell? ⟨g, 261, none⟩ = some (.bool false) := h2.cell 5 _ rfl
  have HD := hide (h2.later (below_drew (w := w.setCell ⟨g, 261, none⟩ (.bool false))))
  have FD := hide (f2.trans (Fm.of (below_drew (w := w.setCell ⟨g, 261, none⟩ (.bool false)))))
  have HS := hide (unhide HSI _ _ _ (show ({ y with c := false } : Mv).i = y.i from rfl) (unhide HD) hi)
  have SC := hide ((unhide HD).setR 0 x (by omega))
  have CK := hide (unhide SC).2.2
  have C4 := hide (unhide HSI _ _ _ (show ({ y with c := false } : Mv).i = y.i from rfl) (unhide SC).1 hi)
  have C6 := hide ((unhide SC).1.fz 262)
  have OI := hide (show OwnN _ B (Sl.v ⟨some ⟨gi, 0, none⟩, xs.length + 1, ic⟩) (x :: xs) from by
    have k := (unhide SC).1.own.i
    rw [show ({ y with c := false } : Mv).i = y.i from rfl, ei] at k
    rw [← hi]
    exact k)
  have EB := hide (show y.i.v.ownBlock = some gi by rw [ei]; rfl)
  have hic2 : xs.length + 1 ≤ ic := hic
  unfold TiIs
  by_cases hc1 : ic = 1
  · obtain rfl : xs = [] := List.eq_nil_of_length_eq_zero (by omega)
    subst hc1
    have PI := hide ((unhide SC).1.putI ⟨some ⟨gi, 0, none⟩, 0, 0⟩ hk.ml (OwnO.nil (unhide OI)) (fun b hb => by rw [show ({ y with c := false } : Mv).i = y.i from rfl, unhide EB]; exact hb))
    have H5 := hide (unhide PI).1
    have F5 := hide (((unhide FD).trans (unhide SC).2.1).trans (unhide PI).2)
    clear h hk h2 f2 SC PI HSI ei hic hi OI EB HD FD hic2
    clear il0 il1 il2 il3 hlt
    simp only [List.length_nil, Nat.zero_add] at ci HS C4 H5 F5
    go_enter Tryz.func118, Tryz.ntmps118
    go_wp2_with fail
    refine wp_region_last (fun v => v.cell? ⟨g, 257, none⟩ = some (.slice (some ⟨gr, 0, none⟩) 8 rc) ∧ v.cell? ⟨g, 262, none⟩ = some (.slice (some ⟨gi, 0, none⟩) 1 1) ∧ v.cell? ⟨gi, 0, none⟩ = some (.int .i64 x)) 24 (by kernel_rfl) ?_
    generalize (w.setCell ⟨g, 261, none⟩ (.bool false)).drew = wd at HS CK C4 C6 H5 F5 ⊢
    refine wpAnyL_takeW (i := 0) (v := .pointer (some ⟨g, 0, none⟩)) rfl (by kernel_rfl) (by kernel_rfl) (by kernel_rfl) (by kernel_rfl) (fun _ _ _ h => h) (Or.inl ⟨by rfl, fun w hc => ?_⟩) (.inl (unhide HS)) ?_
    · clear hc; go_simp
    go_simp
    refine wpAnyL_takeW (i := 1) (v := .pointer (some ⟨g, 0, none⟩)) rfl (by kernel_rfl) (by kernel_rfl) (by kernel_rfl) (by kernel_rfl) (fun _ _ _ h => h) (Or.inl ⟨by rfl, fun w hc => ?_⟩) (.inl (unhide HS)) ?_
    · clear hc; go_simp
    go_simp
    refine wpAnyL_takeW (i := 2) (v := .pointer (some ⟨g, 256, none⟩)) rfl (by kernel_rfl) (by kernel_rfl) (by kernel_rfl) (by kernel_rfl) (fun _ _ _ h => h) (Or.inl ⟨by rfl, fun w hc => ?_⟩) (.inl (unhide HS)) ?_
    · clear hc; go_simp
    go_simp
    refine wpAnyL_takeW (i := 3) (v := .pointer (some ⟨g, 257, none⟩)) rfl (by kernel_rfl) (by kernel_rfl) (by kernel_rfl) (by kernel_rfl) (fun _ _ _ h => h) (Or.inl ⟨by rfl, fun w hc => ?_⟩) (.inl (unhide HS)) ?_
    · clear hc; go_simp
    go_simp
    refine wpAnyL_takeS (i := 4) (v := .slice (some ⟨gr, 0, none⟩) 8 rc) rfl (by kernel_rfl) (by kernel_rfl) (by kernel_rfl) (by kernel_rfl) (by kernel_rfl) (fun _ _ _ h => h) (Or.inl ⟨by rfl, fun w hc => ?_⟩) (unhide HS) ?_
    · obtain ⟨h1, h2, h3⟩ := hc; go_simp
    go_simp
    refine wpAnyL_takeW (i := 5) (v := .pointer (some ⟨g, 0, none⟩)) rfl (by kernel_rfl) (by kernel_rfl) (by kernel_rfl) (by kernel_rfl) (fun _ _ _ h => h) (Or.inl ⟨by rfl, fun w hc => ?_⟩) (.inl (unhide HS)) ?_
    · clear hc; go_simp
    go_simp
    refine wpAnyL_takeW (i := 6) (v := .pointer (some ⟨g, 0, none⟩)) rfl (by kernel_rfl) (by kernel_rfl) (by kernel_rfl) (by kernel_rfl) (fun _ _ _ h => h) (Or.inl ⟨by rfl, fun w hc => ?_⟩) (.inl (unhide HS)) ?_
    · clear hc; go_simp
    go_simp
    refine wpAnyL_takeW (i := 7) (v := .pointer (some ⟨g, 0, none⟩)) rfl (by kernel_rfl) (by kernel_rfl) (by kernel_rfl) (by kernel_rfl) (fun _ _ _ h => h) (Or.inl ⟨by rfl, fun w hc => ?_⟩) (.inl (unhide HS)) ?_
    · clear hc; go_simp
    go_simp
    refine wpAnyL_takeW (i := 8) (v := .pointer (some ⟨g, 256, none⟩)) rfl (by kernel_rfl) (by kernel_rfl) (by kernel_rfl) (by kernel_rfl) (fun _ _ _ h => h) (Or.inl ⟨by rfl, fun w hc => ?_⟩) (.inl (unhide HS)) ?_
    · clear hc; go_simp
    go_simp
    refine wpAnyL_takeW (i := 9) (v := .pointer (some ⟨g, 262, none⟩)) rfl (by kernel_rfl) (by kernel_rfl) (by kernel_rfl) (by kernel_rfl) (fun _ _ _ h => h) (Or.inl ⟨by rfl, fun w hc => ?_⟩) (.inl (unhide HS)) ?_
    · clear hc; go_simp
    go_simp
    refine wpAnyL_takeS (i := 10) (v := .slice (some ⟨gi, 0, none⟩) 1 1) rfl (by kernel_rfl) (by kernel_rfl) (by kernel_rfl) (by kernel_rfl) (by kernel_rfl) (fun _ _ _ h => h) (Or.inl ⟨by rfl, fun w hc => ?_⟩) (unhide HS) ?_
    · obtain ⟨h1, h2, h3⟩ := hc; go_simp
    go_simp
    refine wpAnyL_takeW (i := 11) (v := .pointer (some ⟨gi, 0, none⟩)) rfl (by kernel_rfl) (by kernel_rfl) (by kernel_rfl) (by kernel_rfl) (fun _ _ _ h => h) (Or.inl ⟨by rfl, fun w hc => ?_⟩) (.inl (unhide HS)) ?_
    · clear hc; go_simp
    go_simp
    refine wpAnyL_takeS (i := 12) (v := .int .i64 x) rfl (by kernel_rfl) (by kernel_rfl) (by kernel_rfl) (by kernel_rfl) (by kernel_rfl) (fun _ _ _ h => h) (Or.inl ⟨by rfl, fun w hc => ?_⟩) (unhide HS) ?_
    · obtain ⟨h1, h2, h3⟩ := hc; go_simp
    go_simp
    refine wpAnyL_takeW (i := 13) (v := .pointer (some ⟨g, 0, none⟩)) rfl (by kernel_rfl) (by kernel_rfl) (by kernel_rfl) (by kernel_rfl) (fun _ _ _ h => h) (Or.inl ⟨by rfl, fun w hc => ?_⟩) (.inl (unhide HS)) ?_
    · clear hc; go_simp
    go_simp
    refine wpAnyL_takeW (i := 14) (v := .pointer (some ⟨g, 0, none⟩)) rfl (by kernel_rfl) (by kernel_rfl) (by kernel_rfl) (by kernel_rfl) (fun _ _ _ h => h) (Or.inl ⟨by rfl, fun w hc => ?_⟩) (.inl (unhide HS)) ?_
    · clear hc; go_simp
    go_simp
    refine wpAnyL_takeW (i := 15) (v := .pointer (some ⟨g, 256, none⟩)) rfl (by kernel_rfl) (by kernel_rfl) (by kernel_rfl) (by kernel_rfl) (fun _ _ _ h => h) (Or.inl ⟨by rfl, fun w hc => ?_⟩) (.inl (unhide HS)) ?_
    · clear hc; go_simp
    go_simp
    refine wpAnyL_takeW (i := 16) (v := .pointer (some ⟨g, 262, none⟩)) rfl (by kernel_rfl) (by kernel_rfl) (by kernel_rfl) (by kernel_rfl) (fun _ _ _ h => h) (Or.inl ⟨by rfl, fun w hc => ?_⟩) (.inl (unhide HS)) ?_
    · clear hc; go_simp
    go_simp
    refine wpAnyL_takeS (i := 17) (v := .slice (some ⟨gi, 0, none⟩) 1 1) rfl (by kernel_rfl) (by kernel_rfl) (by kernel_rfl) (by kernel_rfl) (by kernel_rfl) (fun _ _ _ h => h) (Or.inl ⟨by rfl, fun w hc => ?_⟩) (unhide HS) ?_
    · obtain ⟨h1, h2, h3⟩ := hc; go_simp
    go_simp
    refine wpAnyL_takeW (i := 18) (v := .slice (some ⟨gi, 0, none⟩) 0 0) rfl (by kernel_rfl) (by kernel_rfl) (by kernel_rfl) (by kernel_rfl) (fun _ _ _ h => h) (Or.inl ⟨by rfl, fun w hc => ?_⟩) (.inl (unhide HS)) ?_
    · clear hc; go_simp
    go_simp
    refine wpAnyL_takeW (i := 19) (v := .pointer (some ⟨gr, 0, none⟩)) rfl (by kernel_rfl) (by kernel_rfl) (by kernel_rfl) (by kernel_rfl) (fun _ _ _ h => h) (Or.inl ⟨by rfl, fun w hc => ?_⟩) (.inl (unhide HS)) ?_
    · clear hc; go_simp
    go_simp
    have c2 := (unhide CK).1
    have c3 := (unhide CK).2
    refine wpAnyL_one (i := 20) (by kernel_rfl) rfl (fun K2 hK => ?_)
    go_simp
    refine hK.out _ _ (fun _ => unhide C4) ?_
    clear hK K2 HS c2 c3
    have HS := hide (unhide C4)
    refine wpAnyL_takeW (i := 21) (v := .pointer (some ⟨g, 0, none⟩)) rfl (by kernel_rfl) (by kernel_rfl) (by kernel_rfl) (by kernel_rfl) (fun _ _ _ h => h) (Or.inl ⟨by rfl, fun w hc => ?_⟩) (.inl (unhide HS)) ?_
    · clear hc; go_simp
    go_simp
    refine wpAnyL_takeW (i := 22) (v := .pointer (some ⟨g, 256, none⟩)) rfl (by kernel_rfl) (by kernel_rfl) (by kernel_rfl) (by kernel_rfl) (fun _ _ _ h => h) (Or.inl ⟨by rfl, fun w hc => ?_⟩) (.inl (unhide HS)) ?_
    · clear hc; go_simp
    go_simp
    refine wpAnyL_takeW (i := 23) (v := .pointer (some ⟨g, 262, none⟩)) rfl (by kernel_rfl) (by kernel_rfl) (by kernel_rfl) (by kernel_rfl) (fun _ _ _ h => h) (Or.inl ⟨by rfl, fun w hc => ?_⟩) (.inl (unhide HS)) ?_
    · clear hc; go_simp
    go_simp
    have c1 := (unhide C4).2.1
    have c2 := unhide C6
    refine wpAnyL_one (i := 24) (by kernel_rfl) rfl (fun K2 hK => ?_)
    go_simp
    refine hK.out _ _ (fun h => absurd h (by decide)) ?_
    clear hK K2
    refine wpAnyL_done (by kernel_rfl) ?_ _
    clear c1 c2
    unfold Sl.v at H5 F5
    generalize (wd.setCell ⟨gr, 0, none⟩ (.int .i64 x)).setCell ⟨g, 262, none⟩ (.slice (some ⟨gi, 0, none⟩) 0 0) = w5 at H5 F5 ⊢
    go_wp2
    go_end0
    first | exact ⟨_, rfl, unhide H5, unhide F5⟩ | exact ⟨rfl, _, unhide H5, unhide F5⟩
  · have hc2 : 1 < ic := by omega
    have PI := hide ((unhide SC).1.putI ⟨some ⟨gi, 1, none⟩, xs.length, ic - 1⟩ hk.ml (OwnO.tl (unhide OI)) (fun b hb => by rw [show ({ y with c := false } : Mv).i = y.i from rfl, unhide EB]; exact hb))
    have H5 := hide (unhide PI).1
    have F5 := hide (((unhide FD).trans (unhide SC).2.1).trans (unhide PI).2)
    clear h hk h2 f2 SC PI HSI ei hic hi OI EB HD FD
    go_enter Tryz.func118, Tryz.ntmps118
    go_wp2_with fail
    refine wp_region_last (fun v => v.cell? ⟨g, 257, none⟩ = some (.slice (some ⟨gr, 0, none⟩) 8 rc) ∧ v.cell? ⟨g, 262, none⟩ = some (.slice (some ⟨gi, 0, none⟩) (xs.length + 1) ic) ∧ v.cell? ⟨gi, 0, none⟩ = some (.int .i64 x)) 24 (by kernel_rfl) ?_
    generalize (w.setCell ⟨g, 261, none⟩ (.bool false)).drew = wd at HS CK C4 C6 H5 F5 ⊢
    refine wpAnyL_takeW (i := 0) (v := .pointer (some ⟨g, 0, none⟩)) rfl (by kernel_rfl) (by kernel_rfl) (by kernel_rfl) (by kernel_rfl) (fun _ _ _ h => h) (Or.inl ⟨by rfl, fun w hc => ?_⟩) (.inl (unhide HS)) ?_
    · clear hc; go_simp
    go_simp
    refine wpAnyL_takeW (i := 1) (v := .pointer (some ⟨g, 0, none⟩)) rfl (by kernel_rfl) (by kernel_rfl) (by kernel_rfl) (by kernel_rfl) (fun _ _ _ h => h) (Or.inl ⟨by rfl, fun w hc => ?_⟩) (.inl (unhide HS)) ?_
    · clear hc; go_simp
    go_simp
    refine wpAnyL_takeW (i := 2) (v := .pointer (some ⟨g, 256, none⟩)) rfl (by kernel_rfl) (by kernel_rfl) (by kernel_rfl) (by kernel_rfl) (fun _ _ _ h => h) (Or.inl ⟨by rfl, fun w hc => ?_⟩) (.inl (unhide HS)) ?_
    · clear hc; go_simp
    go_simp
    refine wpAnyL_takeW (i := 3) (v := .pointer (some ⟨g, 257, none⟩)) rfl (by kernel_rfl) (by kernel_rfl) (by kernel_rfl) (by kernel_rfl) (fun _ _ _ h => h) (Or.inl ⟨by rfl, fun w hc => ?_⟩) (.inl (unhide HS)) ?_
    · clear hc; go_simp
    go_simp
    refine wpAnyL_takeS (i := 4) (v := .slice (some ⟨gr, 0, none⟩) 8 rc) rfl (by kernel_rfl) (by kernel_rfl) (by kernel_rfl) (by kernel_rfl) (by kernel_rfl) (fun _ _ _ h => h) (Or.inl ⟨by rfl, fun w hc => ?_⟩) (unhide HS) ?_
    · obtain ⟨h1, h2, h3⟩ := hc; go_simp
    go_simp
    refine wpAnyL_takeW (i := 5) (v := .pointer (some ⟨g, 0, none⟩)) rfl (by kernel_rfl) (by kernel_rfl) (by kernel_rfl) (by kernel_rfl) (fun _ _ _ h => h) (Or.inl ⟨by rfl, fun w hc => ?_⟩) (.inl (unhide HS)) ?_
    · clear hc; go_simp
    go_simp
    refine wpAnyL_takeW (i := 6) (v := .pointer (some ⟨g, 0, none⟩)) rfl (by kernel_rfl) (by kernel_rfl) (by kernel_rfl) (by kernel_rfl) (fun _ _ _ h => h) (Or.inl ⟨by rfl, fun w hc => ?_⟩) (.inl (unhide HS)) ?_
    · clear hc; go_simp
    go_simp
    refine wpAnyL_takeW (i := 7) (v := .pointer (some ⟨g, 0, none⟩)) rfl (by kernel_rfl) (by kernel_rfl) (by kernel_rfl) (by kernel_rfl) (fun _ _ _ h => h) (Or.inl ⟨by rfl, fun w hc => ?_⟩) (.inl (unhide HS)) ?_
    · clear hc; go_simp
    go_simp
    refine wpAnyL_takeW (i := 8) (v := .pointer (some ⟨g, 256, none⟩)) rfl (by kernel_rfl) (by kernel_rfl) (by kernel_rfl) (by kernel_rfl) (fun _ _ _ h => h) (Or.inl ⟨by rfl, fun w hc => ?_⟩) (.inl (unhide HS)) ?_
    · clear hc; go_simp
    go_simp
    refine wpAnyL_takeW (i := 9) (v := .pointer (some ⟨g, 262, none⟩)) rfl (by kernel_rfl) (by kernel_rfl) (by kernel_rfl) (by kernel_rfl) (fun _ _ _ h => h) (Or.inl ⟨by rfl, fun w hc => ?_⟩) (.inl (unhide HS)) ?_
    · clear hc; go_simp
    go_simp
    refine wpAnyL_takeS (i := 10) (v := .slice (some ⟨gi, 0, none⟩) (xs.length + 1) ic) rfl (by kernel_rfl) (by kernel_rfl) (by kernel_rfl) (by kernel_rfl) (by kernel_rfl) (fun _ _ _ h => h) (Or.inl ⟨by rfl, fun w hc => ?_⟩) (unhide HS) ?_
    · obtain ⟨h1, h2, h3⟩ := hc; go_simp
    go_simp
    refine wpAnyL_takeW (i := 11) (v := .pointer (some ⟨gi, 0, none⟩)) rfl (by kernel_rfl) (by kernel_rfl) (by kernel_rfl) (by kernel_rfl) (fun _ _ _ h => h) (Or.inl ⟨by rfl, fun w hc => ?_⟩) (.inl (unhide HS)) ?_
    · clear hc; go_simp
    go_simp
    refine wpAnyL_takeS (i := 12) (v := .int .i64 x) rfl (by kernel_rfl) (by kernel_rfl) (by kernel_rfl) (by kernel_rfl) (by kernel_rfl) (fun _ _ _ h => h) (Or.inl ⟨by rfl, fun w hc => ?_⟩) (unhide HS) ?_
    · obtain ⟨h1, h2, h3⟩ := hc; go_simp
    go_simp
    refine wpAnyL_takeW (i := 13) (v := .pointer (some ⟨g, 0, none⟩)) rfl (by kernel_rfl) (by kernel_rfl) (by kernel_rfl) (by kernel_rfl) (fun _ _ _ h => h) (Or.inl ⟨by rfl, fun w hc => ?_⟩) (.inl (unhide HS)) ?_
    · clear hc; go_simp
    go_simp
    refine wpAnyL_takeW (i := 14) (v := .pointer (some ⟨g, 0, none⟩)) rfl (by kernel_rfl) (by kernel_rfl) (by kernel_rfl) (by kernel_rfl) (fun _ _ _ h => h) (Or.inl ⟨by rfl, fun w hc => ?_⟩) (.inl (unhide HS)) ?_
    · clear hc; go_simp
    go_simp
    refine wpAnyL_takeW (i := 15) (v := .pointer (some ⟨g, 256, none⟩)) rfl (by kernel_rfl) (by kernel_rfl) (by kernel_rfl) (by kernel_rfl) (fun _ _ _ h => h) (Or.inl ⟨by rfl, fun w hc => ?_⟩) (.inl (unhide HS)) ?_
    · clear hc; go_simp
    go_simp
    refine wpAnyL_takeW (i := 16) (v := .pointer (some ⟨g, 262, none⟩)) rfl (by kernel_rfl) (by kernel_rfl) (by kernel_rfl) (by kernel_rfl) (fun _ _ _ h => h) (Or.inl ⟨by rfl, fun w hc => ?_⟩) (.inl (unhide HS)) ?_
    · clear hc; go_simp
    go_simp
    refine wpAnyL_takeS (i := 17) (v := .slice (some ⟨gi, 0, none⟩) (xs.length + 1) ic) rfl (by kernel_rfl) (by kernel_rfl) (by kernel_rfl) (by kernel_rfl) (by kernel_rfl) (fun _ _ _ h => h) (Or.inl ⟨by rfl, fun w hc => ?_⟩) (unhide HS) ?_
    · obtain ⟨h1, h2, h3⟩ := hc; go_simp
    go_simp
    refine wpAnyL_takeW (i := 18) (v := .slice (some ⟨gi, 1, none⟩) xs.length (ic - 1)) rfl (by kernel_rfl) (by kernel_rfl) (by kernel_rfl) (by kernel_rfl) (fun _ _ _ h => h) (Or.inl ⟨by rfl, fun w hc => ?_⟩) (.inl (unhide HS)) ?_
    · clear hc; go_simp
      intro hh
      omega
    go_simp
    refine wpAnyL_takeW (i := 19) (v := .pointer (some ⟨gr, 0, none⟩)) rfl (by kernel_rfl) (by kernel_rfl) (by kernel_rfl) (by kernel_rfl) (fun _ _ _ h => h) (Or.inl ⟨by rfl, fun w hc => ?_⟩) (.inl (unhide HS)) ?_
    · clear hc; go_simp
    go_simp
    have c2 := (unhide CK).1
    have c3 := (unhide CK).2
    refine wpAnyL_one (i := 20) (by kernel_rfl) rfl (fun K2 hK => ?_)
    go_simp
    refine hK.out _ _ (fun _ => unhide C4) ?_
    clear hK K2 HS c2 c3
    have HS := hide (unhide C4)
    refine wpAnyL_takeW (i := 21) (v := .pointer (some ⟨g, 0, none⟩)) rfl (by kernel_rfl) (by kernel_rfl) (by kernel_rfl) (by kernel_rfl) (fun _ _ _ h => h) (Or.inl ⟨by rfl, fun w hc => ?_⟩) (.inl (unhide HS)) ?_
    · clear hc; go_simp
    go_simp
    refine wpAnyL_takeW (i := 22) (v := .pointer (some ⟨g, 256, none⟩)) rfl (by kernel_rfl) (by kernel_rfl) (by kernel_rfl) (by kernel_rfl) (fun _ _ _ h => h) (Or.inl ⟨by rfl, fun w hc => ?_⟩) (.inl (unhide HS)) ?_
    · clear hc; go_simp
    go_simp
    refine wpAnyL_takeW (i := 23) (v := .pointer (some ⟨g, 262, none⟩)) rfl (by kernel_rfl) (by kernel_rfl) (by kernel_rfl) (by kernel_rfl) (fun _ _ _ h => h) (Or.inl ⟨by rfl, fun w hc => ?_⟩) (.inl (unhide HS)) ?_
    · clear hc; go_simp
    go_simp
    have c1 := (unhide C4).2.1
    have c2 := unhide C6
    refine wpAnyL_one (i := 24) (by kernel_rfl) rfl (fun K2 hK => ?_)
    go_simp
    refine hK.out _ _ (fun h => absurd h (by decide)) ?_
    clear hK K2
    refine wpAnyL_done (by kernel_rfl) ?_ _
    clear c1 c2
    unfold Sl.v at H5 F5
    generalize (wd.setCell ⟨gr, 0, none⟩ (.int .i64 x)).setCell ⟨g, 262, none⟩ (.slice (some ⟨gi, 1, none⟩) xs.length (ic - 1)) = w5 at H5 F5 ⊢
    go_wp2
    go_end0
    first | exact ⟨_, rfl, unhide H5, unhide F5⟩ | exact ⟨rfl, _, unhide H5, unhide F5⟩
end Go.Proofs.YtjpbjbnialehbaaGreatDoor

namespace Go.Proofs.YtjpbjbnialehbaaGreatDoor
open Go.ChangeShapes Go.WideShapes Go.ChangeAt Go.RowKit
set_option linter.unusedVariables false
set_option maxRecDepth 8000
set_option linter.unusedSimpArgs false
/-- What an action answers, whatever its machine has become. -/
def DoE (g B : Nat) (y : Mv) (t2 : Ms) (st2 : Int) (ok : Bool) (w : World) (e : Ending) (w' : World) : Prop := ∃ y', e = .returned (.bool ok) ∧ AcE ok (Pe w' g B y' t2 st2) (Fm w w' g y y')
set_option maxHeartbeats 2000000 in
theorem exchange_any (g B gr rc op sm sr dm dr : Nat) (sx dx n : Int) (y : Mv) (t : Ms) (st : Int) (w : World) (h : Pz w g B gr rc y t st t.d.m) (hk : Dk t.d) :
    Calls Tryz.prog 85 #[.pointer (some ⟨g, 0, none⟩), .agg #[.int .i64 (op : Int), .int .i64 (sm : Int), .int .i64 (sr : Int), .int .i64 sx, .int .i64 (dm : Int), .int .i64 (dr : Int), .int .i64 dx, .int .i64 n]] w (DoE g B y (t.emt n) st (t.emtB n) w) := by
  have H1 := hide (h.later (below_new w (Obj.cells #[.int .i64 (op : Int), .int .i64 (sm : Int), .int .i64 (sr : Int), .int .i64 sx, .int .i64 (dm : Int), .int .i64 (dr : Int), .int .i64 dx, .int .i64 n] 69)))
  have F1 := hide (Fm.of (g := g) (y := y) (below_new w (Obj.cells #[.int .i64 (op : Int), .int .i64 (sm : Int), .int .i64 (sr : Int), .int .i64 sx, .int .i64 (dm : Int), .int .i64 (dr : Int), .int .i64 dx, .int .i64 n] 69)))
  have k7 := insR 7 _ (heap_alloc_last w (Obj.cells #[.int .i64 (op : Int), .int .i64 (sm : Int), .int .i64 (sr : Int), .int .i64 sx, .int .i64 (dm : Int), .int .i64 (dr : Int), .int .i64 dx, .int .i64 n] 69)) rfl
  by_cases n1 : n = 1
  · subst n1
    have SO := hide (show SoIs g B y t (t.out (t.d.o ++ [nAt t.d.r 0])) st (decide (t.d.o.length < 50)) (w.alloc (Obj.cells #[.int .i64 (op : Int), .int .i64 (sm : Int), .int .i64 (sr : Int), .int .i64 sx, .int .i64 (dm : Int), .int .i64 (dr : Int), .int .i64 dx, .int .i64 1] 69)) from by
      by_cases hl : t.d.o.length < 50
      · rw [decide_eq_true hl]
        exact send_yes g B gr rc y t st _ (unhide H1) hk hl
      · rw [decide_eq_false hl]
        have q := send_no g B gr rc y t st _ (unhide H1) hk (by have := hk.ol; omega)
        unfold SoIs at q ⊢
        exact q.mono fun e w' ⟨y', a, b⟩ => ⟨y', a, ⟨fun h => Bool.noConfusion h, b.fm⟩⟩)
    unfold SoIs at SO
    unfold DoE Ms.emt Ms.emtB
    simp only [if_true]
    generalize decide (t.d.o.length < 50) = ok at SO ⊢
    clear h hk
    go_enter Tryz.func85, Tryz.ntmps85
    go_wp2_with fail
    refine (unhide SO).mono ?_
    rintro e w2 ⟨y2, rfl, a2⟩
    have A2 := hide a2
    clear a2 SO
    go_wp2
    go_ret
    first | exact ⟨y2, rfl, ⟨fun h => (unhide A2).yes h, (unhide F1).trans (unhide A2).fm⟩⟩ | exact ⟨rfl, y2, ⟨fun h => (unhide A2).yes h, (unhide F1).trans (unhide A2).fm⟩⟩
  · by_cases n2 : n = 2
    · subst n2
      have TI := hide (show TiIs g B y (t.emt 2) st (w.alloc (Obj.cells #[.int .i64 (op : Int), .int .i64 (sm : Int), .int .i64 (sr : Int), .int .i64 sx, .int .i64 (dm : Int), .int .i64 (dr : Int), .int .i64 dx, .int .i64 2] 69)) from by
        unfold Ms.emt
        rw [if_neg (by omega)]
        cases hi : t.d.i with
        | nil => exact take_e g B gr rc y t st _ (unhide H1) hk hi
        | cons x xs => exact take_x g B gr rc y t st _ (unhide H1) hk x xs hi)
      unfold TiIs at TI
      unfold DoE Ms.emtB
      simp only [if_neg n1]
      generalize t.emt 2 = t2 at TI ⊢
      clear h hk
      go_enter Tryz.func85, Tryz.ntmps85
      go_wp2_with fail
      refine (unhide TI).mono ?_
      rintro e w2 ⟨y2, rfl, a2, f2⟩
      have A2 := hide a2
      have F2 := hide ((unhide F1).trans f2)
      clear a2 f2 TI
      go_wp2
      go_ret
      first | exact ⟨y2, rfl, ⟨fun _ => unhide A2, unhide F2⟩⟩ | exact ⟨rfl, y2, ⟨fun _ => unhide A2, unhide F2⟩⟩
    · unfold DoE Ms.emtB
      rw [if_neg n1, decide_eq_false n2]
      clear h hk
      go_enter Tryz.func85, Tryz.ntmps85
      go_wp2
      go_ret
      first | exact ⟨y, rfl, ⟨fun h => by simp at h, unhide F1⟩⟩ | exact ⟨rfl, y, ⟨fun h => by simp at h, unhide F1⟩⟩
theorem or_w {d s : Int} (d0 : 0 ≤ d) (d1 : d ≤ 65535) (s0 : 0 ≤ s) (s1 : s ≤ 65535) : 0 ≤ bits .or .i64 d s ∧ bits .or .i64 d s ≤ 65535 := by
  obtain ⟨a, rfl⟩ := Int.eq_ofNat_of_zero_le d0
  obtain ⟨b, rfl⟩ := Int.eq_ofNat_of_zero_le s0
  rw [(bits_nat .i64 16 (by decide) (fun n h0 h1 => by rw [IntKind.wrap_i64]; omega) a b (by omega) (by omega)).2]
  have : a ||| b < 2 ^ 16 := Nat.or_lt_two_pow (by omega) (by omega)
  omega
theorem andNot_w {d s : Int} (d0 : 0 ≤ d) (d1 : d ≤ 65535) (s0 : 0 ≤ s) (s1 : s ≤ 65535) : 0 ≤ bits .andNot .i64 d s ∧ bits .andNot .i64 d s ≤ 65535 := by
  obtain ⟨a, rfl⟩ := Int.eq_ofNat_of_zero_le d0
  obtain ⟨b, rfl⟩ := Int.eq_ofNat_of_zero_le s0
  have hx : (BitVec.ofInt 64 (a : Int) &&& ~~~BitVec.ofInt 64 (b : Int)).toNat ≤ a := by
    rw [BitVec.toNat_and]
    refine Nat.le_trans Nat.and_le_left ?_
    rw [BitVec.toNat_ofInt]
    omega
  have e : bits .andNot .i64 (a : Int) (b : Int) = IntKind.i64.wrap ((BitVec.ofInt 64 (a : Int) &&& ~~~BitVec.ofInt 64 (b : Int)).toNat : Int) := rfl
  rw [e, IntKind.wrap_i64]
  omega
theorem wkR_w (op : Nat) {s d : Int} (s0 : 0 ≤ s) (s1 : s ≤ 65535) (d0 : 0 ≤ d) (d1 : d ≤ 65535) : 0 ≤ wkR op s d ∧ wkR op s d ≤ 65535 := by
  unfold wkR
  split
  · omega
  · omega
  · exact andNot_w d0 d1 s0 s1
  · exact or_w d0 d1 s0 s1
  all_goals omega
theorem stD_mod (d : Md) (r a n : Int) : d.stD r a (n % 65536) = d.stD r a n := by
  unfold Md.stD Md.put
  rw [Int.emod_emod]
theorem sgB_w {n : Int} (h0 : 0 ≤ n) (h1 : n ≤ 65535) : sgB n = sgI n := by
  unfold sgB sgI
  rw [Int.emod_eq_of_lt h0 (by omega)]
theorem sgB_m (n : Int) : sgB n = sgI (n % 65536) := rfl
/-- What an instruction of two operands leaves: the program's is the model's. -/
theorem two_eqI (t : Ms) (op : Nat) (s qr qa : Int) (ho : 1 ≤ op ∧ op ≤ 6 ∧ op ≠ 2) (s0 : 0 ≤ s) (s1 : s ≤ 65535) (d0 : 0 ≤ t.d.ldV qr qa) (d1 : t.d.ldV qr qa ≤ 65535) :
    ((t.wk op s (t.d.ldV qr qa)).nzI (wkR op s (t.d.ldV qr qa))).st qr qa (wkR op s (t.d.ldV qr qa)) = t.two op s qr qa := by
  have e : op = 1 ∨ op = 3 ∨ op = 4 ∨ op = 5 ∨ op = 6 := by omega
  rcases e with rfl | rfl | rfl | rfl | rfl
  · simp only [Ms.two, Ms.st, Ms.nzI, Ms.wk, Ms.nz, wkR, wkV, wkC, sgB_w s0 s1, Int.emod_eq_of_lt s0 (show s < 65536 by omega)]
  · have b := andNot_w d0 d1 s0 s1
    simp only [Ms.two, Ms.st, Ms.nzI, Ms.wk, Ms.nz, wkR, wkV, wkC, sgB_w b.1 b.2, Int.emod_eq_of_lt b.1 (show bits .andNot .i64 (t.d.ldV qr qa) s < 65536 by omega)]
  · have b := or_w d0 d1 s0 s1
    simp only [Ms.two, Ms.st, Ms.nzI, Ms.wk, Ms.nz, wkR, wkV, wkC, sgB_w b.1 b.2, Int.emod_eq_of_lt b.1 (show bits .or .i64 (t.d.ldV qr qa) s < 65536 by omega)]
  · simp only [Ms.two, Ms.st, Ms.cs, Ms.nzI, Ms.wk, Ms.nz, wkR, wkV, wkC, sgB_w s0 s1, sgB_w d0 d1, sgB_m ((t.d.ldV qr qa + s) % 65536), Int.emod_emod, Int.add_comm s (t.d.ldV qr qa)]
    congr 1
    · generalize sgI s = a
      generalize sgI (t.d.ldV qr qa) = b
      cases a <;> cases b <;> rfl
    · unfold inB
      by_cases h : 65535 < t.d.ldV qr qa + s
      · rw [decide_eq_true h]; simp; omega
      · rw [decide_eq_false h]; simp; omega
  · simp only [Ms.two, Ms.st, Ms.cs, Ms.nzI, Ms.wk, Ms.nz, wkR, wkV, wkC, sgB_w s0 s1, sgB_w d0 d1, sgB_m ((t.d.ldV qr qa - s) % 65536), Int.emod_emod]
    congr 1
    generalize sgI s = a
    generalize sgI (t.d.ldV qr qa) = b
    cases a <;> cases b <;> rfl
theorem cmp_eqI (t : Ms) (s qr qa : Int) (s0 : 0 ≤ s) (s1 : s ≤ 65535) (d0 : 0 ≤ t.d.ldV qr qa) (d1 : t.d.ldV qr qa ≤ 65535) :
    (t.wk 2 s (t.d.ldV qr qa)).nzI (wkR 2 s (t.d.ldV qr qa)) = t.two 2 s qr qa := by
  simp only [Ms.two, Ms.st, Ms.cs, Ms.nzI, Ms.wk, Ms.nz, wkR, wkV, wkC, sgB_w s0 s1, sgB_w d0 d1, sgB_m ((s - t.d.ldV qr qa) % 65536), Int.emod_emod]
theorem one_eqI (t : Ms) (op : Nat) (qr qa : Int) (ho : 7 ≤ op ∧ op ≤ 13 ∧ op ≠ 11) (d0 : 0 ≤ t.d.ldV qr qa) (d1 : t.d.ldV qr qa ≤ 65535) :
    ((t.wk op 0 (t.d.ldV qr qa)).nzI (wkR op 0 (t.d.ldV qr qa))).st qr qa (wkR op 0 (t.d.ldV qr qa)) = t.one op qr qa := by
  have e : op = 7 ∨ op = 8 ∨ op = 9 ∨ op = 10 ∨ op = 12 ∨ op = 13 := by omega
  rcases e with rfl | rfl | rfl | rfl | rfl | rfl
  · simp only [Ms.one, Ms.st, Ms.cs, Ms.nzI, Ms.wk, Ms.nz, wkR, wkV, wkC]
    rfl
  · simp only [Ms.one, Ms.st, Ms.cs, Ms.nzI, Ms.wk, Ms.nz, wkR, wkV, wkC, sgB_m, stD_mod]
  · simp only [Ms.one, Ms.st, Ms.cs, Ms.nzI, Ms.wk, Ms.nz, wkR, wkV, wkC, sgB_m, stD_mod]
  · simp only [Ms.one, Ms.st, Ms.cs, Ms.nzI, Ms.wk, Ms.nz, wkR, wkV, wkC, sgB_m, stD_mod]
    congr 1
    · by_cases h : t.d.ldV qr qa = 32768
      · rw [h]; rfl
      · rw [beq_false_of_ne h, beq_false_of_ne (by omega)]
    · by_cases h : t.d.ldV qr qa = 0
      · rw [h]; rfl
      · simp only [bne]
        rw [beq_false_of_ne h, beq_false_of_ne (by omega)]
  · simp only [Ms.one, Ms.shift, Ms.st, Ms.cs, Ms.nzI, Ms.wk, Ms.nz, wkR, wkV, wkC, shR, shC, sgB_m, stD_mod, Int.emod_emod, if_true]
  · simp only [Ms.one, Ms.shift, Ms.st, Ms.cs, Ms.nzI, Ms.wk, Ms.nz, wkR, wkV, wkC, shR, shC, stD_mod, sgB_m ((t.d.ldV qr qa * 2) % 65536), Int.emod_emod, sgB_w d0 d1, Int.mul_comm 2, show ¬ (13 : Nat) = 12 by omega, if_false]
theorem tst_eqI (t : Ms) (qr qa : Int) (d0 : 0 ≤ t.d.ldV qr qa) (d1 : t.d.ldV qr qa ≤ 65535) :
    (t.wk 11 0 (t.d.ldV qr qa)).nzI (wkR 11 0 (t.d.ldV qr qa)) = t.one 11 qr qa := by
  simp only [Ms.one, Ms.cs, Ms.nzI, Ms.wk, Ms.nz, wkR, wkV, wkC, sgB_w d0 d1, Int.emod_eq_of_lt d0 (show t.d.ldV qr qa < 65536 by omega)]
/-- Whether an instruction is none that faults. -/
def Ms.doB (t : Ms) (op sm sr dm dr : Nat) (n : Int) : Bool :=
  if op ≤ 13 then t.woB op sm sr dm dr else if op = 14 then tgO t dm dr else if op = 15 then clO t dm dr else if op = 16 then (t.back1 n.toNat).d.has (nAt t.d.r 6) else if op ≤ 22 then true else t.emtB n
/-- What it leaves. -/
def Ms.dos (t : Ms) (op sm sr dm dr : Nat) (n : Int) : Ms :=
  if op ≤ 6 then ((t.op sm sr).op dm dr).two op (t.opV sm sr) ((t.op sm sr).d.plR dm dr) ((t.op sm sr).d.plA dm dr)
  else if op ≤ 13 then (t.op dm dr).one op (t.d.plR dm dr) (t.d.plA dm dr)
  else if op = 14 then (t.op dm dr).rg 7 (t.d.plA dm dr)
  else if op = 15 then (t.op dm dr).call n.toNat (t.d.plA dm dr)
  else if op = 16 then t.back n.toNat
  else if op ≤ 21 then t.branch op n
  else if op = 22 then t
  else t.emt n
def doS (op : Nat) (st : Int) : Int := if op = 22 then 1 else st
/-- The numbers of an instruction that is right. -/
structure InsN (op sm sr dm dr : Nat) (n : Int) : Prop where
  lo : 1 ≤ op
  hi : op ≤ 23
  src : op ≤ 6 → sm ≤ 7 ∧ sr < 8
  dst : op ≤ 15 → dm ≤ 7 ∧ dr < 8
  reg : op = 15 ∨ op = 16 → 0 ≤ n ∧ n ≤ 7
  bra : 17 ≤ op ∧ op ≤ 21 → -1000 ≤ n ∧ n ≤ 1000
/-- The action's value, and what its call answers. -/
def DoV (g B op sm sr dm dr b : Nat) (sx dx n : Int) (y : Mv) (t : Ms) (st : Int) (w : World) : Prop :=
  (∃ fn, actV op b = .func (.func fn) #[] #[.pointer (some ⟨b, 0, none⟩)] ∧ (∀ vs w, (callFunc fn vs).run Tryz.prog w = .ok (.enter fn vs) w) ∧ Calls Tryz.prog fn #[.pointer (some ⟨g, 0, none⟩), .agg #[.int .i64 (op : Int), .int .i64 (sm : Int), .int .i64 (sr : Int), .int .i64 sx, .int .i64 (dm : Int), .int .i64 (dr : Int), .int .i64 dx, .int .i64 n], .pointer (some ⟨b, 0, none⟩)] w (DoE g B y (t.dos op sm sr dm dr n) (doS op st) (t.doB op sm sr dm dr n) w)) ∨
  (∃ fn, actV op b = .func (.func fn) #[] #[] ∧ (∀ vs w, (callFunc fn vs).run Tryz.prog w = .ok (.enter fn vs) w) ∧ Calls Tryz.prog fn #[.pointer (some ⟨g, 0, none⟩), .agg #[.int .i64 (op : Int), .int .i64 (sm : Int), .int .i64 (sr : Int), .int .i64 sx, .int .i64 (dm : Int), .int .i64 (dr : Int), .int .i64 dx, .int .i64 n]] w (DoE g B y (t.dos op sm sr dm dr n) (doS op st) (t.doB op sm sr dm dr n) w))
section
variable {g B gr rc op sm sr dm dr b : Nat} {sx dx n : Int} {y : Mv} {t : Ms} {st : Int} {w : World}
theorem do_st (f : Nat) (h : Pz w g B gr rc y t st t.d.m) (hk : Dk t.d) (hi : InsN op sm sr dm dr n) (h13 : op ≤ 13) (hn : op ≠ 2 ∧ op ≠ 11) (wk : WkIs f op) (hcf : ∀ vs w, (callFunc f vs).run Tryz.prog w = .ok (.enter f vs) w) (hb : Bx w b f 119) :
    Calls Tryz.prog 105 #[.pointer (some ⟨g, 0, none⟩), .agg #[.int .i64 (op : Int), .int .i64 (sm : Int), .int .i64 (sr : Int), .int .i64 sx, .int .i64 (dm : Int), .int .i64 (dr : Int), .int .i64 dx, .int .i64 n], .pointer (some ⟨b, 0, none⟩)] w (DoE g B y (t.dos op sm sr dm dr n) (doS op st) (t.doB op sm sr dm dr n) w) := by
  have d := hi.dst (by omega)
  have VB := sV_b hk op sm sr
  have DB := op_v (dk_sT hk op sm sr) dm dr
  have RB := wkR_w op VB.1 VB.2 DB.1 DB.2
  have q := stored_any f b g B gr rc op sm sr dm dr sx dx n y t st w h hk hi.lo h13 hi.src d.1 d.2 wk hcf hb RB.1 RB.2
  unfold ActIs at q
  have e1 : t.doB op sm sr dm dr n = t.woB op sm sr dm dr := by unfold Ms.doB; rw [if_pos h13]
  have e2 : doS op st = st := by unfold doS; rw [if_neg (by omega)]
  have e3 : (t.wo op sm sr dm dr).st ((t.sT op sm sr).d.plR dm dr) ((t.sT op sm sr).d.plA dm dr) (wkS t op sm sr dm dr) = t.dos op sm sr dm dr n := by
    unfold Ms.dos Ms.wo wkS Ms.woT
    by_cases h6 : op ≤ 6
    · have s0 := op_v hk sm sr
      have d0 := op_v (dk_op hk sm sr) dm dr
      simp only [Ms.sT, Ms.sV, if_pos h6]
      exact two_eqI _ op (t.opV sm sr) _ _ ⟨hi.lo, h6, hn.1⟩ s0.1 s0.2 d0.1 d0.2
    · have d0 := op_v hk dm dr
      simp only [Ms.sT, Ms.sV, if_neg h6, if_pos h13]
      exact one_eqI _ op _ _ ⟨by omega, h13, hn.2⟩ d0.1 d0.2
  rw [e1, e2, ← e3]
  exact q.mono fun e w' ⟨a, c⟩ => ⟨_, a, ⟨fun ho => (c.yes ho).pe (dk_op (dk_sT hk op sm sr) dm dr).ml, c.fm.dst (fun b hb => hb)⟩⟩
theorem do_td (f : Nat) (h : Pz w g B gr rc y t st t.d.m) (hk : Dk t.d) (hi : InsN op sm sr dm dr n) (hn : op = 2 ∨ op = 11) (wk : WkIs f op) (hcf : ∀ vs w, (callFunc f vs).run Tryz.prog w = .ok (.enter f vs) w) (hb : Bx w b f 119) :
    Calls Tryz.prog 107 #[.pointer (some ⟨g, 0, none⟩), .agg #[.int .i64 (op : Int), .int .i64 (sm : Int), .int .i64 (sr : Int), .int .i64 sx, .int .i64 (dm : Int), .int .i64 (dr : Int), .int .i64 dx, .int .i64 n], .pointer (some ⟨b, 0, none⟩)] w (DoE g B y (t.dos op sm sr dm dr n) (doS op st) (t.doB op sm sr dm dr n) w) := by
  have h13 : op ≤ 13 := by omega
  have d := hi.dst (by omega)
  have q := told_any f b g B gr rc op sm sr dm dr sx dx n y t st w h hk hi.lo h13 hi.src d.1 d.2 wk hcf hb
  unfold ActIs at q
  have e1 : t.doB op sm sr dm dr n = t.woB op sm sr dm dr := by unfold Ms.doB; rw [if_pos h13]
  have e2 : doS op st = st := by unfold doS; rw [if_neg (by omega)]
  have e3 : t.wo op sm sr dm dr = t.dos op sm sr dm dr n := by
    unfold Ms.dos Ms.wo wkS Ms.woT
    rcases hn with rfl | rfl
    · have s0 := op_v hk sm sr
      have d0 := op_v (dk_op hk sm sr) dm dr
      exact cmp_eqI _ (t.opV sm sr) _ _ s0.1 s0.2 d0.1 d0.2
    · have d0 := op_v hk dm dr
      exact tst_eqI _ _ _ d0.1 d0.2
  rw [e1, e2, ← e3]
  exact q.mono fun e w' ⟨a, c⟩ => ⟨_, a, ⟨fun ho => (c.yes ho).pe (dk_op (dk_sT hk op sm sr) dm dr).ml, c.fm.dst (fun b hb => hb)⟩⟩
theorem do_br (f : Nat) (q : Ms → Bool) (h : Pz w g B gr rc y t st t.d.m) (hk : Dk t.d) (hi : InsN op sm sr dm dr n) (ho : 17 ≤ op ∧ op ≤ 21) (G : GoesIs f q) (eq : t.goes op = q t) (hcf : ∀ vs w, (callFunc f vs).run Tryz.prog w = .ok (.enter f vs) w) (hb : Bx w b f 93) :
    Calls Tryz.prog 116 #[.pointer (some ⟨g, 0, none⟩), .agg #[.int .i64 (op : Int), .int .i64 (sm : Int), .int .i64 (sr : Int), .int .i64 sx, .int .i64 (dm : Int), .int .i64 (dr : Int), .int .i64 dx, .int .i64 n], .pointer (some ⟨b, 0, none⟩)] w (DoE g B y (t.dos op sm sr dm dr n) (doS op st) (t.doB op sm sr dm dr n) w) := by
  have r := br_goes f b g B gr rc op sm sr dm dr sx dx n y t st _ w q G hcf h hk (hi.bra ho) hb
  have e1 : t.doB op sm sr dm dr n = true := by unfold Ms.doB; rw [if_neg (by omega), if_neg (by omega), if_neg (by omega), if_neg (by omega), if_pos (by omega)]
  have e2 : doS op st = st := by unfold doS; rw [if_neg (by omega)]
  have e3 : t.dos op sm sr dm dr n = if q t = true then t.rg 7 ((nAt t.d.r 7 + 2 * n) % 65536) else t := by
    unfold Ms.dos; rw [if_neg (by omega), if_neg (by omega), if_neg (by omega), if_neg (by omega), if_neg (by omega), if_pos ho.2]; unfold Ms.branch; rw [eq]
  rw [e1, e2, e3]
  exact r.mono fun e w' ⟨a, c, f⟩ => ⟨y, a, ⟨fun _ => c.pe hk.ml, f⟩⟩
end
set_option maxHeartbeats 1000000 in
theorem do_any (g B gr rc op sm sr dm dr b C : Nat) (sx dx n : Int) (y : Mv) (t : Ms) (st : Int) (w : World) (h : Pz w g B gr rc y t st t.d.m) (hk : Dk t.d) (hi : InsN op sm sr dm dr n) (hb : actB C w op b) : DoV g B op sm sr dm dr b sx dx n y t st w := by
  have e : op = 1 ∨ op = 2 ∨ op = 3 ∨ op = 4 ∨ op = 5 ∨ op = 6 ∨ op = 7 ∨ op = 8 ∨ op = 9 ∨ op = 10 ∨ op = 11 ∨ op = 12 ∨ op = 13 ∨ op = 14 ∨ op = 15 ∨ op = 16 ∨ op = 17 ∨ op = 18 ∨ op = 19 ∨ op = 20 ∨ op = 21 ∨ op = 22 ∨ op = 23 := by have := hi.lo; have := hi.hi; omega
  rcases e with rfl | rfl | rfl | rfl | rfl | rfl | rfl | rfl | rfl | rfl | rfl | rfl | rfl | rfl | rfl | rfl | rfl | rfl | rfl | rfl | rfl | rfl | rfl
  · exact .inl ⟨_, rfl, (fun _ _ => by simp [go_sem]), do_st _ h hk hi (by omega) (by omega) wk_1 (fun _ _ => by simp [go_sem]) hb.2⟩
  · exact .inl ⟨_, rfl, (fun _ _ => by simp [go_sem]), do_td _ h hk hi (by omega) wk_2 (fun _ _ => by simp [go_sem]) hb.2⟩
  · exact .inl ⟨_, rfl, (fun _ _ => by simp [go_sem]), do_st _ h hk hi (by omega) (by omega) wk_3 (fun _ _ => by simp [go_sem]) hb.2⟩
  · exact .inl ⟨_, rfl, (fun _ _ => by simp [go_sem]), do_st _ h hk hi (by omega) (by omega) wk_4 (fun _ _ => by simp [go_sem]) hb.2⟩
  · exact .inl ⟨_, rfl, (fun _ _ => by simp [go_sem]), do_st _ h hk hi (by omega) (by omega) wk_5 (fun _ _ => by simp [go_sem]) hb.2⟩
  · exact .inl ⟨_, rfl, (fun _ _ => by simp [go_sem]), do_st _ h hk hi (by omega) (by omega) wk_6 (fun _ _ => by simp [go_sem]) hb.2⟩
  · exact .inl ⟨_, rfl, (fun _ _ => by simp [go_sem]), do_st _ h hk hi (by omega) (by omega) wk_7 (fun _ _ => by simp [go_sem]) hb.2⟩
  · exact .inl ⟨_, rfl, (fun _ _ => by simp [go_sem]), do_st _ h hk hi (by omega) (by omega) wk_8 (fun _ _ => by simp [go_sem]) hb.2⟩
  · exact .inl ⟨_, rfl, (fun _ _ => by simp [go_sem]), do_st _ h hk hi (by omega) (by omega) wk_9 (fun _ _ => by simp [go_sem]) hb.2⟩
  · exact .inl ⟨_, rfl, (fun _ _ => by simp [go_sem]), do_st _ h hk hi (by omega) (by omega) wk_10 (fun _ _ => by simp [go_sem]) hb.2⟩
  · exact .inl ⟨_, rfl, (fun _ _ => by simp [go_sem]), do_td _ h hk hi (by omega) wk_11 (fun _ _ => by simp [go_sem]) hb.2⟩
  · exact .inl ⟨_, rfl, (fun _ _ => by simp [go_sem]), do_st _ h hk hi (by omega) (by omega) wk_12 (fun _ _ => by simp [go_sem]) hb.2⟩
  · exact .inl ⟨_, rfl, (fun _ _ => by simp [go_sem]), do_st _ h hk hi (by omega) (by omega) wk_13 (fun _ _ => by simp [go_sem]) hb.2⟩
  · refine .inr ⟨_, rfl, (fun _ _ => by simp [go_sem]), ?_⟩
    have d := hi.dst (by omega)
    have q := jump_any g B gr rc 14 sm sr dm dr sx dx n y t st w h hk d.1 d.2
    unfold JpIs at q
    exact q.mono fun e w' ⟨a, c⟩ => ⟨y, a, ⟨fun ho => (c.yes ho).pe (dk_op hk dm dr).ml, c.fm⟩⟩
  · refine .inr ⟨_, rfl, (fun _ _ => by simp [go_sem]), ?_⟩
    have d := hi.dst (by omega)
    have r := hi.reg (.inl rfl)
    obtain ⟨k, rfl⟩ := Int.eq_ofNat_of_zero_le r.1
    have q : ClIs g B gr rc 15 sm sr dm dr k sx dx y t st (clO t dm dr) w := by
      cases hc : clO t dm dr
      · exact call_no g B gr rc 15 sm sr dm dr k sx dx y t st w h hk d.1 d.2 hc
      · exact call_yes g B gr rc 15 sm sr dm dr k sx dx y t st w h hk d.1 d.2 (by omega) hc
    unfold ClIs at q
    exact q.mono fun e w' ⟨a, c⟩ => ⟨y, a, ⟨fun ho => (c.yes ho).pe (dk_op hk dm dr).ml, c.fm⟩⟩
  · refine .inr ⟨_, rfl, (fun _ _ => by simp [go_sem]), ?_⟩
    have r := hi.reg (.inr rfl)
    obtain ⟨k, rfl⟩ := Int.eq_ofNat_of_zero_le r.1
    have q := back_anyI g B gr rc 16 sm sr dm dr k sx dx y t st w h hk (by omega)
    unfold CbIs at q
    exact q.mono fun e w' ⟨a, c⟩ => ⟨y, a, ⟨fun ho => (c.yes ho).pe hk.ml, c.fm⟩⟩
  · exact .inl ⟨_, rfl, (fun _ _ => by simp [go_sem]), do_br _ _ h hk hi (by omega) goes_always rfl (fun _ _ => by simp [go_sem]) hb.2⟩
  · exact .inl ⟨_, rfl, (fun _ _ => by simp [go_sem]), do_br _ _ h hk hi (by omega) goes_notZero rfl (fun _ _ => by simp [go_sem]) hb.2⟩
  · exact .inl ⟨_, rfl, (fun _ _ => by simp [go_sem]), do_br _ _ h hk hi (by omega) goes_zero rfl (fun _ _ => by simp [go_sem]) hb.2⟩
  · exact .inl ⟨_, rfl, (fun _ _ => by simp [go_sem]), do_br _ _ h hk hi (by omega) goes_notLess rfl (fun _ _ => by simp [go_sem]) hb.2⟩
  · exact .inl ⟨_, rfl, (fun _ _ => by simp [go_sem]), do_br _ _ h hk hi (by omega) goes_less rfl (fun _ _ => by simp [go_sem]) hb.2⟩
  · refine .inr ⟨_, rfl, (fun _ _ => by simp [go_sem]), ?_⟩
    exact (halt_any g B gr rc 22 sm sr dm dr sx dx n y t st w h hk).mono fun e w' ⟨a, c, f⟩ => ⟨_, a, ⟨fun _ => c.pe hk.ml, f⟩⟩
  · refine .inr ⟨_, rfl, (fun _ _ => by simp [go_sem]), ?_⟩
    exact exchange_any g B gr rc 23 sm sr dm dr sx dx n y t st w h hk
end Go.Proofs.YtjpbjbnialehbaaGreatDoor

namespace Go.Proofs.YtjpbjbnialehbaaGreatDoor
open Go.ChangeShapes Go.WideShapes Go.ChangeAt Go.RowKit
set_option linter.unusedVariables false
/-- The answer's block while it is looked for. -/
structure Rz (w wr : World) (l : List Int) : Prop where
  bel : Below w.heap.size w wr
  row : wr.rowIs w.heap.size 69 8 (c8 l)
theorem Rz.later {w wr w' : World} {l : List Int} (h : Rz w wr l) (hb : Below wr.heap.size wr w') : Rz w w' l := ⟨h.bel.trans (hb.mono h.bel.size), h.row.of_block (hb.block _ h.row.lt)⟩
theorem Rz.set {w wr : World} {l : List Int} (h : Rz w wr l) (k : Nat) (x : Int) (l' : List Int) (he : ∀ j, j < 8 → (if j = k then Value.int .i64 x else c8 l j) = c8 l' j) : Rz w (wr.setCell ⟨w.heap.size, k, none⟩ (.int .i64 x)) l' :=
  ⟨h.bel.setCell (Nat.le_refl _) _, row8_set h.row k x he⟩
theorem Rz.put {w wr : World} {y0 y1 y2 y3 y4 y5 y6 y7 : Int} (h : Rz w wr [y0, y1, y2, y3, y4, y5, y6, y7]) (x0 x1 x2 x3 x4 x5 x6 x7 : Int) : Rz w ((((((((wr.setCell ⟨w.heap.size, 0, none⟩ (.int .i64 x0)).setCell ⟨w.heap.size, 1, none⟩ (.int .i64 x1)).setCell ⟨w.heap.size, 2, none⟩ (.int .i64 x2)).setCell ⟨w.heap.size, 3, none⟩ (.int .i64 x3)).setCell ⟨w.heap.size, 4, none⟩ (.int .i64 x4)).setCell ⟨w.heap.size, 5, none⟩ (.int .i64 x5)).setCell ⟨w.heap.size, 6, none⟩ (.int .i64 x6)).setCell ⟨w.heap.size, 7, none⟩ (.int .i64 x7)) [x0, x1, x2, x3, x4, x5, x6, x7] :=
  ((((((((h.set 0 x0 [x0, y1, y2, y3, y4, y5, y6, y7] (fun j hj => by rcases j with _ | _ | _ | _ | _ | _ | _ | _ | j <;> first | rfl | omega)).set 1 x1 [x0, x1, y2, y3, y4, y5, y6, y7] (fun j hj => by rcases j with _ | _ | _ | _ | _ | _ | _ | _ | j <;> first | rfl | omega)).set 2 x2 [x0, x1, x2, y3, y4, y5, y6, y7] (fun j hj => by rcases j with _ | _ | _ | _ | _ | _ | _ | _ | j <;> first | rfl | omega)).set 3 x3 [x0, x1, x2, x3, y4, y5, y6, y7] (fun j hj => by rcases j with _ | _ | _ | _ | _ | _ | _ | _ | j <;> first | rfl | omega)).set 4 x4 [x0, x1, x2, x3, x4, y5, y6, y7] (fun j hj => by rcases j with _ | _ | _ | _ | _ | _ | _ | _ | j <;> first | rfl | omega)).set 5 x5 [x0, x1, x2, x3, x4, x5, y6, y7] (fun j hj => by rcases j with _ | _ | _ | _ | _ | _ | _ | _ | j <;> first | rfl | omega)).set 6 x6 [x0, x1, x2, x3, x4, x5, x6, y7] (fun j hj => by rcases j with _ | _ | _ | _ | _ | _ | _ | _ | j <;> first | rfl | omega)).set 7 x7 [x0, x1, x2, x3, x4, x5, x6, x7] (fun j hj => by rcases j with _ | _ | _ | _ | _ | _ | _ | _ | j <;> first | rfl | omega))
theorem rz_new (w : World) : Rz w (w.alloc (Obj.cells (cs8 [0, 0, 0, 0, 0, 0, 0, 0]) 69)) [0, 0, 0, 0, 0, 0, 0, 0] := ⟨(Below.refl _ _).alloc (Nat.le_refl _) _, row8 w _ 69⟩
def zO : Od := ⟨0, 0, 0⟩
/-- The first of so many Ops from lo on whose word is m; 0: none. -/
def findOp (m : Int) (lo : Nat) : Nat → Nat
  | 0 => 0
  | c + 1 => if baseAt lo = m then lo else findOp m (lo + 1) c
theorem find_hit (m : Int) : ∀ (c lo k : Nat), lo ≤ k → k < lo + c → (∀ j, lo ≤ j → j < k → baseAt j ≠ m) → baseAt k = m → findOp m lo c = k
  | 0, lo, k, h1, h2, _, _ => by omega
  | c + 1, lo, k, h1, h2, h3, h4 => by
    unfold findOp
    by_cases e : lo = k
    · subst e; rw [if_pos h4]
    · rw [if_neg (h3 lo (Nat.le_refl _) (by omega))]
      exact find_hit m c (lo + 1) k (by omega) (by omega) (fun j a b => h3 j (by omega) b) h4
theorem find_none (m : Int) : ∀ (c lo : Nat), (∀ j, lo ≤ j → j < lo + c → baseAt j ≠ m) → findOp m lo c = 0
  | 0, _, _ => rfl
  | c + 1, lo, h => by
    unfold findOp
    rw [if_neg (h lo (Nat.le_refl _) (by omega))]
    exact find_none m c (lo + 1) (fun j a b => h j (by omega) (by omega))
/-- The instruction of a word, without what it has behind. -/
def dOp (n : Int) : Is :=
  if n = 0 then ⟨22, zO, zO, 0⟩
  else if findOp (n / 4096 * 4096) 1 6 ≠ 0 then ⟨(findOp (n / 4096 * 4096) 1 6 : Nat), opdOf (n / 64), opdOf n, 0⟩
  else if findOp (n / 64 * 64) 7 8 ≠ 0 then ⟨(findOp (n / 64 * 64) 7 8 : Nat), zO, opdOf n, 0⟩
  else if n / 512 * 512 = 2048 then ⟨15, zO, opdOf n, n / 64 % 8⟩
  else if n / 8 * 8 = 128 then ⟨16, zO, zO, n % 8⟩
  else if n / 256 * 256 = 34816 then ⟨23, zO, zO, n % 256⟩
  else if findOp (n / 256 * 256) 17 5 ≠ 0 then ⟨(findOp (n / 256 * 256) 17 5 : Nat), zO, zO, if 127 < n % 256 then n % 256 - 256 else n % 256⟩
  else ⟨0, zO, zO, 0⟩
theorem l4Opd_int (x : Int) (h0 : 0 ≤ x) (h1 : x < 65536) (w : World) : Calls Tryz.prog 119 #[.int .i64 x] w fun e w' => e = .returned (opdOf x).v ∧ Below w.heap.size w w' := by
  obtain ⟨n, rfl⟩ := Int.eq_ofNat_of_zero_le h0
  exact l4Opd_any n (by omega) w
set_option maxHeartbeats 4000000 in
set_option maxRecDepth 100000 in
theorem l4Op_any (n : Nat) (hn : n < 65536) (w : World) : Calls Tryz.prog 86 #[.int .i64 (n : Int)] w fun e w' => e = .returned (dOp (n : Int)).v ∧ Below w.heap.size w w' := by
  have R0 := hide (rz_new w)
  by_cases h0 : n = 0
  · subst h0
    go_enter Tryz.func86, Tryz.ntmps86
    go_wp2
    refine bodyPost_ret (results_cell_row (P := Tryz.prog) rfl _ _ w.heap.size 69 (cs8 [22, 0, 0, 0, 0, 0, 0, 0]) (0, 0) _ rfl (row8_heap (row8 w [22, 0, 0, 0, 0, 0, 0, 0] 69)) Tryz.underlying69 rfl (by kernel_rfl)) rfl ?_
    exact ⟨rfl, (Below.refl _ _).alloc (Nat.le_refl _) _⟩
  have hne : ((n : Int) == 0) = false := beq_eq_false_iff_ne.2 (by omega)
  have hn0 : ¬ (n : Int) = 0 := by omega
  have HN0 := hide hn0
  clear h0 hn0
  have g1 : bits .and .i64 (n : Int) 61440 = (n : Int) / 4096 * 4096 := by rw [and_F000 n hn]; omega
  have g2 : bits .and .i64 (n : Int) 65472 = (n : Int) / 64 * 64 := by rw [and_FFC0 n hn]; omega
  have g3 : bits .and .i64 (n : Int) 65024 = (n : Int) / 512 * 512 := by rw [and_FE00 n hn]; omega
  have g4 : bits .and .i64 (n : Int) 65528 = (n : Int) / 8 * 8 := by rw [and_FFF8 n hn]; omega
  have g5 : bits .and .i64 (n : Int) 65280 = (n : Int) / 256 * 256 := by rw [and_FF00 n hn]; omega
  have g6 := and_7i n hn
  have g7 := and_FFi n hn
  have g8 := sh6_7 n hn
  obtain ⟨m1, hm1⟩ : ∃ m, (n : Int) / 4096 * 4096 = m := ⟨_, rfl⟩
  obtain ⟨m2, hm2⟩ : ∃ m, (n : Int) / 64 * 64 = m := ⟨_, rfl⟩
  obtain ⟨m3, hm3⟩ : ∃ m, (n : Int) / 512 * 512 = m := ⟨_, rfl⟩
  obtain ⟨m4, hm4⟩ : ∃ m, (n : Int) / 8 * 8 = m := ⟨_, rfl⟩
  obtain ⟨m5, hm5⟩ : ∃ m, (n : Int) / 256 * 256 = m := ⟨_, rfl⟩
  rw [hm1] at g1
  rw [hm2] at g2
  rw [hm3] at g3
  rw [hm4] at g4
  rw [hm5] at g5
  have M1 := hide hm1
  have M2 := hide hm2
  have M3 := hide hm3
  have M4 := hide hm4
  have M5 := hide hm5
  clear hm1 hm2 hm3 hm4 hm5
  go_enter Tryz.func86, Tryz.ntmps86
  go_wp2
  have RS := R0
  clear R0
  go_loopw [3] (fun i wr => ∃ k : Nat, 1 ≤ k ∧ k ≤ 7 ∧ i = .int .i64 (k : Int) ∧ Rz w wr [0, 0, 0, 0, 0, 0, 0, 0] ∧ Hid (∀ j, 1 ≤ j → j < k → baseAt j ≠ m1)) (fun i _ => 7 - (intOf i).toNat)
  case atStart => exact ⟨1, by omega, by omega, rfl, unhide RS, fun j _ _ => by omega⟩
  case round =>
    clear RS
    obtain ⟨k, hk1, hk7, rfl, hrz, hall⟩ := hrel
    by_cases hk : k ≤ 6
    · have Z := hide hrz
      clear hrz
      obtain ⟨bk, hbk⟩ : ∃ b, baseAt k = b := ⟨_, rfl⟩
      have HBK := hide hbk
      clear hbk
      go_wp2_with fail
      refine (base_any k (by omega) _).mono ?_
      rintro e w1 ⟨rfl, hb⟩
      rw [unhide HBK]
      have Z1 := hide ((unhide Z).later hb)
      clear Z hb
      by_cases hit : m1 = bk
      · have hq : (m1 == bk) = true := by simp [hit]
        have HF := hide (find_hit m1 6 1 k hk1 (by omega) hall.out ((unhide HBK).trans hit.symm))
        have HD := hide (show (⟨(k : Nat), opdOf ((n : Int) / 64), opdOf (n : Int), 0⟩ : Is) = dOp (n : Int) by unfold dOp; rw [if_neg (unhide HN0), unhide M1, unhide HF, if_pos (by omega)])
        clear hit hall
        go_wp2_with fail
        refine (l4Opd_int ((n : Int) / 64) (by omega) (by omega) _).mono ?_
        rintro e w2 ⟨rfl, hb⟩
        have Z2 := hide ((unhide Z1).later hb)
        clear hb
        go_wp2_with fail
        refine (l4Opd_int ((n : Int)) (by omega) (by omega) _).mono ?_
        rintro e w3 ⟨rfl, hb⟩
        have Z3 := hide ((unhide Z2).later hb)
        clear hb
        have zz := unhide Z3
        have c0 : w3.cell? ⟨w.heap.size, 0, none⟩ = some (.int .i64 0) := zz.row.cell (i := 0) (by omega)
        have f0 := zz.row.frozen 0
        have c1 : w3.cell? ⟨w.heap.size, 1, none⟩ = some (.int .i64 0) := zz.row.cell (i := 1) (by omega)
        have f1 := zz.row.frozen 1
        have c2 : w3.cell? ⟨w.heap.size, 2, none⟩ = some (.int .i64 0) := zz.row.cell (i := 2) (by omega)
        have f2 := zz.row.frozen 2
        have c3 : w3.cell? ⟨w.heap.size, 3, none⟩ = some (.int .i64 0) := zz.row.cell (i := 3) (by omega)
        have f3 := zz.row.frozen 3
        have c4 : w3.cell? ⟨w.heap.size, 4, none⟩ = some (.int .i64 0) := zz.row.cell (i := 4) (by omega)
        have f4 := zz.row.frozen 4
        have c5 : w3.cell? ⟨w.heap.size, 5, none⟩ = some (.int .i64 0) := zz.row.cell (i := 5) (by omega)
        have f5 := zz.row.frozen 5
        have c6 : w3.cell? ⟨w.heap.size, 6, none⟩ = some (.int .i64 0) := zz.row.cell (i := 6) (by omega)
        have f6 := zz.row.frozen 6
        have c7 : w3.cell? ⟨w.heap.size, 7, none⟩ = some (.int .i64 0) := zz.row.cell (i := 7) (by omega)
        have f7 := zz.row.frozen 7
        clear zz
        unfold opdOf Od.v
        simp only
        go_wp2
        refine bodyPost_ret (results_cell_row (P := Tryz.prog) rfl _ _ w.heap.size 69 (cs8 [(k : Int), (n : Int) / 64 / 8 % 8, (n : Int) / 64 % 8, 0, (n : Int) / 8 % 8, (n : Int) % 8, 0, 0]) (0, 0) _ rfl (row8_heap ((unhide Z3).put ((k : Int)) ((n : Int) / 64 / 8 % 8) ((n : Int) / 64 % 8) (0) ((n : Int) / 8 % 8) ((n : Int) % 8) (0) (0)).row) Tryz.underlying69 rfl (by kernel_rfl)) rfl ?_
        exact ⟨by rw [← unhide HD]; rfl, ((unhide Z3).put ((k : Int)) ((n : Int) / 64 / 8 % 8) ((n : Int) / 64 % 8) (0) ((n : Int) / 8 % 8) ((n : Int) % 8) (0) (0)).bel⟩
      · have hq : (m1 == bk) = false := beq_eq_false_iff_ne.2 hit
        have HA := hide (show ∀ j, 1 ≤ j → j < k + 1 → baseAt j ≠ m1 from fun j a b => by
          by_cases e : j = k
          · subst e; rw [unhide HBK]; exact fun e => hit e.symm
          · exact hall.out j a (by omega))
        clear hit hall
        go_wp2
        go_roundw
        case rel => exact ⟨k + 1, by omega, by omega, by go_num, unhide Z1, unhide HA⟩
        case measure => simp [intOf]; omega
    · have F1 := hide (find_none m1 6 1 (fun j a b => hall.out j a (by omega)))
      have RS := hide hrz
      clear hrz hall
      go_wp2
      go_loopw [4] (fun i wr => ∃ k : Nat, 7 ≤ k ∧ k ≤ 15 ∧ i = .int .i64 (k : Int) ∧ Rz w wr [0, 0, 0, 0, 0, 0, 0, 0] ∧ Hid (∀ j, 7 ≤ j → j < k → baseAt j ≠ m2)) (fun i _ => 15 - (intOf i).toNat)
      case atStart => exact ⟨7, by omega, by omega, rfl, unhide RS, fun j _ _ => by omega⟩
      case round =>
        clear RS
        obtain ⟨k, hk1, hk7, rfl, hrz, hall⟩ := hrel
        by_cases hk : k ≤ 14
        · have Z := hide hrz
          clear hrz
          obtain ⟨bk, hbk⟩ : ∃ b, baseAt k = b := ⟨_, rfl⟩
          have HBK := hide hbk
          clear hbk
          go_wp2_with fail
          refine (base_any k (by omega) _).mono ?_
          rintro e w1 ⟨rfl, hb⟩
          rw [unhide HBK]
          have Z1 := hide ((unhide Z).later hb)
          clear Z hb
          by_cases hit : m2 = bk
          · have hq : (m2 == bk) = true := by simp [hit]
            have HF := hide (find_hit m2 8 7 k hk1 (by omega) hall.out ((unhide HBK).trans hit.symm))
            have HD := hide (show (⟨(k : Nat), zO, opdOf (n : Int), 0⟩ : Is) = dOp (n : Int) by unfold dOp; rw [if_neg (unhide HN0), unhide M1, unhide F1, if_neg (by simp), unhide M2, unhide HF, if_pos (by omega)])
            clear hit hall
            go_wp2_with fail
            refine (l4Opd_int ((n : Int)) (by omega) (by omega) _).mono ?_
            rintro e w3 ⟨rfl, hb⟩
            have Z3 := hide ((unhide Z1).later hb)
            clear hb
            have zz := unhide Z3
            have c0 : w3.cell? ⟨w.heap.size, 0, none⟩ = some (.int .i64 0) := zz.row.cell (i := 0) (by omega)
            have f0 := zz.row.frozen 0
            have c1 : w3.cell? ⟨w.heap.size, 1, none⟩ = some (.int .i64 0) := zz.row.cell (i := 1) (by omega)
            have f1 := zz.row.frozen 1
            have c2 : w3.cell? ⟨w.heap.size, 2, none⟩ = some (.int .i64 0) := zz.row.cell (i := 2) (by omega)
            have f2 := zz.row.frozen 2
            have c3 : w3.cell? ⟨w.heap.size, 3, none⟩ = some (.int .i64 0) := zz.row.cell (i := 3) (by omega)
            have f3 := zz.row.frozen 3
            have c4 : w3.cell? ⟨w.heap.size, 4, none⟩ = some (.int .i64 0) := zz.row.cell (i := 4) (by omega)
            have f4 := zz.row.frozen 4
            have c5 : w3.cell? ⟨w.heap.size, 5, none⟩ = some (.int .i64 0) := zz.row.cell (i := 5) (by omega)
            have f5 := zz.row.frozen 5
            have c6 : w3.cell? ⟨w.heap.size, 6, none⟩ = some (.int .i64 0) := zz.row.cell (i := 6) (by omega)
            have f6 := zz.row.frozen 6
            have c7 : w3.cell? ⟨w.heap.size, 7, none⟩ = some (.int .i64 0) := zz.row.cell (i := 7) (by omega)
            have f7 := zz.row.frozen 7
            clear zz
            unfold opdOf Od.v
            simp only
            go_wp2
            refine bodyPost_ret (results_cell_row (P := Tryz.prog) rfl _ _ w.heap.size 69 (cs8 [(k : Int), 0, 0, 0, (n : Int) / 8 % 8, (n : Int) % 8, 0, 0]) (0, 0) _ rfl (row8_heap ((unhide Z3).put ((k : Int)) (0) (0) (0) ((n : Int) / 8 % 8) ((n : Int) % 8) (0) (0)).row) Tryz.underlying69 rfl (by kernel_rfl)) rfl ?_
            exact ⟨by rw [← unhide HD]; rfl, ((unhide Z3).put ((k : Int)) (0) (0) (0) ((n : Int) / 8 % 8) ((n : Int) % 8) (0) (0)).bel⟩
          · have hq : (m2 == bk) = false := beq_eq_false_iff_ne.2 hit
            have HA := hide (show ∀ j, 7 ≤ j → j < k + 1 → baseAt j ≠ m2 from fun j a b => by
              by_cases e : j = k
              · subst e; rw [unhide HBK]; exact fun e => hit e.symm
              · exact hall.out j a (by omega))
            clear hit hall
            go_wp2
            go_roundw
            case rel => exact ⟨k + 1, by omega, by omega, by go_num, unhide Z1, unhide HA⟩
            case measure => simp [intOf]; omega
        · have F7 := hide (find_none m2 8 7 (fun j a b => hall.out j a (by omega)))
          have RS := hide hrz
          clear hrz hall
          by_cases h3 : m3 = 2048
          · have hq : (m3 == 2048) = true := by simp [h3]
            have HD := hide (show (⟨15, zO, opdOf (n : Int), (n : Int) / 64 % 8⟩ : Is) = dOp (n : Int) by unfold dOp; rw [if_neg (unhide HN0), unhide M1, unhide F1, if_neg (by simp), unhide M2, unhide F7, if_neg (by simp), unhide M3, if_pos h3])
            clear h3
            go_wp2_with fail
            refine (l4Opd_int ((n : Int)) (by omega) (by omega) _).mono ?_
            rintro e w3 ⟨rfl, hb⟩
            have Z3 := hide ((unhide RS).later hb)
            clear hb
            have zz := unhide Z3
            have c0 : w3.cell? ⟨w.heap.size, 0, none⟩ = some (.int .i64 0) := zz.row.cell (i := 0) (by omega)
            have f0 := zz.row.frozen 0
            have c1 : w3.cell? ⟨w.heap.size, 1, none⟩ = some (.int .i64 0) := zz.row.cell (i := 1) (by omega)
            have f1 := zz.row.frozen 1
            have c2 : w3.cell? ⟨w.heap.size, 2, none⟩ = some (.int .i64 0) := zz.row.cell (i := 2) (by omega)
            have f2 := zz.row.frozen 2
            have c3 : w3.cell? ⟨w.heap.size, 3, none⟩ = some (.int .i64 0) := zz.row.cell (i := 3) (by omega)
            have f3 := zz.row.frozen 3
            have c4 : w3.cell? ⟨w.heap.size, 4, none⟩ = some (.int .i64 0) := zz.row.cell (i := 4) (by omega)
            have f4 := zz.row.frozen 4
            have c5 : w3.cell? ⟨w.heap.size, 5, none⟩ = some (.int .i64 0) := zz.row.cell (i := 5) (by omega)
            have f5 := zz.row.frozen 5
            have c6 : w3.cell? ⟨w.heap.size, 6, none⟩ = some (.int .i64 0) := zz.row.cell (i := 6) (by omega)
            have f6 := zz.row.frozen 6
            have c7 : w3.cell? ⟨w.heap.size, 7, none⟩ = some (.int .i64 0) := zz.row.cell (i := 7) (by omega)
            have f7 := zz.row.frozen 7
            clear zz
            unfold opdOf Od.v
            simp only
            go_wp2
            refine bodyPost_ret (results_cell_row (P := Tryz.prog) rfl _ _ w.heap.size 69 (cs8 [15, 0, 0, 0, (n : Int) / 8 % 8, (n : Int) % 8, 0, (n : Int) / 64 % 8]) (0, 0) _ rfl (row8_heap ((unhide Z3).put (15) (0) (0) (0) ((n : Int) / 8 % 8) ((n : Int) % 8) (0) ((n : Int) / 64 % 8)).row) Tryz.underlying69 rfl (by kernel_rfl)) rfl ?_
            exact ⟨by rw [← unhide HD]; rfl, ((unhide Z3).put (15) (0) (0) (0) ((n : Int) / 8 % 8) ((n : Int) % 8) (0) ((n : Int) / 64 % 8)).bel⟩
          · have hq3 : (m3 == 2048) = false := beq_eq_false_iff_ne.2 h3
            have H3 := hide h3
            clear h3
            by_cases h4 : m4 = 128
            · have hq : (m4 == 128) = true := by simp [h4]
              have HD := hide (show (⟨16, zO, zO, (n : Int) % 8⟩ : Is) = dOp (n : Int) by unfold dOp; rw [if_neg (unhide HN0), unhide M1, unhide F1, if_neg (by simp), unhide M2, unhide F7, if_neg (by simp), unhide M3, if_neg (unhide H3), unhide M4, if_pos h4])
              clear h4
              have zz := unhide RS
              have c0 : wr.cell? ⟨w.heap.size, 0, none⟩ = some (.int .i64 0) := zz.row.cell (i := 0) (by omega)
              have f0 := zz.row.frozen 0
              have c1 : wr.cell? ⟨w.heap.size, 1, none⟩ = some (.int .i64 0) := zz.row.cell (i := 1) (by omega)
              have f1 := zz.row.frozen 1
              have c2 : wr.cell? ⟨w.heap.size, 2, none⟩ = some (.int .i64 0) := zz.row.cell (i := 2) (by omega)
              have f2 := zz.row.frozen 2
              have c3 : wr.cell? ⟨w.heap.size, 3, none⟩ = some (.int .i64 0) := zz.row.cell (i := 3) (by omega)
              have f3 := zz.row.frozen 3
              have c4 : wr.cell? ⟨w.heap.size, 4, none⟩ = some (.int .i64 0) := zz.row.cell (i := 4) (by omega)
              have f4 := zz.row.frozen 4
              have c5 : wr.cell? ⟨w.heap.size, 5, none⟩ = some (.int .i64 0) := zz.row.cell (i := 5) (by omega)
              have f5 := zz.row.frozen 5
              have c6 : wr.cell? ⟨w.heap.size, 6, none⟩ = some (.int .i64 0) := zz.row.cell (i := 6) (by omega)
              have f6 := zz.row.frozen 6
              have c7 : wr.cell? ⟨w.heap.size, 7, none⟩ = some (.int .i64 0) := zz.row.cell (i := 7) (by omega)
              have f7 := zz.row.frozen 7
              clear zz
              go_wp2
              refine bodyPost_ret (results_cell_row (P := Tryz.prog) rfl _ _ w.heap.size 69 (cs8 [16, 0, 0, 0, 0, 0, 0, (n : Int) % 8]) (0, 0) _ rfl (row8_heap ((unhide RS).put (16) (0) (0) (0) (0) (0) (0) ((n : Int) % 8)).row) Tryz.underlying69 rfl (by kernel_rfl)) rfl ?_
              exact ⟨by rw [← unhide HD]; rfl, ((unhide RS).put (16) (0) (0) (0) (0) (0) (0) ((n : Int) % 8)).bel⟩
            · have hq4 : (m4 == 128) = false := beq_eq_false_iff_ne.2 h4
              have H4 := hide h4
              clear h4
              by_cases h5 : m5 = 34816
              · have hq : (m5 == 34816) = true := by simp [h5]
                have HD := hide (show (⟨23, zO, zO, (n : Int) % 256⟩ : Is) = dOp (n : Int) by unfold dOp; rw [if_neg (unhide HN0), unhide M1, unhide F1, if_neg (by simp), unhide M2, unhide F7, if_neg (by simp), unhide M3, if_neg (unhide H3), unhide M4, if_neg (unhide H4), unhide M5, if_pos h5])
                clear h5
                have zz := unhide RS
                have c0 : wr.cell? ⟨w.heap.size, 0, none⟩ = some (.int .i64 0) := zz.row.cell (i := 0) (by omega)
                have f0 := zz.row.frozen 0
                have c1 : wr.cell? ⟨w.heap.size, 1, none⟩ = some (.int .i64 0) := zz.row.cell (i := 1) (by omega)
                have f1 := zz.row.frozen 1
                have c2 : wr.cell? ⟨w.heap.size, 2, none⟩ = some (.int .i64 0) := zz.row.cell (i := 2) (by omega)
                have f2 := zz.row.frozen 2
                have c3 : wr.cell? ⟨w.heap.size, 3, none⟩ = some (.int .i64 0) := zz.row.cell (i := 3) (by omega)
                have f3 := zz.row.frozen 3
                have c4 : wr.cell? ⟨w.heap.size, 4, none⟩ = some (.int .i64 0) := zz.row.cell (i := 4) (by omega)
                have f4 := zz.row.frozen 4
                have c5 : wr.cell? ⟨w.heap.size, 5, none⟩ = some (.int .i64 0) := zz.row.cell (i := 5) (by omega)
                have f5 := zz.row.frozen 5
                have c6 : wr.cell? ⟨w.heap.size, 6, none⟩ = some (.int .i64 0) := zz.row.cell (i := 6) (by omega)
                have f6 := zz.row.frozen 6
                have c7 : wr.cell? ⟨w.heap.size, 7, none⟩ = some (.int .i64 0) := zz.row.cell (i := 7) (by omega)
                have f7 := zz.row.frozen 7
                clear zz
                go_wp2
                refine bodyPost_ret (results_cell_row (P := Tryz.prog) rfl _ _ w.heap.size 69 (cs8 [23, 0, 0, 0, 0, 0, 0, (n : Int) % 256]) (0, 0) _ rfl (row8_heap ((unhide RS).put (23) (0) (0) (0) (0) (0) (0) ((n : Int) % 256)).row) Tryz.underlying69 rfl (by kernel_rfl)) rfl ?_
                exact ⟨by rw [← unhide HD]; rfl, ((unhide RS).put (23) (0) (0) (0) (0) (0) (0) ((n : Int) % 256)).bel⟩
              · have hq5 : (m5 == 34816) = false := beq_eq_false_iff_ne.2 h5
                have H5 := hide h5
                clear h5
                go_wp2
                go_loopw [5] (fun i wr => ∃ k : Nat, 17 ≤ k ∧ k ≤ 22 ∧ i = .int .i64 (k : Int) ∧ Rz w wr [0, 0, 0, 0, 0, 0, 0, 0] ∧ Hid (∀ j, 17 ≤ j → j < k → baseAt j ≠ m5)) (fun i _ => 22 - (intOf i).toNat)
                case atStart => exact ⟨17, by omega, by omega, rfl, unhide RS, fun j _ _ => by omega⟩
                case round =>
                  clear RS
                  obtain ⟨k, hk1, hk7, rfl, hrz, hall⟩ := hrel
                  by_cases hk : k ≤ 21
                  · have Z := hide hrz
                    clear hrz
                    obtain ⟨bk, hbk⟩ : ∃ b, baseAt k = b := ⟨_, rfl⟩
                    have HBK := hide hbk
                    clear hbk
                    go_wp2_with fail
                    refine (base_any k (by omega) _).mono ?_
                    rintro e w1 ⟨rfl, hb⟩
                    rw [unhide HBK]
                    have Z1 := hide ((unhide Z).later hb)
                    clear Z hb
                    by_cases hit : m5 = bk
                    · have hq : (m5 == bk) = true := by simp [hit]
                      have HF := hide (find_hit m5 5 17 k hk1 (by omega) hall.out ((unhide HBK).trans hit.symm))
                      have hk0 : k ≠ 0 := by omega
                      have HD2 := hide (fun (x : Int) (hx : (if 127 < (n : Int) % 256 then (n : Int) % 256 - 256 else (n : Int) % 256) = x) => show (⟨(k : Nat), zO, zO, x⟩ : Is) = dOp (n : Int) by unfold dOp; rw [if_neg (unhide HN0), unhide M1, unhide F1, if_neg (by simp), unhide M2, unhide F7, if_neg (by simp), unhide M3, if_neg (unhide H3), unhide M4, if_neg (unhide H4), unhide M5, if_neg (unhide H5), unhide HF, if_pos hk0, hx])
                      clear hk0
                      clear hit hall
                      have ZL : ∀ o, Rz w (w1.alloc o) [0, 0, 0, 0, 0, 0, 0, 0] := fun o => (unhide Z1).later ((Below.refl _ _).alloc (Nat.le_refl _) o)
                      have c0 : ∀ o, (w1.alloc o).cell? ⟨w.heap.size, 0, none⟩ = some (.int .i64 0) := fun o => (ZL o).row.cell (i := 0) (by omega)
                      have f0 : ∀ o, (w1.alloc o).frozen? ⟨w.heap.size, 0, none⟩ = false := fun o => (ZL o).row.frozen 0
                      have c1 : ∀ o, (w1.alloc o).cell? ⟨w.heap.size, 1, none⟩ = some (.int .i64 0) := fun o => (ZL o).row.cell (i := 1) (by omega)
                      have f1 : ∀ o, (w1.alloc o).frozen? ⟨w.heap.size, 1, none⟩ = false := fun o => (ZL o).row.frozen 1
                      have c2 : ∀ o, (w1.alloc o).cell? ⟨w.heap.size, 2, none⟩ = some (.int .i64 0) := fun o => (ZL o).row.cell (i := 2) (by omega)
                      have f2 : ∀ o, (w1.alloc o).frozen? ⟨w.heap.size, 2, none⟩ = false := fun o => (ZL o).row.frozen 2
                      have c3 : ∀ o, (w1.alloc o).cell? ⟨w.heap.size, 3, none⟩ = some (.int .i64 0) := fun o => (ZL o).row.cell (i := 3) (by omega)
                      have f3 : ∀ o, (w1.alloc o).frozen? ⟨w.heap.size, 3, none⟩ = false := fun o => (ZL o).row.frozen 3
                      have c4 : ∀ o, (w1.alloc o).cell? ⟨w.heap.size, 4, none⟩ = some (.int .i64 0) := fun o => (ZL o).row.cell (i := 4) (by omega)
                      have f4 : ∀ o, (w1.alloc o).frozen? ⟨w.heap.size, 4, none⟩ = false := fun o => (ZL o).row.frozen 4
                      have c5 : ∀ o, (w1.alloc o).cell? ⟨w.heap.size, 5, none⟩ = some (.int .i64 0) := fun o => (ZL o).row.cell (i := 5) (by omega)
                      have f5 : ∀ o, (w1.alloc o).frozen? ⟨w.heap.size, 5, none⟩ = false := fun o => (ZL o).row.frozen 5
                      have c6 : ∀ o, (w1.alloc o).cell? ⟨w.heap.size, 6, none⟩ = some (.int .i64 0) := fun o => (ZL o).row.cell (i := 6) (by omega)
                      have f6 : ∀ o, (w1.alloc o).frozen? ⟨w.heap.size, 6, none⟩ = false := fun o => (ZL o).row.frozen 6
                      have c7 : ∀ o, (w1.alloc o).cell? ⟨w.heap.size, 7, none⟩ = some (.int .i64 0) := fun o => (ZL o).row.cell (i := 7) (by omega)
                      have f7 : ∀ o, (w1.alloc o).frozen? ⟨w.heap.size, 7, none⟩ = false := fun o => (ZL o).row.frozen 7
                      have ZZ := hide ZL
                      clear ZL
                      by_cases hs : 127 < (n : Int) % 256
                      · have HD := hide (show (⟨(k : Nat), zO, zO, (n : Int) % 256 - 256⟩ : Is) = dOp (n : Int) from unhide HD2 _ (if_pos hs))
                        go_wp2
                        refine bodyPost_ret (results_cell_row (P := Tryz.prog) rfl _ _ w.heap.size 69 (cs8 [(k : Int), 0, 0, 0, 0, 0, 0, (n : Int) % 256 - 256]) (0, 0) _ rfl (row8_heap ((unhide ZZ _).put ((k : Int)) (0) (0) (0) (0) (0) (0) ((n : Int) % 256 - 256)).row) Tryz.underlying69 rfl (by kernel_rfl)) rfl ?_
                        exact ⟨by rw [← unhide HD]; rfl, ((unhide ZZ _).put ((k : Int)) (0) (0) (0) (0) (0) (0) ((n : Int) % 256 - 256)).bel⟩
                      · have HD := hide (show (⟨(k : Nat), zO, zO, (n : Int) % 256⟩ : Is) = dOp (n : Int) from unhide HD2 _ (if_neg hs))
                        go_wp2
                        refine bodyPost_ret (results_cell_row (P := Tryz.prog) rfl _ _ w.heap.size 69 (cs8 [(k : Int), 0, 0, 0, 0, 0, 0, (n : Int) % 256]) (0, 0) _ rfl (row8_heap ((unhide ZZ _).put ((k : Int)) (0) (0) (0) (0) (0) (0) ((n : Int) % 256)).row) Tryz.underlying69 rfl (by kernel_rfl)) rfl ?_
                        exact ⟨by rw [← unhide HD]; rfl, ((unhide ZZ _).put ((k : Int)) (0) (0) (0) (0) (0) (0) ((n : Int) % 256)).bel⟩
                    · have hq : (m5 == bk) = false := beq_eq_false_iff_ne.2 hit
                      have HA := hide (show ∀ j, 17 ≤ j → j < k + 1 → baseAt j ≠ m5 from fun j a b => by
                        by_cases e : j = k
                        · subst e; rw [unhide HBK]; exact fun e => hit e.symm
                        · exact hall.out j a (by omega))
                      clear hit hall
                      go_wp2
                      go_roundw
                      case rel => exact ⟨k + 1, by omega, by omega, by go_num, unhide Z1, unhide HA⟩
                      case measure => simp [intOf]; omega
                  · have F17 := hide (find_none m5 5 17 (fun j a b => hall.out j a (by omega)))
                    have RS := hide hrz
                    clear hrz hall
                    have HD := hide (show (⟨0, zO, zO, 0⟩ : Is) = dOp (n : Int) by unfold dOp; rw [if_neg (unhide HN0), unhide M1, unhide F1, if_neg (by simp), unhide M2, unhide F7, if_neg (by simp), unhide M3, if_neg (unhide H3), unhide M4, if_neg (unhide H4), unhide M5, if_neg (unhide H5), unhide F17, if_neg (by simp)])
                    have zz := unhide RS
                    have c0 : wr.cell? ⟨w.heap.size, 0, none⟩ = some (.int .i64 0) := zz.row.cell (i := 0) (by omega)
                    have f0 := zz.row.frozen 0
                    have c1 : wr.cell? ⟨w.heap.size, 1, none⟩ = some (.int .i64 0) := zz.row.cell (i := 1) (by omega)
                    have f1 := zz.row.frozen 1
                    have c2 : wr.cell? ⟨w.heap.size, 2, none⟩ = some (.int .i64 0) := zz.row.cell (i := 2) (by omega)
                    have f2 := zz.row.frozen 2
                    have c3 : wr.cell? ⟨w.heap.size, 3, none⟩ = some (.int .i64 0) := zz.row.cell (i := 3) (by omega)
                    have f3 := zz.row.frozen 3
                    have c4 : wr.cell? ⟨w.heap.size, 4, none⟩ = some (.int .i64 0) := zz.row.cell (i := 4) (by omega)
                    have f4 := zz.row.frozen 4
                    have c5 : wr.cell? ⟨w.heap.size, 5, none⟩ = some (.int .i64 0) := zz.row.cell (i := 5) (by omega)
                    have f5 := zz.row.frozen 5
                    have c6 : wr.cell? ⟨w.heap.size, 6, none⟩ = some (.int .i64 0) := zz.row.cell (i := 6) (by omega)
                    have f6 := zz.row.frozen 6
                    have c7 : wr.cell? ⟨w.heap.size, 7, none⟩ = some (.int .i64 0) := zz.row.cell (i := 7) (by omega)
                    have f7 := zz.row.frozen 7
                    clear zz
                    go_wp2
                    refine bodyPost_ret (results_cell_row (P := Tryz.prog) rfl _ _ w.heap.size 69 (cs8 [0, 0, 0, 0, 0, 0, 0, 0]) (0, 0) _ rfl (row8_heap ((unhide RS).put (0) (0) (0) (0) (0) (0) (0) (0)).row) Tryz.underlying69 rfl (by kernel_rfl)) rfl ?_
                    exact ⟨by rw [← unhide HD]; rfl, ((unhide RS).put (0) (0) (0) (0) (0) (0) (0) (0)).bel⟩
end Go.Proofs.YtjpbjbnialehbaaGreatDoor

namespace Go.Proofs.YtjpbjbnialehbaaGreatDoor
set_option linter.unusedVariables false
set_option linter.unusedSimpArgs false
def cntL : List Int := [0, 4096, 4096, 4096, 4096, 4096, 4096, 64, 64, 64, 64, 64, 64, 64, 64, 512, 8, 256, 256, 256, 256, 256, 1, 256]
def cntAt (k : Nat) : Int := cntL.getD k 0
/-- The word is one of the k-th Op's. -/
def Hit (n : Int) (k : Nat) : Prop := baseAt k ≤ n ∧ n - baseAt k < cntAt k
/-- The k-th Op's instruction of its fields. -/
def getK (k : Nat) (f : Int) : Is :=
  if k ≤ 6 then ⟨(k : Int), opdOf (f / 64), opdOf f, 0⟩
  else if k ≤ 14 then ⟨(k : Int), zO, opdOf f, 0⟩
  else if k = 15 then ⟨(k : Int), zO, opdOf f, f / 64⟩
  else if 17 ≤ k ∧ k ≤ 21 then ⟨(k : Int), zO, zO, if 127 < f then f - 256 else f⟩
  else ⟨(k : Int), zO, zO, f⟩
theorem getK_br (k : Nat) (h : 17 ≤ k ∧ k ≤ 21) (f : Int) : getK k f = ⟨(k : Int), zO, zO, if 127 < f then f - 256 else f⟩ := by
  unfold getK
  rw [if_neg (show ¬ k ≤ 6 by omega), if_neg (show ¬ k ≤ 14 by omega), if_neg (show ¬ k = 15 by omega), if_pos h]
theorem hit_bd {n : Int} {k : Nat} (hk : k < 24) (h : Hit n k) : 0 ≤ n ∧ n ≤ 65535 ∧ 0 ≤ n - baseAt k ∧ n - baseAt k < 4096 := by
  have key : ∀ i : Fin 24, 0 ≤ baseAt i.val ∧ baseAt i.val + cntAt i.val ≤ 65536 ∧ cntAt i.val ≤ 4096 := by decide +kernel
  have := key ⟨k, hk⟩
  simp only at this
  unfold Hit at h
  omega
theorem dne {m : Int} {lo c : Nat} (h : ∀ j, lo ≤ j → j < lo + c → baseAt j ≠ m) : ¬ findOp m lo c ≠ 0 := by
  rw [find_none m c lo h]; simp
theorem dOp_lo {n : Int} (h0 : ¬ n = 0) (h1 : ∀ j, 1 ≤ j → j < 7 → baseAt j ≠ n / 4096 * 4096) : dOp n = (if findOp (n / 64 * 64) 7 8 ≠ 0 then ⟨(findOp (n / 64 * 64) 7 8 : Nat), zO, opdOf n, 0⟩
  else if n / 512 * 512 = 2048 then ⟨15, zO, opdOf n, n / 64 % 8⟩
  else if n / 8 * 8 = 128 then ⟨16, zO, zO, n % 8⟩
  else if n / 256 * 256 = 34816 then ⟨23, zO, zO, n % 256⟩
  else if findOp (n / 256 * 256) 17 5 ≠ 0 then ⟨(findOp (n / 256 * 256) 17 5 : Nat), zO, zO, if 127 < n % 256 then n % 256 - 256 else n % 256⟩
  else ⟨0, zO, zO, 0⟩) := by
  unfold dOp
  rw [if_neg h0, if_neg (dne (fun j a b => h1 j a (by omega)))]
theorem dOp_lo2 {n : Int} (h0 : ¬ n = 0) (h1 : ∀ j, 1 ≤ j → j < 7 → baseAt j ≠ n / 4096 * 4096) (h2 : ∀ j, 7 ≤ j → j < 15 → baseAt j ≠ n / 64 * 64) : dOp n = (if n / 512 * 512 = 2048 then ⟨15, zO, opdOf n, n / 64 % 8⟩
  else if n / 8 * 8 = 128 then ⟨16, zO, zO, n % 8⟩
  else if n / 256 * 256 = 34816 then ⟨23, zO, zO, n % 256⟩
  else if findOp (n / 256 * 256) 17 5 ≠ 0 then ⟨(findOp (n / 256 * 256) 17 5 : Nat), zO, zO, if 127 < n % 256 then n % 256 - 256 else n % 256⟩
  else ⟨0, zO, zO, 0⟩) := by
  rw [dOp_lo h0 h1, if_neg (dne (fun j a b => h2 j a (by omega)))]
theorem fin_lo (P : Nat → Prop) (h1 : P 1) (h2 : P 2) (h3 : P 3) (h4 : P 4) (h5 : P 5) (h6 : P 6) : ∀ j, 1 ≤ j → j < 7 → P j := by
  intro j a b
  obtain rfl | rfl | rfl | rfl | rfl | rfl : j = 1 ∨ j = 2 ∨ j = 3 ∨ j = 4 ∨ j = 5 ∨ j = 6 := by omega
  all_goals assumption
theorem fin_mid (P : Nat → Prop) (h1 : P 7) (h2 : P 8) (h3 : P 9) (h4 : P 10) (h5 : P 11) (h6 : P 12) (h7 : P 13) (h8 : P 14) : ∀ j, 7 ≤ j → j < 15 → P j := by
  intro j a b
  obtain rfl | rfl | rfl | rfl | rfl | rfl | rfl | rfl : j = 7 ∨ j = 8 ∨ j = 9 ∨ j = 10 ∨ j = 11 ∨ j = 12 ∨ j = 13 ∨ j = 14 := by omega
  all_goals assumption
theorem fin_hi (P : Nat → Prop) (h1 : P 17) (h2 : P 18) (h3 : P 19) (h4 : P 20) (h5 : P 21) : ∀ j, 17 ≤ j → j < 22 → P j := by
  intro j a b
  obtain rfl | rfl | rfl | rfl | rfl : j = 17 ∨ j = 18 ∨ j = 19 ∨ j = 20 ∨ j = 21 := by omega
  all_goals assumption
theorem is_ext {a b : Is} (h1 : a.op = b.op) (h2 : a.s.m = b.s.m) (h3 : a.s.r = b.s.r) (h4 : a.s.x = b.s.x) (h5 : a.d.m = b.d.m) (h6 : a.d.r = b.d.r) (h7 : a.d.x = b.d.x) (h8 : a.n = b.n) : a = b := by
  obtain ⟨o, ⟨a1, a2, a3⟩, ⟨b1, b2, b3⟩, n⟩ := a
  obtain ⟨o', ⟨a1', a2', a3'⟩, ⟨b1', b2', b3'⟩, n'⟩ := b
  simp_all
theorem bs1 : baseAt 1 = 4096 := rfl
theorem ct1 : cntAt 1 = 4096 := rfl
theorem bs2 : baseAt 2 = 8192 := rfl
theorem ct2 : cntAt 2 = 4096 := rfl
theorem bs3 : baseAt 3 = 16384 := rfl
theorem ct3 : cntAt 3 = 4096 := rfl
theorem bs4 : baseAt 4 = 20480 := rfl
theorem ct4 : cntAt 4 = 4096 := rfl
theorem bs5 : baseAt 5 = 24576 := rfl
theorem ct5 : cntAt 5 = 4096 := rfl
theorem bs6 : baseAt 6 = 57344 := rfl
theorem ct6 : cntAt 6 = 4096 := rfl
theorem bs7 : baseAt 7 = 2560 := rfl
theorem ct7 : cntAt 7 = 64 := rfl
theorem bs8 : baseAt 8 = 2688 := rfl
theorem ct8 : cntAt 8 = 64 := rfl
theorem bs9 : baseAt 9 = 2752 := rfl
theorem ct9 : cntAt 9 = 64 := rfl
theorem bs10 : baseAt 10 = 2816 := rfl
theorem ct10 : cntAt 10 = 64 := rfl
theorem bs11 : baseAt 11 = 3008 := rfl
theorem ct11 : cntAt 11 = 64 := rfl
theorem bs12 : baseAt 12 = 3200 := rfl
theorem ct12 : cntAt 12 = 64 := rfl
theorem bs13 : baseAt 13 = 3264 := rfl
theorem ct13 : cntAt 13 = 64 := rfl
theorem bs14 : baseAt 14 = 64 := rfl
theorem ct14 : cntAt 14 = 64 := rfl
theorem bs15 : baseAt 15 = 2048 := rfl
theorem ct15 : cntAt 15 = 512 := rfl
theorem bs16 : baseAt 16 = 128 := rfl
theorem ct16 : cntAt 16 = 8 := rfl
theorem bs17 : baseAt 17 = 256 := rfl
theorem ct17 : cntAt 17 = 256 := rfl
theorem bs18 : baseAt 18 = 512 := rfl
theorem ct18 : cntAt 18 = 256 := rfl
theorem bs19 : baseAt 19 = 768 := rfl
theorem ct19 : cntAt 19 = 256 := rfl
theorem bs20 : baseAt 20 = 1024 := rfl
theorem ct20 : cntAt 20 = 256 := rfl
theorem bs21 : baseAt 21 = 1280 := rfl
theorem ct21 : cntAt 21 = 256 := rfl
theorem bs22 : baseAt 22 = 0 := rfl
theorem ct22 : cntAt 22 = 1 := rfl
theorem bs23 : baseAt 23 = 34816 := rfl
theorem ct23 : cntAt 23 = 256 := rfl
theorem dOp_hit1 {n : Int} (h : Hit n 1) : dOp n = getK 1 (n - baseAt 1) := by
  unfold Hit at h
  rw [bs1, ct1] at h
  rw [bs1]
  have hm : n / 4096 * 4096 = 4096 := by omega
  have hf : findOp 4096 1 6 = 1 := by decide +kernel
  unfold dOp
  rw [if_neg (by omega), hm, hf, if_pos (by decide)]
  unfold getK
  rw [if_pos (by omega)]
  apply is_ext <;> simp only [opdOf, zO] <;> omega
theorem dOp_hit2 {n : Int} (h : Hit n 2) : dOp n = getK 2 (n - baseAt 2) := by
  unfold Hit at h
  rw [bs2, ct2] at h
  rw [bs2]
  have hm : n / 4096 * 4096 = 8192 := by omega
  have hf : findOp 8192 1 6 = 2 := by decide +kernel
  unfold dOp
  rw [if_neg (by omega), hm, hf, if_pos (by decide)]
  unfold getK
  rw [if_pos (by omega)]
  apply is_ext <;> simp only [opdOf, zO] <;> omega
theorem dOp_hit3 {n : Int} (h : Hit n 3) : dOp n = getK 3 (n - baseAt 3) := by
  unfold Hit at h
  rw [bs3, ct3] at h
  rw [bs3]
  have hm : n / 4096 * 4096 = 16384 := by omega
  have hf : findOp 16384 1 6 = 3 := by decide +kernel
  unfold dOp
  rw [if_neg (by omega), hm, hf, if_pos (by decide)]
  unfold getK
  rw [if_pos (by omega)]
  apply is_ext <;> simp only [opdOf, zO] <;> omega
theorem dOp_hit4 {n : Int} (h : Hit n 4) : dOp n = getK 4 (n - baseAt 4) := by
  unfold Hit at h
  rw [bs4, ct4] at h
  rw [bs4]
  have hm : n / 4096 * 4096 = 20480 := by omega
  have hf : findOp 20480 1 6 = 4 := by decide +kernel
  unfold dOp
  rw [if_neg (by omega), hm, hf, if_pos (by decide)]
  unfold getK
  rw [if_pos (by omega)]
  apply is_ext <;> simp only [opdOf, zO] <;> omega
theorem dOp_hit5 {n : Int} (h : Hit n 5) : dOp n = getK 5 (n - baseAt 5) := by
  unfold Hit at h
  rw [bs5, ct5] at h
  rw [bs5]
  have hm : n / 4096 * 4096 = 24576 := by omega
  have hf : findOp 24576 1 6 = 5 := by decide +kernel
  unfold dOp
  rw [if_neg (by omega), hm, hf, if_pos (by decide)]
  unfold getK
  rw [if_pos (by omega)]
  apply is_ext <;> simp only [opdOf, zO] <;> omega
theorem dOp_hit6 {n : Int} (h : Hit n 6) : dOp n = getK 6 (n - baseAt 6) := by
  unfold Hit at h
  rw [bs6, ct6] at h
  rw [bs6]
  have hm : n / 4096 * 4096 = 57344 := by omega
  have hf : findOp 57344 1 6 = 6 := by decide +kernel
  unfold dOp
  rw [if_neg (by omega), hm, hf, if_pos (by decide)]
  unfold getK
  rw [if_pos (by omega)]
  apply is_ext <;> simp only [opdOf, zO] <;> omega
theorem dOp_hit7 {n : Int} (h : Hit n 7) : dOp n = getK 7 (n - baseAt 7) := by
  unfold Hit at h
  rw [bs7, ct7] at h
  rw [bs7]
  have hm : n / 64 * 64 = 2560 := by omega
  have hf : findOp 2560 7 8 = 7 := by decide +kernel
  rw [dOp_lo (by omega) (fin_lo _ (by rw [bs1]; omega) (by rw [bs2]; omega) (by rw [bs3]; omega) (by rw [bs4]; omega) (by rw [bs5]; omega) (by rw [bs6]; omega)), hm, hf, if_pos (by decide)]
  unfold getK
  rw [if_neg (by omega), if_pos (by omega)]
  apply is_ext <;> simp only [opdOf, zO] <;> omega
theorem dOp_hit8 {n : Int} (h : Hit n 8) : dOp n = getK 8 (n - baseAt 8) := by
  unfold Hit at h
  rw [bs8, ct8] at h
  rw [bs8]
  have hm : n / 64 * 64 = 2688 := by omega
  have hf : findOp 2688 7 8 = 8 := by decide +kernel
  rw [dOp_lo (by omega) (fin_lo _ (by rw [bs1]; omega) (by rw [bs2]; omega) (by rw [bs3]; omega) (by rw [bs4]; omega) (by rw [bs5]; omega) (by rw [bs6]; omega)), hm, hf, if_pos (by decide)]
  unfold getK
  rw [if_neg (by omega), if_pos (by omega)]
  apply is_ext <;> simp only [opdOf, zO] <;> omega
theorem dOp_hit9 {n : Int} (h : Hit n 9) : dOp n = getK 9 (n - baseAt 9) := by
  unfold Hit at h
  rw [bs9, ct9] at h
  rw [bs9]
  have hm : n / 64 * 64 = 2752 := by omega
  have hf : findOp 2752 7 8 = 9 := by decide +kernel
  rw [dOp_lo (by omega) (fin_lo _ (by rw [bs1]; omega) (by rw [bs2]; omega) (by rw [bs3]; omega) (by rw [bs4]; omega) (by rw [bs5]; omega) (by rw [bs6]; omega)), hm, hf, if_pos (by decide)]
  unfold getK
  rw [if_neg (by omega), if_pos (by omega)]
  apply is_ext <;> simp only [opdOf, zO] <;> omega
theorem dOp_hit10 {n : Int} (h : Hit n 10) : dOp n = getK 10 (n - baseAt 10) := by
  unfold Hit at h
  rw [bs10, ct10] at h
  rw [bs10]
  have hm : n / 64 * 64 = 2816 := by omega
  have hf : findOp 2816 7 8 = 10 := by decide +kernel
  rw [dOp_lo (by omega) (fin_lo _ (by rw [bs1]; omega) (by rw [bs2]; omega) (by rw [bs3]; omega) (by rw [bs4]; omega) (by rw [bs5]; omega) (by rw [bs6]; omega)), hm, hf, if_pos (by decide)]
  unfold getK
  rw [if_neg (by omega), if_pos (by omega)]
  apply is_ext <;> simp only [opdOf, zO] <;> omega
theorem dOp_hit11 {n : Int} (h : Hit n 11) : dOp n = getK 11 (n - baseAt 11) := by
  unfold Hit at h
  rw [bs11, ct11] at h
  rw [bs11]
  have hm : n / 64 * 64 = 3008 := by omega
  have hf : findOp 3008 7 8 = 11 := by decide +kernel
  rw [dOp_lo (by omega) (fin_lo _ (by rw [bs1]; omega) (by rw [bs2]; omega) (by rw [bs3]; omega) (by rw [bs4]; omega) (by rw [bs5]; omega) (by rw [bs6]; omega)), hm, hf, if_pos (by decide)]
  unfold getK
  rw [if_neg (by omega), if_pos (by omega)]
  apply is_ext <;> simp only [opdOf, zO] <;> omega
theorem dOp_hit12 {n : Int} (h : Hit n 12) : dOp n = getK 12 (n - baseAt 12) := by
  unfold Hit at h
  rw [bs12, ct12] at h
  rw [bs12]
  have hm : n / 64 * 64 = 3200 := by omega
  have hf : findOp 3200 7 8 = 12 := by decide +kernel
  rw [dOp_lo (by omega) (fin_lo _ (by rw [bs1]; omega) (by rw [bs2]; omega) (by rw [bs3]; omega) (by rw [bs4]; omega) (by rw [bs5]; omega) (by rw [bs6]; omega)), hm, hf, if_pos (by decide)]
  unfold getK
  rw [if_neg (by omega), if_pos (by omega)]
  apply is_ext <;> simp only [opdOf, zO] <;> omega
theorem dOp_hit13 {n : Int} (h : Hit n 13) : dOp n = getK 13 (n - baseAt 13) := by
  unfold Hit at h
  rw [bs13, ct13] at h
  rw [bs13]
  have hm : n / 64 * 64 = 3264 := by omega
  have hf : findOp 3264 7 8 = 13 := by decide +kernel
  rw [dOp_lo (by omega) (fin_lo _ (by rw [bs1]; omega) (by rw [bs2]; omega) (by rw [bs3]; omega) (by rw [bs4]; omega) (by rw [bs5]; omega) (by rw [bs6]; omega)), hm, hf, if_pos (by decide)]
  unfold getK
  rw [if_neg (by omega), if_pos (by omega)]
  apply is_ext <;> simp only [opdOf, zO] <;> omega
theorem dOp_hit14 {n : Int} (h : Hit n 14) : dOp n = getK 14 (n - baseAt 14) := by
  unfold Hit at h
  rw [bs14, ct14] at h
  rw [bs14]
  have hm : n / 64 * 64 = 64 := by omega
  have hf : findOp 64 7 8 = 14 := by decide +kernel
  rw [dOp_lo (by omega) (fin_lo _ (by rw [bs1]; omega) (by rw [bs2]; omega) (by rw [bs3]; omega) (by rw [bs4]; omega) (by rw [bs5]; omega) (by rw [bs6]; omega)), hm, hf, if_pos (by decide)]
  unfold getK
  rw [if_neg (by omega), if_pos (by omega)]
  apply is_ext <;> simp only [opdOf, zO] <;> omega
theorem dOp_hit15 {n : Int} (h : Hit n 15) : dOp n = getK 15 (n - baseAt 15) := by
  unfold Hit at h
  rw [bs15, ct15] at h
  rw [bs15]
  rw [dOp_lo2 (by omega) (fin_lo _ (by rw [bs1]; omega) (by rw [bs2]; omega) (by rw [bs3]; omega) (by rw [bs4]; omega) (by rw [bs5]; omega) (by rw [bs6]; omega)) (fin_mid _ (by rw [bs7]; omega) (by rw [bs8]; omega) (by rw [bs9]; omega) (by rw [bs10]; omega) (by rw [bs11]; omega) (by rw [bs12]; omega) (by rw [bs13]; omega) (by rw [bs14]; omega)), if_pos (by omega)]
  unfold getK
  rw [if_neg (by omega), if_neg (by omega), if_pos rfl]
  apply is_ext <;> simp only [opdOf, zO] <;> omega
theorem dOp_hit16 {n : Int} (h : Hit n 16) : dOp n = getK 16 (n - baseAt 16) := by
  unfold Hit at h
  rw [bs16, ct16] at h
  rw [bs16]
  rw [dOp_lo2 (by omega) (fin_lo _ (by rw [bs1]; omega) (by rw [bs2]; omega) (by rw [bs3]; omega) (by rw [bs4]; omega) (by rw [bs5]; omega) (by rw [bs6]; omega)) (fin_mid _ (by rw [bs7]; omega) (by rw [bs8]; omega) (by rw [bs9]; omega) (by rw [bs10]; omega) (by rw [bs11]; omega) (by rw [bs12]; omega) (by rw [bs13]; omega) (by rw [bs14]; omega)), if_neg (by omega), if_pos (by omega)]
  unfold getK
  rw [if_neg (by omega), if_neg (by omega), if_neg (by omega), if_neg (by omega)]
  apply is_ext <;> simp only [opdOf, zO] <;> omega
theorem dOp_hit17 {n : Int} (h : Hit n 17) : dOp n = getK 17 (n - baseAt 17) := by
  unfold Hit at h
  rw [bs17, ct17] at h
  rw [bs17]
  have hm : n / 256 * 256 = 256 := by omega
  have hf : findOp 256 17 5 = 17 := by decide +kernel
  rw [dOp_lo2 (by omega) (fin_lo _ (by rw [bs1]; omega) (by rw [bs2]; omega) (by rw [bs3]; omega) (by rw [bs4]; omega) (by rw [bs5]; omega) (by rw [bs6]; omega)) (fin_mid _ (by rw [bs7]; omega) (by rw [bs8]; omega) (by rw [bs9]; omega) (by rw [bs10]; omega) (by rw [bs11]; omega) (by rw [bs12]; omega) (by rw [bs13]; omega) (by rw [bs14]; omega)), if_neg (by omega), if_neg (by omega), if_neg (by omega), hm, hf, if_pos (by decide)]
  have e : n % 256 = n - 256 := by omega
  rw [getK_br 17 (by omega), e]
theorem dOp_hit18 {n : Int} (h : Hit n 18) : dOp n = getK 18 (n - baseAt 18) := by
  unfold Hit at h
  rw [bs18, ct18] at h
  rw [bs18]
  have hm : n / 256 * 256 = 512 := by omega
  have hf : findOp 512 17 5 = 18 := by decide +kernel
  rw [dOp_lo2 (by omega) (fin_lo _ (by rw [bs1]; omega) (by rw [bs2]; omega) (by rw [bs3]; omega) (by rw [bs4]; omega) (by rw [bs5]; omega) (by rw [bs6]; omega)) (fin_mid _ (by rw [bs7]; omega) (by rw [bs8]; omega) (by rw [bs9]; omega) (by rw [bs10]; omega) (by rw [bs11]; omega) (by rw [bs12]; omega) (by rw [bs13]; omega) (by rw [bs14]; omega)), if_neg (by omega), if_neg (by omega), if_neg (by omega), hm, hf, if_pos (by decide)]
  have e : n % 256 = n - 512 := by omega
  rw [getK_br 18 (by omega), e]
theorem dOp_hit19 {n : Int} (h : Hit n 19) : dOp n = getK 19 (n - baseAt 19) := by
  unfold Hit at h
  rw [bs19, ct19] at h
  rw [bs19]
  have hm : n / 256 * 256 = 768 := by omega
  have hf : findOp 768 17 5 = 19 := by decide +kernel
  rw [dOp_lo2 (by omega) (fin_lo _ (by rw [bs1]; omega) (by rw [bs2]; omega) (by rw [bs3]; omega) (by rw [bs4]; omega) (by rw [bs5]; omega) (by rw [bs6]; omega)) (fin_mid _ (by rw [bs7]; omega) (by rw [bs8]; omega) (by rw [bs9]; omega) (by rw [bs10]; omega) (by rw [bs11]; omega) (by rw [bs12]; omega) (by rw [bs13]; omega) (by rw [bs14]; omega)), if_neg (by omega), if_neg (by omega), if_neg (by omega), hm, hf, if_pos (by decide)]
  have e : n % 256 = n - 768 := by omega
  rw [getK_br 19 (by omega), e]
theorem dOp_hit20 {n : Int} (h : Hit n 20) : dOp n = getK 20 (n - baseAt 20) := by
  unfold Hit at h
  rw [bs20, ct20] at h
  rw [bs20]
  have hm : n / 256 * 256 = 1024 := by omega
  have hf : findOp 1024 17 5 = 20 := by decide +kernel
  rw [dOp_lo2 (by omega) (fin_lo _ (by rw [bs1]; omega) (by rw [bs2]; omega) (by rw [bs3]; omega) (by rw [bs4]; omega) (by rw [bs5]; omega) (by rw [bs6]; omega)) (fin_mid _ (by rw [bs7]; omega) (by rw [bs8]; omega) (by rw [bs9]; omega) (by rw [bs10]; omega) (by rw [bs11]; omega) (by rw [bs12]; omega) (by rw [bs13]; omega) (by rw [bs14]; omega)), if_neg (by omega), if_neg (by omega), if_neg (by omega), hm, hf, if_pos (by decide)]
  have e : n % 256 = n - 1024 := by omega
  rw [getK_br 20 (by omega), e]
theorem dOp_hit21 {n : Int} (h : Hit n 21) : dOp n = getK 21 (n - baseAt 21) := by
  unfold Hit at h
  rw [bs21, ct21] at h
  rw [bs21]
  have hm : n / 256 * 256 = 1280 := by omega
  have hf : findOp 1280 17 5 = 21 := by decide +kernel
  rw [dOp_lo2 (by omega) (fin_lo _ (by rw [bs1]; omega) (by rw [bs2]; omega) (by rw [bs3]; omega) (by rw [bs4]; omega) (by rw [bs5]; omega) (by rw [bs6]; omega)) (fin_mid _ (by rw [bs7]; omega) (by rw [bs8]; omega) (by rw [bs9]; omega) (by rw [bs10]; omega) (by rw [bs11]; omega) (by rw [bs12]; omega) (by rw [bs13]; omega) (by rw [bs14]; omega)), if_neg (by omega), if_neg (by omega), if_neg (by omega), hm, hf, if_pos (by decide)]
  have e : n % 256 = n - 1280 := by omega
  rw [getK_br 21 (by omega), e]
theorem dOp_hit22 {n : Int} (h : Hit n 22) : dOp n = getK 22 (n - baseAt 22) := by
  unfold Hit at h
  rw [bs22, ct22] at h
  rw [bs22]
  obtain rfl : n = 0 := by omega
  rfl
theorem dOp_hit23 {n : Int} (h : Hit n 23) : dOp n = getK 23 (n - baseAt 23) := by
  unfold Hit at h
  rw [bs23, ct23] at h
  rw [bs23]
  rw [dOp_lo2 (by omega) (fin_lo _ (by rw [bs1]; omega) (by rw [bs2]; omega) (by rw [bs3]; omega) (by rw [bs4]; omega) (by rw [bs5]; omega) (by rw [bs6]; omega)) (fin_mid _ (by rw [bs7]; omega) (by rw [bs8]; omega) (by rw [bs9]; omega) (by rw [bs10]; omega) (by rw [bs11]; omega) (by rw [bs12]; omega) (by rw [bs13]; omega) (by rw [bs14]; omega)), if_neg (by omega), if_neg (by omega), if_pos (by omega)]
  unfold getK
  rw [if_neg (by omega), if_neg (by omega), if_neg (by omega), if_neg (by omega)]
  apply is_ext <;> simp only [opdOf, zO] <;> omega
theorem dOp_hit {n : Int} {k : Nat} (h1 : 1 ≤ k) (h2 : k ≤ 23) (h : Hit n k) : dOp n = getK k (n - baseAt k) := by
  obtain rfl | rfl | rfl | rfl | rfl | rfl | rfl | rfl | rfl | rfl | rfl | rfl | rfl | rfl | rfl | rfl | rfl | rfl | rfl | rfl | rfl | rfl | rfl : k = 1 ∨ k = 2 ∨ k = 3 ∨ k = 4 ∨ k = 5 ∨ k = 6 ∨ k = 7 ∨ k = 8 ∨ k = 9 ∨ k = 10 ∨ k = 11 ∨ k = 12 ∨ k = 13 ∨ k = 14 ∨ k = 15 ∨ k = 16 ∨ k = 17 ∨ k = 18 ∨ k = 19 ∨ k = 20 ∨ k = 21 ∨ k = 22 ∨ k = 23 := by omega
  · exact dOp_hit1 h
  · exact dOp_hit2 h
  · exact dOp_hit3 h
  · exact dOp_hit4 h
  · exact dOp_hit5 h
  · exact dOp_hit6 h
  · exact dOp_hit7 h
  · exact dOp_hit8 h
  · exact dOp_hit9 h
  · exact dOp_hit10 h
  · exact dOp_hit11 h
  · exact dOp_hit12 h
  · exact dOp_hit13 h
  · exact dOp_hit14 h
  · exact dOp_hit15 h
  · exact dOp_hit16 h
  · exact dOp_hit17 h
  · exact dOp_hit18 h
  · exact dOp_hit19 h
  · exact dOp_hit20 h
  · exact dOp_hit21 h
  · exact dOp_hit22 h
  · exact dOp_hit23 h
theorem dOp_miss {n : Int} (h0 : 0 ≤ n) (h1 : n ≤ 65535) (hm : ∀ k, 1 ≤ k → k ≤ 23 → ¬ Hit n k) : dOp n = ⟨0, zO, zO, 0⟩ := by
  have hh : ∀ k, 1 ≤ k → k ≤ 23 → ¬ (baseAt k ≤ n ∧ n - baseAt k < cntAt k) := hm
  have z : ¬ n = 0 := fun e => hm 22 (by omega) (by omega) (by unfold Hit; rw [bs22, ct22]; omega)
  have a15 := hh 15 (by omega) (by omega)
  have a16 := hh 16 (by omega) (by omega)
  have a23 := hh 23 (by omega) (by omega)
  rw [bs15, ct15] at a15
  rw [bs16, ct16] at a16
  rw [bs23, ct23] at a23
  rw [dOp_lo2 z (fin_lo _ (by rw [bs1]; have := hm 1 (by omega) (by omega); unfold Hit at this; rw [bs1, ct1] at this; omega) (by rw [bs2]; have := hm 2 (by omega) (by omega); unfold Hit at this; rw [bs2, ct2] at this; omega) (by rw [bs3]; have := hm 3 (by omega) (by omega); unfold Hit at this; rw [bs3, ct3] at this; omega) (by rw [bs4]; have := hm 4 (by omega) (by omega); unfold Hit at this; rw [bs4, ct4] at this; omega) (by rw [bs5]; have := hm 5 (by omega) (by omega); unfold Hit at this; rw [bs5, ct5] at this; omega) (by rw [bs6]; have := hm 6 (by omega) (by omega); unfold Hit at this; rw [bs6, ct6] at this; omega)) (fin_mid _ (by rw [bs7]; have := hm 7 (by omega) (by omega); unfold Hit at this; rw [bs7, ct7] at this; omega) (by rw [bs8]; have := hm 8 (by omega) (by omega); unfold Hit at this; rw [bs8, ct8] at this; omega) (by rw [bs9]; have := hm 9 (by omega) (by omega); unfold Hit at this; rw [bs9, ct9] at this; omega) (by rw [bs10]; have := hm 10 (by omega) (by omega); unfold Hit at this; rw [bs10, ct10] at this; omega) (by rw [bs11]; have := hm 11 (by omega) (by omega); unfold Hit at this; rw [bs11, ct11] at this; omega) (by rw [bs12]; have := hm 12 (by omega) (by omega); unfold Hit at this; rw [bs12, ct12] at this; omega) (by rw [bs13]; have := hm 13 (by omega) (by omega); unfold Hit at this; rw [bs13, ct13] at this; omega) (by rw [bs14]; have := hm 14 (by omega) (by omega); unfold Hit at this; rw [bs14, ct14] at this; omega)), if_neg (by omega), if_neg (by omega), if_neg (by omega), if_neg (dne (fun j a b => fin_hi (fun j => baseAt j ≠ n / 256 * 256) (by rw [bs17]; have := hm 17 (by omega) (by omega); unfold Hit at this; rw [bs17, ct17] at this; omega) (by rw [bs18]; have := hm 18 (by omega) (by omega); unfold Hit at this; rw [bs18, ct18] at this; omega) (by rw [bs19]; have := hm 19 (by omega) (by omega); unfold Hit at this; rw [bs19, ct19] at this; omega) (by rw [bs20]; have := hm 20 (by omega) (by omega); unfold Hit at this; rw [bs20, ct20] at this; omega) (by rw [bs21]; have := hm 21 (by omega) (by omega); unfold Hit at this; rw [bs21, ct21] at this; omega) j a (by omega)))]
/-- What the program finds of a word, and whether it is any. -/
def dI (n : Int) : Is := if 0 ≤ n ∧ n ≤ 65535 then dOp n else ⟨0, zO, zO, 0⟩
theorem getK_op (k : Nat) (f : Int) : (getK k f).op = (k : Int) := by
  unfold getK
  repeat' split
  all_goals rfl
theorem dI_hit {n : Int} {k : Nat} (h1 : 1 ≤ k) (h2 : k ≤ 23) (h : Hit n k) : dI n = getK k (n - baseAt k) := by
  have hb := hit_bd (by omega) h
  unfold dI
  rw [if_pos ⟨hb.1, hb.2.1⟩, dOp_hit h1 h2 h]
theorem dI_miss {n : Int} (hm : ∀ k, 1 ≤ k → k ≤ 23 → ¬ Hit n k) : dI n = ⟨0, zO, zO, 0⟩ := by
  unfold dI
  split
  · rename_i h
    exact dOp_miss h.1 h.2 hm
  · rfl
end Go.Proofs.YtjpbjbnialehbaaGreatDoor

namespace Go.Proofs.YtjpbjbnialehbaaGreatDoor
open Go.ChangeShapes Go.WideShapes Go.ChangeAt Go.RowKit
set_option linter.unusedVariables false
set_option linter.unusedSimpArgs false
def oneX (b : Bool) : Nat := if b = true then 1 else 0
def Is.need (x : Is) : Nat := oneX x.s.hasX + oneX x.d.hasX
/-- The instruction with its words, from the p-th on. -/
def Is.fill (x : Is) (ns : List Int) (p : Nat) : Is :=
  ⟨x.op, ⟨x.s.m, x.s.r, if x.s.hasX = true then nAt ns p else x.s.x⟩, ⟨x.d.m, x.d.r, if x.d.hasX = true then nAt ns (p + oneX x.s.hasX) else x.d.x⟩, x.n⟩
def decIn (ns : List Int) (i : Int) : Bool := inB i 0 ((ns.length : Int) - 1) && inB (nAt ns i.toNat) 0 65535
def decX (ns : List Int) (i : Int) : Is := (dOp (nAt ns i.toNat)).fill ns (i.toNat + 1)
def decOk (ns : List Int) (i : Int) : Bool := decIn ns i && (decide (i.toNat + 1 + (dOp (nAt ns i.toNat)).need ≤ ns.length) && (decX ns i).ok)
def isZ : Is := ⟨0, zO, zO, 0⟩
def decIs (ns : List Int) (i : Int) : Is := if decOk ns i = true then decX ns i else isZ
def decN (ns : List Int) (i : Int) : Int := if decOk ns i = true then 1 + ((dOp (nAt ns i.toNat)).need : Int) else 0
def decV (ns : List Int) (i : Int) : Value := .tuple #[(decIs ns i).v, .int .i64 (decN ns i), .bool (decOk ns i)]
def noV : Value := .tuple #[isZ.v, .int .i64 0, .bool false]
theorem decV_no {ns : List Int} {i : Int} (h : decOk ns i = false) : noV = decV ns i := by
  unfold decV noV decIs decN
  rw [h]
  rfl
theorem decV_yes {ns : List Int} {i : Int} (h : decOk ns i = true) : Value.tuple #[(decX ns i).v, .int .i64 (1 + ((dOp (nAt ns i.toNat)).need : Int)), .bool true] = decV ns i := by
  unfold decV decIs decN
  rw [h]
  rfl
theorem decOk_out {ns : List Int} {i : Int} (h : decIn ns i = false) : decOk ns i = false := by
  unfold decOk
  rw [h]
  rfl
theorem decOk_in {ns : List Int} {i : Int} (h : decIn ns i = true) : decOk ns i = (decide (i.toNat + 1 + (dOp (nAt ns i.toNat)).need ≤ ns.length) && (decX ns i).ok) := by
  unfold decOk
  rw [h]
  rfl
/-- What dOp finds: its operands have no word yet, and are nothing where the Op has none. -/
theorem dOp_form (n : Int) (h0 : 0 ≤ n) (h1 : n ≤ 65535) : ∃ op sm sr dm dr x : Int, dOp n = ⟨op, ⟨sm, sr, 0⟩, ⟨dm, dr, 0⟩, x⟩ ∧ 0 ≤ op ∧ op ≤ 23 ∧ (6 < op → Od.hasX ⟨sm, sr, 0⟩ = false) ∧ (15 < op → Od.hasX ⟨dm, dr, 0⟩ = false) := by
  by_cases hm : ∀ k, 1 ≤ k → k ≤ 23 → ¬ Hit n k
  · exact ⟨0, 0, 0, 0, 0, 0, dOp_miss h0 h1 hm, by omega, by omega, fun _ => rfl, fun _ => rfl⟩
  · simp only [Classical.not_forall, Classical.not_not] at hm
    obtain ⟨k, hk1, hk2, hh⟩ := hm
    rw [dOp_hit hk1 hk2 hh]
    unfold getK
    split
    · exact ⟨_, _, _, _, _, _, rfl, by omega, by omega, fun _ => by omega, fun _ => by omega⟩
    split
    · exact ⟨_, _, _, _, _, _, rfl, by omega, by omega, fun _ => rfl, fun _ => by omega⟩
    split
    · exact ⟨_, _, _, _, _, _, rfl, by omega, by omega, fun _ => rfl, fun _ => by omega⟩
    split
    · exact ⟨_, _, _, _, _, _, rfl, by omega, by omega, fun _ => rfl, fun _ => rfl⟩
    · exact ⟨_, _, _, _, _, _, rfl, by omega, by omega, fun _ => rfl, fun _ => rfl⟩
/-- While Decode goes on: its answer's block, and a block that holds an instruction. -/
structure Dz (w wr : World) (bx : Nat) (l : List Int) : Prop where
  rz : Rz w wr [0, 0, 0, 0, 0, 0, 0, 0]
  row : wr.rowIs bx 69 8 (c8 l)
  ne : w.heap.size < bx
theorem Dz.later {w wr w' : World} {bx : Nat} {l : List Int} (h : Dz w wr bx l) (hb : Below wr.heap.size wr w') : Dz w w' bx l := ⟨h.rz.later hb, h.row.of_block (hb.block _ h.row.lt), h.ne⟩
theorem Dz.set {w wr : World} {bx : Nat} {l : List Int} (h : Dz w wr bx l) (k : Nat) (x : Int) (l' : List Int) (he : ∀ j, j < 8 → (if j = k then Value.int .i64 x else c8 l j) = c8 l' j) : Dz w (wr.setCell ⟨bx, k, none⟩ (.int .i64 x)) bx l' :=
  ⟨⟨h.rz.bel.setCell (Nat.le_of_lt h.ne) _, h.rz.row.of_block (Below.heap_setCell _ _ _ _ (Nat.ne_of_lt h.ne))⟩, row8_set h.row k x he, h.ne⟩
theorem dz_new {w wr : World} (h : Rz w wr [0, 0, 0, 0, 0, 0, 0, 0]) (l : List Int) : Dz w (wr.alloc (Obj.cells (cs8 l) 69)) wr.heap.size l :=
  ⟨h.later ((Below.refl _ _).alloc (Nat.le_refl _) _), row8 wr l 69, h.row.lt⟩
end Go.Proofs.YtjpbjbnialehbaaGreatDoor

namespace Go.Proofs.YtjpbjbnialehbaaGreatDoor
open Go.ChangeShapes Go.WideShapes Go.ChangeAt Go.RowKit
set_option linter.unusedVariables false
set_option maxRecDepth 8000
set_option linter.unusedSimpArgs false
theorem results_row2Q {P : Program} {fn : Func} {p u : Tmp} {ty : TypeId} (h : fn.results = #[.cell p ty, .tmp u]) (tmps : Array Value) (w : World) (g : Nat) (t : TypeId) (cs : Array Value) (fr : Nat × Nat) (d : TypeDesc)
    (hp : tmps.getD p undef = .pointer (some ⟨g, 0, none⟩)) (hg : w.heap[g]? = some (.cells cs t fr))
    (hu : P.underlying ty = some d) (hd : (match d with | .struct _ | .array _ _ => true | _ => false) = true) (hi : (P.info? ty).map (·.size) = some cs.size) :
    (results fn tmps).run P w = .ok (.tuple #[.agg cs, tmps.getD u undef]) w := by
  have hp' : tmps[p]?.getD undef = .pointer (some ⟨g, 0, none⟩) := by simpa using hp
  simp [results, h, hp', asAddr, run_loadVar_row w g t ty cs fr d hg hu hd hi]
theorem results_row3 {P : Program} {fn : Func} {p u v : Tmp} {ty : TypeId} (h : fn.results = #[.cell p ty, .tmp u, .tmp v]) (tmps : Array Value) (w : World) (g : Nat) (t : TypeId) (cs : Array Value) (fr : Nat × Nat) (d : TypeDesc)
    (hp : tmps.getD p undef = .pointer (some ⟨g, 0, none⟩)) (hg : w.heap[g]? = some (.cells cs t fr))
    (hu : P.underlying ty = some d) (hd : (match d with | .struct _ | .array _ _ => true | _ => false) = true) (hi : (P.info? ty).map (·.size) = some cs.size) :
    (results fn tmps).run P w = .ok (.tuple #[.agg cs, tmps.getD u undef, tmps.getD v undef]) w := by
  have hp' : tmps[p]?.getD undef = .pointer (some ⟨g, 0, none⟩) := by simpa using hp
  simp [results, h, hp', asAddr, run_loadVar_row w g t ty cs fr d hg hu hd hi]
theorem i64_and7 (n : Int) : bits .and .i64 n 7 = n % 8 := by
  have h127 : (BitVec.ofInt 64 7).toNat = 2 ^ 3 - 1 := by decide
  have key : (BitVec.ofInt 64 n &&& BitVec.ofInt 64 7).toNat = (n % ((2 ^ 64 : Nat) : Int)).toNat % 2 ^ 3 := by
    rw [BitVec.toNat_and, BitVec.toNat_ofInt, h127, Nat.and_two_pow_sub_one_eq_mod]
  show IntKind.i64.wrap ((BitVec.ofInt 64 n &&& BitVec.ofInt 64 7).toNat : Nat) = n % 8
  rw [key, IntKind.wrap_i64]
  omega
set_option maxHeartbeats 1000000 in
theorem operandI_any (f : Int) (w : World) : Calls Tryz.prog 147 #[.int .i64 f] w fun e w' => e = .returned (opdOf f).v ∧ Below w.heap.size w w' := by
  have h1 := i64_and7 f
  have h2 := i64_and7 (f / 8)
  have HG : ∀ o, (w.alloc o).heap[w.heap.size]? = some o := fun o => Array.getElem?_push_size
  have HG' := hide HG
  clear HG
  unfold opdOf Od.v
  simp only
  go_enter Tryz.func147, Tryz.ntmps147
  go_wp2
  refine bodyPost_ret (results_cell_row (P := Tryz.prog) rfl _ _ w.heap.size 67 #[.int .i64 (f / 8 % 8), .int .i64 (f % 8), .int .i64 0] (0, 0) _ rfl (unhide HG' _) Tryz.underlying67 rfl (by kernel_rfl)) rfl ?_
  exact ⟨rfl, (Below.refl _ _).alloc (Nat.le_refl _) _⟩
set_option maxHeartbeats 1000000 in
theorem getNumber_any (f : Int) (w : World) : Calls Tryz.prog 134 #[.int .i64 f] w fun e w' => e = .returned (Is.v ⟨0, zO, zO, f⟩) ∧ Below w.heap.size w w' := by
  have HG : ∀ o, (w.alloc o).heap[w.heap.size]? = some o := fun o => Array.getElem?_push_size
  have HG' := hide HG
  clear HG
  unfold Is.v zO
  simp only
  go_enter Tryz.func134, Tryz.ntmps134
  go_wp2
  refine bodyPost_ret (results_cell_row (P := Tryz.prog) rfl _ _ w.heap.size 69 #[.int .i64 0, .int .i64 0, .int .i64 0, .int .i64 0, .int .i64 0, .int .i64 0, .int .i64 0, .int .i64 f] (0, 0) _ rfl (unhide HG' _) Tryz.underlying69 rfl (by kernel_rfl)) rfl ?_
  exact ⟨rfl, (Below.refl _ _).alloc (Nat.le_refl _) _⟩
set_option maxHeartbeats 1000000 in
theorem getBranch_any (f : Int) (h : 0 ≤ f ∧ f ≤ 255) (w : World) : Calls Tryz.prog 136 #[.int .i64 f] w fun e w' => e = .returned (Is.v ⟨0, zO, zO, if 127 < f then f - 256 else f⟩) ∧ Below w.heap.size w w' := by
  have HG : ∀ o, (w.alloc o).heap[w.heap.size]? = some o := fun o => Array.getElem?_push_size
  have HG' := hide HG
  clear HG
  have h1 : IntKind.i8.wrap f = (if 127 < f then f - 256 else f) := by
    have e : IntKind.i8.wrap f = if f % 256 ≥ 128 then f % 256 - 256 else f % 256 := by simp [IntKind.wrap, IntKind.bits, IntKind.signed]
    rw [e]
    split <;> split <;> omega
  have HB := hide (show -128 ≤ (if 127 < f then f - 256 else f) ∧ (if 127 < f then f - 256 else f) ≤ 127 by split <;> omega)
  generalize (if 127 < f then f - 256 else f) = g at h1 HB ⊢
  have hb := unhide HB
  unfold Is.v zO
  simp only
  go_enter Tryz.func136, Tryz.ntmps136
  go_wp2
  refine bodyPost_ret (results_cell_row (P := Tryz.prog) rfl _ _ w.heap.size 69 #[.int .i64 0, .int .i64 0, .int .i64 0, .int .i64 0, .int .i64 0, .int .i64 0, .int .i64 0, .int .i64 g] (0, 0) _ rfl (unhide HG' _) Tryz.underlying69 rfl (by kernel_rfl)) rfl ?_
  exact ⟨rfl, (Below.refl _ _).alloc (Nat.le_refl _) _⟩
end Go.Proofs.YtjpbjbnialehbaaGreatDoor

namespace Go.Proofs.YtjpbjbnialehbaaGreatDoor
open Go.ChangeShapes Go.WideShapes Go.ChangeAt Go.RowKit
set_option linter.unusedVariables false
set_option maxRecDepth 8000
set_option linter.unusedSimpArgs false
set_option maxHeartbeats 1000000 in
theorem getTwo_any (f : Int) (w : World) : Calls Tryz.prog 128 #[.int .i64 f] w fun e w' => e = .returned (Is.v ⟨0, opdOf (f / 64), opdOf f, 0⟩) ∧ Below w.heap.size w w' := by
  have Z0 := hide (rz_new w)
  unfold Is.v
  simp only
  go_enter Tryz.func128, Tryz.ntmps128
  go_wp2_with fail
  refine (operandI_any (f / 64) _).mono ?_
  rintro e w1 ⟨rfl, hb⟩
  have Z1 := hide ((unhide Z0).later hb)
  clear hb Z0
  unfold opdOf Od.v
  simp only
  go_wp2_with fail
  refine (operandI_any (f) _).mono ?_
  rintro e w2 ⟨rfl, hb⟩
  have Z2 := hide ((unhide Z1).later hb)
  clear hb Z1
  unfold opdOf Od.v
  simp only
  have zz := unhide Z2
  have c0 : w2.cell? ⟨w.heap.size, 0, none⟩ = some (.int .i64 0) := zz.row.cell (i := 0) (by omega)
  have f0 := zz.row.frozen 0
  have c1 : w2.cell? ⟨w.heap.size, 1, none⟩ = some (.int .i64 0) := zz.row.cell (i := 1) (by omega)
  have f1 := zz.row.frozen 1
  have c2 : w2.cell? ⟨w.heap.size, 2, none⟩ = some (.int .i64 0) := zz.row.cell (i := 2) (by omega)
  have f2 := zz.row.frozen 2
  have c3 : w2.cell? ⟨w.heap.size, 3, none⟩ = some (.int .i64 0) := zz.row.cell (i := 3) (by omega)
  have f3 := zz.row.frozen 3
  have c4 : w2.cell? ⟨w.heap.size, 4, none⟩ = some (.int .i64 0) := zz.row.cell (i := 4) (by omega)
  have f4 := zz.row.frozen 4
  have c5 : w2.cell? ⟨w.heap.size, 5, none⟩ = some (.int .i64 0) := zz.row.cell (i := 5) (by omega)
  have f5 := zz.row.frozen 5
  have c6 : w2.cell? ⟨w.heap.size, 6, none⟩ = some (.int .i64 0) := zz.row.cell (i := 6) (by omega)
  have f6 := zz.row.frozen 6
  have c7 : w2.cell? ⟨w.heap.size, 7, none⟩ = some (.int .i64 0) := zz.row.cell (i := 7) (by omega)
  have f7 := zz.row.frozen 7
  clear zz
  go_wp2
  refine bodyPost_ret (results_cell_row (P := Tryz.prog) rfl _ _ w.heap.size 69 (cs8 [0, f / 64 / 8 % 8, f / 64 % 8, 0, f / 8 % 8, f % 8, 0, 0]) (0, 0) _ rfl (row8_heap ((unhide Z2).put (0) (f / 64 / 8 % 8) (f / 64 % 8) (0) (f / 8 % 8) (f % 8) (0) (0)).row) Tryz.underlying69 rfl (by kernel_rfl)) rfl ?_
  exact ⟨rfl, ((unhide Z2).put (0) (f / 64 / 8 % 8) (f / 64 % 8) (0) (f / 8 % 8) (f % 8) (0) (0)).bel⟩
set_option maxHeartbeats 1000000 in
theorem getOperand_any (f : Int) (w : World) : Calls Tryz.prog 130 #[.int .i64 f] w fun e w' => e = .returned (Is.v ⟨0, zO, opdOf f, 0⟩) ∧ Below w.heap.size w w' := by
  have Z0 := hide (rz_new w)
  unfold Is.v zO
  simp only
  go_enter Tryz.func130, Tryz.ntmps130
  go_wp2_with fail
  refine (operandI_any (f) _).mono ?_
  rintro e w1 ⟨rfl, hb⟩
  have Z1 := hide ((unhide Z0).later hb)
  clear hb Z0
  unfold opdOf Od.v
  simp only
  have zz := unhide Z1
  have c0 : w1.cell? ⟨w.heap.size, 0, none⟩ = some (.int .i64 0) := zz.row.cell (i := 0) (by omega)
  have f0 := zz.row.frozen 0
  have c1 : w1.cell? ⟨w.heap.size, 1, none⟩ = some (.int .i64 0) := zz.row.cell (i := 1) (by omega)
  have f1 := zz.row.frozen 1
  have c2 : w1.cell? ⟨w.heap.size, 2, none⟩ = some (.int .i64 0) := zz.row.cell (i := 2) (by omega)
  have f2 := zz.row.frozen 2
  have c3 : w1.cell? ⟨w.heap.size, 3, none⟩ = some (.int .i64 0) := zz.row.cell (i := 3) (by omega)
  have f3 := zz.row.frozen 3
  have c4 : w1.cell? ⟨w.heap.size, 4, none⟩ = some (.int .i64 0) := zz.row.cell (i := 4) (by omega)
  have f4 := zz.row.frozen 4
  have c5 : w1.cell? ⟨w.heap.size, 5, none⟩ = some (.int .i64 0) := zz.row.cell (i := 5) (by omega)
  have f5 := zz.row.frozen 5
  have c6 : w1.cell? ⟨w.heap.size, 6, none⟩ = some (.int .i64 0) := zz.row.cell (i := 6) (by omega)
  have f6 := zz.row.frozen 6
  have c7 : w1.cell? ⟨w.heap.size, 7, none⟩ = some (.int .i64 0) := zz.row.cell (i := 7) (by omega)
  have f7 := zz.row.frozen 7
  clear zz
  go_wp2
  refine bodyPost_ret (results_cell_row (P := Tryz.prog) rfl _ _ w.heap.size 69 (cs8 [0, 0, 0, 0, f / 8 % 8, f % 8, 0, 0]) (0, 0) _ rfl (row8_heap ((unhide Z1).put (0) (0) (0) (0) (f / 8 % 8) (f % 8) (0) (0)).row) Tryz.underlying69 rfl (by kernel_rfl)) rfl ?_
  exact ⟨rfl, ((unhide Z1).put (0) (0) (0) (0) (f / 8 % 8) (f % 8) (0) (0)).bel⟩
set_option maxHeartbeats 1000000 in
theorem getReg_any (f : Int) (w : World) : Calls Tryz.prog 132 #[.int .i64 f] w fun e w' => e = .returned (Is.v ⟨0, zO, opdOf f, f / 64⟩) ∧ Below w.heap.size w w' := by
  have Z0 := hide (rz_new w)
  unfold Is.v zO
  simp only
  go_enter Tryz.func132, Tryz.ntmps132
  go_wp2_with fail
  refine (operandI_any (f) _).mono ?_
  rintro e w1 ⟨rfl, hb⟩
  have Z1 := hide ((unhide Z0).later hb)
  clear hb Z0
  unfold opdOf Od.v
  simp only
  have zz := unhide Z1
  have c0 : w1.cell? ⟨w.heap.size, 0, none⟩ = some (.int .i64 0) := zz.row.cell (i := 0) (by omega)
  have f0 := zz.row.frozen 0
  have c1 : w1.cell? ⟨w.heap.size, 1, none⟩ = some (.int .i64 0) := zz.row.cell (i := 1) (by omega)
  have f1 := zz.row.frozen 1
  have c2 : w1.cell? ⟨w.heap.size, 2, none⟩ = some (.int .i64 0) := zz.row.cell (i := 2) (by omega)
  have f2 := zz.row.frozen 2
  have c3 : w1.cell? ⟨w.heap.size, 3, none⟩ = some (.int .i64 0) := zz.row.cell (i := 3) (by omega)
  have f3 := zz.row.frozen 3
  have c4 : w1.cell? ⟨w.heap.size, 4, none⟩ = some (.int .i64 0) := zz.row.cell (i := 4) (by omega)
  have f4 := zz.row.frozen 4
  have c5 : w1.cell? ⟨w.heap.size, 5, none⟩ = some (.int .i64 0) := zz.row.cell (i := 5) (by omega)
  have f5 := zz.row.frozen 5
  have c6 : w1.cell? ⟨w.heap.size, 6, none⟩ = some (.int .i64 0) := zz.row.cell (i := 6) (by omega)
  have f6 := zz.row.frozen 6
  have c7 : w1.cell? ⟨w.heap.size, 7, none⟩ = some (.int .i64 0) := zz.row.cell (i := 7) (by omega)
  have f7 := zz.row.frozen 7
  clear zz
  go_wp2
  refine bodyPost_ret (results_cell_row (P := Tryz.prog) rfl _ _ w.heap.size 69 (cs8 [0, 0, 0, 0, f / 8 % 8, f % 8, 0, f / 64]) (0, 0) _ rfl (row8_heap ((unhide Z1).put (0) (0) (0) (0) (f / 8 % 8) (f % 8) (0) (f / 64)).row) Tryz.underlying69 rfl (by kernel_rfl)) rfl ?_
  exact ⟨rfl, ((unhide Z1).put (0) (0) (0) (0) (f / 8 % 8) (f % 8) (0) (f / 64)).bel⟩
end Go.Proofs.YtjpbjbnialehbaaGreatDoor
