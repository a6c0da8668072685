/- Contracts over this seat's translation, laid together; conditions stand as hypotheses of each. -/
import Derived.Test.YtfkmibgamkignaaBndC
import Derived.Test.YtfkmibgamkignaaBndD
import Derived.Deep.RegionWith

namespace Go.Proofs.Ytfkmibgamkignaa
open Go.ChangeShapes Go.WideShapes Go.ChangeAt Go.RowKit
set_option linter.unusedVariables false
set_option maxRecDepth 8000
set_option linter.unusedSimpArgs false

theorem cellP_lat {w w' : World} {p : Addr} {v : Value} (h : w.cell? p = some v) (hb : Below w.heap.size w w') : w'.cell? p = some v :=
  (hb.cell (p := p) (World.block_lt_of_cell? w p h)).trans h
theorem nAt_set_same (l : List Int) (k : Nat) (v : Int) (h : k < l.length) : nAt (l.set k v) k = v := by
  unfold nAt
  simp [List.getElem?_set, h]
/-- The registers are eight words. -/
def Md.R8 (d : Md) : Prop := d.r.length = 8 ∧ ∀ j, j < 8 → 0 ≤ nAt d.r j ∧ nAt d.r j ≤ 65535
theorem nAt_set_ne (l : List Int) (k j : Nat) (v : Int) (h : j ≠ k) : nAt (l.set k v) j = nAt l j := by
  unfold nAt
  rw [List.getD_eq_getElem?_getD, List.getD_eq_getElem?_getD, List.getElem?_set, if_neg (fun e => h e.symm)]
theorem reg_r8 {d : Md} (h : d.R8) (k : Nat) (v : Int) : (d.reg k (v % 65536)).R8 := by
  refine ⟨by unfold Md.reg; rw [List.length_set]; exact h.1, fun j hj => ?_⟩
  unfold Md.reg
  by_cases e : j = k
  · subst e
    simp only
    rw [nAt_set_same _ _ _ (by rw [h.1]; exact hj)]
    omega
  · simp only
    rw [nAt_set_ne _ _ _ _ e]
    exact h.2 j hj
theorem fet_r8 {d : Md} (h : d.R8) : d.fet.R8 := by
  unfold Md.fet
  split
  · exact reg_r8 h 7 _
  · exact h
/-- Behind an address by a mode; the address; is it there. -/
def Md.adD (d : Md) (mo re : Nat) : Md := if mo = 1 then d else if mo = 2 ∨ mo = 3 then d.reg re ((nAt d.r re + 2) % 65536) else if mo = 4 ∨ mo = 5 then d.reg re ((nAt d.r re - 2) % 65536) else d.fet
def Md.adV (d : Md) (mo re : Nat) : Int := if mo = 1 then nAt d.r re else if mo = 2 ∨ mo = 3 then nAt d.r re else if mo = 4 ∨ mo = 5 then (nAt d.r re - 2) % 65536 else (d.get (nAt d.r 7) + nAt d.fet.r re) % 65536
def Md.adO (d : Md) (mo re : Nat) : Bool := if mo = 1 then true else if mo = 2 ∨ mo = 3 then true else if mo = 4 ∨ mo = 5 then true else d.has (nAt d.r 7)

section
variable (g B gr rc mo re : Nat) (X : Int) (x : Mv) (d : Md) (w : World)
def AtIs : Prop := Calls Try.prog 92 #[.pointer (some ⟨g, 0, none⟩), .agg #[.int .i64 (mo : Int), .int .i64 (re : Int), .int .i64 X]] w fun e w' => e = .returned (.tuple #[.int .i64 (d.adV mo re), .bool (d.adO mo re)]) ∧ Pm w' g B gr rc x (d.adD mo re) ∧ w.grownBy w' (some gr)

set_option maxHeartbeats 4000000 in
theorem atS_1 (P : Pm w g B gr rc x d) (h8 : d.R8) (hr : re < 8) (hs : x.small) (hx : 0 ≤ d.get (nAt d.r 7) ∧ d.get (nAt d.r 7) ≤ 65535) : AtIs g B gr rc 1 re X x d w := by
  have e1 : d.adV 1 re = nAt d.r re := rfl
  have e2 : d.adO 1 re = true := rfl
  have e3 : d.adD 1 re = d := rfl
  unfold AtIs
  rw [e1, e2, e3]
  clear e1 e2 e3
  have H8 := hide h8
  have CC := hide (fun v (h : Pm v g B gr rc x d) => (show v.cell? ⟨g, 1, none⟩ = some (.slice (some ⟨gr, 0, none⟩) 8 rc) ∧ v.cell? ⟨gr, re, none⟩ = some (.int .i64 (nAt d.r re)) by rw [h.r, h.cell re (by rw [h8.1]; exact hr), h8.1]; exact ⟨rfl, rfl⟩))
  obtain ⟨v0, v1⟩ := h8.2 re hr
  have hrl : (re : Int) < 8 := by omega
  have PM := hide (P.later (below_new w (.cells #[.int .i64 1, .int .i64 (re : Int), .int .i64 X] 40)))
  have BX := hide (show (w.alloc (.cells #[.int .i64 1, .int .i64 (re : Int), .int .i64 X] 40)).heap[w.heap.size]? = some (.cells #[.int .i64 1, .int .i64 (re : Int), .int .i64 X] 40 (0, 0)) from heap_alloc_last w _)
  have BO := hide ((cell_of_row _ _ 1 _ 40 _ (unhide BX)).trans (show _ = some (Value.int .i64 (re : Int)) from rfl))
  have GW := hide (show w.grownBy (w.alloc (.cells #[.int .i64 1, .int .i64 (re : Int), .int .i64 X] 40)) (some gr) from World.grownBy_alloc w _ _)
  have BNE := hide (show gr ≠ w.heap.size from Nat.ne_of_lt (own_rlt P.own P.er))
  clear P h8
  go_enter Try.func92, Try.ntmps92
  go_wp2_with fail
  generalize hbo : w.heap.size = bo at BX BO BNE ⊢
  generalize hwb : w.alloc (Obj.cells #[.int .i64 1, .int .i64 (re : Int), .int .i64 X] 40) = wb at PM BX BO GW ⊢
  clear hbo hwb
  refine wp_region_held_drew (S := fun v => Pm v g B gr rc x d ∧ v.cell? ⟨bo, 1, none⟩ = some (.int .i64 (re : Int))) (by kernel_rfl) (⟨(unhide PM).later below_drew, cellP_lat (unhide BO) below_drew⟩) (fun hS => ?_)
  have HS := hide hS
  clear hS
  refine wpAnyH_take (i := 0) (v := .pointer (some ⟨g, 0, none⟩)) rfl (by kernel_rfl) (by kernel_rfl) (by kernel_rfl) (fun _ _ _ h => h) (Or.inl ⟨by rfl, fun w hc => ?_⟩) (unhide HS) ?_
  · clear hc; go_simp
  go_simp
  refine wpAnyH_take (i := 1) (v := .pointer (some ⟨g, 0, none⟩)) rfl (by kernel_rfl) (by kernel_rfl) (by kernel_rfl) (fun _ _ _ h => h) (Or.inl ⟨by rfl, fun w hc => ?_⟩) (unhide HS) ?_
  · clear hc; go_simp
  go_simp
  refine wpAnyH_take (i := 2) (v := .pointer (some ⟨g, 1, none⟩)) rfl (by kernel_rfl) (by kernel_rfl) (by kernel_rfl) (fun _ _ _ h => h) (Or.inl ⟨by rfl, fun w hc => ?_⟩) (unhide HS) ?_
  · clear hc; go_simp
  go_simp
  refine wpAnyH_take (i := 3) (v := .slice (some ⟨gr, 0, none⟩) 8 rc) rfl (by kernel_rfl) (by kernel_rfl) (by kernel_rfl) (fun _ _ _ h => h) (Or.inl ⟨by rfl, fun w hc => ?_⟩) (unhide HS) ?_
  · obtain ⟨h1, h2⟩ := unhide CC _ hc.1; have h3 := hc.2; clear hc; go_simp
  go_simp
  refine wpAnyH_take (i := 4) (v := .pointer (some ⟨bo, 1, none⟩)) rfl (by kernel_rfl) (by kernel_rfl) (by kernel_rfl) (fun _ _ _ h => h) (Or.inl ⟨by rfl, fun w hc => ?_⟩) (unhide HS) ?_
  · clear hc; go_simp
  go_simp
  refine wpAnyH_take (i := 5) (v := .int .i64 (re : Int)) rfl (by kernel_rfl) (by kernel_rfl) (by kernel_rfl) (fun _ _ _ h => h) (Or.inl ⟨by rfl, fun w hc => ?_⟩) (unhide HS) ?_
  · obtain ⟨h1, h2⟩ := unhide CC _ hc.1; have h3 := hc.2; clear hc; go_simp
  go_simp
  refine wpAnyH_take (i := 6) (v := .pointer (some ⟨gr, re, none⟩)) rfl (by kernel_rfl) (by kernel_rfl) (by kernel_rfl) (fun _ _ _ h => h) (Or.inl ⟨by rfl, fun w hc => ?_⟩) (unhide HS) ?_
  · clear hc; go_simp
  go_simp
  refine wpAnyH_take (i := 7) (v := .int .i64 (nAt d.r re)) rfl (by kernel_rfl) (by kernel_rfl) (by kernel_rfl) (fun _ _ _ h => h) (Or.inl ⟨by rfl, fun w hc => ?_⟩) (unhide HS) ?_
  · obtain ⟨h1, h2⟩ := unhide CC _ hc.1; have h3 := hc.2; clear hc; go_simp
  go_simp
  refine wpAnyH_take (i := 8) (v := .int .i64 (nAt d.r re)) rfl (by kernel_rfl) (by kernel_rfl) (by kernel_rfl) (fun _ _ _ h => h) (Or.inl ⟨by rfl, fun w hc => ?_⟩) (unhide HS) ?_
  · clear hc; go_simp
  go_simp
  refine wpAnyH_take (i := 9) (v := .bool true) rfl (by kernel_rfl) (by kernel_rfl) (by kernel_rfl) (fun _ _ _ h => h) (Or.inl ⟨by rfl, fun w hc => ?_⟩) (unhide HS) ?_
  · clear hc; go_simp
  go_simp
  refine wpAnyH_done (by kernel_rfl) ?_ _
  have T_ := hide ((unhide GW).trans (show wb.grownBy wb.drew (some gr) from ⟨rfl, rfl, rfl, Nat.le_refl _, fun _ _ _ => rfl⟩))
  clear GW
  have GW := hide (unhide T_)
  clear T_
  have PM2 := hide (unhide HS).1
  clear HS
  go_wp2_with fail
  go_ret2
  exact ⟨rfl, unhide PM2, unhide GW⟩
set_option maxHeartbeats 4000000 in
theorem atS_2 (P : Pm w g B gr rc x d) (h8 : d.R8) (hr : re < 8) (hs : x.small) (hx : 0 ≤ d.get (nAt d.r 7) ∧ d.get (nAt d.r 7) ≤ 65535) : AtIs g B gr rc 2 re X x d w := by
  have e1 : d.adV 2 re = nAt d.r re := rfl
  have e2 : d.adO 2 re = true := rfl
  have e3 : d.adD 2 re = d.reg re ((nAt d.r re + 2) % 65536) := rfl
  unfold AtIs
  rw [e1, e2, e3]
  clear e1 e2 e3
  have H8 := hide h8
  have CC := hide (fun v (h : Pm v g B gr rc x d) => (show v.cell? ⟨g, 1, none⟩ = some (.slice (some ⟨gr, 0, none⟩) 8 rc) ∧ v.cell? ⟨gr, re, none⟩ = some (.int .i64 (nAt d.r re)) by rw [h.r, h.cell re (by rw [h8.1]; exact hr), h8.1]; exact ⟨rfl, rfl⟩))
  obtain ⟨v0, v1⟩ := h8.2 re hr
  have hrl : (re : Int) < 8 := by omega
  have PM := hide (P.later (below_new w (.cells #[.int .i64 2, .int .i64 (re : Int), .int .i64 X] 40)))
  have BX := hide (show (w.alloc (.cells #[.int .i64 2, .int .i64 (re : Int), .int .i64 X] 40)).heap[w.heap.size]? = some (.cells #[.int .i64 2, .int .i64 (re : Int), .int .i64 X] 40 (0, 0)) from heap_alloc_last w _)
  have BO := hide ((cell_of_row _ _ 1 _ 40 _ (unhide BX)).trans (show _ = some (Value.int .i64 (re : Int)) from rfl))
  have GW := hide (show w.grownBy (w.alloc (.cells #[.int .i64 2, .int .i64 (re : Int), .int .i64 X] 40)) (some gr) from World.grownBy_alloc w _ _)
  have BNE := hide (show gr ≠ w.heap.size from Nat.ne_of_lt (own_rlt P.own P.er))
  clear P h8
  go_enter Try.func92, Try.ntmps92
  go_wp2_with fail
  generalize hbo : w.heap.size = bo at BX BO BNE ⊢
  generalize hwb : w.alloc (Obj.cells #[.int .i64 2, .int .i64 (re : Int), .int .i64 X] 40) = wb at PM BX BO GW ⊢
  clear hbo hwb
  refine wp_region_held_drew (S := fun v => Pm v g B gr rc x d ∧ v.cell? ⟨bo, 1, none⟩ = some (.int .i64 (re : Int))) (by kernel_rfl) (⟨(unhide PM).later below_drew, cellP_lat (unhide BO) below_drew⟩) (fun hS => ?_)
  have HS := hide hS
  clear hS
  refine wpAnyH_take (i := 0) (v := .pointer (some ⟨g, 0, none⟩)) rfl (by kernel_rfl) (by kernel_rfl) (by kernel_rfl) (fun _ _ _ h => h) (Or.inl ⟨by rfl, fun w hc => ?_⟩) (unhide HS) ?_
  · clear hc; go_simp
  go_simp
  refine wpAnyH_take (i := 1) (v := .pointer (some ⟨g, 0, none⟩)) rfl (by kernel_rfl) (by kernel_rfl) (by kernel_rfl) (fun _ _ _ h => h) (Or.inl ⟨by rfl, fun w hc => ?_⟩) (unhide HS) ?_
  · clear hc; go_simp
  go_simp
  refine wpAnyH_take (i := 2) (v := .pointer (some ⟨g, 1, none⟩)) rfl (by kernel_rfl) (by kernel_rfl) (by kernel_rfl) (fun _ _ _ h => h) (Or.inl ⟨by rfl, fun w hc => ?_⟩) (unhide HS) ?_
  · clear hc; go_simp
  go_simp
  refine wpAnyH_take (i := 3) (v := .slice (some ⟨gr, 0, none⟩) 8 rc) rfl (by kernel_rfl) (by kernel_rfl) (by kernel_rfl) (fun _ _ _ h => h) (Or.inl ⟨by rfl, fun w hc => ?_⟩) (unhide HS) ?_
  · obtain ⟨h1, h2⟩ := unhide CC _ hc.1; have h3 := hc.2; clear hc; go_simp
  go_simp
  refine wpAnyH_take (i := 4) (v := .pointer (some ⟨bo, 1, none⟩)) rfl (by kernel_rfl) (by kernel_rfl) (by kernel_rfl) (fun _ _ _ h => h) (Or.inl ⟨by rfl, fun w hc => ?_⟩) (unhide HS) ?_
  · clear hc; go_simp
  go_simp
  refine wpAnyH_take (i := 5) (v := .int .i64 (re : Int)) rfl (by kernel_rfl) (by kernel_rfl) (by kernel_rfl) (fun _ _ _ h => h) (Or.inl ⟨by rfl, fun w hc => ?_⟩) (unhide HS) ?_
  · obtain ⟨h1, h2⟩ := unhide CC _ hc.1; have h3 := hc.2; clear hc; go_simp
  go_simp
  refine wpAnyH_take (i := 6) (v := .pointer (some ⟨gr, re, none⟩)) rfl (by kernel_rfl) (by kernel_rfl) (by kernel_rfl) (fun _ _ _ h => h) (Or.inl ⟨by rfl, fun w hc => ?_⟩) (unhide HS) ?_
  · clear hc; go_simp
  go_simp
  refine wpAnyH_take (i := 7) (v := .int .i64 (nAt d.r re)) rfl (by kernel_rfl) (by kernel_rfl) (by kernel_rfl) (fun _ _ _ h => h) (Or.inl ⟨by rfl, fun w hc => ?_⟩) (unhide HS) ?_
  · obtain ⟨h1, h2⟩ := unhide CC _ hc.1; have h3 := hc.2; clear hc; go_simp
  go_simp
  refine wpAnyH_take (i := 8) (v := .int .i64 (nAt d.r re)) rfl (by kernel_rfl) (by kernel_rfl) (by kernel_rfl) (fun _ _ _ h => h) (Or.inl ⟨by rfl, fun w hc => ?_⟩) (unhide HS) ?_
  · clear hc; go_simp
  go_simp
  refine wpAnyH_done (by kernel_rfl) ?_ _
  clear PM BO
  have PM := hide (unhide HS).1
  have BO := hide (unhide HS).2
  clear HS
  have T_ := hide ((unhide GW).trans (show wb.grownBy wb.drew (some gr) from ⟨rfl, rfl, rfl, Nat.le_refl _, fun _ _ _ => rfl⟩))
  clear GW
  have GW := hide (unhide T_)
  clear T_
  generalize wb.drew = wd at PM BO GW ⊢
  go_wp2_with fail
  obtain ⟨c1, c2⟩ := unhide CC _ ((unhide PM).later (below_drew (w := wd)))
  obtain ⟨p3, g3, -, c3⟩ := ((unhide PM).later (below_drew (w := wd))).set re ((nAt d.r re + 2) % 65536) (by rw [(unhide H8).1]; exact hr)
  have P3 := hide p3
  have G3 := hide ((unhide GW).trans ((show wd.grownBy wd.drew (some gr) from ⟨rfl, rfl, rfl, Nat.le_refl _, fun _ _ _ => rfl⟩).trans g3))
  have B1 := hide (cellP_lat (unhide BO) (below_drew (w := wd)))
  have C1 := hide (And.intro c1 (unhide B1))
  have C2 := hide (And.intro c2 c3)
  have E3 := hide (show (wd.drew.setCell ⟨gr, re, none⟩ (.int .i64 ((nAt d.r re + 2) % 65536))).cell? ⟨g, 1, none⟩ = some (Value.slice (some ⟨gr, 0, none⟩) 8 rc) ∧ (wd.drew.setCell ⟨gr, re, none⟩ (.int .i64 ((nAt d.r re + 2) % 65536))).cell? ⟨bo, 1, none⟩ = some (Value.int .i64 (re : Int)) from ⟨by have := p3.r; unfold Md.reg at this; rw [List.length_set, (unhide H8).1] at this; exact this, (World.cell?_setCell_far _ _ _ _ (unhide BNE)).trans (unhide B1)⟩)
  have WR := hide (fun w => wrapS_any (nAt d.r re + 2) w)
  have HW := hide (show IntKind.i64.wrap (nAt d.r re + 2) = nAt d.r re + 2 by rw [IntKind.wrap_i64]; omega)
  obtain ⟨t, ht⟩ : ∃ t, (nAt d.r re + 2) % 65536 = t := ⟨_, rfl⟩
  rw [ht] at P3 G3 E3 WR
  have HT := hide ht
  clear ht p3 g3 c1 c2 c3 GW PM BO B1
  refine wp_region_held_drew (S := fun v => v.cell? ⟨g, 1, none⟩ = some (.slice (some ⟨gr, 0, none⟩) 8 rc) ∧ v.cell? ⟨bo, 1, none⟩ = some (.int .i64 (re : Int))) (by kernel_rfl) (unhide C1) (fun hS => ?_)
  have HS := hide hS
  clear hS
  refine wpAnyH_take (i := 0) (v := .pointer (some ⟨g, 0, none⟩)) rfl (by kernel_rfl) (by kernel_rfl) (by kernel_rfl) (fun _ _ _ h => h) (Or.inl ⟨by rfl, fun w hc => ?_⟩) (unhide HS) ?_
  · clear hc; go_simp
  go_simp
  refine wpAnyH_take (i := 1) (v := .pointer (some ⟨g, 0, none⟩)) rfl (by kernel_rfl) (by kernel_rfl) (by kernel_rfl) (fun _ _ _ h => h) (Or.inl ⟨by rfl, fun w hc => ?_⟩) (unhide HS) ?_
  · clear hc; go_simp
  go_simp
  refine wpAnyH_take (i := 2) (v := .pointer (some ⟨g, 1, none⟩)) rfl (by kernel_rfl) (by kernel_rfl) (by kernel_rfl) (fun _ _ _ h => h) (Or.inl ⟨by rfl, fun w hc => ?_⟩) (unhide HS) ?_
  · clear hc; go_simp
  go_simp
  refine wpAnyH_take (i := 3) (v := .slice (some ⟨gr, 0, none⟩) 8 rc) rfl (by kernel_rfl) (by kernel_rfl) (by kernel_rfl) (fun _ _ _ h => h) (Or.inl ⟨by rfl, fun w hc => ?_⟩) (unhide HS) ?_
  · obtain ⟨h1, h2⟩ := hc; go_simp
  go_simp
  refine wpAnyH_take (i := 4) (v := .pointer (some ⟨bo, 1, none⟩)) rfl (by kernel_rfl) (by kernel_rfl) (by kernel_rfl) (fun _ _ _ h => h) (Or.inl ⟨by rfl, fun w hc => ?_⟩) (unhide HS) ?_
  · clear hc; go_simp
  go_simp
  refine wpAnyH_take (i := 5) (v := .int .i64 (re : Int)) rfl (by kernel_rfl) (by kernel_rfl) (by kernel_rfl) (fun _ _ _ h => h) (Or.inl ⟨by rfl, fun w hc => ?_⟩) (unhide HS) ?_
  · obtain ⟨h1, h2⟩ := hc; go_simp
  go_simp
  refine wpAnyH_take (i := 6) (v := .int .i64 (nAt d.r re)) rfl (by kernel_rfl) (by kernel_rfl) (by kernel_rfl) (fun _ _ _ h => h) (Or.inl ⟨by rfl, fun w hc => ?_⟩) (unhide HS) ?_
  · clear hc; go_simp
  go_simp
  refine wpAnyH_take (i := 7) (v := .int .i64 (nAt d.r re + 2)) rfl (by kernel_rfl) (by kernel_rfl) (by kernel_rfl) (fun _ _ _ h => h) (Or.inl ⟨by rfl, fun w hc => ?_⟩) (unhide HS) ?_
  · clear hc; have hw := unhide HW; go_simp
  go_simp
  refine wpAnyH_ready (rs := [8]) (by kernel_rfl) (by simp) ?_
  refine AllReadyH.cons rfl (fun K2 hK => ?_) AllReadyH.nil
  go_simp
  refine (unhide WR _).mono ?_
  rintro e w' ⟨rfl, hw'⟩
  rw [hw']
  clear hw' w'
  refine hK.out _ _ (unhide C1) (fun hS => ?_)
  clear HS
  have HS := hide hS
  clear hS hK K2
  refine wpAnyH_take (i := 9) (v := .pointer (some ⟨gr, re, none⟩)) rfl (by kernel_rfl) (by kernel_rfl) (by kernel_rfl) (fun _ _ _ h => h) (Or.inl ⟨by rfl, fun w hc => ?_⟩) (unhide HS) ?_
  · clear hc; go_simp
  go_simp
  refine wpAnyH_ready (rs := [10]) (by kernel_rfl) (by simp) ?_
  refine AllReadyH.cons rfl (fun K2 hK => ?_) AllReadyH.nil
  obtain ⟨c2, c3⟩ := unhide C2
  go_simp
  clear c2 c3
  refine hK.out _ _ (unhide E3) (fun hS => ?_)
  clear HS
  have HS := hide hS
  clear hS hK K2
  refine wpAnyH_done (by kernel_rfl) ?_ _
  clear HS
  go_wp2_with fail
  go_ret2
  refine ⟨rfl, ?_, unhide G3⟩
  rw [unhide HT]
  exact unhide P3
set_option maxHeartbeats 4000000 in
theorem atS_3 (P : Pm w g B gr rc x d) (h8 : d.R8) (hr : re < 8) (hs : x.small) (hx : 0 ≤ d.get (nAt d.r 7) ∧ d.get (nAt d.r 7) ≤ 65535) : AtIs g B gr rc 3 re X x d w := by
  have e1 : d.adV 3 re = nAt d.r re := rfl
  have e2 : d.adO 3 re = true := rfl
  have e3 : d.adD 3 re = d.reg re ((nAt d.r re + 2) % 65536) := rfl
  unfold AtIs
  rw [e1, e2, e3]
  clear e1 e2 e3
  have H8 := hide h8
  have CC := hide (fun v (h : Pm v g B gr rc x d) => (show v.cell? ⟨g, 1, none⟩ = some (.slice (some ⟨gr, 0, none⟩) 8 rc) ∧ v.cell? ⟨gr, re, none⟩ = some (.int .i64 (nAt d.r re)) by rw [h.r, h.cell re (by rw [h8.1]; exact hr), h8.1]; exact ⟨rfl, rfl⟩))
  obtain ⟨v0, v1⟩ := h8.2 re hr
  have hrl : (re : Int) < 8 := by omega
  have PM := hide (P.later (below_new w (.cells #[.int .i64 3, .int .i64 (re : Int), .int .i64 X] 40)))
  have BX := hide (show (w.alloc (.cells #[.int .i64 3, .int .i64 (re : Int), .int .i64 X] 40)).heap[w.heap.size]? = some (.cells #[.int .i64 3, .int .i64 (re : Int), .int .i64 X] 40 (0, 0)) from heap_alloc_last w _)
  have BO := hide ((cell_of_row _ _ 1 _ 40 _ (unhide BX)).trans (show _ = some (Value.int .i64 (re : Int)) from rfl))
  have GW := hide (show w.grownBy (w.alloc (.cells #[.int .i64 3, .int .i64 (re : Int), .int .i64 X] 40)) (some gr) from World.grownBy_alloc w _ _)
  have BNE := hide (show gr ≠ w.heap.size from Nat.ne_of_lt (own_rlt P.own P.er))
  clear P h8
  go_enter Try.func92, Try.ntmps92
  go_wp2_with fail
  generalize hbo : w.heap.size = bo at BX BO BNE ⊢
  generalize hwb : w.alloc (Obj.cells #[.int .i64 3, .int .i64 (re : Int), .int .i64 X] 40) = wb at PM BX BO GW ⊢
  clear hbo hwb
  refine wp_region_held_drew (S := fun v => Pm v g B gr rc x d ∧ v.cell? ⟨bo, 1, none⟩ = some (.int .i64 (re : Int))) (by kernel_rfl) (⟨(unhide PM).later below_drew, cellP_lat (unhide BO) below_drew⟩) (fun hS => ?_)
  have HS := hide hS
  clear hS
  refine wpAnyH_take (i := 0) (v := .pointer (some ⟨g, 0, none⟩)) rfl (by kernel_rfl) (by kernel_rfl) (by kernel_rfl) (fun _ _ _ h => h) (Or.inl ⟨by rfl, fun w hc => ?_⟩) (unhide HS) ?_
  · clear hc; go_simp
  go_simp
  refine wpAnyH_take (i := 1) (v := .pointer (some ⟨g, 0, none⟩)) rfl (by kernel_rfl) (by kernel_rfl) (by kernel_rfl) (fun _ _ _ h => h) (Or.inl ⟨by rfl, fun w hc => ?_⟩) (unhide HS) ?_
  · clear hc; go_simp
  go_simp
  refine wpAnyH_take (i := 2) (v := .pointer (some ⟨g, 1, none⟩)) rfl (by kernel_rfl) (by kernel_rfl) (by kernel_rfl) (fun _ _ _ h => h) (Or.inl ⟨by rfl, fun w hc => ?_⟩) (unhide HS) ?_
  · clear hc; go_simp
  go_simp
  refine wpAnyH_take (i := 3) (v := .slice (some ⟨gr, 0, none⟩) 8 rc) rfl (by kernel_rfl) (by kernel_rfl) (by kernel_rfl) (fun _ _ _ h => h) (Or.inl ⟨by rfl, fun w hc => ?_⟩) (unhide HS) ?_
  · obtain ⟨h1, h2⟩ := unhide CC _ hc.1; have h3 := hc.2; clear hc; go_simp
  go_simp
  refine wpAnyH_take (i := 4) (v := .pointer (some ⟨bo, 1, none⟩)) rfl (by kernel_rfl) (by kernel_rfl) (by kernel_rfl) (fun _ _ _ h => h) (Or.inl ⟨by rfl, fun w hc => ?_⟩) (unhide HS) ?_
  · clear hc; go_simp
  go_simp
  refine wpAnyH_take (i := 5) (v := .int .i64 (re : Int)) rfl (by kernel_rfl) (by kernel_rfl) (by kernel_rfl) (fun _ _ _ h => h) (Or.inl ⟨by rfl, fun w hc => ?_⟩) (unhide HS) ?_
  · obtain ⟨h1, h2⟩ := unhide CC _ hc.1; have h3 := hc.2; clear hc; go_simp
  go_simp
  refine wpAnyH_take (i := 6) (v := .pointer (some ⟨gr, re, none⟩)) rfl (by kernel_rfl) (by kernel_rfl) (by kernel_rfl) (fun _ _ _ h => h) (Or.inl ⟨by rfl, fun w hc => ?_⟩) (unhide HS) ?_
  · clear hc; go_simp
  go_simp
  refine wpAnyH_take (i := 7) (v := .int .i64 (nAt d.r re)) rfl (by kernel_rfl) (by kernel_rfl) (by kernel_rfl) (fun _ _ _ h => h) (Or.inl ⟨by rfl, fun w hc => ?_⟩) (unhide HS) ?_
  · obtain ⟨h1, h2⟩ := unhide CC _ hc.1; have h3 := hc.2; clear hc; go_simp
  go_simp
  refine wpAnyH_take (i := 8) (v := .int .i64 (nAt d.r re)) rfl (by kernel_rfl) (by kernel_rfl) (by kernel_rfl) (fun _ _ _ h => h) (Or.inl ⟨by rfl, fun w hc => ?_⟩) (unhide HS) ?_
  · clear hc; go_simp
  go_simp
  refine wpAnyH_done (by kernel_rfl) ?_ _
  clear PM BO
  have PM := hide (unhide HS).1
  have BO := hide (unhide HS).2
  clear HS
  have T_ := hide ((unhide GW).trans (show wb.grownBy wb.drew (some gr) from ⟨rfl, rfl, rfl, Nat.le_refl _, fun _ _ _ => rfl⟩))
  clear GW
  have GW := hide (unhide T_)
  clear T_
  generalize wb.drew = wd at PM BO GW ⊢
  go_wp2_with fail
  obtain ⟨c1, c2⟩ := unhide CC _ ((unhide PM).later (below_drew (w := wd)))
  obtain ⟨p3, g3, -, c3⟩ := ((unhide PM).later (below_drew (w := wd))).set re ((nAt d.r re + 2) % 65536) (by rw [(unhide H8).1]; exact hr)
  have P3 := hide p3
  have G3 := hide ((unhide GW).trans ((show wd.grownBy wd.drew (some gr) from ⟨rfl, rfl, rfl, Nat.le_refl _, fun _ _ _ => rfl⟩).trans g3))
  have B1 := hide (cellP_lat (unhide BO) (below_drew (w := wd)))
  have C1 := hide (And.intro c1 (unhide B1))
  have C2 := hide (And.intro c2 c3)
  have E3 := hide (show (wd.drew.setCell ⟨gr, re, none⟩ (.int .i64 ((nAt d.r re + 2) % 65536))).cell? ⟨g, 1, none⟩ = some (Value.slice (some ⟨gr, 0, none⟩) 8 rc) ∧ (wd.drew.setCell ⟨gr, re, none⟩ (.int .i64 ((nAt d.r re + 2) % 65536))).cell? ⟨bo, 1, none⟩ = some (Value.int .i64 (re : Int)) from ⟨by have := p3.r; unfold Md.reg at this; rw [List.length_set, (unhide H8).1] at this; exact this, (World.cell?_setCell_far _ _ _ _ (unhide BNE)).trans (unhide B1)⟩)
  have WR := hide (fun w => wrapS_any (nAt d.r re + 2) w)
  have HW := hide (show IntKind.i64.wrap (nAt d.r re + 2) = nAt d.r re + 2 by rw [IntKind.wrap_i64]; omega)
  obtain ⟨t, ht⟩ : ∃ t, (nAt d.r re + 2) % 65536 = t := ⟨_, rfl⟩
  rw [ht] at P3 G3 E3 WR
  have HT := hide ht
  clear ht p3 g3 c1 c2 c3 GW PM BO B1
  refine wp_region_held_drew (S := fun v => v.cell? ⟨g, 1, none⟩ = some (.slice (some ⟨gr, 0, none⟩) 8 rc) ∧ v.cell? ⟨bo, 1, none⟩ = some (.int .i64 (re : Int))) (by kernel_rfl) (unhide C1) (fun hS => ?_)
  have HS := hide hS
  clear hS
  refine wpAnyH_take (i := 0) (v := .pointer (some ⟨g, 0, none⟩)) rfl (by kernel_rfl) (by kernel_rfl) (by kernel_rfl) (fun _ _ _ h => h) (Or.inl ⟨by rfl, fun w hc => ?_⟩) (unhide HS) ?_
  · clear hc; go_simp
  go_simp
  refine wpAnyH_take (i := 1) (v := .pointer (some ⟨g, 0, none⟩)) rfl (by kernel_rfl) (by kernel_rfl) (by kernel_rfl) (fun _ _ _ h => h) (Or.inl ⟨by rfl, fun w hc => ?_⟩) (unhide HS) ?_
  · clear hc; go_simp
  go_simp
  refine wpAnyH_take (i := 2) (v := .pointer (some ⟨g, 1, none⟩)) rfl (by kernel_rfl) (by kernel_rfl) (by kernel_rfl) (fun _ _ _ h => h) (Or.inl ⟨by rfl, fun w hc => ?_⟩) (unhide HS) ?_
  · clear hc; go_simp
  go_simp
  refine wpAnyH_take (i := 3) (v := .slice (some ⟨gr, 0, none⟩) 8 rc) rfl (by kernel_rfl) (by kernel_rfl) (by kernel_rfl) (fun _ _ _ h => h) (Or.inl ⟨by rfl, fun w hc => ?_⟩) (unhide HS) ?_
  · obtain ⟨h1, h2⟩ := hc; go_simp
  go_simp
  refine wpAnyH_take (i := 4) (v := .pointer (some ⟨bo, 1, none⟩)) rfl (by kernel_rfl) (by kernel_rfl) (by kernel_rfl) (fun _ _ _ h => h) (Or.inl ⟨by rfl, fun w hc => ?_⟩) (unhide HS) ?_
  · clear hc; go_simp
  go_simp
  refine wpAnyH_take (i := 5) (v := .int .i64 (re : Int)) rfl (by kernel_rfl) (by kernel_rfl) (by kernel_rfl) (fun _ _ _ h => h) (Or.inl ⟨by rfl, fun w hc => ?_⟩) (unhide HS) ?_
  · obtain ⟨h1, h2⟩ := hc; go_simp
  go_simp
  refine wpAnyH_take (i := 6) (v := .int .i64 (nAt d.r re)) rfl (by kernel_rfl) (by kernel_rfl) (by kernel_rfl) (fun _ _ _ h => h) (Or.inl ⟨by rfl, fun w hc => ?_⟩) (unhide HS) ?_
  · clear hc; go_simp
  go_simp
  refine wpAnyH_take (i := 7) (v := .int .i64 (nAt d.r re + 2)) rfl (by kernel_rfl) (by kernel_rfl) (by kernel_rfl) (fun _ _ _ h => h) (Or.inl ⟨by rfl, fun w hc => ?_⟩) (unhide HS) ?_
  · clear hc; have hw := unhide HW; go_simp
  go_simp
  refine wpAnyH_ready (rs := [8]) (by kernel_rfl) (by simp) ?_
  refine AllReadyH.cons rfl (fun K2 hK => ?_) AllReadyH.nil
  go_simp
  refine (unhide WR _).mono ?_
  rintro e w' ⟨rfl, hw'⟩
  rw [hw']
  clear hw' w'
  refine hK.out _ _ (unhide C1) (fun hS => ?_)
  clear HS
  have HS := hide hS
  clear hS hK K2
  refine wpAnyH_take (i := 9) (v := .pointer (some ⟨gr, re, none⟩)) rfl (by kernel_rfl) (by kernel_rfl) (by kernel_rfl) (fun _ _ _ h => h) (Or.inl ⟨by rfl, fun w hc => ?_⟩) (unhide HS) ?_
  · clear hc; go_simp
  go_simp
  refine wpAnyH_ready (rs := [10]) (by kernel_rfl) (by simp) ?_
  refine AllReadyH.cons rfl (fun K2 hK => ?_) AllReadyH.nil
  obtain ⟨c2, c3⟩ := unhide C2
  go_simp
  clear c2 c3
  refine hK.out _ _ (unhide E3) (fun hS => ?_)
  clear HS
  have HS := hide hS
  clear hS hK K2
  refine wpAnyH_done (by kernel_rfl) ?_ _
  clear HS
  go_wp2_with fail
  go_ret2
  refine ⟨rfl, ?_, unhide G3⟩
  rw [unhide HT]
  exact unhide P3
set_option maxHeartbeats 4000000 in
theorem atS_4 (P : Pm w g B gr rc x d) (h8 : d.R8) (hr : re < 8) (hs : x.small) (hx : 0 ≤ d.get (nAt d.r 7) ∧ d.get (nAt d.r 7) ≤ 65535) : AtIs g B gr rc 4 re X x d w := by
  have e1 : d.adV 4 re = (nAt d.r re - 2) % 65536 := rfl
  have e2 : d.adO 4 re = true := rfl
  have e3 : d.adD 4 re = d.reg re ((nAt d.r re - 2) % 65536) := rfl
  unfold AtIs
  rw [e1, e2, e3]
  clear e1 e2 e3
  have H8 := hide h8
  have CC := hide (fun v (h : Pm v g B gr rc x d) => (show v.cell? ⟨g, 1, none⟩ = some (.slice (some ⟨gr, 0, none⟩) 8 rc) ∧ v.cell? ⟨gr, re, none⟩ = some (.int .i64 (nAt d.r re)) by rw [h.r, h.cell re (by rw [h8.1]; exact hr), h8.1]; exact ⟨rfl, rfl⟩))
  obtain ⟨v0, v1⟩ := h8.2 re hr
  have hrl : (re : Int) < 8 := by omega
  have PM := hide (P.later (below_new w (.cells #[.int .i64 4, .int .i64 (re : Int), .int .i64 X] 40)))
  have BX := hide (show (w.alloc (.cells #[.int .i64 4, .int .i64 (re : Int), .int .i64 X] 40)).heap[w.heap.size]? = some (.cells #[.int .i64 4, .int .i64 (re : Int), .int .i64 X] 40 (0, 0)) from heap_alloc_last w _)
  have BO := hide ((cell_of_row _ _ 1 _ 40 _ (unhide BX)).trans (show _ = some (Value.int .i64 (re : Int)) from rfl))
  have GW := hide (show w.grownBy (w.alloc (.cells #[.int .i64 4, .int .i64 (re : Int), .int .i64 X] 40)) (some gr) from World.grownBy_alloc w _ _)
  have BNE := hide (show gr ≠ w.heap.size from Nat.ne_of_lt (own_rlt P.own P.er))
  clear P h8
  go_enter Try.func92, Try.ntmps92
  go_wp2_with fail
  generalize hbo : w.heap.size = bo at BX BO BNE ⊢
  generalize hwb : w.alloc (Obj.cells #[.int .i64 4, .int .i64 (re : Int), .int .i64 X] 40) = wb at PM BX BO GW ⊢
  clear hbo hwb
  obtain ⟨c1, c2⟩ := unhide CC _ ((unhide PM).later (below_drew (w := wb)))
  obtain ⟨p3, g3, -, c3⟩ := ((unhide PM).later (below_drew (w := wb))).set re ((nAt d.r re - 2) % 65536) (by rw [(unhide H8).1]; exact hr)
  have P3 := hide p3
  have G3 := hide ((unhide GW).trans ((show wb.grownBy wb.drew (some gr) from ⟨rfl, rfl, rfl, Nat.le_refl _, fun _ _ _ => rfl⟩).trans g3))
  have B1 := hide (cellP_lat (unhide BO) (below_drew (w := wb)))
  have C1 := hide (And.intro c1 (unhide B1))
  have C2 := hide (And.intro c2 c3)
  have E3 := hide (show (wb.drew.setCell ⟨gr, re, none⟩ (.int .i64 ((nAt d.r re - 2) % 65536))).cell? ⟨g, 1, none⟩ = some (Value.slice (some ⟨gr, 0, none⟩) 8 rc) ∧ (wb.drew.setCell ⟨gr, re, none⟩ (.int .i64 ((nAt d.r re - 2) % 65536))).cell? ⟨bo, 1, none⟩ = some (Value.int .i64 (re : Int)) from ⟨by have := p3.r; unfold Md.reg at this; rw [List.length_set, (unhide H8).1] at this; exact this, (World.cell?_setCell_far _ _ _ _ (unhide BNE)).trans (unhide B1)⟩)
  have WR := hide (fun w => wrapS_any (nAt d.r re - 2) w)
  have HW := hide (show IntKind.i64.wrap (nAt d.r re - 2) = nAt d.r re - 2 by rw [IntKind.wrap_i64]; omega)
  obtain ⟨t, ht⟩ : ∃ t, (nAt d.r re - 2) % 65536 = t := ⟨_, rfl⟩
  rw [ht] at P3 G3 E3 WR
  have HT := hide ht
  clear ht p3 g3 c1 c2 c3 GW PM BO B1
  refine wp_region_held_drew (S := fun v => v.cell? ⟨g, 1, none⟩ = some (.slice (some ⟨gr, 0, none⟩) 8 rc) ∧ v.cell? ⟨bo, 1, none⟩ = some (.int .i64 (re : Int))) (by kernel_rfl) (unhide C1) (fun hS => ?_)
  have HS := hide hS
  clear hS
  refine wpAnyH_take (i := 0) (v := .pointer (some ⟨g, 0, none⟩)) rfl (by kernel_rfl) (by kernel_rfl) (by kernel_rfl) (fun _ _ _ h => h) (Or.inl ⟨by rfl, fun w hc => ?_⟩) (unhide HS) ?_
  · clear hc; go_simp
  go_simp
  refine wpAnyH_take (i := 1) (v := .pointer (some ⟨g, 0, none⟩)) rfl (by kernel_rfl) (by kernel_rfl) (by kernel_rfl) (fun _ _ _ h => h) (Or.inl ⟨by rfl, fun w hc => ?_⟩) (unhide HS) ?_
  · clear hc; go_simp
  go_simp
  refine wpAnyH_take (i := 2) (v := .pointer (some ⟨g, 1, none⟩)) rfl (by kernel_rfl) (by kernel_rfl) (by kernel_rfl) (fun _ _ _ h => h) (Or.inl ⟨by rfl, fun w hc => ?_⟩) (unhide HS) ?_
  · clear hc; go_simp
  go_simp
  refine wpAnyH_take (i := 3) (v := .slice (some ⟨gr, 0, none⟩) 8 rc) rfl (by kernel_rfl) (by kernel_rfl) (by kernel_rfl) (fun _ _ _ h => h) (Or.inl ⟨by rfl, fun w hc => ?_⟩) (unhide HS) ?_
  · obtain ⟨h1, h2⟩ := hc; go_simp
  go_simp
  refine wpAnyH_take (i := 4) (v := .pointer (some ⟨bo, 1, none⟩)) rfl (by kernel_rfl) (by kernel_rfl) (by kernel_rfl) (fun _ _ _ h => h) (Or.inl ⟨by rfl, fun w hc => ?_⟩) (unhide HS) ?_
  · clear hc; go_simp
  go_simp
  refine wpAnyH_take (i := 5) (v := .int .i64 (re : Int)) rfl (by kernel_rfl) (by kernel_rfl) (by kernel_rfl) (fun _ _ _ h => h) (Or.inl ⟨by rfl, fun w hc => ?_⟩) (unhide HS) ?_
  · obtain ⟨h1, h2⟩ := hc; go_simp
  go_simp
  refine wpAnyH_take (i := 6) (v := .pointer (some ⟨g, 0, none⟩)) rfl (by kernel_rfl) (by kernel_rfl) (by kernel_rfl) (fun _ _ _ h => h) (Or.inl ⟨by rfl, fun w hc => ?_⟩) (unhide HS) ?_
  · clear hc; go_simp
  go_simp
  refine wpAnyH_take (i := 7) (v := .pointer (some ⟨g, 0, none⟩)) rfl (by kernel_rfl) (by kernel_rfl) (by kernel_rfl) (fun _ _ _ h => h) (Or.inl ⟨by rfl, fun w hc => ?_⟩) (unhide HS) ?_
  · clear hc; go_simp
  go_simp
  refine wpAnyH_take (i := 8) (v := .pointer (some ⟨g, 1, none⟩)) rfl (by kernel_rfl) (by kernel_rfl) (by kernel_rfl) (fun _ _ _ h => h) (Or.inl ⟨by rfl, fun w hc => ?_⟩) (unhide HS) ?_
  · clear hc; go_simp
  go_simp
  refine wpAnyH_take (i := 9) (v := .slice (some ⟨gr, 0, none⟩) 8 rc) rfl (by kernel_rfl) (by kernel_rfl) (by kernel_rfl) (fun _ _ _ h => h) (Or.inl ⟨by rfl, fun w hc => ?_⟩) (unhide HS) ?_
  · obtain ⟨h1, h2⟩ := hc; go_simp
  go_simp
  refine wpAnyH_take (i := 10) (v := .pointer (some ⟨bo, 1, none⟩)) rfl (by kernel_rfl) (by kernel_rfl) (by kernel_rfl) (fun _ _ _ h => h) (Or.inl ⟨by rfl, fun w hc => ?_⟩) (unhide HS) ?_
  · clear hc; go_simp
  go_simp
  refine wpAnyH_take (i := 11) (v := .int .i64 (re : Int)) rfl (by kernel_rfl) (by kernel_rfl) (by kernel_rfl) (fun _ _ _ h => h) (Or.inl ⟨by rfl, fun w hc => ?_⟩) (unhide HS) ?_
  · obtain ⟨h1, h2⟩ := hc; go_simp
  go_simp
  refine wpAnyH_take (i := 12) (v := .pointer (some ⟨gr, re, none⟩)) rfl (by kernel_rfl) (by kernel_rfl) (by kernel_rfl) (fun _ _ _ h => h) (Or.inl ⟨by rfl, fun w hc => ?_⟩) (unhide HS) ?_
  · clear hc; go_simp
  go_simp
  refine wpAnyH_ready (rs := [13]) (by kernel_rfl) (by simp) ?_
  refine AllReadyH.cons rfl (fun K2 hK => ?_) AllReadyH.nil
  obtain ⟨c2, c3⟩ := unhide C2
  go_simp
  clear c2 c3
  refine hK.out _ _ (unhide C1) (fun hS => ?_)
  clear HS
  have HS := hide hS
  clear hS hK K2
  refine wpAnyH_take (i := 14) (v := .int .i64 (nAt d.r re - 2)) rfl (by kernel_rfl) (by kernel_rfl) (by kernel_rfl) (fun _ _ _ h => h) (Or.inl ⟨by rfl, fun w hc => ?_⟩) (unhide HS) ?_
  · clear hc; have hw := unhide HW; go_simp
  go_simp
  refine wpAnyH_ready (rs := [15]) (by kernel_rfl) (by simp) ?_
  refine AllReadyH.cons rfl (fun K2 hK => ?_) AllReadyH.nil
  go_simp
  refine (unhide WR _).mono ?_
  rintro e w' ⟨rfl, hw'⟩
  rw [hw']
  clear hw' w'
  refine hK.out _ _ (unhide C1) (fun hS => ?_)
  clear HS
  have HS := hide hS
  clear hS hK K2
  refine wpAnyH_take (i := 16) (v := .pointer (some ⟨gr, re, none⟩)) rfl (by kernel_rfl) (by kernel_rfl) (by kernel_rfl) (fun _ _ _ h => h) (Or.inl ⟨by rfl, fun w hc => ?_⟩) (unhide HS) ?_
  · clear hc; go_simp
  go_simp
  refine wpAnyH_ready (rs := [17]) (by kernel_rfl) (by simp) ?_
  refine AllReadyH.cons rfl (fun K2 hK => ?_) AllReadyH.nil
  obtain ⟨c2, c3⟩ := unhide C2
  go_simp
  clear c2 c3
  refine hK.out _ _ (unhide E3) (fun hS => ?_)
  clear HS
  have HS := hide hS
  clear hS hK K2
  refine wpAnyH_done (by kernel_rfl) ?_ _
  clear HS
  generalize hwd : wb.drew.setCell ⟨gr, re, none⟩ (.int .i64 t) = wd at P3 G3 E3
  rw [show (wb.setCell ⟨gr, re, none⟩ (.int .i64 t)).drew = wd from hwd]
  clear hwd C1 C2 CC
  have CC := hide (fun v (h : Pm v g B gr rc x (d.reg re t)) => (show v.cell? ⟨g, 1, none⟩ = some (.slice (some ⟨gr, 0, none⟩) 8 rc) ∧ v.cell? ⟨gr, re, none⟩ = some (.int .i64 t) by rw [h.r, h.cell re (by unfold Md.reg; rw [List.length_set, (unhide H8).1]; exact hr)]; unfold Md.reg; rw [List.length_set, (unhide H8).1, nAt_set_same _ _ _ (by rw [(unhide H8).1]; exact hr)]; exact ⟨rfl, rfl⟩))
  go_wp2_with fail
  refine wp_region_held_drew (S := fun v => Pm v g B gr rc x (d.reg re t) ∧ v.cell? ⟨bo, 1, none⟩ = some (.int .i64 (re : Int))) (by kernel_rfl) (⟨(unhide P3).later below_drew, cellP_lat (unhide E3).2 below_drew⟩) (fun hS => ?_)
  have HS := hide hS
  clear hS
  refine wpAnyH_take (i := 0) (v := .pointer (some ⟨g, 0, none⟩)) rfl (by kernel_rfl) (by kernel_rfl) (by kernel_rfl) (fun _ _ _ h => h) (Or.inl ⟨by rfl, fun w hc => ?_⟩) (unhide HS) ?_
  · clear hc; go_simp
  go_simp
  refine wpAnyH_take (i := 1) (v := .pointer (some ⟨g, 0, none⟩)) rfl (by kernel_rfl) (by kernel_rfl) (by kernel_rfl) (fun _ _ _ h => h) (Or.inl ⟨by rfl, fun w hc => ?_⟩) (unhide HS) ?_
  · clear hc; go_simp
  go_simp
  refine wpAnyH_take (i := 2) (v := .pointer (some ⟨g, 1, none⟩)) rfl (by kernel_rfl) (by kernel_rfl) (by kernel_rfl) (fun _ _ _ h => h) (Or.inl ⟨by rfl, fun w hc => ?_⟩) (unhide HS) ?_
  · clear hc; go_simp
  go_simp
  refine wpAnyH_take (i := 3) (v := .slice (some ⟨gr, 0, none⟩) 8 rc) rfl (by kernel_rfl) (by kernel_rfl) (by kernel_rfl) (fun _ _ _ h => h) (Or.inl ⟨by rfl, fun w hc => ?_⟩) (unhide HS) ?_
  · obtain ⟨h1, h2⟩ := unhide CC _ hc.1; have h3 := hc.2; clear hc; go_simp
  go_simp
  refine wpAnyH_take (i := 4) (v := .pointer (some ⟨bo, 1, none⟩)) rfl (by kernel_rfl) (by kernel_rfl) (by kernel_rfl) (fun _ _ _ h => h) (Or.inl ⟨by rfl, fun w hc => ?_⟩) (unhide HS) ?_
  · clear hc; go_simp
  go_simp
  refine wpAnyH_take (i := 5) (v := .int .i64 (re : Int)) rfl (by kernel_rfl) (by kernel_rfl) (by kernel_rfl) (fun _ _ _ h => h) (Or.inl ⟨by rfl, fun w hc => ?_⟩) (unhide HS) ?_
  · obtain ⟨h1, h2⟩ := unhide CC _ hc.1; have h3 := hc.2; clear hc; go_simp
  go_simp
  refine wpAnyH_take (i := 6) (v := .pointer (some ⟨gr, re, none⟩)) rfl (by kernel_rfl) (by kernel_rfl) (by kernel_rfl) (fun _ _ _ h => h) (Or.inl ⟨by rfl, fun w hc => ?_⟩) (unhide HS) ?_
  · clear hc; go_simp
  go_simp
  refine wpAnyH_take (i := 7) (v := .int .i64 t) rfl (by kernel_rfl) (by kernel_rfl) (by kernel_rfl) (fun _ _ _ h => h) (Or.inl ⟨by rfl, fun w hc => ?_⟩) (unhide HS) ?_
  · obtain ⟨h1, h2⟩ := unhide CC _ hc.1; have h3 := hc.2; clear hc; go_simp
  go_simp
  refine wpAnyH_take (i := 8) (v := .int .i64 t) rfl (by kernel_rfl) (by kernel_rfl) (by kernel_rfl) (fun _ _ _ h => h) (Or.inl ⟨by rfl, fun w hc => ?_⟩) (unhide HS) ?_
  · clear hc; go_simp
  go_simp
  refine wpAnyH_take (i := 9) (v := .bool true) rfl (by kernel_rfl) (by kernel_rfl) (by kernel_rfl) (fun _ _ _ h => h) (Or.inl ⟨by rfl, fun w hc => ?_⟩) (unhide HS) ?_
  · clear hc; go_simp
  go_simp
  refine wpAnyH_done (by kernel_rfl) ?_ _
  have T_ := hide ((unhide G3).trans (show wd.grownBy wd.drew (some gr) from ⟨rfl, rfl, rfl, Nat.le_refl _, fun _ _ _ => rfl⟩))
  clear G3
  have G3 := hide (unhide T_)
  clear T_
  have PM2 := hide (unhide HS).1
  clear HS
  go_wp2_with fail
  go_ret2
  rw [unhide HT]
  exact ⟨rfl, unhide PM2, unhide G3⟩
set_option maxHeartbeats 4000000 in
theorem atS_5 (P : Pm w g B gr rc x d) (h8 : d.R8) (hr : re < 8) (hs : x.small) (hx : 0 ≤ d.get (nAt d.r 7) ∧ d.get (nAt d.r 7) ≤ 65535) : AtIs g B gr rc 5 re X x d w := by
  have e1 : d.adV 5 re = (nAt d.r re - 2) % 65536 := rfl
  have e2 : d.adO 5 re = true := rfl
  have e3 : d.adD 5 re = d.reg re ((nAt d.r re - 2) % 65536) := rfl
  unfold AtIs
  rw [e1, e2, e3]
  clear e1 e2 e3
  have H8 := hide h8
  have CC := hide (fun v (h : Pm v g B gr rc x d) => (show v.cell? ⟨g, 1, none⟩ = some (.slice (some ⟨gr, 0, none⟩) 8 rc) ∧ v.cell? ⟨gr, re, none⟩ = some (.int .i64 (nAt d.r re)) by rw [h.r, h.cell re (by rw [h8.1]; exact hr), h8.1]; exact ⟨rfl, rfl⟩))
  obtain ⟨v0, v1⟩ := h8.2 re hr
  have hrl : (re : Int) < 8 := by omega
  have PM := hide (P.later (below_new w (.cells #[.int .i64 5, .int .i64 (re : Int), .int .i64 X] 40)))
  have BX := hide (show (w.alloc (.cells #[.int .i64 5, .int .i64 (re : Int), .int .i64 X] 40)).heap[w.heap.size]? = some (.cells #[.int .i64 5, .int .i64 (re : Int), .int .i64 X] 40 (0, 0)) from heap_alloc_last w _)
  have BO := hide ((cell_of_row _ _ 1 _ 40 _ (unhide BX)).trans (show _ = some (Value.int .i64 (re : Int)) from rfl))
  have GW := hide (show w.grownBy (w.alloc (.cells #[.int .i64 5, .int .i64 (re : Int), .int .i64 X] 40)) (some gr) from World.grownBy_alloc w _ _)
  have BNE := hide (show gr ≠ w.heap.size from Nat.ne_of_lt (own_rlt P.own P.er))
  clear P h8
  go_enter Try.func92, Try.ntmps92
  go_wp2_with fail
  generalize hbo : w.heap.size = bo at BX BO BNE ⊢
  generalize hwb : w.alloc (Obj.cells #[.int .i64 5, .int .i64 (re : Int), .int .i64 X] 40) = wb at PM BX BO GW ⊢
  clear hbo hwb
  obtain ⟨c1, c2⟩ := unhide CC _ ((unhide PM).later (below_drew (w := wb)))
  obtain ⟨p3, g3, -, c3⟩ := ((unhide PM).later (below_drew (w := wb))).set re ((nAt d.r re - 2) % 65536) (by rw [(unhide H8).1]; exact hr)
  have P3 := hide p3
  have G3 := hide ((unhide GW).trans ((show wb.grownBy wb.drew (some gr) from ⟨rfl, rfl, rfl, Nat.le_refl _, fun _ _ _ => rfl⟩).trans g3))
  have B1 := hide (cellP_lat (unhide BO) (below_drew (w := wb)))
  have C1 := hide (And.intro c1 (unhide B1))
  have C2 := hide (And.intro c2 c3)
  have E3 := hide (show (wb.drew.setCell ⟨gr, re, none⟩ (.int .i64 ((nAt d.r re - 2) % 65536))).cell? ⟨g, 1, none⟩ = some (Value.slice (some ⟨gr, 0, none⟩) 8 rc) ∧ (wb.drew.setCell ⟨gr, re, none⟩ (.int .i64 ((nAt d.r re - 2) % 65536))).cell? ⟨bo, 1, none⟩ = some (Value.int .i64 (re : Int)) from ⟨by have := p3.r; unfold Md.reg at this; rw [List.length_set, (unhide H8).1] at this; exact this, (World.cell?_setCell_far _ _ _ _ (unhide BNE)).trans (unhide B1)⟩)
  have WR := hide (fun w => wrapS_any (nAt d.r re - 2) w)
  have HW := hide (show IntKind.i64.wrap (nAt d.r re - 2) = nAt d.r re - 2 by rw [IntKind.wrap_i64]; omega)
  obtain ⟨t, ht⟩ : ∃ t, (nAt d.r re - 2) % 65536 = t := ⟨_, rfl⟩
  rw [ht] at P3 G3 E3 WR
  have HT := hide ht
  clear ht p3 g3 c1 c2 c3 GW PM BO B1
  refine wp_region_held_drew (S := fun v => v.cell? ⟨g, 1, none⟩ = some (.slice (some ⟨gr, 0, none⟩) 8 rc) ∧ v.cell? ⟨bo, 1, none⟩ = some (.int .i64 (re : Int))) (by kernel_rfl) (unhide C1) (fun hS => ?_)
  have HS := hide hS
  clear hS
  refine wpAnyH_take (i := 0) (v := .pointer (some ⟨g, 0, none⟩)) rfl (by kernel_rfl) (by kernel_rfl) (by kernel_rfl) (fun _ _ _ h => h) (Or.inl ⟨by rfl, fun w hc => ?_⟩) (unhide HS) ?_
  · clear hc; go_simp
  go_simp
  refine wpAnyH_take (i := 1) (v := .pointer (some ⟨g, 0, none⟩)) rfl (by kernel_rfl) (by kernel_rfl) (by kernel_rfl) (fun _ _ _ h => h) (Or.inl ⟨by rfl, fun w hc => ?_⟩) (unhide HS) ?_
  · clear hc; go_simp
  go_simp
  refine wpAnyH_take (i := 2) (v := .pointer (some ⟨g, 1, none⟩)) rfl (by kernel_rfl) (by kernel_rfl) (by kernel_rfl) (fun _ _ _ h => h) (Or.inl ⟨by rfl, fun w hc => ?_⟩) (unhide HS) ?_
  · clear hc; go_simp
  go_simp
  refine wpAnyH_take (i := 3) (v := .slice (some ⟨gr, 0, none⟩) 8 rc) rfl (by kernel_rfl) (by kernel_rfl) (by kernel_rfl) (fun _ _ _ h => h) (Or.inl ⟨by rfl, fun w hc => ?_⟩) (unhide HS) ?_
  · obtain ⟨h1, h2⟩ := hc; go_simp
  go_simp
  refine wpAnyH_take (i := 4) (v := .pointer (some ⟨bo, 1, none⟩)) rfl (by kernel_rfl) (by kernel_rfl) (by kernel_rfl) (fun _ _ _ h => h) (Or.inl ⟨by rfl, fun w hc => ?_⟩) (unhide HS) ?_
  · clear hc; go_simp
  go_simp
  refine wpAnyH_take (i := 5) (v := .int .i64 (re : Int)) rfl (by kernel_rfl) (by kernel_rfl) (by kernel_rfl) (fun _ _ _ h => h) (Or.inl ⟨by rfl, fun w hc => ?_⟩) (unhide HS) ?_
  · obtain ⟨h1, h2⟩ := hc; go_simp
  go_simp
  refine wpAnyH_take (i := 6) (v := .pointer (some ⟨g, 0, none⟩)) rfl (by kernel_rfl) (by kernel_rfl) (by kernel_rfl) (fun _ _ _ h => h) (Or.inl ⟨by rfl, fun w hc => ?_⟩) (unhide HS) ?_
  · clear hc; go_simp
  go_simp
  refine wpAnyH_take (i := 7) (v := .pointer (some ⟨g, 0, none⟩)) rfl (by kernel_rfl) (by kernel_rfl) (by kernel_rfl) (fun _ _ _ h => h) (Or.inl ⟨by rfl, fun w hc => ?_⟩) (unhide HS) ?_
  · clear hc; go_simp
  go_simp
  refine wpAnyH_take (i := 8) (v := .pointer (some ⟨g, 1, none⟩)) rfl (by kernel_rfl) (by kernel_rfl) (by kernel_rfl) (fun _ _ _ h => h) (Or.inl ⟨by rfl, fun w hc => ?_⟩) (unhide HS) ?_
  · clear hc; go_simp
  go_simp
  refine wpAnyH_take (i := 9) (v := .slice (some ⟨gr, 0, none⟩) 8 rc) rfl (by kernel_rfl) (by kernel_rfl) (by kernel_rfl) (fun _ _ _ h => h) (Or.inl ⟨by rfl, fun w hc => ?_⟩) (unhide HS) ?_
  · obtain ⟨h1, h2⟩ := hc; go_simp
  go_simp
  refine wpAnyH_take (i := 10) (v := .pointer (some ⟨bo, 1, none⟩)) rfl (by kernel_rfl) (by kernel_rfl) (by kernel_rfl) (fun _ _ _ h => h) (Or.inl ⟨by rfl, fun w hc => ?_⟩) (unhide HS) ?_
  · clear hc; go_simp
  go_simp
  refine wpAnyH_take (i := 11) (v := .int .i64 (re : Int)) rfl (by kernel_rfl) (by kernel_rfl) (by kernel_rfl) (fun _ _ _ h => h) (Or.inl ⟨by rfl, fun w hc => ?_⟩) (unhide HS) ?_
  · obtain ⟨h1, h2⟩ := hc; go_simp
  go_simp
  refine wpAnyH_take (i := 12) (v := .pointer (some ⟨gr, re, none⟩)) rfl (by kernel_rfl) (by kernel_rfl) (by kernel_rfl) (fun _ _ _ h => h) (Or.inl ⟨by rfl, fun w hc => ?_⟩) (unhide HS) ?_
  · clear hc; go_simp
  go_simp
  refine wpAnyH_ready (rs := [13]) (by kernel_rfl) (by simp) ?_
  refine AllReadyH.cons rfl (fun K2 hK => ?_) AllReadyH.nil
  obtain ⟨c2, c3⟩ := unhide C2
  go_simp
  clear c2 c3
  refine hK.out _ _ (unhide C1) (fun hS => ?_)
  clear HS
  have HS := hide hS
  clear hS hK K2
  refine wpAnyH_take (i := 14) (v := .int .i64 (nAt d.r re - 2)) rfl (by kernel_rfl) (by kernel_rfl) (by kernel_rfl) (fun _ _ _ h => h) (Or.inl ⟨by rfl, fun w hc => ?_⟩) (unhide HS) ?_
  · clear hc; have hw := unhide HW; go_simp
  go_simp
  refine wpAnyH_ready (rs := [15]) (by kernel_rfl) (by simp) ?_
  refine AllReadyH.cons rfl (fun K2 hK => ?_) AllReadyH.nil
  go_simp
  refine (unhide WR _).mono ?_
  rintro e w' ⟨rfl, hw'⟩
  rw [hw']
  clear hw' w'
  refine hK.out _ _ (unhide C1) (fun hS => ?_)
  clear HS
  have HS := hide hS
  clear hS hK K2
  refine wpAnyH_take (i := 16) (v := .pointer (some ⟨gr, re, none⟩)) rfl (by kernel_rfl) (by kernel_rfl) (by kernel_rfl) (fun _ _ _ h => h) (Or.inl ⟨by rfl, fun w hc => ?_⟩) (unhide HS) ?_
  · clear hc; go_simp
  go_simp
  refine wpAnyH_ready (rs := [17]) (by kernel_rfl) (by simp) ?_
  refine AllReadyH.cons rfl (fun K2 hK => ?_) AllReadyH.nil
  obtain ⟨c2, c3⟩ := unhide C2
  go_simp
  clear c2 c3
  refine hK.out _ _ (unhide E3) (fun hS => ?_)
  clear HS
  have HS := hide hS
  clear hS hK K2
  refine wpAnyH_done (by kernel_rfl) ?_ _
  clear HS
  generalize hwd : wb.drew.setCell ⟨gr, re, none⟩ (.int .i64 t) = wd at P3 G3 E3
  rw [show (wb.setCell ⟨gr, re, none⟩ (.int .i64 t)).drew = wd from hwd]
  clear hwd C1 C2 CC
  have CC := hide (fun v (h : Pm v g B gr rc x (d.reg re t)) => (show v.cell? ⟨g, 1, none⟩ = some (.slice (some ⟨gr, 0, none⟩) 8 rc) ∧ v.cell? ⟨gr, re, none⟩ = some (.int .i64 t) by rw [h.r, h.cell re (by unfold Md.reg; rw [List.length_set, (unhide H8).1]; exact hr)]; unfold Md.reg; rw [List.length_set, (unhide H8).1, nAt_set_same _ _ _ (by rw [(unhide H8).1]; exact hr)]; exact ⟨rfl, rfl⟩))
  go_wp2_with fail
  refine wp_region_held_drew (S := fun v => Pm v g B gr rc x (d.reg re t) ∧ v.cell? ⟨bo, 1, none⟩ = some (.int .i64 (re : Int))) (by kernel_rfl) (⟨(unhide P3).later below_drew, cellP_lat (unhide E3).2 below_drew⟩) (fun hS => ?_)
  have HS := hide hS
  clear hS
  refine wpAnyH_take (i := 0) (v := .pointer (some ⟨g, 0, none⟩)) rfl (by kernel_rfl) (by kernel_rfl) (by kernel_rfl) (fun _ _ _ h => h) (Or.inl ⟨by rfl, fun w hc => ?_⟩) (unhide HS) ?_
  · clear hc; go_simp
  go_simp
  refine wpAnyH_take (i := 1) (v := .pointer (some ⟨g, 0, none⟩)) rfl (by kernel_rfl) (by kernel_rfl) (by kernel_rfl) (fun _ _ _ h => h) (Or.inl ⟨by rfl, fun w hc => ?_⟩) (unhide HS) ?_
  · clear hc; go_simp
  go_simp
  refine wpAnyH_take (i := 2) (v := .pointer (some ⟨g, 1, none⟩)) rfl (by kernel_rfl) (by kernel_rfl) (by kernel_rfl) (fun _ _ _ h => h) (Or.inl ⟨by rfl, fun w hc => ?_⟩) (unhide HS) ?_
  · clear hc; go_simp
  go_simp
  refine wpAnyH_take (i := 3) (v := .slice (some ⟨gr, 0, none⟩) 8 rc) rfl (by kernel_rfl) (by kernel_rfl) (by kernel_rfl) (fun _ _ _ h => h) (Or.inl ⟨by rfl, fun w hc => ?_⟩) (unhide HS) ?_
  · obtain ⟨h1, h2⟩ := unhide CC _ hc.1; have h3 := hc.2; clear hc; go_simp
  go_simp
  refine wpAnyH_take (i := 4) (v := .pointer (some ⟨bo, 1, none⟩)) rfl (by kernel_rfl) (by kernel_rfl) (by kernel_rfl) (fun _ _ _ h => h) (Or.inl ⟨by rfl, fun w hc => ?_⟩) (unhide HS) ?_
  · clear hc; go_simp
  go_simp
  refine wpAnyH_take (i := 5) (v := .int .i64 (re : Int)) rfl (by kernel_rfl) (by kernel_rfl) (by kernel_rfl) (fun _ _ _ h => h) (Or.inl ⟨by rfl, fun w hc => ?_⟩) (unhide HS) ?_
  · obtain ⟨h1, h2⟩ := unhide CC _ hc.1; have h3 := hc.2; clear hc; go_simp
  go_simp
  refine wpAnyH_take (i := 6) (v := .pointer (some ⟨gr, re, none⟩)) rfl (by kernel_rfl) (by kernel_rfl) (by kernel_rfl) (fun _ _ _ h => h) (Or.inl ⟨by rfl, fun w hc => ?_⟩) (unhide HS) ?_
  · clear hc; go_simp
  go_simp
  refine wpAnyH_take (i := 7) (v := .int .i64 t) rfl (by kernel_rfl) (by kernel_rfl) (by kernel_rfl) (fun _ _ _ h => h) (Or.inl ⟨by rfl, fun w hc => ?_⟩) (unhide HS) ?_
  · obtain ⟨h1, h2⟩ := unhide CC _ hc.1; have h3 := hc.2; clear hc; go_simp
  go_simp
  refine wpAnyH_take (i := 8) (v := .int .i64 t) rfl (by kernel_rfl) (by kernel_rfl) (by kernel_rfl) (fun _ _ _ h => h) (Or.inl ⟨by rfl, fun w hc => ?_⟩) (unhide HS) ?_
  · clear hc; go_simp
  go_simp
  refine wpAnyH_take (i := 9) (v := .bool true) rfl (by kernel_rfl) (by kernel_rfl) (by kernel_rfl) (fun _ _ _ h => h) (Or.inl ⟨by rfl, fun w hc => ?_⟩) (unhide HS) ?_
  · clear hc; go_simp
  go_simp
  refine wpAnyH_done (by kernel_rfl) ?_ _
  have T_ := hide ((unhide G3).trans (show wd.grownBy wd.drew (some gr) from ⟨rfl, rfl, rfl, Nat.le_refl _, fun _ _ _ => rfl⟩))
  clear G3
  have G3 := hide (unhide T_)
  clear T_
  have PM2 := hide (unhide HS).1
  clear HS
  go_wp2_with fail
  go_ret2
  rw [unhide HT]
  exact ⟨rfl, unhide PM2, unhide G3⟩
set_option maxHeartbeats 4000000 in
theorem atS_6 (P : Pm w g B gr rc x d) (h8 : d.R8) (hr : re < 8) (hs : x.small) (hx : 0 ≤ d.get (nAt d.r 7) ∧ d.get (nAt d.r 7) ≤ 65535) : AtIs g B gr rc 6 re X x d w := by
  have e1 : d.adV 6 re = (d.get (nAt d.r 7) + nAt d.fet.r re) % 65536 := rfl
  have e2 : d.adO 6 re = d.has (nAt d.r 7) := rfl
  have e3 : d.adD 6 re = d.fet := rfl
  unfold AtIs
  rw [e1, e2, e3]
  clear e1 e2 e3
  have H8 := hide h8
  have CC := hide (fun v (h : Pm v g B gr rc x d) => (show v.cell? ⟨g, 1, none⟩ = some (.slice (some ⟨gr, 0, none⟩) 8 rc) ∧ v.cell? ⟨gr, re, none⟩ = some (.int .i64 (nAt d.r re)) by rw [h.r, h.cell re (by rw [h8.1]; exact hr), h8.1]; exact ⟨rfl, rfl⟩))
  obtain ⟨v0, v1⟩ := h8.2 re hr
  have hrl : (re : Int) < 8 := by omega
  have PM := hide (P.later (below_new w (.cells #[.int .i64 6, .int .i64 (re : Int), .int .i64 X] 40)))
  have BX := hide (show (w.alloc (.cells #[.int .i64 6, .int .i64 (re : Int), .int .i64 X] 40)).heap[w.heap.size]? = some (.cells #[.int .i64 6, .int .i64 (re : Int), .int .i64 X] 40 (0, 0)) from heap_alloc_last w _)
  have BO := hide ((cell_of_row _ _ 1 _ 40 _ (unhide BX)).trans (show _ = some (Value.int .i64 (re : Int)) from rfl))
  have GW := hide (show w.grownBy (w.alloc (.cells #[.int .i64 6, .int .i64 (re : Int), .int .i64 X] 40)) (some gr) from World.grownBy_alloc w _ _)
  have BNE := hide (show gr ≠ w.heap.size from Nat.ne_of_lt (own_rlt P.own P.er))
  clear P h8
  go_enter Try.func92, Try.ntmps92
  go_wp2_with fail
  generalize hbo : w.heap.size = bo at BX BO BNE ⊢
  generalize hwb : w.alloc (Obj.cells #[.int .i64 6, .int .i64 (re : Int), .int .i64 X] 40) = wb at PM BX BO GW ⊢
  clear hbo hwb
  refine (fetchS_any g B gr rc x d wb hs (unhide PM) (unhide H8).1 ((unhide H8).2 7 (by omega)).1 ((unhide H8).2 7 (by omega)).2).mono ?_
  rintro e w2 ⟨rfl, p2, g2⟩
  have PM2 := hide p2
  have GW2 := hide ((unhide GW).trans g2)
  have BX2 := hide (row_past (unhide BX) g2 (unhide BNE))
  have BO2 := hide ((cell_of_row _ _ 1 _ 40 _ (unhide BX2)).trans (show _ = some (Value.int .i64 (re : Int)) from rfl))
  clear p2 g2 PM GW BX BO CC
  have F8 := hide (fet_r8 (unhide H8))
  have HX := hide hx
  obtain ⟨xx, hxx⟩ : ∃ v, d.get (nAt d.r 7) = v := ⟨_, rfl⟩
  obtain ⟨ok, hok⟩ : ∃ b, d.has (nAt d.r 7) = b := ⟨_, rfl⟩
  rw [hxx] at HX
  have HXX := hide hxx
  have HOK := hide hok
  generalize hff : d.fet = ff at PM2 F8
  have HFF := hide hff
  simp only [hxx, hok]
  clear hxx hok hff
  obtain ⟨x0, x1⟩ := unhide HX
  obtain ⟨f0, f1⟩ := (unhide F8).2 re hr
  have CC := hide (fun v (h : Pm v g B gr rc x ff) => (show v.cell? ⟨g, 1, none⟩ = some (.slice (some ⟨gr, 0, none⟩) 8 rc) ∧ v.cell? ⟨gr, re, none⟩ = some (.int .i64 (nAt ff.r re)) by rw [h.r, h.cell re (by rw [(unhide F8).1]; exact hr), (unhide F8).1]; exact ⟨rfl, rfl⟩))
  have WR := hide (fun w => wrapS_any (xx + nAt ff.r re) w)
  have HW := hide (show IntKind.i64.wrap (xx + nAt ff.r re) = xx + nAt ff.r re by rw [IntKind.wrap_i64]; omega)
  go_wp2_with fail
  refine wp_region_held_drew (S := fun v => Pm v g B gr rc x ff ∧ v.cell? ⟨bo, 1, none⟩ = some (.int .i64 (re : Int))) (by kernel_rfl) (⟨(unhide PM2).later below_drew, cellP_lat (unhide BO2) below_drew⟩) (fun hS => ?_)
  have HS := hide hS
  clear hS
  refine wpAnyH_take (i := 0) (v := .int .i64 xx) rfl (by kernel_rfl) (by kernel_rfl) (by kernel_rfl) (fun _ _ _ h => h) (Or.inl ⟨by rfl, fun w hc => ?_⟩) (unhide HS) ?_
  · clear hc; go_simp
  go_simp
  refine wpAnyH_take (i := 1) (v := .pointer (some ⟨g, 0, none⟩)) rfl (by kernel_rfl) (by kernel_rfl) (by kernel_rfl) (fun _ _ _ h => h) (Or.inl ⟨by rfl, fun w hc => ?_⟩) (unhide HS) ?_
  · clear hc; go_simp
  go_simp
  refine wpAnyH_take (i := 2) (v := .pointer (some ⟨g, 0, none⟩)) rfl (by kernel_rfl) (by kernel_rfl) (by kernel_rfl) (fun _ _ _ h => h) (Or.inl ⟨by rfl, fun w hc => ?_⟩) (unhide HS) ?_
  · clear hc; go_simp
  go_simp
  refine wpAnyH_take (i := 3) (v := .pointer (some ⟨g, 1, none⟩)) rfl (by kernel_rfl) (by kernel_rfl) (by kernel_rfl) (fun _ _ _ h => h) (Or.inl ⟨by rfl, fun w hc => ?_⟩) (unhide HS) ?_
  · clear hc; go_simp
  go_simp
  refine wpAnyH_take (i := 4) (v := .slice (some ⟨gr, 0, none⟩) 8 rc) rfl (by kernel_rfl) (by kernel_rfl) (by kernel_rfl) (fun _ _ _ h => h) (Or.inl ⟨by rfl, fun w hc => ?_⟩) (unhide HS) ?_
  · obtain ⟨h1, h2⟩ := unhide CC _ hc.1; have h3 := hc.2; clear hc; go_simp
  go_simp
  refine wpAnyH_take (i := 5) (v := .pointer (some ⟨bo, 1, none⟩)) rfl (by kernel_rfl) (by kernel_rfl) (by kernel_rfl) (fun _ _ _ h => h) (Or.inl ⟨by rfl, fun w hc => ?_⟩) (unhide HS) ?_
  · clear hc; go_simp
  go_simp
  refine wpAnyH_take (i := 6) (v := .int .i64 (re : Int)) rfl (by kernel_rfl) (by kernel_rfl) (by kernel_rfl) (fun _ _ _ h => h) (Or.inl ⟨by rfl, fun w hc => ?_⟩) (unhide HS) ?_
  · obtain ⟨h1, h2⟩ := unhide CC _ hc.1; have h3 := hc.2; clear hc; go_simp
  go_simp
  refine wpAnyH_take (i := 7) (v := .pointer (some ⟨gr, re, none⟩)) rfl (by kernel_rfl) (by kernel_rfl) (by kernel_rfl) (fun _ _ _ h => h) (Or.inl ⟨by rfl, fun w hc => ?_⟩) (unhide HS) ?_
  · clear hc; go_simp
  go_simp
  refine wpAnyH_take (i := 8) (v := .int .i64 (nAt ff.r re)) rfl (by kernel_rfl) (by kernel_rfl) (by kernel_rfl) (fun _ _ _ h => h) (Or.inl ⟨by rfl, fun w hc => ?_⟩) (unhide HS) ?_
  · obtain ⟨h1, h2⟩ := unhide CC _ hc.1; have h3 := hc.2; clear hc; go_simp
  go_simp
  refine wpAnyH_take (i := 9) (v := .int .i64 (xx + nAt ff.r re)) rfl (by kernel_rfl) (by kernel_rfl) (by kernel_rfl) (fun _ _ _ h => h) (Or.inl ⟨by rfl, fun w hc => ?_⟩) (unhide HS) ?_
  · clear hc; have hw := unhide HW; go_simp
  go_simp
  refine wpAnyH_take (i := 11) (v := .bool ok) rfl (by kernel_rfl) (by kernel_rfl) (by kernel_rfl) (fun _ _ _ h => h) (Or.inl ⟨by rfl, fun w hc => ?_⟩) (unhide HS) ?_
  · clear hc; go_simp
  go_simp
  refine wpAnyH_ready (rs := [10]) (by kernel_rfl) (by simp) ?_
  refine AllReadyH.cons rfl (fun K2 hK => ?_) AllReadyH.nil
  go_simp
  refine (unhide WR _).mono ?_
  rintro e w' ⟨rfl, hw'⟩
  rw [hw']
  clear hw' w'
  refine hK.out _ _ (unhide HS) (fun hS => ?_)
  clear HS
  have HS := hide hS
  clear hS hK K2
  refine wpAnyH_take (i := 12) (v := .int .i64 ((xx + nAt ff.r re) % 65536)) rfl (by kernel_rfl) (by kernel_rfl) (by kernel_rfl) (fun _ _ _ h => h) (Or.inl ⟨by rfl, fun w hc => ?_⟩) (unhide HS) ?_
  · clear hc; go_simp
  go_simp
  refine wpAnyH_take (i := 13) (v := .bool ok) rfl (by kernel_rfl) (by kernel_rfl) (by kernel_rfl) (fun _ _ _ h => h) (Or.inl ⟨by rfl, fun w hc => ?_⟩) (unhide HS) ?_
  · clear hc; go_simp
  go_simp
  refine wpAnyH_done (by kernel_rfl) ?_ _
  have T_ := hide ((unhide GW2).trans (show w2.grownBy w2.drew (some gr) from ⟨rfl, rfl, rfl, Nat.le_refl _, fun _ _ _ => rfl⟩))
  clear GW2
  have GW2 := hide (unhide T_)
  clear T_
  have PM3 := hide (unhide HS).1
  clear HS
  go_wp2_with fail
  go_ret2
  rw [unhide HXX, unhide HOK, unhide HFF]
  exact ⟨rfl, unhide PM3, unhide GW2⟩
set_option maxHeartbeats 4000000 in
theorem atS_7 (P : Pm w g B gr rc x d) (h8 : d.R8) (hr : re < 8) (hs : x.small) (hx : 0 ≤ d.get (nAt d.r 7) ∧ d.get (nAt d.r 7) ≤ 65535) : AtIs g B gr rc 7 re X x d w := by
  have e1 : d.adV 7 re = (d.get (nAt d.r 7) + nAt d.fet.r re) % 65536 := rfl
  have e2 : d.adO 7 re = d.has (nAt d.r 7) := rfl
  have e3 : d.adD 7 re = d.fet := rfl
  unfold AtIs
  rw [e1, e2, e3]
  clear e1 e2 e3
  have H8 := hide h8
  have CC := hide (fun v (h : Pm v g B gr rc x d) => (show v.cell? ⟨g, 1, none⟩ = some (.slice (some ⟨gr, 0, none⟩) 8 rc) ∧ v.cell? ⟨gr, re, none⟩ = some (.int .i64 (nAt d.r re)) by rw [h.r, h.cell re (by rw [h8.1]; exact hr), h8.1]; exact ⟨rfl, rfl⟩))
  obtain ⟨v0, v1⟩ := h8.2 re hr
  have hrl : (re : Int) < 8 := by omega
  have PM := hide (P.later (below_new w (.cells #[.int .i64 7, .int .i64 (re : Int), .int .i64 X] 40)))
  have BX := hide (show (w.alloc (.cells #[.int .i64 7, .int .i64 (re : Int), .int .i64 X] 40)).heap[w.heap.size]? = some (.cells #[.int .i64 7, .int .i64 (re : Int), .int .i64 X] 40 (0, 0)) from heap_alloc_last w _)
  have BO := hide ((cell_of_row _ _ 1 _ 40 _ (unhide BX)).trans (show _ = some (Value.int .i64 (re : Int)) from rfl))
  have GW := hide (show w.grownBy (w.alloc (.cells #[.int .i64 7, .int .i64 (re : Int), .int .i64 X] 40)) (some gr) from World.grownBy_alloc w _ _)
  have BNE := hide (show gr ≠ w.heap.size from Nat.ne_of_lt (own_rlt P.own P.er))
  clear P h8
  go_enter Try.func92, Try.ntmps92
  go_wp2_with fail
  generalize hbo : w.heap.size = bo at BX BO BNE ⊢
  generalize hwb : w.alloc (Obj.cells #[.int .i64 7, .int .i64 (re : Int), .int .i64 X] 40) = wb at PM BX BO GW ⊢
  clear hbo hwb
  refine (fetchS_any g B gr rc x d wb hs (unhide PM) (unhide H8).1 ((unhide H8).2 7 (by omega)).1 ((unhide H8).2 7 (by omega)).2).mono ?_
  rintro e w2 ⟨rfl, p2, g2⟩
  have PM2 := hide p2
  have GW2 := hide ((unhide GW).trans g2)
  have BX2 := hide (row_past (unhide BX) g2 (unhide BNE))
  have BO2 := hide ((cell_of_row _ _ 1 _ 40 _ (unhide BX2)).trans (show _ = some (Value.int .i64 (re : Int)) from rfl))
  clear p2 g2 PM GW BX BO CC
  have F8 := hide (fet_r8 (unhide H8))
  have HX := hide hx
  obtain ⟨xx, hxx⟩ : ∃ v, d.get (nAt d.r 7) = v := ⟨_, rfl⟩
  obtain ⟨ok, hok⟩ : ∃ b, d.has (nAt d.r 7) = b := ⟨_, rfl⟩
  rw [hxx] at HX
  have HXX := hide hxx
  have HOK := hide hok
  generalize hff : d.fet = ff at PM2 F8
  have HFF := hide hff
  simp only [hxx, hok]
  clear hxx hok hff
  obtain ⟨x0, x1⟩ := unhide HX
  obtain ⟨f0, f1⟩ := (unhide F8).2 re hr
  have CC := hide (fun v (h : Pm v g B gr rc x ff) => (show v.cell? ⟨g, 1, none⟩ = some (.slice (some ⟨gr, 0, none⟩) 8 rc) ∧ v.cell? ⟨gr, re, none⟩ = some (.int .i64 (nAt ff.r re)) by rw [h.r, h.cell re (by rw [(unhide F8).1]; exact hr), (unhide F8).1]; exact ⟨rfl, rfl⟩))
  have WR := hide (fun w => wrapS_any (xx + nAt ff.r re) w)
  have HW := hide (show IntKind.i64.wrap (xx + nAt ff.r re) = xx + nAt ff.r re by rw [IntKind.wrap_i64]; omega)
  go_wp2_with fail
  refine wp_region_held_drew (S := fun v => Pm v g B gr rc x ff ∧ v.cell? ⟨bo, 1, none⟩ = some (.int .i64 (re : Int))) (by kernel_rfl) (⟨(unhide PM2).later below_drew, cellP_lat (unhide BO2) below_drew⟩) (fun hS => ?_)
  have HS := hide hS
  clear hS
  refine wpAnyH_take (i := 0) (v := .int .i64 xx) rfl (by kernel_rfl) (by kernel_rfl) (by kernel_rfl) (fun _ _ _ h => h) (Or.inl ⟨by rfl, fun w hc => ?_⟩) (unhide HS) ?_
  · clear hc; go_simp
  go_simp
  refine wpAnyH_take (i := 1) (v := .pointer (some ⟨g, 0, none⟩)) rfl (by kernel_rfl) (by kernel_rfl) (by kernel_rfl) (fun _ _ _ h => h) (Or.inl ⟨by rfl, fun w hc => ?_⟩) (unhide HS) ?_
  · clear hc; go_simp
  go_simp
  refine wpAnyH_take (i := 2) (v := .pointer (some ⟨g, 0, none⟩)) rfl (by kernel_rfl) (by kernel_rfl) (by kernel_rfl) (fun _ _ _ h => h) (Or.inl ⟨by rfl, fun w hc => ?_⟩) (unhide HS) ?_
  · clear hc; go_simp
  go_simp
  refine wpAnyH_take (i := 3) (v := .pointer (some ⟨g, 1, none⟩)) rfl (by kernel_rfl) (by kernel_rfl) (by kernel_rfl) (fun _ _ _ h => h) (Or.inl ⟨by rfl, fun w hc => ?_⟩) (unhide HS) ?_
  · clear hc; go_simp
  go_simp
  refine wpAnyH_take (i := 4) (v := .slice (some ⟨gr, 0, none⟩) 8 rc) rfl (by kernel_rfl) (by kernel_rfl) (by kernel_rfl) (fun _ _ _ h => h) (Or.inl ⟨by rfl, fun w hc => ?_⟩) (unhide HS) ?_
  · obtain ⟨h1, h2⟩ := unhide CC _ hc.1; have h3 := hc.2; clear hc; go_simp
  go_simp
  refine wpAnyH_take (i := 5) (v := .pointer (some ⟨bo, 1, none⟩)) rfl (by kernel_rfl) (by kernel_rfl) (by kernel_rfl) (fun _ _ _ h => h) (Or.inl ⟨by rfl, fun w hc => ?_⟩) (unhide HS) ?_
  · clear hc; go_simp
  go_simp
  refine wpAnyH_take (i := 6) (v := .int .i64 (re : Int)) rfl (by kernel_rfl) (by kernel_rfl) (by kernel_rfl) (fun _ _ _ h => h) (Or.inl ⟨by rfl, fun w hc => ?_⟩) (unhide HS) ?_
  · obtain ⟨h1, h2⟩ := unhide CC _ hc.1; have h3 := hc.2; clear hc; go_simp
  go_simp
  refine wpAnyH_take (i := 7) (v := .pointer (some ⟨gr, re, none⟩)) rfl (by kernel_rfl) (by kernel_rfl) (by kernel_rfl) (fun _ _ _ h => h) (Or.inl ⟨by rfl, fun w hc => ?_⟩) (unhide HS) ?_
  · clear hc; go_simp
  go_simp
  refine wpAnyH_take (i := 8) (v := .int .i64 (nAt ff.r re)) rfl (by kernel_rfl) (by kernel_rfl) (by kernel_rfl) (fun _ _ _ h => h) (Or.inl ⟨by rfl, fun w hc => ?_⟩) (unhide HS) ?_
  · obtain ⟨h1, h2⟩ := unhide CC _ hc.1; have h3 := hc.2; clear hc; go_simp
  go_simp
  refine wpAnyH_take (i := 9) (v := .int .i64 (xx + nAt ff.r re)) rfl (by kernel_rfl) (by kernel_rfl) (by kernel_rfl) (fun _ _ _ h => h) (Or.inl ⟨by rfl, fun w hc => ?_⟩) (unhide HS) ?_
  · clear hc; have hw := unhide HW; go_simp
  go_simp
  refine wpAnyH_take (i := 11) (v := .bool ok) rfl (by kernel_rfl) (by kernel_rfl) (by kernel_rfl) (fun _ _ _ h => h) (Or.inl ⟨by rfl, fun w hc => ?_⟩) (unhide HS) ?_
  · clear hc; go_simp
  go_simp
  refine wpAnyH_ready (rs := [10]) (by kernel_rfl) (by simp) ?_
  refine AllReadyH.cons rfl (fun K2 hK => ?_) AllReadyH.nil
  go_simp
  refine (unhide WR _).mono ?_
  rintro e w' ⟨rfl, hw'⟩
  rw [hw']
  clear hw' w'
  refine hK.out _ _ (unhide HS) (fun hS => ?_)
  clear HS
  have HS := hide hS
  clear hS hK K2
  refine wpAnyH_take (i := 12) (v := .int .i64 ((xx + nAt ff.r re) % 65536)) rfl (by kernel_rfl) (by kernel_rfl) (by kernel_rfl) (fun _ _ _ h => h) (Or.inl ⟨by rfl, fun w hc => ?_⟩) (unhide HS) ?_
  · clear hc; go_simp
  go_simp
  refine wpAnyH_take (i := 13) (v := .bool ok) rfl (by kernel_rfl) (by kernel_rfl) (by kernel_rfl) (fun _ _ _ h => h) (Or.inl ⟨by rfl, fun w hc => ?_⟩) (unhide HS) ?_
  · clear hc; go_simp
  go_simp
  refine wpAnyH_done (by kernel_rfl) ?_ _
  have T_ := hide ((unhide GW2).trans (show w2.grownBy w2.drew (some gr) from ⟨rfl, rfl, rfl, Nat.le_refl _, fun _ _ _ => rfl⟩))
  clear GW2
  have GW2 := hide (unhide T_)
  clear T_
  have PM3 := hide (unhide HS).1
  clear HS
  go_wp2_with fail
  go_ret2
  rw [unhide HXX, unhide HOK, unhide HFF]
  exact ⟨rfl, unhide PM3, unhide GW2⟩
theorem atS_any (P : Pm w g B gr rc x d) (h8 : d.R8) (hr : re < 8) (hs : x.small) (hx : 0 ≤ d.get (nAt d.r 7) ∧ d.get (nAt d.r 7) ≤ 65535) (h1 : 1 ≤ mo) (h7 : mo ≤ 7) : AtIs g B gr rc mo re X x d w := by
  rcases (show mo = 1 ∨ mo = 2 ∨ mo = 3 ∨ mo = 4 ∨ mo = 5 ∨ mo = 6 ∨ mo = 7 by omega) with rfl | rfl | rfl | rfl | rfl | rfl | rfl
  · exact atS_1 g B gr rc re X x d w P h8 hr hs hx
  · exact atS_2 g B gr rc re X x d w P h8 hr hs hx
  · exact atS_3 g B gr rc re X x d w P h8 hr hs hx
  · exact atS_4 g B gr rc re X x d w P h8 hr hs hx
  · exact atS_5 g B gr rc re X x d w P h8 hr hs hx
  · exact atS_6 g B gr rc re X x d w P h8 hr hs hx
  · exact atS_7 g B gr rc re X x d w P h8 hr hs hx
end
end Go.Proofs.Ytfkmibgamkignaa

namespace Go.Proofs.Ytfkmibgamkignaa
open Go.ChangeShapes Go.WideShapes Go.ChangeAt Go.RowKit
set_option linter.unusedVariables false
set_option maxRecDepth 8000
set_option linter.unusedSimpArgs false

/-- A part of a row, loaded as a struct. -/
theorem run_loadVar_part {P : Program} (w : World) (g off : Nat) (t ty : TypeId) (big cs : Array Value) (fr : Nat × Nat) (d : TypeDesc) (hg : w.heap[g]? = some (.cells big t fr)) (hp : ∀ k v, cs[k]? = some v → big[off + k]? = some v)
    (hu : P.underlying ty = some d) (hd : (match d with | .struct _ | .array _ _ => true | _ => false) = true) (hi : (P.info? ty).map (·.size) = some cs.size) :
    (loadVar ty ⟨g, off, none⟩).run P w = .ok (.agg cs) w := by
  have hl : (loadCells ⟨g, off, none⟩ cs.toList.length).run P w = .ok cs.toList.toArray w :=
    run_loadCells_list (P := P) w ⟨g, off, none⟩ cs.toList (fun j v hv => by
      have hadd : (⟨g, off, none⟩ : Addr).add j = ⟨g, off + j, none⟩ := by unfold Addr.add; split <;> simp_all
      rw [hadd, cell_of_row w g (off + j) big t fr hg]
      exact hp j v (by simpa using hv))
  cases hq : P.info? ty with
  | none => simp [hq] at hi
  | some i =>
    have hs : i.size = cs.size := by simpa [hq] using hi
    have hagg : (isAgg ty).run P w = .ok true w := by
      unfold isAgg
      rw [Sem.run_bind, run_underlying hu w]
      cases d <;> simp_all
    simp only [Array.length_toList, Array.toArray_toList] at hl
    simp [loadVar, Sem.run_bind, hagg, sizeOf, typeInfo, hq, hs, hl]
/-- The machine within the program's machine, loaded whole. -/
theorem wpList_load_in {w : World} {ops : Array Oper} {rest : List Oper} {o : Oper} {a : Act} {Q : Exit → Act → World → Prop} (hgd : o.guard = none) (x : Operand) (ho : o.op = .load 28 x) (g : Nat) (mem : List Int) (y : Mv) (hm : mem.length = 256)
    (hx : a.eval x = .pointer (some ⟨g, 256, none⟩)) (hg : w.heap[g]? = some (.cells (bigA mem y) 80 (0, 0))) (h : wpList Try.prog ops Q rest (a.put o.dst (.agg y.cs)) w) : wpList Try.prog ops Q (o :: rest) a w := by
  refine wpList_plain hgd fun K hK => ?_
  unfold Oper.wp execOp
  simp only [ho, hx, Instr.loadAt, Instr.sureAddr, Sem.run_bind, Sem.run_pure, Result.andThen_ok, run_loadVar_part (P := Try.prog) w g 256 80 28 (bigA mem y) y.cs (0, 0) _ hg (fun k v hv => (bigA_mach y hm).trans hv) Try.underlying28 rfl (by kernel_rfl)]
  exact hK _ _ h

theorem regPlace_any (r : Int) (w : World) : Calls Try.prog 86 #[.int .i64 r] w fun e w' => e = .returned (.agg #[.int .i64 r, .int .i64 (-1)]) ∧ Below w.heap.size w w' := by
  have HB := hide (below_new w (.cells #[.int .i64 r, .int .i64 (-1)] 44))
  have R0 := hide (heap_alloc_last w (.cells #[.int .i64 r, .int .i64 (-1)] 44))
  go_enter Try.func86, Try.ntmps86
  go_wp2
  refine bodyPost_ret (results_cell_row (P := Try.prog) rfl _ _ w.heap.size 44 #[.int .i64 r, .int .i64 (-1)] (0, 0) _ rfl (unhide R0) Try.underlying44 rfl (by kernel_rfl)) rfl ?_
  exact ⟨rfl, unhide HB⟩
theorem adPlace_any (r : Int) (w : World) : Calls Try.prog 87 #[.int .i64 r] w fun e w' => e = .returned (.agg #[.int .i64 (-1), .int .i64 r]) ∧ Below w.heap.size w w' := by
  have HB := hide (below_new w (.cells #[.int .i64 (-1), .int .i64 r] 44))
  have R0 := hide (heap_alloc_last w (.cells #[.int .i64 (-1), .int .i64 r] 44))
  go_enter Try.func87, Try.ntmps87
  go_wp2
  refine bodyPost_ret (results_cell_row (P := Try.prog) rfl _ _ w.heap.size 44 #[.int .i64 (-1), .int .i64 r] (0, 0) _ rfl (unhide R0) Try.underlying44 rfl (by kernel_rfl)) rfl ?_
  exact ⟨rfl, unhide HB⟩
def regB (n : Nat) (r : Int) : Bool := decide (0 ≤ r) && (decide (r ≤ 7) && decide (r < (n : Int)))
set_option maxHeartbeats 1000000 in
theorem hasReg_any (x : Mv) (r : Int) (w : World) (hs : x.small) : Calls Try.prog 94 #[.agg x.cs, .int .i64 r] w fun e w' => e = .returned (.bool (regB x.r.n r)) ∧ Below w.heap.size w w' := by
  have HB := hide (below_new w (.cells x.cs 28))
  have R0 := heap_alloc_last w (.cells x.cs 28)
  have c1 := row_r R0
  have hn := hs.2.1
  unfold regB
  clear hs R0
  by_cases h1 : 0 ≤ r
  · by_cases h2 : r ≤ 7
    · go_enter Try.func94, Try.ntmps94
      go_wp2
      go_ret
      exact ⟨by simp [h1, h2], unhide HB⟩
    · go_enter Try.func94, Try.ntmps94
      go_wp2
      go_ret
      exact ⟨by simp [h1, h2]; omega, unhide HB⟩
  · go_enter Try.func94, Try.ntmps94
    go_wp2
    go_ret
    exact ⟨by simp [h1]; omega, unhide HB⟩

/-- Where a place of the program's machine is. -/
def rchI (g gr : Nat) (d : Md) (r a : Int) : Option Addr := if a = -1 ∧ regB d.r.length r = true then some ⟨gr, r.toNat, none⟩ else if r = -1 ∧ d.has a = true then some ⟨g, (a / 2).toNat, none⟩ else none
/-- While a place is looked for: its box, the machine's row. -/
structure Bt (w wr : World) (g : Nat) (mem : List Int) (y : Mv) (r a : Int) : Prop where
  bx : wr.heap[w.heap.size]? = some (.cells #[.int .i64 r, .int .i64 a] 44 (0, 0))
  row : wr.heap[g]? = some (.cells (bigA mem y) 80 (0, 0))
  bel : Below w.heap.size w wr
section
variable {w wr w' : World} {g : Nat} {mem : List Int} {y : Mv} {r a : Int}
theorem bt_new (r a : Int) (h : w.heap[g]? = some (.cells (bigA mem y) 80 (0, 0))) : Bt w (w.alloc (.cells #[.int .i64 r, .int .i64 a] 44)) g mem y r a := ⟨heap_alloc_last w _, row_lat h (below_new w _), below_new w _⟩
theorem Bt.later (h : Bt w wr g mem y r a) (hb : Below wr.heap.size wr w') : Bt w w' g mem y r a := ⟨row_lat h.bx hb, row_lat h.row hb, h.bel.trans (hb.mono h.bel.size)⟩
theorem Bt.cr (h : Bt w wr g mem y r a) : wr.cell? ⟨w.heap.size, 0, none⟩ = some (.int .i64 r) := (cell_of_row wr _ 0 _ 44 _ h.bx).trans rfl
theorem Bt.ca (h : Bt w wr g mem y r a) : wr.cell? ⟨w.heap.size, 1, none⟩ = some (.int .i64 a) := (cell_of_row wr _ 1 _ 44 _ h.bx).trans rfl
end

end Go.Proofs.Ytfkmibgamkignaa

namespace Go.Proofs.Ytfkmibgamkignaa
open Go.ChangeShapes Go.WideShapes Go.ChangeAt Go.RowKit
set_option linter.unusedVariables false
set_option maxRecDepth 8000
set_option linter.unusedSimpArgs false

set_option maxHeartbeats 4000000 in
theorem reach2 (g : Nat) (mem : List Int) (y : Mv) (w : World) (hm : mem.length = 256) (hg : w.heap[g]? = some (.cells (bigA mem y) 80 (0, 0))) (HR : Hid (∀ w, Calls Try.prog 94 #[.agg y.cs, .int .i64 (-1)] w fun e w' => e = .returned (.bool false) ∧ Below w.heap.size w w')) (HA : Hid (∀ w, Calls Try.prog 56 #[.agg y.cs, .int .i64 (-1)] w fun e w' => e = .returned (.bool false) ∧ Below w.heap.size w w')) :
    Calls Try.prog 73 #[.pointer (some ⟨g, 0, none⟩), .agg #[.int .i64 (-1), .int .i64 (-1)]] w fun e w' => e = .returned (.pointer (none)) ∧ Below w.heap.size w w' := by
  have HS := hide (box_below w (Obj.cells #[.int .i64 (-1), .int .i64 (-1)] 44))
  have HZ := hide (show w.heap.size + 1 ≤ (w.alloc (Obj.cells #[.int .i64 (-1), .int .i64 (-1)] 44)).heap.size by simp)
  have ne := Sub.ne (w.heap.size + 1) (w.alloc (Obj.cells #[.int .i64 (-1), .int .i64 (-1)] 44))
  have b0 : ∀ s : Sub (w.heap.size + 1) (w.alloc (Obj.cells #[.int .i64 (-1), .int .i64 (-1)] 44)), s.w.cell? ⟨w.heap.size, 0, none⟩ = some (.int .i64 (-1)) := fun s => s.cells 0 _ rfl
  have b1 : ∀ s : Sub (w.heap.size + 1) (w.alloc (Obj.cells #[.int .i64 (-1), .int .i64 (-1)] 44)), s.w.cell? ⟨w.heap.size, 1, none⟩ = some (.int .i64 (-1)) := fun s => s.cells 1 _ rfl
  have rw : ∀ s : Sub (w.heap.size + 1) (w.alloc (Obj.cells #[.int .i64 (-1), .int .i64 (-1)] 44)), s.w.heap[g]? = some (.cells (bigA mem y) 80 (0, 0)) := fun s => (s.h.block g (by have := row_lt hg; omega)).trans (row_lat hg (below_new w _))
  have c0 : ∀ s : Sub (w.heap.size + 1) (w.alloc (Obj.cells #[.int .i64 (-1), .int .i64 (-1)] 44)), s.w.cell? ⟨g, 256, none⟩ = some (.slice y.m.a y.m.n y.m.c) := fun s => big_cell (rw s) hm 0 _ rfl
  have c1 : ∀ s : Sub (w.heap.size + 1) (w.alloc (Obj.cells #[.int .i64 (-1), .int .i64 (-1)] 44)), s.w.cell? ⟨g, 257, none⟩ = some (.slice y.r.a y.r.n y.r.c) := fun s => big_cell (rw s) hm 1 _ rfl
  have c2 : ∀ s : Sub (w.heap.size + 1) (w.alloc (Obj.cells #[.int .i64 (-1), .int .i64 (-1)] 44)), s.w.cell? ⟨g, 258, none⟩ = some (.bool y.n) := fun s => big_cell (rw s) hm 2 _ rfl
  have c3 : ∀ s : Sub (w.heap.size + 1) (w.alloc (Obj.cells #[.int .i64 (-1), .int .i64 (-1)] 44)), s.w.cell? ⟨g, 259, none⟩ = some (.bool y.z) := fun s => big_cell (rw s) hm 3 _ rfl
  have c4 : ∀ s : Sub (w.heap.size + 1) (w.alloc (Obj.cells #[.int .i64 (-1), .int .i64 (-1)] 44)), s.w.cell? ⟨g, 260, none⟩ = some (.bool y.v) := fun s => big_cell (rw s) hm 4 _ rfl
  have c5 : ∀ s : Sub (w.heap.size + 1) (w.alloc (Obj.cells #[.int .i64 (-1), .int .i64 (-1)] 44)), s.w.cell? ⟨g, 261, none⟩ = some (.bool y.c) := fun s => big_cell (rw s) hm 5 _ rfl
  have c6 : ∀ s : Sub (w.heap.size + 1) (w.alloc (Obj.cells #[.int .i64 (-1), .int .i64 (-1)] 44)), s.w.cell? ⟨g, 262, none⟩ = some (.slice y.i.a y.i.n y.i.c) := fun s => big_cell (rw s) hm 6 _ rfl
  have c7 : ∀ s : Sub (w.heap.size + 1) (w.alloc (Obj.cells #[.int .i64 (-1), .int .i64 (-1)] 44)), s.w.cell? ⟨g, 263, none⟩ = some (.slice y.o.a y.o.n y.o.c) := fun s => big_cell (rw s) hm 7 _ rfl
  have c8 : ∀ s : Sub (w.heap.size + 1) (w.alloc (Obj.cells #[.int .i64 (-1), .int .i64 (-1)] 44)), s.w.cell? ⟨g, 264, none⟩ = some (.int .i64 y.st) := fun s => big_cell (rw s) hm 8 _ rfl
  clear rw
  clear hm hg
  go_enter Try.func73, Try.ntmps73
  go_wp2_with fail
  refine wp_region_sub (Sub.top w (Obj.cells #[.int .i64 (-1), .int .i64 (-1)] 44)) (by kernel_rfl) (by kernel_rfl) ?_
  repeat (go_big_quiet_step (first | (go_at_call 94; exact Sub.call (unhide HZ) (unhide HR _)) | (go_at_call 56; exact Sub.call (unhide HZ) (unhide HA _)) | (go_at_call 82; exact Sub.same (unhide CL _))))
  refine wpQuiet_nil ?_
  intro s
  go_wp2_with fail
  refine wp_region_sub s (by kernel_rfl) (by kernel_rfl) ?_
  repeat (go_big_quiet_step (first | (go_at_call 94; exact Sub.call (unhide HZ) (unhide HR _)) | (go_at_call 56; exact Sub.call (unhide HZ) (unhide HA _)) | (go_at_call 82; exact Sub.same (unhide CL _))))
  refine wpQuiet_nil ?_
  intro s
  go_wp2_with fail
  go_ret
  exact ⟨rfl, unhide HS _ s.h⟩
set_option maxHeartbeats 4000000 in
theorem reach3 (g : Nat) (r : Int) (mem : List Int) (y : Mv) (w : World) (hm : mem.length = 256) (hg : w.heap[g]? = some (.cells (bigA mem y) 80 (0, 0))) (h1 : r ≠ -1) (h1b : (r == -1) = false) (HR : Hid (∀ w, Calls Try.prog 94 #[.agg y.cs, .int .i64 r] w fun e w' => e = .returned (.bool false) ∧ Below w.heap.size w w')) :
    Calls Try.prog 73 #[.pointer (some ⟨g, 0, none⟩), .agg #[.int .i64 r, .int .i64 (-1)]] w fun e w' => e = .returned (.pointer (none)) ∧ Below w.heap.size w w' := by
  have HS := hide (box_below w (Obj.cells #[.int .i64 r, .int .i64 (-1)] 44))
  have HZ := hide (show w.heap.size + 1 ≤ (w.alloc (Obj.cells #[.int .i64 r, .int .i64 (-1)] 44)).heap.size by simp)
  have ne := Sub.ne (w.heap.size + 1) (w.alloc (Obj.cells #[.int .i64 r, .int .i64 (-1)] 44))
  have b0 : ∀ s : Sub (w.heap.size + 1) (w.alloc (Obj.cells #[.int .i64 r, .int .i64 (-1)] 44)), s.w.cell? ⟨w.heap.size, 0, none⟩ = some (.int .i64 r) := fun s => s.cells 0 _ rfl
  have b1 : ∀ s : Sub (w.heap.size + 1) (w.alloc (Obj.cells #[.int .i64 r, .int .i64 (-1)] 44)), s.w.cell? ⟨w.heap.size, 1, none⟩ = some (.int .i64 (-1)) := fun s => s.cells 1 _ rfl
  have rw : ∀ s : Sub (w.heap.size + 1) (w.alloc (Obj.cells #[.int .i64 r, .int .i64 (-1)] 44)), s.w.heap[g]? = some (.cells (bigA mem y) 80 (0, 0)) := fun s => (s.h.block g (by have := row_lt hg; omega)).trans (row_lat hg (below_new w _))
  have c0 : ∀ s : Sub (w.heap.size + 1) (w.alloc (Obj.cells #[.int .i64 r, .int .i64 (-1)] 44)), s.w.cell? ⟨g, 256, none⟩ = some (.slice y.m.a y.m.n y.m.c) := fun s => big_cell (rw s) hm 0 _ rfl
  have c1 : ∀ s : Sub (w.heap.size + 1) (w.alloc (Obj.cells #[.int .i64 r, .int .i64 (-1)] 44)), s.w.cell? ⟨g, 257, none⟩ = some (.slice y.r.a y.r.n y.r.c) := fun s => big_cell (rw s) hm 1 _ rfl
  have c2 : ∀ s : Sub (w.heap.size + 1) (w.alloc (Obj.cells #[.int .i64 r, .int .i64 (-1)] 44)), s.w.cell? ⟨g, 258, none⟩ = some (.bool y.n) := fun s => big_cell (rw s) hm 2 _ rfl
  have c3 : ∀ s : Sub (w.heap.size + 1) (w.alloc (Obj.cells #[.int .i64 r, .int .i64 (-1)] 44)), s.w.cell? ⟨g, 259, none⟩ = some (.bool y.z) := fun s => big_cell (rw s) hm 3 _ rfl
  have c4 : ∀ s : Sub (w.heap.size + 1) (w.alloc (Obj.cells #[.int .i64 r, .int .i64 (-1)] 44)), s.w.cell? ⟨g, 260, none⟩ = some (.bool y.v) := fun s => big_cell (rw s) hm 4 _ rfl
  have c5 : ∀ s : Sub (w.heap.size + 1) (w.alloc (Obj.cells #[.int .i64 r, .int .i64 (-1)] 44)), s.w.cell? ⟨g, 261, none⟩ = some (.bool y.c) := fun s => big_cell (rw s) hm 5 _ rfl
  have c6 : ∀ s : Sub (w.heap.size + 1) (w.alloc (Obj.cells #[.int .i64 r, .int .i64 (-1)] 44)), s.w.cell? ⟨g, 262, none⟩ = some (.slice y.i.a y.i.n y.i.c) := fun s => big_cell (rw s) hm 6 _ rfl
  have c7 : ∀ s : Sub (w.heap.size + 1) (w.alloc (Obj.cells #[.int .i64 r, .int .i64 (-1)] 44)), s.w.cell? ⟨g, 263, none⟩ = some (.slice y.o.a y.o.n y.o.c) := fun s => big_cell (rw s) hm 7 _ rfl
  have c8 : ∀ s : Sub (w.heap.size + 1) (w.alloc (Obj.cells #[.int .i64 r, .int .i64 (-1)] 44)), s.w.cell? ⟨g, 264, none⟩ = some (.int .i64 y.st) := fun s => big_cell (rw s) hm 8 _ rfl
  clear rw
  clear hm hg
  go_enter Try.func73, Try.ntmps73
  go_wp2_with fail
  refine wp_region_sub (Sub.top w (Obj.cells #[.int .i64 r, .int .i64 (-1)] 44)) (by kernel_rfl) (by kernel_rfl) ?_
  repeat (go_big_quiet_step (first | (go_at_call 94; exact Sub.call (unhide HZ) (unhide HR _)) | (go_at_call 56; exact Sub.call (unhide HZ) (unhide HA _)) | (go_at_call 82; exact Sub.same (unhide CL _))))
  refine wpQuiet_nil ?_
  intro s
  go_wp2_with fail
  refine wp_region_sub s (by kernel_rfl) (by kernel_rfl) ?_
  repeat (go_big_quiet_step (first | (go_at_call 94; exact Sub.call (unhide HZ) (unhide HR _)) | (go_at_call 56; exact Sub.call (unhide HZ) (unhide HA _)) | (go_at_call 82; exact Sub.same (unhide CL _))))
  refine wpQuiet_nil ?_
  intro s
  go_wp2_with fail
  go_ret
  exact ⟨rfl, unhide HS _ s.h⟩
set_option maxHeartbeats 4000000 in
theorem reach4 (g : Nat) (a : Int) (mem : List Int) (y : Mv) (w : World) (hm : mem.length = 256) (hg : w.heap[g]? = some (.cells (bigA mem y) 80 (0, 0))) (k : Nat) (h2 : a ≠ -1) (h2b : (a == -1) = false) (HA : Hid (∀ w, Calls Try.prog 56 #[.agg y.cs, .int .i64 a] w fun e w' => e = .returned (.bool true) ∧ Below w.heap.size w w')) (CL : Hid (∀ w, Calls Try.prog 82 #[.pointer (some ⟨g, 0, none⟩), .int .i64 a] w fun e w' => e = .returned (.pointer (some ⟨g, k, none⟩)) ∧ w' = w)) :
    Calls Try.prog 73 #[.pointer (some ⟨g, 0, none⟩), .agg #[.int .i64 (-1), .int .i64 a]] w fun e w' => e = .returned (.pointer (some ⟨g, k, none⟩)) ∧ Below w.heap.size w w' := by
  have HS := hide (box_below w (Obj.cells #[.int .i64 (-1), .int .i64 a] 44))
  have HZ := hide (show w.heap.size + 1 ≤ (w.alloc (Obj.cells #[.int .i64 (-1), .int .i64 a] 44)).heap.size by simp)
  have ne := Sub.ne (w.heap.size + 1) (w.alloc (Obj.cells #[.int .i64 (-1), .int .i64 a] 44))
  have b0 : ∀ s : Sub (w.heap.size + 1) (w.alloc (Obj.cells #[.int .i64 (-1), .int .i64 a] 44)), s.w.cell? ⟨w.heap.size, 0, none⟩ = some (.int .i64 (-1)) := fun s => s.cells 0 _ rfl
  have b1 : ∀ s : Sub (w.heap.size + 1) (w.alloc (Obj.cells #[.int .i64 (-1), .int .i64 a] 44)), s.w.cell? ⟨w.heap.size, 1, none⟩ = some (.int .i64 a) := fun s => s.cells 1 _ rfl
  have rw : ∀ s : Sub (w.heap.size + 1) (w.alloc (Obj.cells #[.int .i64 (-1), .int .i64 a] 44)), s.w.heap[g]? = some (.cells (bigA mem y) 80 (0, 0)) := fun s => (s.h.block g (by have := row_lt hg; omega)).trans (row_lat hg (below_new w _))
  have c0 : ∀ s : Sub (w.heap.size + 1) (w.alloc (Obj.cells #[.int .i64 (-1), .int .i64 a] 44)), s.w.cell? ⟨g, 256, none⟩ = some (.slice y.m.a y.m.n y.m.c) := fun s => big_cell (rw s) hm 0 _ rfl
  have c1 : ∀ s : Sub (w.heap.size + 1) (w.alloc (Obj.cells #[.int .i64 (-1), .int .i64 a] 44)), s.w.cell? ⟨g, 257, none⟩ = some (.slice y.r.a y.r.n y.r.c) := fun s => big_cell (rw s) hm 1 _ rfl
  have c2 : ∀ s : Sub (w.heap.size + 1) (w.alloc (Obj.cells #[.int .i64 (-1), .int .i64 a] 44)), s.w.cell? ⟨g, 258, none⟩ = some (.bool y.n) := fun s => big_cell (rw s) hm 2 _ rfl
  have c3 : ∀ s : Sub (w.heap.size + 1) (w.alloc (Obj.cells #[.int .i64 (-1), .int .i64 a] 44)), s.w.cell? ⟨g, 259, none⟩ = some (.bool y.z) := fun s => big_cell (rw s) hm 3 _ rfl
  have c4 : ∀ s : Sub (w.heap.size + 1) (w.alloc (Obj.cells #[.int .i64 (-1), .int .i64 a] 44)), s.w.cell? ⟨g, 260, none⟩ = some (.bool y.v) := fun s => big_cell (rw s) hm 4 _ rfl
  have c5 : ∀ s : Sub (w.heap.size + 1) (w.alloc (Obj.cells #[.int .i64 (-1), .int .i64 a] 44)), s.w.cell? ⟨g, 261, none⟩ = some (.bool y.c) := fun s => big_cell (rw s) hm 5 _ rfl
  have c6 : ∀ s : Sub (w.heap.size + 1) (w.alloc (Obj.cells #[.int .i64 (-1), .int .i64 a] 44)), s.w.cell? ⟨g, 262, none⟩ = some (.slice y.i.a y.i.n y.i.c) := fun s => big_cell (rw s) hm 6 _ rfl
  have c7 : ∀ s : Sub (w.heap.size + 1) (w.alloc (Obj.cells #[.int .i64 (-1), .int .i64 a] 44)), s.w.cell? ⟨g, 263, none⟩ = some (.slice y.o.a y.o.n y.o.c) := fun s => big_cell (rw s) hm 7 _ rfl
  have c8 : ∀ s : Sub (w.heap.size + 1) (w.alloc (Obj.cells #[.int .i64 (-1), .int .i64 a] 44)), s.w.cell? ⟨g, 264, none⟩ = some (.int .i64 y.st) := fun s => big_cell (rw s) hm 8 _ rfl
  clear rw
  clear hm hg
  go_enter Try.func73, Try.ntmps73
  go_wp2_with fail
  refine wp_region_sub (Sub.top w (Obj.cells #[.int .i64 (-1), .int .i64 a] 44)) (by kernel_rfl) (by kernel_rfl) ?_
  repeat (go_big_quiet_step (first | (go_at_call 94; exact Sub.call (unhide HZ) (unhide HR _)) | (go_at_call 56; exact Sub.call (unhide HZ) (unhide HA _)) | (go_at_call 82; exact Sub.same (unhide CL _))))
  refine wpQuiet_nil ?_
  intro s
  go_wp2_with fail
  refine wp_region_sub s (by kernel_rfl) (by kernel_rfl) ?_
  repeat (go_big_quiet_step (first | (go_at_call 94; exact Sub.call (unhide HZ) (unhide HR _)) | (go_at_call 56; exact Sub.call (unhide HZ) (unhide HA _)) | (go_at_call 82; exact Sub.same (unhide CL _))))
  refine wpQuiet_nil ?_
  intro s
  go_wp2_with fail
  refine wp_region_sub s (by kernel_rfl) (by kernel_rfl) ?_
  repeat (go_big_quiet_step (first | (go_at_call 94; exact Sub.call (unhide HZ) (unhide HR _)) | (go_at_call 56; exact Sub.call (unhide HZ) (unhide HA _)) | (go_at_call 82; exact Sub.same (unhide CL _))))
  refine wpQuiet_nil ?_
  intro s
  go_wp2_with fail
  go_ret
  exact ⟨rfl, unhide HS _ s.h⟩
set_option maxHeartbeats 4000000 in
theorem reach5 (g : Nat) (a : Int) (mem : List Int) (y : Mv) (w : World) (hm : mem.length = 256) (hg : w.heap[g]? = some (.cells (bigA mem y) 80 (0, 0))) (h2 : a ≠ -1) (h2b : (a == -1) = false) (HA : Hid (∀ w, Calls Try.prog 56 #[.agg y.cs, .int .i64 a] w fun e w' => e = .returned (.bool false) ∧ Below w.heap.size w w')) :
    Calls Try.prog 73 #[.pointer (some ⟨g, 0, none⟩), .agg #[.int .i64 (-1), .int .i64 a]] w fun e w' => e = .returned (.pointer (none)) ∧ Below w.heap.size w w' := by
  have HS := hide (box_below w (Obj.cells #[.int .i64 (-1), .int .i64 a] 44))
  have HZ := hide (show w.heap.size + 1 ≤ (w.alloc (Obj.cells #[.int .i64 (-1), .int .i64 a] 44)).heap.size by simp)
  have ne := Sub.ne (w.heap.size + 1) (w.alloc (Obj.cells #[.int .i64 (-1), .int .i64 a] 44))
  have b0 : ∀ s : Sub (w.heap.size + 1) (w.alloc (Obj.cells #[.int .i64 (-1), .int .i64 a] 44)), s.w.cell? ⟨w.heap.size, 0, none⟩ = some (.int .i64 (-1)) := fun s => s.cells 0 _ rfl
  have b1 : ∀ s : Sub (w.heap.size + 1) (w.alloc (Obj.cells #[.int .i64 (-1), .int .i64 a] 44)), s.w.cell? ⟨w.heap.size, 1, none⟩ = some (.int .i64 a) := fun s => s.cells 1 _ rfl
  have rw : ∀ s : Sub (w.heap.size + 1) (w.alloc (Obj.cells #[.int .i64 (-1), .int .i64 a] 44)), s.w.heap[g]? = some (.cells (bigA mem y) 80 (0, 0)) := fun s => (s.h.block g (by have := row_lt hg; omega)).trans (row_lat hg (below_new w _))
  have c0 : ∀ s : Sub (w.heap.size + 1) (w.alloc (Obj.cells #[.int .i64 (-1), .int .i64 a] 44)), s.w.cell? ⟨g, 256, none⟩ = some (.slice y.m.a y.m.n y.m.c) := fun s => big_cell (rw s) hm 0 _ rfl
  have c1 : ∀ s : Sub (w.heap.size + 1) (w.alloc (Obj.cells #[.int .i64 (-1), .int .i64 a] 44)), s.w.cell? ⟨g, 257, none⟩ = some (.slice y.r.a y.r.n y.r.c) := fun s => big_cell (rw s) hm 1 _ rfl
  have c2 : ∀ s : Sub (w.heap.size + 1) (w.alloc (Obj.cells #[.int .i64 (-1), .int .i64 a] 44)), s.w.cell? ⟨g, 258, none⟩ = some (.bool y.n) := fun s => big_cell (rw s) hm 2 _ rfl
  have c3 : ∀ s : Sub (w.heap.size + 1) (w.alloc (Obj.cells #[.int .i64 (-1), .int .i64 a] 44)), s.w.cell? ⟨g, 259, none⟩ = some (.bool y.z) := fun s => big_cell (rw s) hm 3 _ rfl
  have c4 : ∀ s : Sub (w.heap.size + 1) (w.alloc (Obj.cells #[.int .i64 (-1), .int .i64 a] 44)), s.w.cell? ⟨g, 260, none⟩ = some (.bool y.v) := fun s => big_cell (rw s) hm 4 _ rfl
  have c5 : ∀ s : Sub (w.heap.size + 1) (w.alloc (Obj.cells #[.int .i64 (-1), .int .i64 a] 44)), s.w.cell? ⟨g, 261, none⟩ = some (.bool y.c) := fun s => big_cell (rw s) hm 5 _ rfl
  have c6 : ∀ s : Sub (w.heap.size + 1) (w.alloc (Obj.cells #[.int .i64 (-1), .int .i64 a] 44)), s.w.cell? ⟨g, 262, none⟩ = some (.slice y.i.a y.i.n y.i.c) := fun s => big_cell (rw s) hm 6 _ rfl
  have c7 : ∀ s : Sub (w.heap.size + 1) (w.alloc (Obj.cells #[.int .i64 (-1), .int .i64 a] 44)), s.w.cell? ⟨g, 263, none⟩ = some (.slice y.o.a y.o.n y.o.c) := fun s => big_cell (rw s) hm 7 _ rfl
  have c8 : ∀ s : Sub (w.heap.size + 1) (w.alloc (Obj.cells #[.int .i64 (-1), .int .i64 a] 44)), s.w.cell? ⟨g, 264, none⟩ = some (.int .i64 y.st) := fun s => big_cell (rw s) hm 8 _ rfl
  clear rw
  clear hm hg
  go_enter Try.func73, Try.ntmps73
  go_wp2_with fail
  refine wp_region_sub (Sub.top w (Obj.cells #[.int .i64 (-1), .int .i64 a] 44)) (by kernel_rfl) (by kernel_rfl) ?_
  repeat (go_big_quiet_step (first | (go_at_call 94; exact Sub.call (unhide HZ) (unhide HR _)) | (go_at_call 56; exact Sub.call (unhide HZ) (unhide HA _)) | (go_at_call 82; exact Sub.same (unhide CL _))))
  refine wpQuiet_nil ?_
  intro s
  go_wp2_with fail
  refine wp_region_sub s (by kernel_rfl) (by kernel_rfl) ?_
  repeat (go_big_quiet_step (first | (go_at_call 94; exact Sub.call (unhide HZ) (unhide HR _)) | (go_at_call 56; exact Sub.call (unhide HZ) (unhide HA _)) | (go_at_call 82; exact Sub.same (unhide CL _))))
  refine wpQuiet_nil ?_
  intro s
  go_wp2_with fail
  go_ret
  exact ⟨rfl, unhide HS _ s.h⟩
set_option maxHeartbeats 4000000 in
theorem reach6 (g : Nat) (r : Int) (a : Int) (mem : List Int) (y : Mv) (w : World) (hm : mem.length = 256) (hg : w.heap[g]? = some (.cells (bigA mem y) 80 (0, 0))) (h1 : r ≠ -1) (h1b : (r == -1) = false) (h2 : a ≠ -1) (h2b : (a == -1) = false) :
    Calls Try.prog 73 #[.pointer (some ⟨g, 0, none⟩), .agg #[.int .i64 r, .int .i64 a]] w fun e w' => e = .returned (.pointer (none)) ∧ Below w.heap.size w w' := by
  have HS := hide (box_below w (Obj.cells #[.int .i64 r, .int .i64 a] 44))
  have HZ := hide (show w.heap.size + 1 ≤ (w.alloc (Obj.cells #[.int .i64 r, .int .i64 a] 44)).heap.size by simp)
  have ne := Sub.ne (w.heap.size + 1) (w.alloc (Obj.cells #[.int .i64 r, .int .i64 a] 44))
  have b0 : ∀ s : Sub (w.heap.size + 1) (w.alloc (Obj.cells #[.int .i64 r, .int .i64 a] 44)), s.w.cell? ⟨w.heap.size, 0, none⟩ = some (.int .i64 r) := fun s => s.cells 0 _ rfl
  have b1 : ∀ s : Sub (w.heap.size + 1) (w.alloc (Obj.cells #[.int .i64 r, .int .i64 a] 44)), s.w.cell? ⟨w.heap.size, 1, none⟩ = some (.int .i64 a) := fun s => s.cells 1 _ rfl
  have rw : ∀ s : Sub (w.heap.size + 1) (w.alloc (Obj.cells #[.int .i64 r, .int .i64 a] 44)), s.w.heap[g]? = some (.cells (bigA mem y) 80 (0, 0)) := fun s => (s.h.block g (by have := row_lt hg; omega)).trans (row_lat hg (below_new w _))
  have c0 : ∀ s : Sub (w.heap.size + 1) (w.alloc (Obj.cells #[.int .i64 r, .int .i64 a] 44)), s.w.cell? ⟨g, 256, none⟩ = some (.slice y.m.a y.m.n y.m.c) := fun s => big_cell (rw s) hm 0 _ rfl
  have c1 : ∀ s : Sub (w.heap.size + 1) (w.alloc (Obj.cells #[.int .i64 r, .int .i64 a] 44)), s.w.cell? ⟨g, 257, none⟩ = some (.slice y.r.a y.r.n y.r.c) := fun s => big_cell (rw s) hm 1 _ rfl
  have c2 : ∀ s : Sub (w.heap.size + 1) (w.alloc (Obj.cells #[.int .i64 r, .int .i64 a] 44)), s.w.cell? ⟨g, 258, none⟩ = some (.bool y.n) := fun s => big_cell (rw s) hm 2 _ rfl
  have c3 : ∀ s : Sub (w.heap.size + 1) (w.alloc (Obj.cells #[.int .i64 r, .int .i64 a] 44)), s.w.cell? ⟨g, 259, none⟩ = some (.bool y.z) := fun s => big_cell (rw s) hm 3 _ rfl
  have c4 : ∀ s : Sub (w.heap.size + 1) (w.alloc (Obj.cells #[.int .i64 r, .int .i64 a] 44)), s.w.cell? ⟨g, 260, none⟩ = some (.bool y.v) := fun s => big_cell (rw s) hm 4 _ rfl
  have c5 : ∀ s : Sub (w.heap.size + 1) (w.alloc (Obj.cells #[.int .i64 r, .int .i64 a] 44)), s.w.cell? ⟨g, 261, none⟩ = some (.bool y.c) := fun s => big_cell (rw s) hm 5 _ rfl
  have c6 : ∀ s : Sub (w.heap.size + 1) (w.alloc (Obj.cells #[.int .i64 r, .int .i64 a] 44)), s.w.cell? ⟨g, 262, none⟩ = some (.slice y.i.a y.i.n y.i.c) := fun s => big_cell (rw s) hm 6 _ rfl
  have c7 : ∀ s : Sub (w.heap.size + 1) (w.alloc (Obj.cells #[.int .i64 r, .int .i64 a] 44)), s.w.cell? ⟨g, 263, none⟩ = some (.slice y.o.a y.o.n y.o.c) := fun s => big_cell (rw s) hm 7 _ rfl
  have c8 : ∀ s : Sub (w.heap.size + 1) (w.alloc (Obj.cells #[.int .i64 r, .int .i64 a] 44)), s.w.cell? ⟨g, 264, none⟩ = some (.int .i64 y.st) := fun s => big_cell (rw s) hm 8 _ rfl
  clear rw
  clear hm hg
  go_enter Try.func73, Try.ntmps73
  go_wp2_with fail
  refine wp_region_sub (Sub.top w (Obj.cells #[.int .i64 r, .int .i64 a] 44)) (by kernel_rfl) (by kernel_rfl) ?_
  repeat (go_big_quiet_step (first | (go_at_call 94; exact Sub.call (unhide HZ) (unhide HR _)) | (go_at_call 56; exact Sub.call (unhide HZ) (unhide HA _)) | (go_at_call 82; exact Sub.same (unhide CL _))))
  refine wpQuiet_nil ?_
  intro s
  go_wp2_with fail
  refine wp_region_sub s (by kernel_rfl) (by kernel_rfl) ?_
  repeat (go_big_quiet_step (first | (go_at_call 94; exact Sub.call (unhide HZ) (unhide HR _)) | (go_at_call 56; exact Sub.call (unhide HZ) (unhide HA _)) | (go_at_call 82; exact Sub.same (unhide CL _))))
  refine wpQuiet_nil ?_
  intro s
  go_wp2_with fail
  go_ret
  exact ⟨rfl, unhide HS _ s.h⟩
end Go.Proofs.Ytfkmibgamkignaa
