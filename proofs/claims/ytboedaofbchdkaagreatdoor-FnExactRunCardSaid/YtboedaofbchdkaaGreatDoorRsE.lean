/- Contracts over this seat's translation, laid together; conditions stand as hypotheses of each. -/
import Derived.Test.YtboedaofbchdkaaGreatDoorRsD
namespace Go.Proofs.YtboedaofbchdkaaGreatDoor
open Go.ChangeShapes Go.WideShapes Go.ChangeAt Go.RowKit
set_option maxHeartbeats 16000000
set_option linter.unusedVariables false
set_option maxRecDepth 8000
set_option linter.unusedSimpArgs false
section
theorem cellP_lat {w w' : World} {p : Addr} {v : Value} (h : w.cell? p = some v) (hb : Below w.heap.size w w') : w'.cell? p = some v :=
 (hb.cell (p := p) (World.block_lt_of_cell? w p h)).trans h
theorem nAt_set_same (l : List Int) (k : Nat) (v : Int) (h : k < l.length) : nAt (l.set k v) k = v := by
 unfold nAt
 simp [List.getElem?_set, h]
def Md.R8 (d : Md) : Prop := d.r.length = 8 ∧ ∀ j, j < 8 → 0 ≤ nAt d.r j ∧ nAt d.r j ≤ 65535
theorem nAt_set_ne (l : List Int) (k j : Nat) (v : Int) (h : j ≠ k) : nAt (l.set k v) j = nAt l j := by
 unfold nAt
 rw [List.getD_eq_getElem?_getD, List.getD_eq_getElem?_getD, List.getElem?_set, if_neg (fun e => h e.symm)]
theorem reg_r8 {d : Md} (h : d.R8) (k : Nat) (v : Int) : (d.reg k (v % 65536)).R8 := by
 refine ⟨by unfold Md.reg; rw [List.length_set]; exact h.1, fun j hj => ?_⟩
 unfold Md.reg
 by_cases e : j = k
 ·
  subst e
  simp only
  rw [nAt_set_same _ _ _ (by rw [h.1]; exact hj)]
  omega
 ·
  simp only
  rw [nAt_set_ne _ _ _ _ e]
  exact h.2 j hj
theorem fet_r8 {d : Md} (h : d.R8) : d.fet.R8 := by
 unfold Md.fet
 split
 · exact reg_r8 h 7 _
 · exact h
def Md.adD (d : Md) (mo re : Nat) : Md := if mo = 1 then d else if mo = 2 ∨ mo = 3 then d.reg re ((nAt d.r re + 2) % 65536) else if mo = 4 ∨ mo = 5 then d.reg re ((nAt d.r re - 2) % 65536) else d.fet
def Md.adV (d : Md) (mo re : Nat) : Int := if mo = 1 then nAt d.r re else if mo = 2 ∨ mo = 3 then nAt d.r re else if mo = 4 ∨ mo = 5 then (nAt d.r re - 2) % 65536 else (d.get (nAt d.r 7) + nAt d.fet.r re) % 65536
def Md.adO (d : Md) (mo re : Nat) : Bool := if mo = 1 then true else if mo = 2 ∨ mo = 3 then true else if mo = 4 ∨ mo = 5 then true else d.has (nAt d.r 7)
section
variable (g B gr rc mo re : Nat) (X : Int) (x : Mv) (d : Md) (w : World)
def AtIs : Prop := Calls Tryz.prog 49 #[.pointer (some ⟨g, 0, none⟩), .agg #[.int .i64 (mo : Int), .int .i64 (re : Int), .int .i64 X]] w fun e w' => e = .returned (.tuple #[.int .i64 (d.adV mo re), .bool (d.adO mo re)]) ∧ Pm w' g B gr rc x (d.adD mo re) ∧ w.grownBy w' (some gr)
theorem atS_1 (P : Pm w g B gr rc x d) (h8 : d.R8) (hr : re < 8) (hs : x.small) (hx : 0 ≤ d.get (nAt d.r 7) ∧ d.get (nAt d.r 7) ≤ 65535) : AtIs g B gr rc 1 re X x d w := by
 have e1 : d.adV 1 re = nAt d.r re := rfl
 have e2 : d.adO 1 re = true := rfl
 have e3 : d.adD 1 re = d := rfl
 unfold AtIs
 rw [e1, e2, e3]
 clear e1 e2 e3
 have H8 := hide h8
 have CC := hide (fun v (h : Pm v g B gr rc x d) => (show v.cell? ⟨g, 1, none⟩ = some (.slice (some ⟨gr, 0, none⟩) 8 rc) ∧ v.cell? ⟨gr, re, none⟩ = some (.int .i64 (nAt d.r re)) by rw [h.r, h.cell re (by rw [h8.1]; exact hr), h8.1]; exact ⟨rfl, rfl⟩))
 obtain ⟨v0, v1⟩ := h8.2 re hr
 have hrl : (re : Int) < 8 := by omega
 have PM := hide (P.later (below_new w (.cells #[.int .i64 1, .int .i64 (re : Int), .int .i64 X] 46)))
 have BX := hide (show (w.alloc (.cells #[.int .i64 1, .int .i64 (re : Int), .int .i64 X] 46)).heap[w.heap.size]? = some (.cells #[.int .i64 1, .int .i64 (re : Int), .int .i64 X] 46 (0, 0)) from heap_alloc_last w _)
 have BO := hide ((cell_of_row _ _ 1 _ 46 _ (uh BX)).trans (show _ = some (Value.int .i64 (re : Int)) from rfl))
 have GW := hide (show w.grownBy (w.alloc (.cells #[.int .i64 1, .int .i64 (re : Int), .int .i64 X] 46)) (some gr) from World.grownBy_alloc w _ _)
 have BNE := hide (show gr ≠ w.heap.size from Nat.ne_of_lt (own_rlt P.own P.er))
 clear P h8
 go_enter Tryz.func49, Tryz.ntmps49
 go_wp2_with fail
 generalize hbo : w.heap.size = bo at BX BO BNE ⊢
 generalize hwb : w.alloc (Obj.cells #[.int .i64 1, .int .i64 (re : Int), .int .i64 X] 46) = wb at PM BX BO GW ⊢
 clear hbo hwb
 refine wp_region_held_drew (S := fun v => Pm v g B gr rc x d ∧ v.cell? ⟨bo, 1, none⟩ = some (.int .i64 (re : Int))) (by kernel_rfl) (⟨(uh PM).later below_drew, cellP_lat (uh BO) below_drew⟩) (fun hS => ?_)
 have HS := hide hS
 clear hS
 refine tkB 0 (.pointer (some ⟨g, 0, none⟩)) rfl (uh HS) ?_
 go_simp
 refine tkB 1 (.pointer (some ⟨g, 0, none⟩)) rfl (uh HS) ?_
 go_simp
 refine tkB 2 (.pointer (some ⟨g, 1, none⟩)) rfl (uh HS) ?_
 go_simp
 refine tkA 3 (.slice (some ⟨gr, 0, none⟩) 8 rc) rfl (.inl ⟨by rfl, fun w hc => ?_⟩) (uh HS) ?_
 · obtain ⟨h1, h2⟩ := uh CC _ hc.1; have h3 := hc.2; clear hc; go_simp
 go_simp
 refine tkB 4 (.pointer (some ⟨bo, 1, none⟩)) rfl (uh HS) ?_
 go_simp
 refine tkA 5 (.int .i64 (re : Int)) rfl (.inl ⟨by rfl, fun w hc => ?_⟩) (uh HS) ?_
 · obtain ⟨h1, h2⟩ := uh CC _ hc.1; have h3 := hc.2; clear hc; go_simp
 go_simp
 refine tkB 6 (.pointer (some ⟨gr, re, none⟩)) rfl (uh HS) ?_
 go_simp
 refine tkA 7 (.int .i64 (nAt d.r re)) rfl (.inl ⟨by rfl, fun w hc => ?_⟩) (uh HS) ?_
 · obtain ⟨h1, h2⟩ := uh CC _ hc.1; have h3 := hc.2; clear hc; go_simp
 go_simp
 refine tkB 8 (.int .i64 (nAt d.r re)) rfl (uh HS) ?_
 go_simp
 refine tkB 9 (.bool true) rfl (uh HS) ?_
 go_simp
 refine wpAnyH_done (by kernel_rfl) ?_ _
 have T_ := hide ((uh GW).trans (show wb.grownBy wb.drew (some gr) from ⟨rfl, rfl, rfl, Nat.le_refl _, fun _ _ _ => rfl⟩))
 clear GW
 have GW := hide (uh T_)
 clear T_
 have PM2 := hide (uh HS).1
 clear HS
 go_wp2_with fail
 go_ret2
 exact ⟨rfl, uh PM2, uh GW⟩
theorem atS_2 (P : Pm w g B gr rc x d) (h8 : d.R8) (hr : re < 8) (hs : x.small) (hx : 0 ≤ d.get (nAt d.r 7) ∧ d.get (nAt d.r 7) ≤ 65535) : AtIs g B gr rc 2 re X x d w := by
 have e1 : d.adV 2 re = nAt d.r re := rfl
 have e2 : d.adO 2 re = true := rfl
 have e3 : d.adD 2 re = d.reg re ((nAt d.r re + 2) % 65536) := rfl
 unfold AtIs
 rw [e1, e2, e3]
 clear e1 e2 e3
 have H8 := hide h8
 have CC := hide (fun v (h : Pm v g B gr rc x d) => (show v.cell? ⟨g, 1, none⟩ = some (.slice (some ⟨gr, 0, none⟩) 8 rc) ∧ v.cell? ⟨gr, re, none⟩ = some (.int .i64 (nAt d.r re)) by rw [h.r, h.cell re (by rw [h8.1]; exact hr), h8.1]; exact ⟨rfl, rfl⟩))
 obtain ⟨v0, v1⟩ := h8.2 re hr
 have hrl : (re : Int) < 8 := by omega
 have PM := hide (P.later (below_new w (.cells #[.int .i64 2, .int .i64 (re : Int), .int .i64 X] 46)))
 have BX := hide (show (w.alloc (.cells #[.int .i64 2, .int .i64 (re : Int), .int .i64 X] 46)).heap[w.heap.size]? = some (.cells #[.int .i64 2, .int .i64 (re : Int), .int .i64 X] 46 (0, 0)) from heap_alloc_last w _)
 have BO := hide ((cell_of_row _ _ 1 _ 46 _ (uh BX)).trans (show _ = some (Value.int .i64 (re : Int)) from rfl))
 have GW := hide (show w.grownBy (w.alloc (.cells #[.int .i64 2, .int .i64 (re : Int), .int .i64 X] 46)) (some gr) from World.grownBy_alloc w _ _)
 have BNE := hide (show gr ≠ w.heap.size from Nat.ne_of_lt (own_rlt P.own P.er))
 clear P h8
 go_enter Tryz.func49, Tryz.ntmps49
 go_wp2_with fail
 generalize hbo : w.heap.size = bo at BX BO BNE ⊢
 generalize hwb : w.alloc (Obj.cells #[.int .i64 2, .int .i64 (re : Int), .int .i64 X] 46) = wb at PM BX BO GW ⊢
 clear hbo hwb
 refine wp_region_held_drew (S := fun v => Pm v g B gr rc x d ∧ v.cell? ⟨bo, 1, none⟩ = some (.int .i64 (re : Int))) (by kernel_rfl) (⟨(uh PM).later below_drew, cellP_lat (uh BO) below_drew⟩) (fun hS => ?_)
 have HS := hide hS
 clear hS
 refine tkB 0 (.pointer (some ⟨g, 0, none⟩)) rfl (uh HS) ?_
 go_simp
 refine tkB 1 (.pointer (some ⟨g, 0, none⟩)) rfl (uh HS) ?_
 go_simp
 refine tkB 2 (.pointer (some ⟨g, 1, none⟩)) rfl (uh HS) ?_
 go_simp
 refine tkA 3 (.slice (some ⟨gr, 0, none⟩) 8 rc) rfl (.inl ⟨by rfl, fun w hc => ?_⟩) (uh HS) ?_
 · obtain ⟨h1, h2⟩ := uh CC _ hc.1; have h3 := hc.2; clear hc; go_simp
 go_simp
 refine tkB 4 (.pointer (some ⟨bo, 1, none⟩)) rfl (uh HS) ?_
 go_simp
 refine tkA 5 (.int .i64 (re : Int)) rfl (.inl ⟨by rfl, fun w hc => ?_⟩) (uh HS) ?_
 · obtain ⟨h1, h2⟩ := uh CC _ hc.1; have h3 := hc.2; clear hc; go_simp
 go_simp
 refine tkB 6 (.pointer (some ⟨gr, re, none⟩)) rfl (uh HS) ?_
 go_simp
 refine tkA 7 (.int .i64 (nAt d.r re)) rfl (.inl ⟨by rfl, fun w hc => ?_⟩) (uh HS) ?_
 · obtain ⟨h1, h2⟩ := uh CC _ hc.1; have h3 := hc.2; clear hc; go_simp
 go_simp
 refine tkB 8 (.int .i64 (nAt d.r re)) rfl (uh HS) ?_
 go_simp
 refine wpAnyH_done (by kernel_rfl) ?_ _
 clear PM BO
 have PM := hide (uh HS).1
 have BO := hide (uh HS).2
 clear HS
 have T_ := hide ((uh GW).trans (show wb.grownBy wb.drew (some gr) from ⟨rfl, rfl, rfl, Nat.le_refl _, fun _ _ _ => rfl⟩))
 clear GW
 have GW := hide (uh T_)
 clear T_
 generalize wb.drew = wd at PM BO GW ⊢
 go_wp2_with fail
 obtain ⟨c1, c2⟩ := uh CC _ ((uh PM).later (below_drew (w := wd)))
 obtain ⟨p3, g3, -, c3⟩ := ((uh PM).later (below_drew (w := wd))).set re ((nAt d.r re + 2) % 65536) (by rw [(uh H8).1]; exact hr)
 have P3 := hide p3
 have G3 := hide ((uh GW).trans ((show wd.grownBy wd.drew (some gr) from ⟨rfl, rfl, rfl, Nat.le_refl _, fun _ _ _ => rfl⟩).trans g3))
 have B1 := hide (cellP_lat (uh BO) (below_drew (w := wd)))
 have C1 := hide (And.intro c1 (uh B1))
 have C2 := hide (And.intro c2 c3)
 have E3 := hide (show (wd.drew.setCell ⟨gr, re, none⟩ (.int .i64 ((nAt d.r re + 2) % 65536))).cell? ⟨g, 1, none⟩ = some (Value.slice (some ⟨gr, 0, none⟩) 8 rc) ∧ (wd.drew.setCell ⟨gr, re, none⟩ (.int .i64 ((nAt d.r re + 2) % 65536))).cell? ⟨bo, 1, none⟩ = some (Value.int .i64 (re : Int)) from ⟨by have := p3.r; unfold Md.reg at this; rw [List.length_set, (uh H8).1] at this; exact this, (World.cell?_setCell_far _ _ _ _ (uh BNE)).trans (uh B1)⟩)
 have WR := hide (fun w => wrapS_any (nAt d.r re + 2) w)
 have HW := hide (show IntKind.i64.wrap (nAt d.r re + 2) = nAt d.r re + 2 by rw [IntKind.wrap_i64]; omega)
 obtain ⟨t, ht⟩ : ∃ t, (nAt d.r re + 2) % 65536 = t := ⟨_, rfl⟩
 rw [ht] at P3 G3 E3 WR
 have HT := hide ht
 clear ht p3 g3 c1 c2 c3 GW PM BO B1
 refine wp_region_held_drew (S := fun v => v.cell? ⟨g, 1, none⟩ = some (.slice (some ⟨gr, 0, none⟩) 8 rc) ∧ v.cell? ⟨bo, 1, none⟩ = some (.int .i64 (re : Int))) (by kernel_rfl) (uh C1) (fun hS => ?_)
 have HS := hide hS
 clear hS
 refine tkB 0 (.pointer (some ⟨g, 0, none⟩)) rfl (uh HS) ?_
 go_simp
 refine tkB 1 (.pointer (some ⟨g, 0, none⟩)) rfl (uh HS) ?_
 go_simp
 refine tkB 2 (.pointer (some ⟨g, 1, none⟩)) rfl (uh HS) ?_
 go_simp
 refine tkA 3 (.slice (some ⟨gr, 0, none⟩) 8 rc) rfl (.inl ⟨by rfl, fun w hc => ?_⟩) (uh HS) ?_
 · obtain ⟨h1, h2⟩ := hc; go_simp
 go_simp
 refine tkB 4 (.pointer (some ⟨bo, 1, none⟩)) rfl (uh HS) ?_
 go_simp
 refine tkA 5 (.int .i64 (re : Int)) rfl (.inl ⟨by rfl, fun w hc => ?_⟩) (uh HS) ?_
 · obtain ⟨h1, h2⟩ := hc; go_simp
 go_simp
 refine tkB 6 (.int .i64 (nAt d.r re)) rfl (uh HS) ?_
 go_simp
 refine tkA 7 (.int .i64 (nAt d.r re + 2)) rfl (.inl ⟨by rfl, fun w hc => ?_⟩) (uh HS) ?_
 · clear hc; have hw := uh HW; go_simp
 go_simp
 refine wpAnyH_ready (rs := [8]) (by kernel_rfl) (by simp) ?_
 refine AllReadyH.cons rfl (fun K2 hK => ?_) AllReadyH.nil
 go_simp
 refine (uh WR _).mono ?_
 rintro e w' ⟨rfl, hw'⟩
 rw [hw']
 clear hw' w'
 refine hK.out _ _ (uh C1) (fun hS => ?_)
 clear HS
 have HS := hide hS
 clear hS hK K2
 refine tkB 9 (.pointer (some ⟨gr, re, none⟩)) rfl (uh HS) ?_
 go_simp
 refine wpAnyH_ready (rs := [10]) (by kernel_rfl) (by simp) ?_
 refine AllReadyH.cons rfl (fun K2 hK => ?_) AllReadyH.nil
 obtain ⟨c2, c3⟩ := uh C2
 go_simp
 clear c2 c3
 refine hK.out _ _ (uh E3) (fun hS => ?_)
 clear HS
 have HS := hide hS
 clear hS hK K2
 refine wpAnyH_done (by kernel_rfl) ?_ _
 clear HS
 go_wp2_with fail
 go_ret2
 refine ⟨rfl, ?_, uh G3⟩
 rw [uh HT]
 exact uh P3
theorem atS_3 (P : Pm w g B gr rc x d) (h8 : d.R8) (hr : re < 8) (hs : x.small) (hx : 0 ≤ d.get (nAt d.r 7) ∧ d.get (nAt d.r 7) ≤ 65535) : AtIs g B gr rc 3 re X x d w := by
 have e1 : d.adV 3 re = nAt d.r re := rfl
 have e2 : d.adO 3 re = true := rfl
 have e3 : d.adD 3 re = d.reg re ((nAt d.r re + 2) % 65536) := rfl
 unfold AtIs
 rw [e1, e2, e3]
 clear e1 e2 e3
 have H8 := hide h8
 have CC := hide (fun v (h : Pm v g B gr rc x d) => (show v.cell? ⟨g, 1, none⟩ = some (.slice (some ⟨gr, 0, none⟩) 8 rc) ∧ v.cell? ⟨gr, re, none⟩ = some (.int .i64 (nAt d.r re)) by rw [h.r, h.cell re (by rw [h8.1]; exact hr), h8.1]; exact ⟨rfl, rfl⟩))
 obtain ⟨v0, v1⟩ := h8.2 re hr
 have hrl : (re : Int) < 8 := by omega
 have PM := hide (P.later (below_new w (.cells #[.int .i64 3, .int .i64 (re : Int), .int .i64 X] 46)))
 have BX := hide (show (w.alloc (.cells #[.int .i64 3, .int .i64 (re : Int), .int .i64 X] 46)).heap[w.heap.size]? = some (.cells #[.int .i64 3, .int .i64 (re : Int), .int .i64 X] 46 (0, 0)) from heap_alloc_last w _)
 have BO := hide ((cell_of_row _ _ 1 _ 46 _ (uh BX)).trans (show _ = some (Value.int .i64 (re : Int)) from rfl))
 have GW := hide (show w.grownBy (w.alloc (.cells #[.int .i64 3, .int .i64 (re : Int), .int .i64 X] 46)) (some gr) from World.grownBy_alloc w _ _)
 have BNE := hide (show gr ≠ w.heap.size from Nat.ne_of_lt (own_rlt P.own P.er))
 clear P h8
 go_enter Tryz.func49, Tryz.ntmps49
 go_wp2_with fail
 generalize hbo : w.heap.size = bo at BX BO BNE ⊢
 generalize hwb : w.alloc (Obj.cells #[.int .i64 3, .int .i64 (re : Int), .int .i64 X] 46) = wb at PM BX BO GW ⊢
 clear hbo hwb
 refine wp_region_held_drew (S := fun v => Pm v g B gr rc x d ∧ v.cell? ⟨bo, 1, none⟩ = some (.int .i64 (re : Int))) (by kernel_rfl) (⟨(uh PM).later below_drew, cellP_lat (uh BO) below_drew⟩) (fun hS => ?_)
 have HS := hide hS
 clear hS
 refine tkB 0 (.pointer (some ⟨g, 0, none⟩)) rfl (uh HS) ?_
 go_simp
 refine tkB 1 (.pointer (some ⟨g, 0, none⟩)) rfl (uh HS) ?_
 go_simp
 refine tkB 2 (.pointer (some ⟨g, 1, none⟩)) rfl (uh HS) ?_
 go_simp
 refine tkA 3 (.slice (some ⟨gr, 0, none⟩) 8 rc) rfl (.inl ⟨by rfl, fun w hc => ?_⟩) (uh HS) ?_
 · obtain ⟨h1, h2⟩ := uh CC _ hc.1; have h3 := hc.2; clear hc; go_simp
 go_simp
 refine tkB 4 (.pointer (some ⟨bo, 1, none⟩)) rfl (uh HS) ?_
 go_simp
 refine tkA 5 (.int .i64 (re : Int)) rfl (.inl ⟨by rfl, fun w hc => ?_⟩) (uh HS) ?_
 · obtain ⟨h1, h2⟩ := uh CC _ hc.1; have h3 := hc.2; clear hc; go_simp
 go_simp
 refine tkB 6 (.pointer (some ⟨gr, re, none⟩)) rfl (uh HS) ?_
 go_simp
 refine tkA 7 (.int .i64 (nAt d.r re)) rfl (.inl ⟨by rfl, fun w hc => ?_⟩) (uh HS) ?_
 · obtain ⟨h1, h2⟩ := uh CC _ hc.1; have h3 := hc.2; clear hc; go_simp
 go_simp
 refine tkB 8 (.int .i64 (nAt d.r re)) rfl (uh HS) ?_
 go_simp
 refine wpAnyH_done (by kernel_rfl) ?_ _
 clear PM BO
 have PM := hide (uh HS).1
 have BO := hide (uh HS).2
 clear HS
 have T_ := hide ((uh GW).trans (show wb.grownBy wb.drew (some gr) from ⟨rfl, rfl, rfl, Nat.le_refl _, fun _ _ _ => rfl⟩))
 clear GW
 have GW := hide (uh T_)
 clear T_
 generalize wb.drew = wd at PM BO GW ⊢
 go_wp2_with fail
 obtain ⟨c1, c2⟩ := uh CC _ ((uh PM).later (below_drew (w := wd)))
 obtain ⟨p3, g3, -, c3⟩ := ((uh PM).later (below_drew (w := wd))).set re ((nAt d.r re + 2) % 65536) (by rw [(uh H8).1]; exact hr)
 have P3 := hide p3
 have G3 := hide ((uh GW).trans ((show wd.grownBy wd.drew (some gr) from ⟨rfl, rfl, rfl, Nat.le_refl _, fun _ _ _ => rfl⟩).trans g3))
 have B1 := hide (cellP_lat (uh BO) (below_drew (w := wd)))
 have C1 := hide (And.intro c1 (uh B1))
 have C2 := hide (And.intro c2 c3)
 have E3 := hide (show (wd.drew.setCell ⟨gr, re, none⟩ (.int .i64 ((nAt d.r re + 2) % 65536))).cell? ⟨g, 1, none⟩ = some (Value.slice (some ⟨gr, 0, none⟩) 8 rc) ∧ (wd.drew.setCell ⟨gr, re, none⟩ (.int .i64 ((nAt d.r re + 2) % 65536))).cell? ⟨bo, 1, none⟩ = some (Value.int .i64 (re : Int)) from ⟨by have := p3.r; unfold Md.reg at this; rw [List.length_set, (uh H8).1] at this; exact this, (World.cell?_setCell_far _ _ _ _ (uh BNE)).trans (uh B1)⟩)
 have WR := hide (fun w => wrapS_any (nAt d.r re + 2) w)
 have HW := hide (show IntKind.i64.wrap (nAt d.r re + 2) = nAt d.r re + 2 by rw [IntKind.wrap_i64]; omega)
 obtain ⟨t, ht⟩ : ∃ t, (nAt d.r re + 2) % 65536 = t := ⟨_, rfl⟩
 rw [ht] at P3 G3 E3 WR
 have HT := hide ht
 clear ht p3 g3 c1 c2 c3 GW PM BO B1
 refine wp_region_held_drew (S := fun v => v.cell? ⟨g, 1, none⟩ = some (.slice (some ⟨gr, 0, none⟩) 8 rc) ∧ v.cell? ⟨bo, 1, none⟩ = some (.int .i64 (re : Int))) (by kernel_rfl) (uh C1) (fun hS => ?_)
 have HS := hide hS
 clear hS
 refine tkB 0 (.pointer (some ⟨g, 0, none⟩)) rfl (uh HS) ?_
 go_simp
 refine tkB 1 (.pointer (some ⟨g, 0, none⟩)) rfl (uh HS) ?_
 go_simp
 refine tkB 2 (.pointer (some ⟨g, 1, none⟩)) rfl (uh HS) ?_
 go_simp
 refine tkA 3 (.slice (some ⟨gr, 0, none⟩) 8 rc) rfl (.inl ⟨by rfl, fun w hc => ?_⟩) (uh HS) ?_
 · obtain ⟨h1, h2⟩ := hc; go_simp
 go_simp
 refine tkB 4 (.pointer (some ⟨bo, 1, none⟩)) rfl (uh HS) ?_
 go_simp
 refine tkA 5 (.int .i64 (re : Int)) rfl (.inl ⟨by rfl, fun w hc => ?_⟩) (uh HS) ?_
 · obtain ⟨h1, h2⟩ := hc; go_simp
 go_simp
 refine tkB 6 (.int .i64 (nAt d.r re)) rfl (uh HS) ?_
 go_simp
 refine tkA 7 (.int .i64 (nAt d.r re + 2)) rfl (.inl ⟨by rfl, fun w hc => ?_⟩) (uh HS) ?_
 · clear hc; have hw := uh HW; go_simp
 go_simp
 refine wpAnyH_ready (rs := [8]) (by kernel_rfl) (by simp) ?_
 refine AllReadyH.cons rfl (fun K2 hK => ?_) AllReadyH.nil
 go_simp
 refine (uh WR _).mono ?_
 rintro e w' ⟨rfl, hw'⟩
 rw [hw']
 clear hw' w'
 refine hK.out _ _ (uh C1) (fun hS => ?_)
 clear HS
 have HS := hide hS
 clear hS hK K2
 refine tkB 9 (.pointer (some ⟨gr, re, none⟩)) rfl (uh HS) ?_
 go_simp
 refine wpAnyH_ready (rs := [10]) (by kernel_rfl) (by simp) ?_
 refine AllReadyH.cons rfl (fun K2 hK => ?_) AllReadyH.nil
 obtain ⟨c2, c3⟩ := uh C2
 go_simp
 clear c2 c3
 refine hK.out _ _ (uh E3) (fun hS => ?_)
 clear HS
 have HS := hide hS
 clear hS hK K2
 refine wpAnyH_done (by kernel_rfl) ?_ _
 clear HS
 go_wp2_with fail
 go_ret2
 refine ⟨rfl, ?_, uh G3⟩
 rw [uh HT]
 exact uh P3
theorem atS_4 (P : Pm w g B gr rc x d) (h8 : d.R8) (hr : re < 8) (hs : x.small) (hx : 0 ≤ d.get (nAt d.r 7) ∧ d.get (nAt d.r 7) ≤ 65535) : AtIs g B gr rc 4 re X x d w := by
 have e1 : d.adV 4 re = (nAt d.r re - 2) % 65536 := rfl
 have e2 : d.adO 4 re = true := rfl
 have e3 : d.adD 4 re = d.reg re ((nAt d.r re - 2) % 65536) := rfl
 unfold AtIs
 rw [e1, e2, e3]
 clear e1 e2 e3
 have H8 := hide h8
 have CC := hide (fun v (h : Pm v g B gr rc x d) => (show v.cell? ⟨g, 1, none⟩ = some (.slice (some ⟨gr, 0, none⟩) 8 rc) ∧ v.cell? ⟨gr, re, none⟩ = some (.int .i64 (nAt d.r re)) by rw [h.r, h.cell re (by rw [h8.1]; exact hr), h8.1]; exact ⟨rfl, rfl⟩))
 obtain ⟨v0, v1⟩ := h8.2 re hr
 have hrl : (re : Int) < 8 := by omega
 have PM := hide (P.later (below_new w (.cells #[.int .i64 4, .int .i64 (re : Int), .int .i64 X] 46)))
 have BX := hide (show (w.alloc (.cells #[.int .i64 4, .int .i64 (re : Int), .int .i64 X] 46)).heap[w.heap.size]? = some (.cells #[.int .i64 4, .int .i64 (re : Int), .int .i64 X] 46 (0, 0)) from heap_alloc_last w _)
 have BO := hide ((cell_of_row _ _ 1 _ 46 _ (uh BX)).trans (show _ = some (Value.int .i64 (re : Int)) from rfl))
 have GW := hide (show w.grownBy (w.alloc (.cells #[.int .i64 4, .int .i64 (re : Int), .int .i64 X] 46)) (some gr) from World.grownBy_alloc w _ _)
 have BNE := hide (show gr ≠ w.heap.size from Nat.ne_of_lt (own_rlt P.own P.er))
 clear P h8
 go_enter Tryz.func49, Tryz.ntmps49
 go_wp2_with fail
 generalize hbo : w.heap.size = bo at BX BO BNE ⊢
 generalize hwb : w.alloc (Obj.cells #[.int .i64 4, .int .i64 (re : Int), .int .i64 X] 46) = wb at PM BX BO GW ⊢
 clear hbo hwb
 obtain ⟨c1, c2⟩ := uh CC _ ((uh PM).later (below_drew (w := wb)))
 obtain ⟨p3, g3, -, c3⟩ := ((uh PM).later (below_drew (w := wb))).set re ((nAt d.r re - 2) % 65536) (by rw [(uh H8).1]; exact hr)
 have P3 := hide p3
 have G3 := hide ((uh GW).trans ((show wb.grownBy wb.drew (some gr) from ⟨rfl, rfl, rfl, Nat.le_refl _, fun _ _ _ => rfl⟩).trans g3))
 have B1 := hide (cellP_lat (uh BO) (below_drew (w := wb)))
 have C1 := hide (And.intro c1 (uh B1))
 have C2 := hide (And.intro c2 c3)
 have E3 := hide (show (wb.drew.setCell ⟨gr, re, none⟩ (.int .i64 ((nAt d.r re - 2) % 65536))).cell? ⟨g, 1, none⟩ = some (Value.slice (some ⟨gr, 0, none⟩) 8 rc) ∧ (wb.drew.setCell ⟨gr, re, none⟩ (.int .i64 ((nAt d.r re - 2) % 65536))).cell? ⟨bo, 1, none⟩ = some (Value.int .i64 (re : Int)) from ⟨by have := p3.r; unfold Md.reg at this; rw [List.length_set, (uh H8).1] at this; exact this, (World.cell?_setCell_far _ _ _ _ (uh BNE)).trans (uh B1)⟩)
 have WR := hide (fun w => wrapS_any (nAt d.r re - 2) w)
 have HW := hide (show IntKind.i64.wrap (nAt d.r re - 2) = nAt d.r re - 2 by rw [IntKind.wrap_i64]; omega)
 obtain ⟨t, ht⟩ : ∃ t, (nAt d.r re - 2) % 65536 = t := ⟨_, rfl⟩
 rw [ht] at P3 G3 E3 WR
 have HT := hide ht
 clear ht p3 g3 c1 c2 c3 GW PM BO B1
 refine wp_region_held_drew (S := fun v => v.cell? ⟨g, 1, none⟩ = some (.slice (some ⟨gr, 0, none⟩) 8 rc) ∧ v.cell? ⟨bo, 1, none⟩ = some (.int .i64 (re : Int))) (by kernel_rfl) (uh C1) (fun hS => ?_)
 have HS := hide hS
 clear hS
 refine tkB 0 (.pointer (some ⟨g, 0, none⟩)) rfl (uh HS) ?_
 go_simp
 refine tkB 1 (.pointer (some ⟨g, 0, none⟩)) rfl (uh HS) ?_
 go_simp
 refine tkB 2 (.pointer (some ⟨g, 1, none⟩)) rfl (uh HS) ?_
 go_simp
 refine tkA 3 (.slice (some ⟨gr, 0, none⟩) 8 rc) rfl (.inl ⟨by rfl, fun w hc => ?_⟩) (uh HS) ?_
 · obtain ⟨h1, h2⟩ := hc; go_simp
 go_simp
 refine tkB 4 (.pointer (some ⟨bo, 1, none⟩)) rfl (uh HS) ?_
 go_simp
 refine tkA 5 (.int .i64 (re : Int)) rfl (.inl ⟨by rfl, fun w hc => ?_⟩) (uh HS) ?_
 · obtain ⟨h1, h2⟩ := hc; go_simp
 go_simp
 refine tkB 6 (.pointer (some ⟨g, 0, none⟩)) rfl (uh HS) ?_
 go_simp
 refine tkB 7 (.pointer (some ⟨g, 0, none⟩)) rfl (uh HS) ?_
 go_simp
 refine tkB 8 (.pointer (some ⟨g, 1, none⟩)) rfl (uh HS) ?_
 go_simp
 refine tkA 9 (.slice (some ⟨gr, 0, none⟩) 8 rc) rfl (.inl ⟨by rfl, fun w hc => ?_⟩) (uh HS) ?_
 · obtain ⟨h1, h2⟩ := hc; go_simp
 go_simp
 refine tkB 10 (.pointer (some ⟨bo, 1, none⟩)) rfl (uh HS) ?_
 go_simp
 refine tkA 11 (.int .i64 (re : Int)) rfl (.inl ⟨by rfl, fun w hc => ?_⟩) (uh HS) ?_
 · obtain ⟨h1, h2⟩ := hc; go_simp
 go_simp
 refine tkB 12 (.pointer (some ⟨gr, re, none⟩)) rfl (uh HS) ?_
 go_simp
 refine wpAnyH_ready (rs := [13]) (by kernel_rfl) (by simp) ?_
 refine AllReadyH.cons rfl (fun K2 hK => ?_) AllReadyH.nil
 obtain ⟨c2, c3⟩ := uh C2
 go_simp
 clear c2 c3
 refine hK.out _ _ (uh C1) (fun hS => ?_)
 clear HS
 have HS := hide hS
 clear hS hK K2
 refine tkA 14 (.int .i64 (nAt d.r re - 2)) rfl (.inl ⟨by rfl, fun w hc => ?_⟩) (uh HS) ?_
 · clear hc; have hw := uh HW; go_simp
 go_simp
 refine wpAnyH_ready (rs := [15]) (by kernel_rfl) (by simp) ?_
 refine AllReadyH.cons rfl (fun K2 hK => ?_) AllReadyH.nil
 go_simp
 refine (uh WR _).mono ?_
 rintro e w' ⟨rfl, hw'⟩
 rw [hw']
 clear hw' w'
 refine hK.out _ _ (uh C1) (fun hS => ?_)
 clear HS
 have HS := hide hS
 clear hS hK K2
 refine tkB 16 (.pointer (some ⟨gr, re, none⟩)) rfl (uh HS) ?_
 go_simp
 refine wpAnyH_ready (rs := [17]) (by kernel_rfl) (by simp) ?_
 refine AllReadyH.cons rfl (fun K2 hK => ?_) AllReadyH.nil
 obtain ⟨c2, c3⟩ := uh C2
 go_simp
 clear c2 c3
 refine hK.out _ _ (uh E3) (fun hS => ?_)
 clear HS
 have HS := hide hS
 clear hS hK K2
 refine wpAnyH_done (by kernel_rfl) ?_ _
 clear HS
 generalize hwd : wb.drew.setCell ⟨gr, re, none⟩ (.int .i64 t) = wd at P3 G3 E3
 rw [show (wb.setCell ⟨gr, re, none⟩ (.int .i64 t)).drew = wd from hwd]
 clear hwd C1 C2 CC
 have CC := hide (fun v (h : Pm v g B gr rc x (d.reg re t)) => (show v.cell? ⟨g, 1, none⟩ = some (.slice (some ⟨gr, 0, none⟩) 8 rc) ∧ v.cell? ⟨gr, re, none⟩ = some (.int .i64 t) by rw [h.r, h.cell re (by unfold Md.reg; rw [List.length_set, (uh H8).1]; exact hr)]; unfold Md.reg; rw [List.length_set, (uh H8).1, nAt_set_same _ _ _ (by rw [(uh H8).1]; exact hr)]; exact ⟨rfl, rfl⟩))
 go_wp2_with fail
 refine wp_region_held_drew (S := fun v => Pm v g B gr rc x (d.reg re t) ∧ v.cell? ⟨bo, 1, none⟩ = some (.int .i64 (re : Int))) (by kernel_rfl) (⟨(uh P3).later below_drew, cellP_lat (uh E3).2 below_drew⟩) (fun hS => ?_)
 have HS := hide hS
 clear hS
 refine tkB 0 (.pointer (some ⟨g, 0, none⟩)) rfl (uh HS) ?_
 go_simp
 refine tkB 1 (.pointer (some ⟨g, 0, none⟩)) rfl (uh HS) ?_
 go_simp
 refine tkB 2 (.pointer (some ⟨g, 1, none⟩)) rfl (uh HS) ?_
 go_simp
 refine tkA 3 (.slice (some ⟨gr, 0, none⟩) 8 rc) rfl (.inl ⟨by rfl, fun w hc => ?_⟩) (uh HS) ?_
 · obtain ⟨h1, h2⟩ := uh CC _ hc.1; have h3 := hc.2; clear hc; go_simp
 go_simp
 refine tkB 4 (.pointer (some ⟨bo, 1, none⟩)) rfl (uh HS) ?_
 go_simp
 refine tkA 5 (.int .i64 (re : Int)) rfl (.inl ⟨by rfl, fun w hc => ?_⟩) (uh HS) ?_
 · obtain ⟨h1, h2⟩ := uh CC _ hc.1; have h3 := hc.2; clear hc; go_simp
 go_simp
 refine tkB 6 (.pointer (some ⟨gr, re, none⟩)) rfl (uh HS) ?_
 go_simp
 refine tkA 7 (.int .i64 t) rfl (.inl ⟨by rfl, fun w hc => ?_⟩) (uh HS) ?_
 · obtain ⟨h1, h2⟩ := uh CC _ hc.1; have h3 := hc.2; clear hc; go_simp
 go_simp
 refine tkB 8 (.int .i64 t) rfl (uh HS) ?_
 go_simp
 refine tkB 9 (.bool true) rfl (uh HS) ?_
 go_simp
 refine wpAnyH_done (by kernel_rfl) ?_ _
 have T_ := hide ((uh G3).trans (show wd.grownBy wd.drew (some gr) from ⟨rfl, rfl, rfl, Nat.le_refl _, fun _ _ _ => rfl⟩))
 clear G3
 have G3 := hide (uh T_)
 clear T_
 have PM2 := hide (uh HS).1
 clear HS
 go_wp2_with fail
 go_ret2
 rw [uh HT]
 exact ⟨rfl, uh PM2, uh G3⟩
theorem atS_5 (P : Pm w g B gr rc x d) (h8 : d.R8) (hr : re < 8) (hs : x.small) (hx : 0 ≤ d.get (nAt d.r 7) ∧ d.get (nAt d.r 7) ≤ 65535) : AtIs g B gr rc 5 re X x d w := by
 have e1 : d.adV 5 re = (nAt d.r re - 2) % 65536 := rfl
 have e2 : d.adO 5 re = true := rfl
 have e3 : d.adD 5 re = d.reg re ((nAt d.r re - 2) % 65536) := rfl
 unfold AtIs
 rw [e1, e2, e3]
 clear e1 e2 e3
 have H8 := hide h8
 have CC := hide (fun v (h : Pm v g B gr rc x d) => (show v.cell? ⟨g, 1, none⟩ = some (.slice (some ⟨gr, 0, none⟩) 8 rc) ∧ v.cell? ⟨gr, re, none⟩ = some (.int .i64 (nAt d.r re)) by rw [h.r, h.cell re (by rw [h8.1]; exact hr), h8.1]; exact ⟨rfl, rfl⟩))
 obtain ⟨v0, v1⟩ := h8.2 re hr
 have hrl : (re : Int) < 8 := by omega
 have PM := hide (P.later (below_new w (.cells #[.int .i64 5, .int .i64 (re : Int), .int .i64 X] 46)))
 have BX := hide (show (w.alloc (.cells #[.int .i64 5, .int .i64 (re : Int), .int .i64 X] 46)).heap[w.heap.size]? = some (.cells #[.int .i64 5, .int .i64 (re : Int), .int .i64 X] 46 (0, 0)) from heap_alloc_last w _)
 have BO := hide ((cell_of_row _ _ 1 _ 46 _ (uh BX)).trans (show _ = some (Value.int .i64 (re : Int)) from rfl))
 have GW := hide (show w.grownBy (w.alloc (.cells #[.int .i64 5, .int .i64 (re : Int), .int .i64 X] 46)) (some gr) from World.grownBy_alloc w _ _)
 have BNE := hide (show gr ≠ w.heap.size from Nat.ne_of_lt (own_rlt P.own P.er))
 clear P h8
 go_enter Tryz.func49, Tryz.ntmps49
 go_wp2_with fail
 generalize hbo : w.heap.size = bo at BX BO BNE ⊢
 generalize hwb : w.alloc (Obj.cells #[.int .i64 5, .int .i64 (re : Int), .int .i64 X] 46) = wb at PM BX BO GW ⊢
 clear hbo hwb
 obtain ⟨c1, c2⟩ := uh CC _ ((uh PM).later (below_drew (w := wb)))
 obtain ⟨p3, g3, -, c3⟩ := ((uh PM).later (below_drew (w := wb))).set re ((nAt d.r re - 2) % 65536) (by rw [(uh H8).1]; exact hr)
 have P3 := hide p3
 have G3 := hide ((uh GW).trans ((show wb.grownBy wb.drew (some gr) from ⟨rfl, rfl, rfl, Nat.le_refl _, fun _ _ _ => rfl⟩).trans g3))
 have B1 := hide (cellP_lat (uh BO) (below_drew (w := wb)))
 have C1 := hide (And.intro c1 (uh B1))
 have C2 := hide (And.intro c2 c3)
 have E3 := hide (show (wb.drew.setCell ⟨gr, re, none⟩ (.int .i64 ((nAt d.r re - 2) % 65536))).cell? ⟨g, 1, none⟩ = some (Value.slice (some ⟨gr, 0, none⟩) 8 rc) ∧ (wb.drew.setCell ⟨gr, re, none⟩ (.int .i64 ((nAt d.r re - 2) % 65536))).cell? ⟨bo, 1, none⟩ = some (Value.int .i64 (re : Int)) from ⟨by have := p3.r; unfold Md.reg at this; rw [List.length_set, (uh H8).1] at this; exact this, (World.cell?_setCell_far _ _ _ _ (uh BNE)).trans (uh B1)⟩)
 have WR := hide (fun w => wrapS_any (nAt d.r re - 2) w)
 have HW := hide (show IntKind.i64.wrap (nAt d.r re - 2) = nAt d.r re - 2 by rw [IntKind.wrap_i64]; omega)
 obtain ⟨t, ht⟩ : ∃ t, (nAt d.r re - 2) % 65536 = t := ⟨_, rfl⟩
 rw [ht] at P3 G3 E3 WR
 have HT := hide ht
 clear ht p3 g3 c1 c2 c3 GW PM BO B1
 refine wp_region_held_drew (S := fun v => v.cell? ⟨g, 1, none⟩ = some (.slice (some ⟨gr, 0, none⟩) 8 rc) ∧ v.cell? ⟨bo, 1, none⟩ = some (.int .i64 (re : Int))) (by kernel_rfl) (uh C1) (fun hS => ?_)
 have HS := hide hS
 clear hS
 refine tkB 0 (.pointer (some ⟨g, 0, none⟩)) rfl (uh HS) ?_
 go_simp
 refine tkB 1 (.pointer (some ⟨g, 0, none⟩)) rfl (uh HS) ?_
 go_simp
 refine tkB 2 (.pointer (some ⟨g, 1, none⟩)) rfl (uh HS) ?_
 go_simp
 refine tkA 3 (.slice (some ⟨gr, 0, none⟩) 8 rc) rfl (.inl ⟨by rfl, fun w hc => ?_⟩) (uh HS) ?_
 · obtain ⟨h1, h2⟩ := hc; go_simp
 go_simp
 refine tkB 4 (.pointer (some ⟨bo, 1, none⟩)) rfl (uh HS) ?_
 go_simp
 refine tkA 5 (.int .i64 (re : Int)) rfl (.inl ⟨by rfl, fun w hc => ?_⟩) (uh HS) ?_
 · obtain ⟨h1, h2⟩ := hc; go_simp
 go_simp
 refine tkB 6 (.pointer (some ⟨g, 0, none⟩)) rfl (uh HS) ?_
 go_simp
 refine tkB 7 (.pointer (some ⟨g, 0, none⟩)) rfl (uh HS) ?_
 go_simp
 refine tkB 8 (.pointer (some ⟨g, 1, none⟩)) rfl (uh HS) ?_
 go_simp
 refine tkA 9 (.slice (some ⟨gr, 0, none⟩) 8 rc) rfl (.inl ⟨by rfl, fun w hc => ?_⟩) (uh HS) ?_
 · obtain ⟨h1, h2⟩ := hc; go_simp
 go_simp
 refine tkB 10 (.pointer (some ⟨bo, 1, none⟩)) rfl (uh HS) ?_
 go_simp
 refine tkA 11 (.int .i64 (re : Int)) rfl (.inl ⟨by rfl, fun w hc => ?_⟩) (uh HS) ?_
 · obtain ⟨h1, h2⟩ := hc; go_simp
 go_simp
 refine tkB 12 (.pointer (some ⟨gr, re, none⟩)) rfl (uh HS) ?_
 go_simp
 refine wpAnyH_ready (rs := [13]) (by kernel_rfl) (by simp) ?_
 refine AllReadyH.cons rfl (fun K2 hK => ?_) AllReadyH.nil
 obtain ⟨c2, c3⟩ := uh C2
 go_simp
 clear c2 c3
 refine hK.out _ _ (uh C1) (fun hS => ?_)
 clear HS
 have HS := hide hS
 clear hS hK K2
 refine tkA 14 (.int .i64 (nAt d.r re - 2)) rfl (.inl ⟨by rfl, fun w hc => ?_⟩) (uh HS) ?_
 · clear hc; have hw := uh HW; go_simp
 go_simp
 refine wpAnyH_ready (rs := [15]) (by kernel_rfl) (by simp) ?_
 refine AllReadyH.cons rfl (fun K2 hK => ?_) AllReadyH.nil
 go_simp
 refine (uh WR _).mono ?_
 rintro e w' ⟨rfl, hw'⟩
 rw [hw']
 clear hw' w'
 refine hK.out _ _ (uh C1) (fun hS => ?_)
 clear HS
 have HS := hide hS
 clear hS hK K2
 refine tkB 16 (.pointer (some ⟨gr, re, none⟩)) rfl (uh HS) ?_
 go_simp
 refine wpAnyH_ready (rs := [17]) (by kernel_rfl) (by simp) ?_
 refine AllReadyH.cons rfl (fun K2 hK => ?_) AllReadyH.nil
 obtain ⟨c2, c3⟩ := uh C2
 go_simp
 clear c2 c3
 refine hK.out _ _ (uh E3) (fun hS => ?_)
 clear HS
 have HS := hide hS
 clear hS hK K2
 refine wpAnyH_done (by kernel_rfl) ?_ _
 clear HS
 generalize hwd : wb.drew.setCell ⟨gr, re, none⟩ (.int .i64 t) = wd at P3 G3 E3
 rw [show (wb.setCell ⟨gr, re, none⟩ (.int .i64 t)).drew = wd from hwd]
 clear hwd C1 C2 CC
 have CC := hide (fun v (h : Pm v g B gr rc x (d.reg re t)) => (show v.cell? ⟨g, 1, none⟩ = some (.slice (some ⟨gr, 0, none⟩) 8 rc) ∧ v.cell? ⟨gr, re, none⟩ = some (.int .i64 t) by rw [h.r, h.cell re (by unfold Md.reg; rw [List.length_set, (uh H8).1]; exact hr)]; unfold Md.reg; rw [List.length_set, (uh H8).1, nAt_set_same _ _ _ (by rw [(uh H8).1]; exact hr)]; exact ⟨rfl, rfl⟩))
 go_wp2_with fail
 refine wp_region_held_drew (S := fun v => Pm v g B gr rc x (d.reg re t) ∧ v.cell? ⟨bo, 1, none⟩ = some (.int .i64 (re : Int))) (by kernel_rfl) (⟨(uh P3).later below_drew, cellP_lat (uh E3).2 below_drew⟩) (fun hS => ?_)
 have HS := hide hS
 clear hS
 refine tkB 0 (.pointer (some ⟨g, 0, none⟩)) rfl (uh HS) ?_
 go_simp
 refine tkB 1 (.pointer (some ⟨g, 0, none⟩)) rfl (uh HS) ?_
 go_simp
 refine tkB 2 (.pointer (some ⟨g, 1, none⟩)) rfl (uh HS) ?_
 go_simp
 refine tkA 3 (.slice (some ⟨gr, 0, none⟩) 8 rc) rfl (.inl ⟨by rfl, fun w hc => ?_⟩) (uh HS) ?_
 · obtain ⟨h1, h2⟩ := uh CC _ hc.1; have h3 := hc.2; clear hc; go_simp
 go_simp
 refine tkB 4 (.pointer (some ⟨bo, 1, none⟩)) rfl (uh HS) ?_
 go_simp
 refine tkA 5 (.int .i64 (re : Int)) rfl (.inl ⟨by rfl, fun w hc => ?_⟩) (uh HS) ?_
 · obtain ⟨h1, h2⟩ := uh CC _ hc.1; have h3 := hc.2; clear hc; go_simp
 go_simp
 refine tkB 6 (.pointer (some ⟨gr, re, none⟩)) rfl (uh HS) ?_
 go_simp
 refine tkA 7 (.int .i64 t) rfl (.inl ⟨by rfl, fun w hc => ?_⟩) (uh HS) ?_
 · obtain ⟨h1, h2⟩ := uh CC _ hc.1; have h3 := hc.2; clear hc; go_simp
 go_simp
 refine tkB 8 (.int .i64 t) rfl (uh HS) ?_
 go_simp
 refine tkB 9 (.bool true) rfl (uh HS) ?_
 go_simp
 refine wpAnyH_done (by kernel_rfl) ?_ _
 have T_ := hide ((uh G3).trans (show wd.grownBy wd.drew (some gr) from ⟨rfl, rfl, rfl, Nat.le_refl _, fun _ _ _ => rfl⟩))
 clear G3
 have G3 := hide (uh T_)
 clear T_
 have PM2 := hide (uh HS).1
 clear HS
 go_wp2_with fail
 go_ret2
 rw [uh HT]
 exact ⟨rfl, uh PM2, uh G3⟩
theorem atS_6 (P : Pm w g B gr rc x d) (h8 : d.R8) (hr : re < 8) (hs : x.small) (hx : 0 ≤ d.get (nAt d.r 7) ∧ d.get (nAt d.r 7) ≤ 65535) : AtIs g B gr rc 6 re X x d w := by
 have e1 : d.adV 6 re = (d.get (nAt d.r 7) + nAt d.fet.r re) % 65536 := rfl
 have e2 : d.adO 6 re = d.has (nAt d.r 7) := rfl
 have e3 : d.adD 6 re = d.fet := rfl
 unfold AtIs
 rw [e1, e2, e3]
 clear e1 e2 e3
 have H8 := hide h8
 have CC := hide (fun v (h : Pm v g B gr rc x d) => (show v.cell? ⟨g, 1, none⟩ = some (.slice (some ⟨gr, 0, none⟩) 8 rc) ∧ v.cell? ⟨gr, re, none⟩ = some (.int .i64 (nAt d.r re)) by rw [h.r, h.cell re (by rw [h8.1]; exact hr), h8.1]; exact ⟨rfl, rfl⟩))
 obtain ⟨v0, v1⟩ := h8.2 re hr
 have hrl : (re : Int) < 8 := by omega
 have PM := hide (P.later (below_new w (.cells #[.int .i64 6, .int .i64 (re : Int), .int .i64 X] 46)))
 have BX := hide (show (w.alloc (.cells #[.int .i64 6, .int .i64 (re : Int), .int .i64 X] 46)).heap[w.heap.size]? = some (.cells #[.int .i64 6, .int .i64 (re : Int), .int .i64 X] 46 (0, 0)) from heap_alloc_last w _)
 have BO := hide ((cell_of_row _ _ 1 _ 46 _ (uh BX)).trans (show _ = some (Value.int .i64 (re : Int)) from rfl))
 have GW := hide (show w.grownBy (w.alloc (.cells #[.int .i64 6, .int .i64 (re : Int), .int .i64 X] 46)) (some gr) from World.grownBy_alloc w _ _)
 have BNE := hide (show gr ≠ w.heap.size from Nat.ne_of_lt (own_rlt P.own P.er))
 clear P h8
 go_enter Tryz.func49, Tryz.ntmps49
 go_wp2_with fail
 generalize hbo : w.heap.size = bo at BX BO BNE ⊢
 generalize hwb : w.alloc (Obj.cells #[.int .i64 6, .int .i64 (re : Int), .int .i64 X] 46) = wb at PM BX BO GW ⊢
 clear hbo hwb
 refine (fetchS_any g B gr rc x d wb hs (uh PM) (uh H8).1 ((uh H8).2 7 (by omega)).1 ((uh H8).2 7 (by omega)).2).mono ?_
 rintro e w2 ⟨rfl, p2, g2⟩
 have PM2 := hide p2
 have GW2 := hide ((uh GW).trans g2)
 have BX2 := hide (row_past (uh BX) g2 (uh BNE))
 have BO2 := hide ((cell_of_row _ _ 1 _ 46 _ (uh BX2)).trans (show _ = some (Value.int .i64 (re : Int)) from rfl))
 clear p2 g2 PM GW BX BO CC
 have F8 := hide (fet_r8 (uh H8))
 have HX := hide hx
 obtain ⟨xx, hxx⟩ : ∃ v, d.get (nAt d.r 7) = v := ⟨_, rfl⟩
 obtain ⟨ok, hok⟩ : ∃ b, d.has (nAt d.r 7) = b := ⟨_, rfl⟩
 rw [hxx] at HX
 have HXX := hide hxx
 have HOK := hide hok
 generalize hff : d.fet = ff at PM2 F8
 have HFF := hide hff
 simp only [hxx, hok]
 clear hxx hok hff
 obtain ⟨x0, x1⟩ := uh HX
 obtain ⟨f0, f1⟩ := (uh F8).2 re hr
 have CC := hide (fun v (h : Pm v g B gr rc x ff) => (show v.cell? ⟨g, 1, none⟩ = some (.slice (some ⟨gr, 0, none⟩) 8 rc) ∧ v.cell? ⟨gr, re, none⟩ = some (.int .i64 (nAt ff.r re)) by rw [h.r, h.cell re (by rw [(uh F8).1]; exact hr), (uh F8).1]; exact ⟨rfl, rfl⟩))
 have WR := hide (fun w => wrapS_any (xx + nAt ff.r re) w)
 have HW := hide (show IntKind.i64.wrap (xx + nAt ff.r re) = xx + nAt ff.r re by rw [IntKind.wrap_i64]; omega)
 go_wp2_with fail
 refine wp_region_held_drew (S := fun v => Pm v g B gr rc x ff ∧ v.cell? ⟨bo, 1, none⟩ = some (.int .i64 (re : Int))) (by kernel_rfl) (⟨(uh PM2).later below_drew, cellP_lat (uh BO2) below_drew⟩) (fun hS => ?_)
 have HS := hide hS
 clear hS
 refine tkB 0 (.int .i64 xx) rfl (uh HS) ?_
 go_simp
 refine tkB 1 (.pointer (some ⟨g, 0, none⟩)) rfl (uh HS) ?_
 go_simp
 refine tkB 2 (.pointer (some ⟨g, 0, none⟩)) rfl (uh HS) ?_
 go_simp
 refine tkB 3 (.pointer (some ⟨g, 1, none⟩)) rfl (uh HS) ?_
 go_simp
 refine tkA 4 (.slice (some ⟨gr, 0, none⟩) 8 rc) rfl (.inl ⟨by rfl, fun w hc => ?_⟩) (uh HS) ?_
 · obtain ⟨h1, h2⟩ := uh CC _ hc.1; have h3 := hc.2; clear hc; go_simp
 go_simp
 refine tkB 5 (.pointer (some ⟨bo, 1, none⟩)) rfl (uh HS) ?_
 go_simp
 refine tkA 6 (.int .i64 (re : Int)) rfl (.inl ⟨by rfl, fun w hc => ?_⟩) (uh HS) ?_
 · obtain ⟨h1, h2⟩ := uh CC _ hc.1; have h3 := hc.2; clear hc; go_simp
 go_simp
 refine tkB 7 (.pointer (some ⟨gr, re, none⟩)) rfl (uh HS) ?_
 go_simp
 refine tkA 8 (.int .i64 (nAt ff.r re)) rfl (.inl ⟨by rfl, fun w hc => ?_⟩) (uh HS) ?_
 · obtain ⟨h1, h2⟩ := uh CC _ hc.1; have h3 := hc.2; clear hc; go_simp
 go_simp
 refine tkA 9 (.int .i64 (xx + nAt ff.r re)) rfl (.inl ⟨by rfl, fun w hc => ?_⟩) (uh HS) ?_
 · clear hc; have hw := uh HW; go_simp
 go_simp
 refine tkB 11 (.bool ok) rfl (uh HS) ?_
 go_simp
 refine wpAnyH_ready (rs := [10]) (by kernel_rfl) (by simp) ?_
 refine AllReadyH.cons rfl (fun K2 hK => ?_) AllReadyH.nil
 go_simp
 refine (uh WR _).mono ?_
 rintro e w' ⟨rfl, hw'⟩
 rw [hw']
 clear hw' w'
 refine hK.out _ _ (uh HS) (fun hS => ?_)
 clear HS
 have HS := hide hS
 clear hS hK K2
 refine tkB 12 (.int .i64 ((xx + nAt ff.r re) % 65536)) rfl (uh HS) ?_
 go_simp
 refine tkB 13 (.bool ok) rfl (uh HS) ?_
 go_simp
 refine wpAnyH_done (by kernel_rfl) ?_ _
 have T_ := hide ((uh GW2).trans (show w2.grownBy w2.drew (some gr) from ⟨rfl, rfl, rfl, Nat.le_refl _, fun _ _ _ => rfl⟩))
 clear GW2
 have GW2 := hide (uh T_)
 clear T_
 have PM3 := hide (uh HS).1
 clear HS
 go_wp2_with fail
 go_ret2
 rw [uh HXX, uh HOK, uh HFF]
 exact ⟨rfl, uh PM3, uh GW2⟩
theorem atS_7 (P : Pm w g B gr rc x d) (h8 : d.R8) (hr : re < 8) (hs : x.small) (hx : 0 ≤ d.get (nAt d.r 7) ∧ d.get (nAt d.r 7) ≤ 65535) : AtIs g B gr rc 7 re X x d w := by
 have e1 : d.adV 7 re = (d.get (nAt d.r 7) + nAt d.fet.r re) % 65536 := rfl
 have e2 : d.adO 7 re = d.has (nAt d.r 7) := rfl
 have e3 : d.adD 7 re = d.fet := rfl
 unfold AtIs
 rw [e1, e2, e3]
 clear e1 e2 e3
 have H8 := hide h8
 have CC := hide (fun v (h : Pm v g B gr rc x d) => (show v.cell? ⟨g, 1, none⟩ = some (.slice (some ⟨gr, 0, none⟩) 8 rc) ∧ v.cell? ⟨gr, re, none⟩ = some (.int .i64 (nAt d.r re)) by rw [h.r, h.cell re (by rw [h8.1]; exact hr), h8.1]; exact ⟨rfl, rfl⟩))
 obtain ⟨v0, v1⟩ := h8.2 re hr
 have hrl : (re : Int) < 8 := by omega
 have PM := hide (P.later (below_new w (.cells #[.int .i64 7, .int .i64 (re : Int), .int .i64 X] 46)))
 have BX := hide (show (w.alloc (.cells #[.int .i64 7, .int .i64 (re : Int), .int .i64 X] 46)).heap[w.heap.size]? = some (.cells #[.int .i64 7, .int .i64 (re : Int), .int .i64 X] 46 (0, 0)) from heap_alloc_last w _)
 have BO := hide ((cell_of_row _ _ 1 _ 46 _ (uh BX)).trans (show _ = some (Value.int .i64 (re : Int)) from rfl))
 have GW := hide (show w.grownBy (w.alloc (.cells #[.int .i64 7, .int .i64 (re : Int), .int .i64 X] 46)) (some gr) from World.grownBy_alloc w _ _)
 have BNE := hide (show gr ≠ w.heap.size from Nat.ne_of_lt (own_rlt P.own P.er))
 clear P h8
 go_enter Tryz.func49, Tryz.ntmps49
 go_wp2_with fail
 generalize hbo : w.heap.size = bo at BX BO BNE ⊢
 generalize hwb : w.alloc (Obj.cells #[.int .i64 7, .int .i64 (re : Int), .int .i64 X] 46) = wb at PM BX BO GW ⊢
 clear hbo hwb
 refine (fetchS_any g B gr rc x d wb hs (uh PM) (uh H8).1 ((uh H8).2 7 (by omega)).1 ((uh H8).2 7 (by omega)).2).mono ?_
 rintro e w2 ⟨rfl, p2, g2⟩
 have PM2 := hide p2
 have GW2 := hide ((uh GW).trans g2)
 have BX2 := hide (row_past (uh BX) g2 (uh BNE))
 have BO2 := hide ((cell_of_row _ _ 1 _ 46 _ (uh BX2)).trans (show _ = some (Value.int .i64 (re : Int)) from rfl))
 clear p2 g2 PM GW BX BO CC
 have F8 := hide (fet_r8 (uh H8))
 have HX := hide hx
 obtain ⟨xx, hxx⟩ : ∃ v, d.get (nAt d.r 7) = v := ⟨_, rfl⟩
 obtain ⟨ok, hok⟩ : ∃ b, d.has (nAt d.r 7) = b := ⟨_, rfl⟩
 rw [hxx] at HX
 have HXX := hide hxx
 have HOK := hide hok
 generalize hff : d.fet = ff at PM2 F8
 have HFF := hide hff
 simp only [hxx, hok]
 clear hxx hok hff
 obtain ⟨x0, x1⟩ := uh HX
 obtain ⟨f0, f1⟩ := (uh F8).2 re hr
 have CC := hide (fun v (h : Pm v g B gr rc x ff) => (show v.cell? ⟨g, 1, none⟩ = some (.slice (some ⟨gr, 0, none⟩) 8 rc) ∧ v.cell? ⟨gr, re, none⟩ = some (.int .i64 (nAt ff.r re)) by rw [h.r, h.cell re (by rw [(uh F8).1]; exact hr), (uh F8).1]; exact ⟨rfl, rfl⟩))
 have WR := hide (fun w => wrapS_any (xx + nAt ff.r re) w)
 have HW := hide (show IntKind.i64.wrap (xx + nAt ff.r re) = xx + nAt ff.r re by rw [IntKind.wrap_i64]; omega)
 go_wp2_with fail
 refine wp_region_held_drew (S := fun v => Pm v g B gr rc x ff ∧ v.cell? ⟨bo, 1, none⟩ = some (.int .i64 (re : Int))) (by kernel_rfl) (⟨(uh PM2).later below_drew, cellP_lat (uh BO2) below_drew⟩) (fun hS => ?_)
 have HS := hide hS
 clear hS
 refine tkB 0 (.int .i64 xx) rfl (uh HS) ?_
 go_simp
 refine tkB 1 (.pointer (some ⟨g, 0, none⟩)) rfl (uh HS) ?_
 go_simp
 refine tkB 2 (.pointer (some ⟨g, 0, none⟩)) rfl (uh HS) ?_
 go_simp
 refine tkB 3 (.pointer (some ⟨g, 1, none⟩)) rfl (uh HS) ?_
 go_simp
 refine tkA 4 (.slice (some ⟨gr, 0, none⟩) 8 rc) rfl (.inl ⟨by rfl, fun w hc => ?_⟩) (uh HS) ?_
 · obtain ⟨h1, h2⟩ := uh CC _ hc.1; have h3 := hc.2; clear hc; go_simp
 go_simp
 refine tkB 5 (.pointer (some ⟨bo, 1, none⟩)) rfl (uh HS) ?_
 go_simp
 refine tkA 6 (.int .i64 (re : Int)) rfl (.inl ⟨by rfl, fun w hc => ?_⟩) (uh HS) ?_
 · obtain ⟨h1, h2⟩ := uh CC _ hc.1; have h3 := hc.2; clear hc; go_simp
 go_simp
 refine tkB 7 (.pointer (some ⟨gr, re, none⟩)) rfl (uh HS) ?_
 go_simp
 refine tkA 8 (.int .i64 (nAt ff.r re)) rfl (.inl ⟨by rfl, fun w hc => ?_⟩) (uh HS) ?_
 · obtain ⟨h1, h2⟩ := uh CC _ hc.1; have h3 := hc.2; clear hc; go_simp
 go_simp
 refine tkA 9 (.int .i64 (xx + nAt ff.r re)) rfl (.inl ⟨by rfl, fun w hc => ?_⟩) (uh HS) ?_
 · clear hc; have hw := uh HW; go_simp
 go_simp
 refine tkB 11 (.bool ok) rfl (uh HS) ?_
 go_simp
 refine wpAnyH_ready (rs := [10]) (by kernel_rfl) (by simp) ?_
 refine AllReadyH.cons rfl (fun K2 hK => ?_) AllReadyH.nil
 go_simp
 refine (uh WR _).mono ?_
 rintro e w' ⟨rfl, hw'⟩
 rw [hw']
 clear hw' w'
 refine hK.out _ _ (uh HS) (fun hS => ?_)
 clear HS
 have HS := hide hS
 clear hS hK K2
 refine tkB 12 (.int .i64 ((xx + nAt ff.r re) % 65536)) rfl (uh HS) ?_
 go_simp
 refine tkB 13 (.bool ok) rfl (uh HS) ?_
 go_simp
 refine wpAnyH_done (by kernel_rfl) ?_ _
 have T_ := hide ((uh GW2).trans (show w2.grownBy w2.drew (some gr) from ⟨rfl, rfl, rfl, Nat.le_refl _, fun _ _ _ => rfl⟩))
 clear GW2
 have GW2 := hide (uh T_)
 clear T_
 have PM3 := hide (uh HS).1
 clear HS
 go_wp2_with fail
 go_ret2
 rw [uh HXX, uh HOK, uh HFF]
 exact ⟨rfl, uh PM3, uh GW2⟩
theorem atS_any (P : Pm w g B gr rc x d) (h8 : d.R8) (hr : re < 8) (hs : x.small) (hx : 0 ≤ d.get (nAt d.r 7) ∧ d.get (nAt d.r 7) ≤ 65535) (h1 : 1 ≤ mo) (h7 : mo ≤ 7) : AtIs g B gr rc mo re X x d w := by
 rcases (show mo = 1 ∨ mo = 2 ∨ mo = 3 ∨ mo = 4 ∨ mo = 5 ∨ mo = 6 ∨ mo = 7 by omega) with rfl | rfl | rfl | rfl | rfl | rfl | rfl
 · exact atS_1 g B gr rc re X x d w P h8 hr hs hx
 · exact atS_2 g B gr rc re X x d w P h8 hr hs hx
 · exact atS_3 g B gr rc re X x d w P h8 hr hs hx
 · exact atS_4 g B gr rc re X x d w P h8 hr hs hx
 · exact atS_5 g B gr rc re X x d w P h8 hr hs hx
 · exact atS_6 g B gr rc re X x d w P h8 hr hs hx
 · exact atS_7 g B gr rc re X x d w P h8 hr hs hx
end
end
section
theorem regPlace_any (r : Int) (w : World) : Calls Tryz.prog 133 #[.int .i64 r] w fun e w' => e = .returned (.agg #[.int .i64 r, .int .i64 (-1)]) ∧ Below w.heap.size w w' := by
 have HB := hide (below_new w (.cells #[.int .i64 r, .int .i64 (-1)] 57))
 have R0 := hide (heap_alloc_last w (.cells #[.int .i64 r, .int .i64 (-1)] 57))
 go_enter Tryz.func133, Tryz.ntmps133
 go_wp2
 refine bodyPost_ret (results_cell_row (P := Tryz.prog) rfl _ _ w.heap.size 57 #[.int .i64 r, .int .i64 (-1)] (0, 0) _ rfl (uh R0) Tryz.underlying57 rfl (by kernel_rfl)) rfl ?_
 exact ⟨rfl, uh HB⟩
theorem adPlace_any (r : Int) (w : World) : Calls Tryz.prog 109 #[.int .i64 r] w fun e w' => e = .returned (.agg #[.int .i64 (-1), .int .i64 r]) ∧ Below w.heap.size w w' := by
 have HB := hide (below_new w (.cells #[.int .i64 (-1), .int .i64 r] 57))
 have R0 := hide (heap_alloc_last w (.cells #[.int .i64 (-1), .int .i64 r] 57))
 go_enter Tryz.func109, Tryz.ntmps109
 go_wp2
 refine bodyPost_ret (results_cell_row (P := Tryz.prog) rfl _ _ w.heap.size 57 #[.int .i64 (-1), .int .i64 r] (0, 0) _ rfl (uh R0) Tryz.underlying57 rfl (by kernel_rfl)) rfl ?_
 exact ⟨rfl, uh HB⟩
def regB (n : Nat) (r : Int) : Bool := decide (0 ≤ r) && (decide (r ≤ 7) && decide (r < (n : Int)))
theorem hasReg_any (x : Mv) (r : Int) (w : World) (hs : x.small) : Calls Tryz.prog 127 #[.agg x.cs, .int .i64 r] w fun e w' => e = .returned (.bool (regB x.r.n r)) ∧ Below w.heap.size w w' := by
 have HB := hide (below_new w (.cells x.cs 26))
 have R0 := heap_alloc_last w (.cells x.cs 26)
 have c1 := row_r R0
 have hn := hs.2.1
 unfold regB
 clear hs R0
 by_cases h1 : 0 ≤ r
 ·
  by_cases h2 : r ≤ 7
  ·
   go_enter Tryz.func127, Tryz.ntmps127
   go_wp2
   go_ret
   exact ⟨by simp [h1, h2], uh HB⟩
  ·
   go_enter Tryz.func127, Tryz.ntmps127
   go_wp2
   go_ret
   exact ⟨by simp [h1, h2]; omega, uh HB⟩
 ·
  go_enter Tryz.func127, Tryz.ntmps127
  go_wp2
  go_ret
  exact ⟨by simp [h1]; omega, uh HB⟩
def rchI (g gr : Nat) (d : Md) (r a : Int) : Option Addr := if a = -1 ∧ regB d.r.length r = true then some ⟨gr, r.toNat, none⟩ else if r = -1 ∧ d.has a = true then some ⟨g, (a / 2).toNat, none⟩ else none
section
variable {w wr w' : World} {g : Nat} {mem : List Int} {y : Mv} {r a : Int}
end
end
end Go.Proofs.YtboedaofbchdkaaGreatDoor
