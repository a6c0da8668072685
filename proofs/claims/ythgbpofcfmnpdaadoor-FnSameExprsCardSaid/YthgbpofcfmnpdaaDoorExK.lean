/- Whether a term is right, by the model; over this seat's translation; conditions stand as hypotheses of each. -/
import Derived.Test.YthgbpofcfmnpdaaDoorExJ
import Derived.Test.YthgbpofcfmnpdaaDoorOxF
import Derived.Test.YthgbpofcfmnpdaaDoorSubT
namespace Go.Proofs.YthgbpofcfmnpdaaDoor
open Go.ChangeShapes Go.WideShapes Go.ChangeAt Go.RowKit
set_option linter.unusedVariables false
set_option maxRecDepth 8000

theorem box4 (w : World) (e : Ex) (b : Option Addr) (cap : Nat) (ty : TypeId) : (w.alloc (.cells (e.cs b cap) ty)).cell? ⟨w.heap.size, 0, none⟩ = some (.int .i64 e.k) ∧ (w.alloc (.cells (e.cs b cap) ty)).cell? ⟨w.heap.size, 1, none⟩ = some (.int .i64 e.n) ∧ (w.alloc (.cells (e.cs b cap) ty)).cell? ⟨w.heap.size, 2, none⟩ = some (.string e.s) ∧ (w.alloc (.cells (e.cs b cap) ty)).cell? ⟨w.heap.size, 3, none⟩ = some (.slice b e.l.length cap) := by
  have h : (w.alloc (.cells (e.cs b cap) ty)).heap[w.heap.size]? = some (.cells (e.cs b cap) ty (0, 0)) := Array.getElem?_push_size
  exact ⟨Lib.cell_of_heap h 0, Lib.cell_of_heap h 1, Lib.cell_of_heap h 2, Lib.cell_of_heap h 3⟩
theorem all_take (l : List Ex) (f : Ex → Bool) (k : Nat) (h : k < l.length) : (l.take (k + 1)).all f = ((l.take k).all f && f (xAt l k)) := by
  rw [List.take_succ_eq_append_getElem h, List.all_append, xAt_get h]
  simp
theorem all_part {l : List Ex} {f : Ex → Bool} {k : Nat} (h : k < l.length) (hf : f (xAt l k) = false) : l.all f = false := by
  rw [List.all_eq_false]
  exact ⟨_, xAt_mem h, by rw [hf]; decide⟩
theorem okF_s (d : Nat) (p : Bool) (e : Ex) : okF (d + 1) p e = (e.here && (!(p && (e.k == 11 || e.k == 12)) && e.l.all (okF d p))) := rfl
set_option maxHeartbeats 2000000 in
theorem okS_all : ∀ d : Nat, d ≤ 6 → ∀ (e : Ex) (b : Option Addr) (cap : Nat) (p : Bool) (w : World), RdX w 0 e b → e.sz ≤ 1048576 → Calls Tryd.prog 70 #[.agg (e.cs b cap), .int .i64 (7 - (d : Int)), .bool p] w fun r w' => r = .returned (.bool (okF d p e)) ∧ Below w.heap.size w w' := by
  intro d
  induction d with
  | zero =>
    intro _ e b cap p w hr hz
    have B0 := hide (below_new w (.cells (e.cs b cap) 37))
    rw [show okF 0 p e = false from rfl]
    unfold Ex.cs at B0 ⊢
    go_enter Tryd.func70, Tryd.ntmps70
    go_wp2
    go_ret
    exact ⟨rfl, unhide B0⟩
  | succ d ih =>
    intro hd e b cap p w hr hz
    have hsz := sz_is e
    rw [okF_s]
    have hbW := below_new w (.cells (e.cs b cap) 37)
    have B0 := hide hbW
    have HH := hereS_any e b cap (w.alloc (.cells (e.cs b cap) 37)) (by omega) (by omega)
    obtain ⟨x0, x1, x2, x3⟩ := box4 w e b cap 37
    have xl : w.heap.size < (w.alloc (.cells (e.cs b cap) 37)).heap.size := by simp
    have hrW := hr.later hbW
    rw [RdX_eq] at hrW
    have hp : ∀ i, i < e.l.length → (xAt e.l i).sz ≤ 1048576 := fun i hi => by have := sz_part hi; omega
    have hm : e.l.length ≤ 1048576 := by omega
    have ihd := ih (by omega)
    have hD : (7 : Int) - ((d + 1 : Nat) : Int) + 1 = 7 - (d : Int) := by omega
    have hD6 : ¬ (6 < (7 : Int) - ((d + 1 : Nat) : Int)) := by omega
    have hDb : -100 ≤ (7 : Int) - ((d + 1 : Nat) : Int) ∧ (7 : Int) - ((d + 1 : Nat) : Int) ≤ 100 := by omega
    generalize hDD : (7 : Int) - ((d + 1 : Nat) : Int) = DD at *
    clear hr hsz hz hbW ih hDD
    generalize e.here = hq at *
    unfold Ex.cs at B0 HH x0 x1 x2 x3 xl hrW ⊢
    generalize e.l = l at *
    generalize e.k = k at *
    generalize e.n = n at *
    generalize e.s = s at *
    obtain ⟨len, hl⟩ : ∃ len, l.length = len := ⟨_, rfl⟩
    rw [hl] at hm hp HH x0 x1 x2 x3 B0 xl hrW ⊢
    obtain ⟨W, hW⟩ : ∃ W, w.alloc (.cells #[.int .i64 k, .int .i64 n, .string s, .slice b len cap] 37) = W := ⟨_, rfl⟩
    rw [hW] at HH x0 x1 x2 x3 B0 xl hrW
    have HC := hide HH
    have E0 : ∀ y : Sub W.heap.size W, y.w.cell? ⟨w.heap.size, 0, none⟩ = _ := fun y => (y.h.cell (p := ⟨w.heap.size, _, none⟩) xl).trans x0
    have E3 : ∀ y : Sub W.heap.size W, y.w.cell? ⟨w.heap.size, 3, none⟩ = _ := fun y => (y.h.cell (p := ⟨w.heap.size, _, none⟩) xl).trans x3
    have ne := Sub.ne W.heap.size W
    have HZ := hide (Nat.le_refl W.heap.size)
    have HB := hide (fun y : Sub W.heap.size W => (unhide B0).trans (y.h.mono (unhide B0).size))
    clear HH xl
    obtain ⟨T, hT⟩ : ∃ T, (hq && (!(p && (k == 11 || k == 12)) && l.all (okF d p))) = T := ⟨_, rfl⟩
    have HT := hide hT
    rw [hT]
    clear hT
    go_enter Tryd.func70, Tryd.ntmps70
    go_wp2_with fail
    refine (Sub.call (x := ⟨W, Below.refl _ _⟩) (unhide HZ) (unhide HC)).mono ?_
    rintro r _ ⟨rfl, y, rfl⟩
    clear HC x0 x1 x2 x3
    cases hq with
    | false =>
      have EF := hide ((unhide HT).symm.trans (Bool.false_and _))
      go_wp2
      go_ret
      exact ⟨by rw [unhide EF]; rfl, unhide HB _⟩
    | true =>
      by_cases hx : (p && (k == 11 || k == 12)) = true
      · have EF := hide (show T = false by rw [← unhide HT, hx]; rfl)
        have hpp : p = true := by cases p with | true => rfl | false => simp at hx
        subst hpp
        by_cases h11 : k = 11
        · subst h11
          go_wp2
          go_ret
          exact ⟨by rw [unhide EF]; rfl, unhide HB _⟩
        · have h12 : k = 12 := by simpa [h11] using hx
          subst h12
          go_wp2
          go_ret
          exact ⟨by rw [unhide EF]; rfl, unhide HB _⟩
      · have hxf : (p && (k == 11 || k == 12)) = false := by simpa using hx
        rw [hxf] at HT
        have HT := hide (show l.all (okF d p) = T by rw [← unhide HT]; simp)
        clear hxf
        cases p with
        | false =>
          clear hx
          go_wp2
          go_loopw [7] (fun i wr => ∃ (j : Nat) (z : Sub W.heap.size W), j ≤ len ∧ i = .int .i64 j ∧ (l.take j).all (okF d false) = true ∧ wr = z.w) (fun i _ => len - (intOf i).toNat)
          case atStart => exact ⟨0, y, Nat.zero_le _, rfl, rfl, rfl⟩
          case round =>
            obtain ⟨j, z, hj, rfl, hdone, rfl⟩ := hrel
            have HD := hide hdone
            clear hdone
            by_cases hlt : j < len
            · rcases hrW with h0 | ⟨p1, po, hb1, _, hp1, hpc⟩
              · rw [h0] at hl; simp at hl; omega
              subst hb1
              obtain ⟨e0, e1, e2, pc, pp, e3, e4⟩ := hpc j (by omega)
              have d0 : ∀ y : Sub W.heap.size W, y.w.cell? ⟨p1, po + j * 4, none⟩ = _ := fun y => (y.h.cell (p := ⟨p1, _, none⟩) hp1).trans e0
              have d1 : ∀ y : Sub W.heap.size W, y.w.cell? ⟨p1, po + j * 4 + 1, none⟩ = _ := fun y => (y.h.cell (p := ⟨p1, _, none⟩) hp1).trans e1
              have d2 : ∀ y : Sub W.heap.size W, y.w.cell? ⟨p1, po + j * 4 + 2, none⟩ = _ := fun y => (y.h.cell (p := ⟨p1, _, none⟩) hp1).trans e2
              have d3 : ∀ y : Sub W.heap.size W, y.w.cell? ⟨p1, po + j * 4 + 3, none⟩ = _ := fun y => (y.h.cell (p := ⟨p1, _, none⟩) hp1).trans e3
              have HE := hide (fun y : Sub W.heap.size W => ihd (xAt l j) pc pp false y.w (e4.later y.h) (hp j hlt))
              have AT := hide (all_take l (okF d false) j (by omega))
              have AP := hide (fun h => all_part (f := okF d false) (show j < l.length by omega) h)
              clear e0 e1 e2 e3 e4 hpc ihd hp
              unfold Ex.cs at HE
              generalize okF d false (xAt l j) = q at *
              generalize (xAt l j).s = ss at *
              generalize (xAt l j).k = kk at *
              generalize (xAt l j).n = nn at *
              generalize (xAt l j).l.length = ll at *
              cases q with
              | false =>
                have EF := hide ((unhide HT).symm.trans (unhide AP rfl))
                go_wp2_with (go_at_call 70; refine (Sub.call (unhide HZ) (unhide HE _)).mono ?_; rintro r _ ⟨rfl, z2, rfl⟩)
                go_ret
                exact ⟨by rw [unhide EF]; rfl, unhide HB _⟩
              | true =>
                go_wp2_with (go_at_call 70; refine (Sub.call (unhide HZ) (unhide HE _)).mono ?_; rintro r _ ⟨rfl, z2, rfl⟩)
                go_roundw
                case rel => exact ⟨j + 1, z2, by omega, by go_num, by rw [unhide AT, unhide HD]; rfl, rfl⟩
                case measure => simp [intOf]; omega
            · obtain rfl : j = len := by omega
              have EF := hide ((unhide HT).symm.trans ((show l.all (okF d false) = (l.take j).all (okF d false) by rw [← hl, List.take_length]).trans (unhide HD)))
              go_wp2
              go_ret
              exact ⟨by rw [unhide EF]; rfl, unhide HB _⟩
        | true =>
          have h11 : (k == 11) = false := by simp at hx; simp [hx.1]
          have h12 : (k == 12) = false := by simp at hx; simp [hx.2]
          clear hx
          go_wp2
          go_loopw [7] (fun i wr => ∃ (j : Nat) (z : Sub W.heap.size W), j ≤ len ∧ i = .int .i64 j ∧ (l.take j).all (okF d true) = true ∧ wr = z.w) (fun i _ => len - (intOf i).toNat)
          case atStart => exact ⟨0, y, Nat.zero_le _, rfl, rfl, rfl⟩
          case round =>
            obtain ⟨j, z, hj, rfl, hdone, rfl⟩ := hrel
            have HD := hide hdone
            clear hdone
            by_cases hlt : j < len
            · rcases hrW with h0 | ⟨p1, po, hb1, _, hp1, hpc⟩
              · rw [h0] at hl; simp at hl; omega
              subst hb1
              obtain ⟨e0, e1, e2, pc, pp, e3, e4⟩ := hpc j (by omega)
              have d0 : ∀ y : Sub W.heap.size W, y.w.cell? ⟨p1, po + j * 4, none⟩ = _ := fun y => (y.h.cell (p := ⟨p1, _, none⟩) hp1).trans e0
              have d1 : ∀ y : Sub W.heap.size W, y.w.cell? ⟨p1, po + j * 4 + 1, none⟩ = _ := fun y => (y.h.cell (p := ⟨p1, _, none⟩) hp1).trans e1
              have d2 : ∀ y : Sub W.heap.size W, y.w.cell? ⟨p1, po + j * 4 + 2, none⟩ = _ := fun y => (y.h.cell (p := ⟨p1, _, none⟩) hp1).trans e2
              have d3 : ∀ y : Sub W.heap.size W, y.w.cell? ⟨p1, po + j * 4 + 3, none⟩ = _ := fun y => (y.h.cell (p := ⟨p1, _, none⟩) hp1).trans e3
              have HE := hide (fun y : Sub W.heap.size W => ihd (xAt l j) pc pp true y.w (e4.later y.h) (hp j hlt))
              have AT := hide (all_take l (okF d true) j (by omega))
              have AP := hide (fun h => all_part (f := okF d true) (show j < l.length by omega) h)
              clear e0 e1 e2 e3 e4 hpc ihd hp
              unfold Ex.cs at HE
              generalize okF d true (xAt l j) = q at *
              generalize (xAt l j).s = ss at *
              generalize (xAt l j).k = kk at *
              generalize (xAt l j).n = nn at *
              generalize (xAt l j).l.length = ll at *
              cases q with
              | false =>
                have EF := hide ((unhide HT).symm.trans (unhide AP rfl))
                go_wp2_with (go_at_call 70; refine (Sub.call (unhide HZ) (unhide HE _)).mono ?_; rintro r _ ⟨rfl, z2, rfl⟩)
                go_ret
                exact ⟨by rw [unhide EF]; rfl, unhide HB _⟩
              | true =>
                go_wp2_with (go_at_call 70; refine (Sub.call (unhide HZ) (unhide HE _)).mono ?_; rintro r _ ⟨rfl, z2, rfl⟩)
                go_roundw
                case rel => exact ⟨j + 1, z2, by omega, by go_num, by rw [unhide AT, unhide HD]; rfl, rfl⟩
                case measure => simp [intOf]; omega
            · obtain rfl : j = len := by omega
              have EF := hide ((unhide HT).symm.trans ((show l.all (okF d true) = (l.take j).all (okF d true) by rw [← hl, List.take_length]).trans (unhide HD)))
              go_wp2
              go_ret
              exact ⟨by rw [unhide EF]; rfl, unhide HB _⟩
set_option maxHeartbeats 1000000 in
theorem okS_any (e : Ex) (b : Option Addr) (cap : Nat) (w : World) (hr : RdX w 0 e b) (hz : e.sz ≤ 1048576) : Calls Tryd.prog 24 #[.agg (e.cs b cap)] w fun r w' => r = .returned (.bool (okF 6 false e)) ∧ Below w.heap.size w w' := by
  have B0 := below_new w (.cells (e.cs b cap) 37)
  have H := (okS_all 6 (by omega) e b cap false _ (hr.later B0) hz).mono (R' := fun r w' => r = .returned (.bool (okF 6 false e)) ∧ Below w.heap.size w w') (fun r w' h => ⟨h.1, B0.trans (h.2.mono B0.size)⟩)
  rw [show (7 : Int) - ((6 : Nat) : Int) = 1 by omega] at H
  have HH := hide H
  clear H hr B0
  unfold Ex.cs at HH ⊢
  generalize okF 6 false e = q at *
  generalize e.l.length = ll at *
  go_enter Tryd.func24, Tryd.ntmps24
  go_wp2_with (go_at_call 70; refine (unhide HH).mono ?_; rintro r w1 ⟨rfl, hb1⟩)
  go_ret
  exact ⟨rfl, hb1⟩
set_option maxHeartbeats 1000000 in
theorem plainS_any (e : Ex) (b : Option Addr) (cap : Nat) (w : World) (hr : RdX w 0 e b) (hz : e.sz ≤ 1048576) : Calls Tryd.prog 31 #[.agg (e.cs b cap)] w fun r w' => r = .returned (.bool (okF 6 true e)) ∧ Below w.heap.size w w' := by
  have B0 := below_new w (.cells (e.cs b cap) 37)
  have H := (okS_all 6 (by omega) e b cap true _ (hr.later B0) hz).mono (R' := fun r w' => r = .returned (.bool (okF 6 true e)) ∧ Below w.heap.size w w') (fun r w' h => ⟨h.1, B0.trans (h.2.mono B0.size)⟩)
  rw [show (7 : Int) - ((6 : Nat) : Int) = 1 by omega] at H
  have HH := hide H
  clear H hr B0
  unfold Ex.cs at HH ⊢
  generalize okF 6 true e = q at *
  generalize e.l.length = ll at *
  go_enter Tryd.func31, Tryd.ntmps31
  go_wp2_with (go_at_call 70; refine (unhide HH).mono ?_; rintro r w1 ⟨rfl, hb1⟩)
  go_ret
  exact ⟨rfl, hb1⟩
end Go.Proofs.YthgbpofcfmnpdaaDoor
