/- Whether two terms are the same, by the model; over this seat's translation; conditions stand as hypotheses of each. -/
import Derived.Test.YthgbpofcfmnpdaaDoorSmA
import Derived.Test.YthgbpofcfmnpdaaDoorOxF
import Derived.Test.YthgbpofcfmnpdaaDoorSubT
namespace Go.Proofs.YthgbpofcfmnpdaaDoor
open Go.ChangeShapes Go.WideShapes Go.ChangeAt Go.RowKit
set_option linter.unusedVariables false
set_option maxRecDepth 8000
set_option linter.unusedSimpArgs false

def SmP (a : Ex) : Prop := ∀ (b : Ex) (pa pb : Option Addr) (ca cb : Nat) (w : World), RdX w 0 a pa → RdX w 0 b pb → a.sz ≤ 1048576 → b.sz ≤ 1048576 → Calls Tryd.prog 22 #[.agg (a.cs pa ca), .agg (b.cs pb cb)] w fun r w' => r = .returned (.bool (sameX a b)) ∧ Below w.heap.size w w'
set_option maxHeartbeats 4000000 in
theorem sameS_of (a : Ex) (ih : ∀ i, i < a.l.length → SmP (xAt a.l i)) : SmP a := by
  intro b pa pb ca cb w ha hb hza hzb
  have hsa := sz_is a
  have hsb := sz_is b
  have hbW : Below w.heap.size w ((w.alloc (.cells (a.cs pa ca) 37)).alloc (.cells (b.cs pb cb) 37)) := ((Below.refl _ _).alloc (Nat.le_refl _) _).alloc (by simp) _
  have h1 := ha.later hbW
  have h2 := hb.later hbW
  rw [RdX_eq] at h1 h2
  have hpa : ∀ i, i < a.l.length → (xAt a.l i).sz ≤ 1048576 := fun i hi => by have := sz_part hi; omega
  have hpb : ∀ i, i < b.l.length → (xAt b.l i).sz ≤ 1048576 := fun i hi => by have := sz_part hi; omega
  have hma : a.l.length ≤ 1048576 := by omega
  have hmb : b.l.length ≤ 1048576 := by omega
  obtain ⟨T, hT⟩ : ∃ T, sameX a b = T := ⟨_, rfl⟩
  have HT := hide hT
  rw [hT]
  rw [sameX_n] at HT
  clear hT hsa hsb hza hzb ha hb
  have ga : ((w.alloc (.cells (a.cs pa ca) 37)).alloc (.cells (b.cs pb cb) 37)).heap[w.heap.size]? = some (.cells (a.cs pa ca) 37 (0, 0)) := ((Below.refl (w.heap.size + 1) (w.alloc (.cells (a.cs pa ca) 37))).alloc (by simp) _).block _ (by omega) |>.trans Array.getElem?_push_size
  have gb : ((w.alloc (.cells (a.cs pa ca) 37)).alloc (.cells (b.cs pb cb) 37)).heap[w.heap.size + 1]? = some (.cells (b.cs pb cb) 37 (0, 0)) := by
    have e : (w.alloc (.cells (a.cs pa ca) 37)).heap.size = w.heap.size + 1 := by simp
    rw [← e]; exact Array.getElem?_push_size
  unfold headX at HT
  unfold Ex.cs at ga gb hbW h1 h2 ⊢
  generalize a.l = la at *
  generalize b.l = lb at *
  generalize a.k = ak at *
  generalize a.n = an at *
  generalize a.s = asv at *
  generalize b.k = bk at *
  generalize b.n = bn at *
  generalize b.s = bsv at *
  obtain ⟨na, hna⟩ : ∃ n, la.length = n := ⟨_, rfl⟩
  obtain ⟨nb, hnb⟩ : ∃ n, lb.length = n := ⟨_, rfl⟩
  rw [hna] at ga gb hbW h1 h2 hma hpa ih HT ⊢
  rw [hnb] at ga gb hbW h1 h2 hmb hpb HT ⊢
  generalize hW : (w.alloc (.cells #[.int .i64 ak, .int .i64 an, .string asv, .slice pa na ca] 37)).alloc (.cells #[.int .i64 bk, .int .i64 bn, .string bsv, .slice pb nb cb] 37) = W at *
  have la0 : w.heap.size < W.heap.size := (Array.getElem?_eq_some_iff.1 ga).1
  have lb0 : w.heap.size + 1 < W.heap.size := (Array.getElem?_eq_some_iff.1 gb).1
  have X0 := Lib.cell_of_heap ga 0
  have X1 := Lib.cell_of_heap ga 1
  have X2 := Lib.cell_of_heap ga 2
  have X3 := Lib.cell_of_heap ga 3
  have Y0 := Lib.cell_of_heap gb 0
  have Y1 := Lib.cell_of_heap gb 1
  have Y2 := Lib.cell_of_heap gb 2
  have Y3 := Lib.cell_of_heap gb 3
  have B0 := hide hbW
  have x3 : ∀ y : Sub W.heap.size W, y.w.cell? ⟨w.heap.size, 3, none⟩ = some (.slice pa na ca) := fun y => (y.h.cell (p := ⟨w.heap.size, _, none⟩) la0).trans X3
  have y3 : ∀ y : Sub W.heap.size W, y.w.cell? ⟨w.heap.size + 1, 3, none⟩ = some (.slice pb nb cb) := fun y => (y.h.cell (p := ⟨w.heap.size + 1, _, none⟩) lb0).trans Y3
  have ne := Sub.ne W.heap.size W
  have HZ := hide (Nat.le_refl W.heap.size)
  have HB := hide (fun y : Sub W.heap.size W => (unhide B0).trans (y.h.mono (unhide B0).size))
  clear ga gb hbW la0 lb0
  by_cases e1 : ak = bk
  rotate_left
  · have q : (ak == bk) = false := beq_eq_false_iff_ne.2 e1
    have E := hide (show T = false by rw [← unhide HT, q]; rfl)
    clear HT ih h1 h2 hpa hpb
    go_enter Tryd.func22, Tryd.ntmps22
    go_wp2
    go_ret
    exact ⟨by rw [unhide E]; rfl, unhide B0⟩
  subst e1
  by_cases e2 : an = bn
  rotate_left
  · have q : (an == bn) = false := beq_eq_false_iff_ne.2 e2
    have E := hide (show T = false by rw [← unhide HT, q]; simp)
    clear HT ih h1 h2 hpa hpb
    go_enter Tryd.func22, Tryd.ntmps22
    go_wp2
    go_ret
    exact ⟨by rw [unhide E]; rfl, unhide B0⟩
  subst e2
  by_cases e3 : asv = bsv
  rotate_left
  · have q : (asv.toList == bsv.toList) = false := str_ne e3
    have E := hide (show T = false by rw [← unhide HT, show eqB asv bsv = false from q]; simp)
    clear HT ih h1 h2 hpa hpb
    go_enter Tryd.func22, Tryd.ntmps22
    go_wp2
    go_ret
    exact ⟨by rw [unhide E]; rfl, unhide B0⟩
  subst e3
  by_cases e4 : na = nb
  rotate_left
  · have q : (na == nb) = false := beq_eq_false_iff_ne.2 e4
    have q2 : ((na : Int) == (nb : Int)) = false := beq_eq_false_iff_ne.2 (by omega)
    have q3 : (na : Int) ≠ (nb : Int) := by omega
    have E := hide (show T = false by rw [← unhide HT, q]; simp)
    clear HT ih h1 h2 hpa hpb
    go_enter Tryd.func22, Tryd.ntmps22
    go_wp2
    go_ret
    exact ⟨by rw [unhide E]; rfl, unhide B0⟩
  subst e4
  have HN := hide (show sameN la lb na = T by rw [← unhide HT, (eqB_iff asv asv).2 rfl]; simp)
  clear HT
  go_enter Tryd.func22, Tryd.ntmps22
  go_wp2
  go_loopw [5] (fun i wr => ∃ (j : Nat) (z : Sub W.heap.size W), j ≤ na ∧ i = .int .i64 j ∧ Hid (sameN la lb j = true) ∧ wr = z.w) (fun i _ => na - (intOf i).toNat)
  case atStart => exact ⟨0, ⟨W, Below.refl _ _⟩, Nat.zero_le _, rfl, rfl, rfl⟩
  case round =>
    obtain ⟨j, z, hj, rfl, hd, rfl⟩ := hrel
    by_cases hlt : j < na
    · rcases h1 with h0 | ⟨p1, o1, hp1, _, l1, c1⟩
      · rw [h0] at hna; simp at hna; omega
      rcases h2 with h0 | ⟨p2, o2, hp2, _, l2, c2⟩
      · rw [h0] at hnb; simp at hnb; omega
      subst hp1 hp2
      obtain ⟨e0, e1, e2, u1, v1, e3, e4⟩ := c1 j (by omega)
      obtain ⟨f0, f1, f2, u2, v2, f3, f4⟩ := c2 j (by omega)
      have d0 : ∀ y : Sub W.heap.size W, y.w.cell? ⟨p1, o1 + j * 4, none⟩ = _ := fun y => (y.h.cell (p := ⟨p1, _, none⟩) l1).trans e0
      have d1 : ∀ y : Sub W.heap.size W, y.w.cell? ⟨p1, o1 + j * 4 + 1, none⟩ = _ := fun y => (y.h.cell (p := ⟨p1, _, none⟩) l1).trans e1
      have d2 : ∀ y : Sub W.heap.size W, y.w.cell? ⟨p1, o1 + j * 4 + 2, none⟩ = _ := fun y => (y.h.cell (p := ⟨p1, _, none⟩) l1).trans e2
      have d3 : ∀ y : Sub W.heap.size W, y.w.cell? ⟨p1, o1 + j * 4 + 3, none⟩ = _ := fun y => (y.h.cell (p := ⟨p1, _, none⟩) l1).trans e3
      have g0 : ∀ y : Sub W.heap.size W, y.w.cell? ⟨p2, o2 + j * 4, none⟩ = _ := fun y => (y.h.cell (p := ⟨p2, _, none⟩) l2).trans f0
      have g1 : ∀ y : Sub W.heap.size W, y.w.cell? ⟨p2, o2 + j * 4 + 1, none⟩ = _ := fun y => (y.h.cell (p := ⟨p2, _, none⟩) l2).trans f1
      have g2 : ∀ y : Sub W.heap.size W, y.w.cell? ⟨p2, o2 + j * 4 + 2, none⟩ = _ := fun y => (y.h.cell (p := ⟨p2, _, none⟩) l2).trans f2
      have g3 : ∀ y : Sub W.heap.size W, y.w.cell? ⟨p2, o2 + j * 4 + 3, none⟩ = _ := fun y => (y.h.cell (p := ⟨p2, _, none⟩) l2).trans f3
      have HE := hide (fun y : Sub W.heap.size W => ih j hlt (xAt lb j) u1 u2 v1 v2 y.w (e4.later y.h) (f4.later y.h) (hpa j hlt) (hpb j hlt))
      have SN := hide (sameN_s la lb j)
      have SP := hide (fun h => sameN_part (l := la) (m := lb) hlt h)
      have HD := hide hd.out
      clear e0 e1 e2 e3 e4 f0 f1 f2 f3 f4 c1 c2 ih hpa hpb hd
      unfold Ex.cs at HE
      generalize sameX (xAt la j) (xAt lb j) = q at *
      generalize (xAt la j).s = s1 at *
      generalize (xAt la j).k = k1 at *
      generalize (xAt la j).n = n1 at *
      generalize (xAt la j).l.length = ll1 at *
      generalize (xAt lb j).s = s2 at *
      generalize (xAt lb j).k = k2 at *
      generalize (xAt lb j).n = n2 at *
      generalize (xAt lb j).l.length = ll2 at *
      cases q with
      | false =>
        have E := hide ((unhide HN).symm.trans (unhide SP rfl))
        go_wp2_with fail
        refine wp_region_sub z (by kernel_rfl) (by kernel_rfl) ?_
        repeat (go_big_quiet_step (first | (go_at_call 22; exact Sub.call (unhide HZ) (unhide HE _))))
        refine wpQuiet_nil ?_
        intro y
        go_wp2
        go_ret
        exact ⟨by rw [unhide E]; rfl, unhide HB _⟩
      | true =>
        go_wp2_with fail
        refine wp_region_sub z (by kernel_rfl) (by kernel_rfl) ?_
        repeat (go_big_quiet_step (first | (go_at_call 22; exact Sub.call (unhide HZ) (unhide HE _))))
        refine wpQuiet_nil ?_
        intro y
        go_wp2
        go_roundw
        case rel => exact ⟨j + 1, y, by omega, by go_num, hide (by rw [unhide SN, unhide HD]; rfl), rfl⟩
        case measure => simp [intOf]; omega
    · obtain rfl : j = na := by omega
      have E := hide ((unhide HN).symm.trans hd.out)
      clear hd
      go_wp2
      go_ret
      exact ⟨by rw [unhide E]; rfl, unhide HB _⟩
theorem sameS_any (a : Ex) : SmP a := by
  induction a using Ex.ind with
  | h k n s l ih => exact sameS_of _ (fun i hi => ih _ (xAt_mem hi))
end Go.Proofs.YthgbpofcfmnpdaaDoor
