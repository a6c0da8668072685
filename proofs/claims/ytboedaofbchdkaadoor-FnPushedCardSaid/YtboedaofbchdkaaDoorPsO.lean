/- Contracts over this seat's translation, laid together; conditions stand as hypotheses of each. -/
import Derived.Test.YtboedaofbchdkaaDoorPsB
import Derived.Test.YtboedaofbchdkaaDoorPsE
import Derived.Test.YtboedaofbchdkaaDoorPsH
import Derived.Test.YtboedaofbchdkaaDoorPsN
import Derived.Test.YtboedaofbchdkaaDoorRows
import Derived.Lib.LaidTab
import Derived.MakeChecks
import Derived.Deep.CutRange

namespace Go.Proofs.YtboedaofbchdkaaDoor
open Go.ChangeShapes Go.WideShapes Go.ChangeAt Go.RowKit
set_option linter.unusedVariables false
set_option maxRecDepth 8000
set_option linter.unusedSimpArgs false
theorem dk_of {d : Md} {st : Int} (h : d.ok st = true) : Dk d ∧ 0 ≤ st ∧ st ≤ 2 := by
  unfold Md.ok at h
  simp only [Bool.and_eq_true, beq_iff_eq, decide_eq_true_eq] at h
  obtain ⟨h1, h2, h3, h4, h5, h6, h7, h8, h9⟩ := h
  have := inB_b h9
  exact ⟨⟨by omega, Wd.of h2, by omega, Wd.of h4, by omega, Wd.of h6, by omega, Wd.of h8⟩, this.1, this.2⟩
theorem laid_fullQ {ns : List Int} (h : ns.length = 256) : laidM ns z256 = ns := by
  unfold laidM
  rw [List.take_of_length_le (by omega), List.drop_eq_nil_of_le (by rw [z256_len]; omega), List.append_nil]
/-- What a machine holds, and how it stands, behind a step. -/
def Ms.stA (t : Ms) (st : Int) : Ms := if (t.d.ok st && (st == 0 && t.stpB)) = true then t.stp else t
def Ms.stN (t : Ms) (st : Int) : Int := if (t.d.ok st && st == 0) = true then (if t.stpB = true then t.stpS 0 else 2) else st
def Mv.ms (x : Mv) (d : Md) : Ms := ⟨d, x.n, x.z, x.v, x.c⟩
/-- The boxes of Step: what came in, the answer's place. -/
structure Bst (w wr : World) (x : Mv) : Prop where
  bx : wr.heap[w.heap.size]? = some (.cells x.cs 32 (0, 0))
  re : wr.heap[w.heap.size + 1]? = some (.cells zMv.cs 32 (0, 0))
  bel : Below w.heap.size w wr
  sz : w.heap.size + 2 ≤ wr.heap.size
section
variable {w wr w' : World} {x : Mv}
theorem bst_new (w : World) (x : Mv) : Bst w ((w.alloc (.cells x.cs 32)).alloc (.cells zMv.cs 32)) x := by
  have z1 : (w.alloc (.cells x.cs 32)).heap.size = w.heap.size + 1 := by simp
  have a1 := row_lat (heap_alloc_last w (.cells x.cs 32)) (below_new (w.alloc (.cells x.cs 32)) (.cells zMv.cs 32))
  have a2 := heap_alloc_last (w.alloc (.cells x.cs 32)) (.cells zMv.cs 32)
  rw [z1] at a2
  exact ⟨a1, a2, (below_new w _).trans ((below_new _ _).mono (by simp)), by simp⟩
theorem Bst.later (h : Bst w wr x) (hb : Below wr.heap.size wr w') : Bst w w' x := ⟨row_lat h.bx hb, row_lat h.re hb, h.bel.trans (hb.mono (by have := h.sz; omega)), Nat.le_trans h.sz hb.size⟩
theorem Bst.bel2 {B : Nat} (h : Bst w wr x) (hb : Below B wr w') (hB : w.heap.size + 2 ≤ B) : Bst w w' x :=
  ⟨(hb.block _ (by omega)).trans h.bx, (hb.block _ (by omega)).trans h.re, h.bel.trans (hb.mono (by omega)), Nat.le_trans h.sz hb.size⟩
theorem Bst.done (h : Bst w wr x) (cs : Array Value) : (wr.setRow (w.heap.size + 1) cs).heap[w.heap.size + 1]? = some (.cells cs 32 (0, 0)) ∧ Below w.heap.size w (wr.setRow (w.heap.size + 1) cs) :=
  ⟨setRow_heap wr _ _ _ 32 _ h.re, below_setRow h.bel (by omega) _⟩
end
theorem OwnE.row {w : World} {B g : Nat} {x : Mv} {d : Md} (h : OwnE w B x d) (hb : g < B) (cs : Array Value) : OwnE (w.setRow g cs) B x d := h.keepH fun j h1 _ => setRow_other w g j cs (by have := (h.lo h1).1; omega)
/-- What faulted answers. -/
def FtIs (x : Mv) (d : Md) (w : World) : Prop := Calls Tryd.prog 33 #[.agg x.cs] w fun e w' => ∃ y : Mv, e = .returned (.agg y.cs) ∧ y.fl = (x.ms d).fl 2 ∧ OwnM w' (w.heap.size + 2) y d ∧ Below w.heap.size w w'
set_option maxHeartbeats 2000000 in
theorem faulted_any (x : Mv) (d : Md) (w : World) (hs : x.small) (hz : x.nz) (hr : RdM w x d) : FtIs x d w := by
  have B1 := hide (bst_new w x)
  have CM := hide (copyM_any x d _ hs hz (hr.later (unhide B1).bel))
  unfold FtIs
  clear hs hz hr
  go_enter Tryd.func33, Tryd.ntmps33
  go_wp2_with (refine wpList_load_row rfl 32 _ rfl w.heap.size rfl 32 x.cs (0, 0) _ (unhide B1).bx Tryd.underlying32 rfl (by kernel_rfl) ?_)
  refine (unhide CM).mono ?_
  rintro e w2 ⟨y, rfl, fy, oy, hb⟩
  have R2 := heap_alloc_last w2 (.cells y.cs 32)
  have FY := hide (show ({ y with st := 2 } : Mv).fl = (x.ms d).fl 2 by unfold Mv.fl Ms.fl Mv.ms at *; simp at *; exact ⟨fy.1, fy.2.1, fy.2.2.1, fy.2.2.2.1⟩)
  have SB := hide (show w.heap.size + 2 ≤ ((w.alloc (.cells x.cs 32)).alloc (.cells zMv.cs 32)).heap.size + 2 by simp)
  have EC := hide (show y.cs.setIfInBounds 8 (.int .i64 2) = Mv.cs { y with st := 2 } from rfl)
  have c8 := row_st R2
  have f8 := row_fz R2 8
  have B3 := hide (((unhide B1).later hb).later (below_new w2 (.cells (y.cs.setIfInBounds 8 (.int .i64 2)) 32)))
  have R3 := hide (heap_alloc_last w2 (.cells (y.cs.setIfInBounds 8 (.int .i64 2)) 32))
  have O3 := hide (oy.later (below_new w2 (.cells (y.cs.setIfInBounds 8 (.int .i64 2)) 32)))
  clear fy oy hb CM R2 B1
  go_wp2_with (first | (refine wpList_store_new rfl 32 _ _ rfl y.cs rfl rfl _ (by kernel_rfl) rfl (Mv.cs_one _) ?_) | (refine wpList_load_row rfl 32 _ rfl w2.heap.size rfl 32 (y.cs.setIfInBounds 8 (.int .i64 2)) (0, 0) _ (unhide R3) Tryd.underlying32 rfl (by kernel_rfl) ?_) | (refine wpList_store_row rfl 32 _ _ rfl (w.heap.size + 1) (y.cs.setIfInBounds 8 (.int .i64 2)) rfl rfl 32 zMv.cs (unhide B3).re (by kernel_rfl) rfl (Mv.cs_one { y with st := 2 }) ?_))
  obtain ⟨r1, r2⟩ := (unhide B3).done (y.cs.setIfInBounds 8 (.int .i64 2))
  refine bodyPost_ret (results_cell_row (P := Tryd.prog) rfl _ _ (w.heap.size + 1) 32 (y.cs.setIfInBounds 8 (.int .i64 2)) (0, 0) _ rfl r1 Tryd.underlying32 rfl (by kernel_rfl)) rfl ?_
  have q := (unhide O3).row (g := w.heap.size + 1) (by simp) (y.cs.setIfInBounds 8 (.int .i64 2))
  obtain ⟨q1, q2, q3, q4, a1, a2, a3, a4, a5, a6⟩ := q.base (unhide SB)
  exact ⟨{ y with st := 2 }, rfl, unhide FY, ⟨q1, q2, q3, q4, a1, a2, a3, a4, a5, a6⟩, r2⟩
/-- What Step answers. -/
def StIs (x : Mv) (d d2 : Md) (f2 : Bool × Bool × Bool × Bool × Int) (w : World) : Prop := Calls Tryd.prog 12 #[.agg x.cs] w fun e w' => ∃ y : Mv, e = .returned (.agg y.cs) ∧ y.fl = f2 ∧ OwnE w' (w.heap.size + 2) y d2 ∧ Below w.heap.size w w' 
set_option maxHeartbeats 4000000 in
theorem stI_no (x : Mv) (d : Md) (w : World) (hs : x.small) (hz : x.nz) (hr : RdM w x d) (hno : (d.ok x.st && x.st == 0) = false) : StIs x d d x.fl w := by
  have B1 := hide (bst_new w x)
  have X1 := hide (hr.later (unhide B1).bel)
  have MK := hide (okI_any x d _ hs (unhide X1))
  have CM := hide (fun v (h : RdM v x d) => copyM_any x d v hs hz h)
  unfold StIs
  cases hok : d.ok x.st
  · rw [hok] at MK
    clear hs hz hr hok hno
    go_enter Tryd.func12, Tryd.ntmps12
    go_wp2_with (refine wpList_load_row rfl 32 _ rfl w.heap.size rfl 32 x.cs (0, 0) _ (unhide B1).bx Tryd.underlying32 rfl (by kernel_rfl) ?_)
    refine (unhide MK).mono ?_
    rintro e w2 ⟨rfl, hb⟩
    have B2 := hide ((unhide B1).later hb)
    have CC := hide (unhide CM _ ((unhide X1).later hb))
    clear hb MK CM B1 X1
    go_wp2_with (refine wpList_load_row rfl 32 _ rfl w.heap.size rfl 32 x.cs (0, 0) _ (unhide B2).bx Tryd.underlying32 rfl (by kernel_rfl) ?_)
    refine (unhide CC).mono ?_
    rintro e w3 ⟨y, rfl, fy, oy, hb⟩
    have B9 := hide ((unhide B2).later hb)
    have FY := hide fy
    have O3 := hide (oy.toE.base (C := w.heap.size + 2) (by have := (unhide B2).sz; omega))
    clear fy oy hb CC B2
    go_wp2_with (refine wpList_store_row rfl 32 _ _ rfl (w.heap.size + 1) y.cs rfl rfl 32 zMv.cs (unhide B9).re (by kernel_rfl) rfl (Mv.cs_one _) ?_)
    obtain ⟨r1, r2⟩ := (unhide B9).done y.cs
    refine bodyPost_ret (results_cell_row (P := Tryd.prog) rfl _ _ (w.heap.size + 1) 32 y.cs (0, 0) _ rfl r1 Tryd.underlying32 rfl (by kernel_rfl)) rfl ?_
    exact ⟨y, rfl, unhide FY, (unhide O3).row (by omega) _, r2⟩
  · rw [hok] at MK hno
    have hst : x.st ≠ 0 := fun e => by rw [e] at hno; simp at hno
    have c8 := row_st (unhide B1).bx
    have C8 := hide (fun v (b : Bst w v x) => row_st b.bx)
    generalize x.st = xs at c8 C8 hst
    clear hs hz hr hok hno c8
    go_enter Tryd.func12, Tryd.ntmps12
    go_wp2_with (refine wpList_load_row rfl 32 _ rfl w.heap.size rfl 32 x.cs (0, 0) _ (unhide B1).bx Tryd.underlying32 rfl (by kernel_rfl) ?_)
    refine (unhide MK).mono ?_
    rintro e w2 ⟨rfl, hb⟩
    have B2 := hide ((unhide B1).later hb)
    have CC := hide (unhide CM _ ((unhide X1).later hb))
    have c8 := unhide C8 _ (unhide B2)
    clear hb MK CM B1 X1 C8
    go_wp2_with (refine wpList_load_row rfl 32 _ rfl w.heap.size rfl 32 x.cs (0, 0) _ (unhide B2).bx Tryd.underlying32 rfl (by kernel_rfl) ?_)
    refine (unhide CC).mono ?_
    rintro e w3 ⟨y, rfl, fy, oy, hb⟩
    have B9 := hide ((unhide B2).later hb)
    have FY := hide fy
    have O3 := hide (oy.toE.base (C := w.heap.size + 2) (by have := (unhide B2).sz; omega))
    clear fy oy hb CC B2 c8
    go_wp2_with (refine wpList_store_row rfl 32 _ _ rfl (w.heap.size + 1) y.cs rfl rfl 32 zMv.cs (unhide B9).re (by kernel_rfl) rfl (Mv.cs_one _) ?_)
    obtain ⟨r1, r2⟩ := (unhide B9).done y.cs
    refine bodyPost_ret (results_cell_row (P := Tryd.prog) rfl _ _ (w.heap.size + 1) 32 y.cs (0, 0) _ rfl r1 Tryd.underlying32 rfl (by kernel_rfl)) rfl ?_
    exact ⟨y, rfl, unhide FY, (unhide O3).row (by omega) _, r2⟩
set_option maxHeartbeats 8000000 in
theorem stI_do (x : Mv) (d : Md) (w : World) (hs : x.small) (hz : x.nz) (hr : RdM w x d) (ht : Tab w) (hok : d.ok x.st = true) (h0 : x.st = 0) : StIs x d (if (x.ms d).stpB = true then (x.ms d).stp.d else d) (if (x.ms d).stpB = true then (x.ms d).stp.fl ((x.ms d).stpS 0) else (x.ms d).fl 2) w := by
  have B1 := hide (bst_new w x)
  have X1 := hide (hr.later (unhide B1).bel)
  have MK := hide (okI_any x d _ hs (unhide X1))
  rw [hok] at MK
  have DK := (dk_of hok).1
  have DK2 := hide DK
  have MO := hide (fun v (h : RdM v x d) => machineOf_any x d v hs hz h)
  rw [laid_fullQ DK.ml] at MO
  have FT := hide (fun v (h : RdM v x d) => faulted_any x d v hs hz h)
  unfold FtIs at FT
  have HR := hide hr
  have TB := hide ht
  have ST := hide (fun g B gr rc (y : Mv) v (p : Pz v g B gr rc y (x.ms d) 0 d.m) (tb : Tab v) (hB : 0 < B) => stepI_any g B gr rc y (x.ms d) 0 v p DK tb hB)
  unfold DoE at ST
  have C8 := hide (fun v (b : Bst w v x) => row_st b.bx)
  have XF := hide (show x.fl = (x.ms d).fl 0 by rw [← h0]; rfl)
  rw [h0] at C8
  unfold StIs
  generalize (x.ms d).stpB = ok at ST ⊢
  generalize (x.ms d).stp = t2 at ST ⊢
  generalize (x.ms d).stpS 0 = s2 at ST ⊢
  generalize hm : x.ms d = t at ST FT XF ⊢
  have TD := hide (show t.d = d by rw [← hm]; rfl)
  clear hs hz hr hok ht DK h0 hm
  go_enter Tryd.func12, Tryd.ntmps12
  go_wp2_with (refine wpList_load_row rfl 32 _ rfl w.heap.size rfl 32 x.cs (0, 0) _ (unhide B1).bx Tryd.underlying32 rfl (by kernel_rfl) ?_)
  refine (unhide MK).mono ?_
  rintro e w2 ⟨rfl, hb⟩
  have B2 := hide ((unhide B1).later hb)
  have X2 := hide ((unhide X1).later hb)
  have MO2 := hide (unhide MO _ (unhide X2))
  have c8 := unhide C8 _ (unhide B2)
  clear hb MK B1 X1 C8 MO
  go_wp2_with (refine wpList_load_row rfl 32 _ rfl w.heap.size rfl 32 x.cs (0, 0) _ (unhide B2).bx Tryd.underlying32 rfl (by kernel_rfl) ?_)
  refine (unhide MO2).mono ?_
  rintro e w3 ⟨y, rfl, fy, oy, hb⟩
  have oy := oy.base (C := w.heap.size + 2) (by have := (unhide B2).sz; omega)
  obtain ⟨gr, rc, er⟩ := sl_formP oy.r (by rw [(unhide DK2).rl]; omega)
  have ny : ∀ b, y.at b → b ≠ w3.heap.size := fun b k => by have := (oy.lo k).2; omega
  have S3 := hide (show w.heap.size + 2 ≤ w3.heap.size by have := (unhide B2).sz; have := hb.size; omega)
  have B3 := hide (((unhide B2).later hb).later (below_new w3 (.cells (bigA d.m y) 55)))
  have P3 := hide (show Pz (w3.alloc (.cells (bigA d.m y) 55)) w3.heap.size (w.heap.size + 2) gr rc y t 0 d.m from
    ⟨by rw [unhide TD]; exact heap_alloc_last w3 _, by rw [unhide TD]; exact (unhide DK2).ml, by rw [unhide TD]; exact oy.later (below_new w3 _), by rw [er, (unhide DK2).rl], by rw [unhide TD]; exact (unhide DK2).rl, fy.trans (unhide XF), unhide S3, ny⟩)
  have LY := hide (fun b (k : y.at b) => (oy.lo k).1)
  have ST2 := hide (unhide ST _ _ _ _ _ _ (unhide P3) ((unhide TB).later (unhide B3).bel) (by omega))
  have ML := hide (unhide DK2).ml
  clear fy oy hb MO2 er ny ST B2 X2 c8 XF
  go_wp2_with (first | (refine wpList_alloc60 rfl rfl ?_) | (refine wpList_store60 rfl _ _ rfl d.m y (unhide ML) rfl rfl ?_))
  refine (unhide ST2).mono ?_
  rintro e w4 ⟨y2, rfl, a4⟩
  have BB := hide (a4.fm.bel (B := w.heap.size + 2) (by have := unhide S3; simp; omega) (by have := unhide S3; omega) (fun b k => unhide LY b k))
  have B4 := hide ((unhide B3).bel2 (unhide BB) (Nat.le_refl _))
  cases ok
  · have FT2 := hide (unhide FT _ ((unhide HR).later (unhide B4).bel))
    clear a4 FT ST2 P3 B3
    go_wp2_with (refine wpList_load_row rfl 32 _ rfl w.heap.size rfl 32 x.cs (0, 0) _ (unhide B4).bx Tryd.underlying32 rfl (by kernel_rfl) ?_)
    refine (unhide FT2).mono ?_
    rintro e w5 ⟨y5, rfl, fy, oy, hb⟩
    have B9 := hide ((unhide B4).later hb)
    have FY := hide fy
    have O5 := hide (oy.toE.base (C := w.heap.size + 2) (by have := (unhide B4).sz; omega))
    clear fy oy hb FT2 B4
    go_wp2_with (refine wpList_store_row rfl 32 _ _ rfl (w.heap.size + 1) y5.cs rfl rfl 32 zMv.cs (unhide B9).re (by kernel_rfl) rfl (Mv.cs_one _) ?_)
    obtain ⟨r1, r2⟩ := (unhide B9).done y5.cs
    refine bodyPost_ret (results_cell_row (P := Tryd.prog) rfl _ _ (w.heap.size + 1) 32 y5.cs (0, 0) _ rfl r1 Tryd.underlying32 rfl (by kernel_rfl)) rfl ?_
    exact ⟨y5, rfl, unhide FY, (unhide O5).row (by omega) _, r2⟩
  · have pe := a4.yes (by trivial)
    obtain ⟨m0, hm0, ow⟩ := pe.own
    have AN := hide (answerE_any w3.heap.size (w.heap.size + 2) t2.d.m m0 y2 w4 pe.len pe.row ow.m (fun e => pe.ne _ (.inl e.symm) rfl))
    rw [hm0, List.take_of_length_le (Nat.le_of_eq pe.len), List.drop_eq_nil_of_le (Nat.le_of_eq hm0), List.append_nil] at AN
    have OW := hide ow
    have FY := hide pe.fl
    clear a4 FT ST2 P3 B3 pe ow
    go_wp2_with fail
    refine (unhide AN).mono ?_
    rintro e w5 ⟨rfl, om, g5⟩
    have O5 := hide (show OwnE w5 (w.heap.size + 2) y2 t2.d from
      { m := om
        r := (unhide OW).r.keep fun q hv hq => g5.block q hq (fun e => (unhide OW).mr q e.symm hv)
        i := (unhide OW).i.keep fun q hv hq => g5.block q hq (fun e => (unhide OW).mi q e.symm hv)
        o := (unhide OW).o.keep fun q hv hq => g5.block q hq (fun e => (unhide OW).mo q e.symm hv)
        mr := (unhide OW).mr, mi := (unhide OW).mi, mo := (unhide OW).mo, ri := (unhide OW).ri, ro := (unhide OW).ro, io := (unhide OW).io })
    have B9 := hide ((unhide B4).bel2 (B := w.heap.size + 2) ⟨g5.os, g5.tape, g5.output, g5.size, fun k hk => g5.block k (by have := (unhide B4).sz; omega) (fun e => by have := ((unhide OW).m.lt e.symm).1; omega)⟩ (Nat.le_refl _))
    clear om g5 AN OW B4
    go_wp2_with (refine wpList_store_row rfl 32 _ _ rfl (w.heap.size + 1) y2.cs rfl rfl 32 zMv.cs (unhide B9).re (by kernel_rfl) rfl (Mv.cs_one _) ?_)
    obtain ⟨r1, r2⟩ := (unhide B9).done y2.cs
    refine bodyPost_ret (results_cell_row (P := Tryd.prog) rfl _ _ (w.heap.size + 1) 32 y2.cs (0, 0) _ rfl r1 Tryd.underlying32 rfl (by kernel_rfl)) rfl ?_
    exact ⟨y2, rfl, unhide FY, (unhide O5).row (by omega) _, r2⟩
/-- Step by the program, at every machine. -/
theorem stepI_all (x : Mv) (d : Md) (w : World) (hs : x.small) (hz : x.nz) (hr : RdM w x d) (ht : Tab w) : StIs x d ((x.ms d).stA x.st).d (((x.ms d).stA x.st).fl ((x.ms d).stN x.st)) w := by
  unfold Ms.stA Ms.stN
  cases hno : (d.ok x.st && x.st == 0)
  · have e1 : ((x.ms d).d.ok x.st && x.st == 0) = false := hno
    have e2 : ((x.ms d).d.ok x.st && (x.st == 0 && (x.ms d).stpB)) = false := by rw [← Bool.and_assoc, e1, Bool.false_and]
    rw [e1, e2, if_neg (by simp), if_neg (by simp)]
    exact stI_no x d w hs hz hr hno
  · have e1 : ((x.ms d).d.ok x.st && x.st == 0) = true := hno
    have e2 : ((x.ms d).d.ok x.st && (x.st == 0 && (x.ms d).stpB)) = (x.ms d).stpB := by rw [← Bool.and_assoc, e1, Bool.true_and]
    rw [e1, e2, if_pos rfl]
    simp only [Bool.and_eq_true, beq_iff_eq] at hno
    have q := stI_do x d w hs hz hr ht hno.1 hno.2
    cases hb : (x.ms d).stpB
    · rw [hb] at q
      exact q
    · rw [hb] at q
      exact q
end Go.Proofs.YtboedaofbchdkaaDoor

namespace Go.Proofs.YtboedaofbchdkaaDoor
open Go.ChangeShapes Go.WideShapes Go.ChangeAt Go.RowKit
set_option linter.unusedVariables false
set_option maxRecDepth 8000
set_option linter.unusedSimpArgs false
def Io (d e : Md) : Prop := e.o = d.o ∧ e.i = d.i
theorem Io.refl (d : Md) : Io d d := ⟨rfl, rfl⟩
theorem Io.trans {a b c : Md} (h : Io a b) (k : Io b c) : Io a c := ⟨k.1.trans h.1, k.2.trans h.2⟩
theorem io_reg (d : Md) (k : Nat) (v : Int) : Io d (d.reg k v) := ⟨rfl, rfl⟩
theorem io_st (d : Md) (r a n : Int) : Io d (d.stD r a n) := by
  unfold Md.stD Md.put
  repeat' split
  all_goals exact ⟨rfl, rfl⟩
theorem io_pl (d : Md) (mo re : Nat) : Io d (d.plD mo re) := by
  unfold Md.plD Md.adD Md.fet
  repeat' split
  all_goals exact ⟨rfl, rfl⟩
theorem io_two (t : Ms) (op : Nat) (s r a : Int) : Io t.d (t.two op s r a).d := by
  unfold Ms.two
  split
  all_goals first | exact io_st t.d r a _ | exact ⟨rfl, rfl⟩
theorem io_one (t : Ms) (op : Nat) (r a : Int) : Io t.d (t.one op r a).d := by
  unfold Ms.one
  split
  all_goals first | exact io_st t.d r a _ | exact ⟨rfl, rfl⟩
theorem dk_two {t : Ms} (h : Dk t.d) (op : Nat) (s r a : Int) : Dk (t.two op s r a).d := by
  unfold Ms.two
  split
  all_goals first | exact dk_stS h r a _ | exact h
theorem dk_one {t : Ms} (h : Dk t.d) (op : Nat) (r a : Int) : Dk (t.one op r a).d := by
  unfold Ms.one
  split
  all_goals first | exact dk_stS h r a _ | exact h
theorem ad_w {d : Md} (hk : Dk d) (mo re : Nat) (hr : re < 8) : 0 ≤ d.adV mo re ∧ d.adV mo re ≤ 65535 := by
  have h := hk.rw _ (nAt_mem (show re < d.r.length by have := hk.rl; omega))
  unfold Md.adV
  repeat' split
  all_goals omega
theorem pl_w {d : Md} (hk : Dk d) (mo re : Nat) (hr : re < 8) (hq : d.plR mo re = -1) : 0 ≤ d.plA mo re ∧ d.plA mo re ≤ 65535 := by
  unfold Md.plA
  by_cases h0 : mo = 0
  · unfold Md.plR at hq
    rw [if_pos h0] at hq
    omega
  · rw [if_neg h0]
    split
    · split
      · have : Dk (d.adD mo re) := by have := dk_plS hk mo re; unfold Md.plD at this; rw [if_neg h0] at this; exact this
        exact this.getb _
      · exact ad_w hk mo re hr
    · omega
theorem Dk.rga {t : Ms} (h : Dk t.d) (k : Nat) (v : Int) (v0 : 0 ≤ v) (v1 : v ≤ 65535) : Dk (t.rg k v).d := h.setR k v v0 v1
theorem Dk.rat {t : Ms} (h : Dk t.d) {k : Nat} (hk : k < 8) : 0 ≤ nAt t.d.r k ∧ nAt t.d.r k ≤ 65535 := h.rw _ (nAt_mem (by have := h.rl; omega))
/-- A machine behind an instruction, against the one before. -/
structure Nx (d e : Md) : Prop where
  dk : Dk e
  out : d.o.length ≤ e.o.length
  inp : e.i.length ≤ d.i.length
theorem Nx.of {d e : Md} (h : Dk e) (i : Io d e) : Nx d e := ⟨h, by rw [i.1]; exact Nat.le_refl _, by rw [i.2]; exact Nat.le_refl _⟩
theorem nx_dos {t : Ms} (hk : Dk t.d) (op sm sr dm dr : Nat) (n : Int) (hi : InsN op sm sr dm dr n) (hb : t.doB op sm sr dm dr n = true) : Nx t.d (t.dos op sm sr dm dr n).d := by
  have l1 := hi.lo
  have l2 := hi.hi
  unfold Ms.dos
  by_cases h6 : op ≤ 6
  · rw [if_pos h6]
    exact .of (dk_two (dk_op (dk_op hk sm sr) dm dr) op _ _ _) (((io_pl t.d sm sr).trans (io_pl _ dm dr)).trans (io_two ((t.op sm sr).op dm dr) op _ _ _))
  rw [if_neg h6]
  by_cases h13 : op ≤ 13
  · rw [if_pos h13]
    exact .of (dk_one (dk_op hk dm dr) op _ _) ((io_pl t.d dm dr).trans (io_one (t.op dm dr) op _ _))
  rw [if_neg h13]
  by_cases h14 : op = 14
  · subst h14
    rw [if_pos rfl]
    have d := hi.dst (by omega)
    have hq : t.d.plR dm dr = -1 := by
      have : tgO t dm dr = true := hb
      unfold tgO at this
      simp only [Bool.and_eq_true, beq_iff_eq] at this
      exact this.2
    have w := pl_w hk dm dr d.2 hq
    exact .of ((dk_op hk dm dr).rga 7 _ w.1 w.2) ((io_pl t.d dm dr).trans (io_reg _ 7 _))
  rw [if_neg h14]
  by_cases h15 : op = 15
  · subst h15
    rw [if_pos rfl]
    have d := hi.dst (by omega)
    have r := hi.reg (.inl rfl)
    have hq : t.d.plR dm dr = -1 := by
      have : clO t dm dr = true := hb
      unfold clO tgO at this
      simp only [Bool.and_eq_true, beq_iff_eq] at this
      exact this.1.2
    have w := pl_w hk dm dr d.2 hq
    have k1 : Dk (t.op dm dr).go1.d := (dk_op hk dm dr).regS _ _
    have k2 : Dk ((t.op dm dr).go2 n.toNat).d := dk_stM k1 (-1) ((nAt (t.op dm dr).d.r 6 - 2) % 65536) (nAt (t.op dm dr).go1.d.r n.toNat)
    have v7 := k2.rat (t := (t.op dm dr).go2 n.toNat) (k := 7) (by omega)
    have k3 : Dk ((t.op dm dr).go3 n.toNat).d := k2.rga (t := (t.op dm dr).go2 n.toNat) n.toNat _ v7.1 v7.2
    exact .of (k3.rga (t := (t.op dm dr).go3 n.toNat) 7 _ w.1 w.2) (((((io_pl t.d dm dr).trans (io_reg _ 6 _)).trans (io_st _ _ _ _)).trans (io_reg _ n.toNat _)).trans (io_reg _ 7 _))
  rw [if_neg h15]
  by_cases h16 : op = 16
  · subst h16
    rw [if_pos rfl]
    have r := hi.reg (.inr rfl)
    have v := hk.rat (t := t) (k := n.toNat) (by omega)
    have k1 : Dk (t.back1 n.toNat).d := hk.rga 7 _ v.1 v.2
    have k2 : Dk ((t.back1 n.toNat).rg 6 ((nAt t.d.r 6 + 2) % 65536)).d := k1.regS _ _
    have g := k1.getb (nAt t.d.r 6)
    exact .of (k2.rga (t := (t.back1 n.toNat).rg 6 ((nAt t.d.r 6 + 2) % 65536)) n.toNat _ g.1 g.2) (((io_reg _ 7 _).trans (io_reg _ 6 _)).trans (io_reg _ n.toNat _))
  rw [if_neg h16]
  by_cases h21 : op ≤ 21
  · rw [if_pos h21]
    unfold Ms.branch
    split
    · exact .of (hk.regS _ _) (io_reg _ 7 _)
    · exact .of hk (.refl _)
  rw [if_neg h21]
  by_cases h22 : op = 22
  · rw [if_pos h22]
    exact .of hk (.refl _)
  rw [if_neg h22]
  have hb2 : t.emtB n = true := by
    unfold Ms.doB at hb
    rw [if_neg (by omega), if_neg (by omega), if_neg (by omega), if_neg (by omega), if_neg (by omega)] at hb
    exact hb
  unfold Ms.emt
  unfold Ms.emtB at hb2
  by_cases n1 : n = 1
  · rw [if_pos n1] at hb2 ⊢
    have hl : t.d.o.length < 50 := by simpa using hb2
    have v := hk.rat (t := t) (k := 0) (by omega)
    refine ⟨{ hk with ol := ?_, ow := ?_ }, ?_, Nat.le_refl _⟩
    · show (t.d.o ++ [nAt t.d.r 0]).length ≤ 50
      simp; omega
    · intro x hx
      rcases List.mem_append.1 hx with h | h
      · exact hk.ow x h
      · simp at h; subst h; exact v
    · show t.d.o.length ≤ (t.d.o ++ [nAt t.d.r 0]).length
      simp
  · rw [if_neg n1]
    cases hi2 : t.d.i with
    | nil => exact ⟨hk.rga 0 65535 (by omega) (by omega), Nat.le_refl _, Nat.le_refl _⟩
    | cons x xs =>
      have wx := hk.iw x (by rw [hi2]; simp)
      have k1 := hk.rga 0 x wx.1 wx.2
      refine ⟨{ k1 with il := ?_, iw := ?_ }, Nat.le_refl _, ?_⟩
      · show xs.length ≤ 50
        have := hk.il; rw [hi2] at this; simp at this; omega
      · intro z hz
        exact hk.iw z (by rw [hi2]; exact List.mem_cons_of_mem _ hz)
      · show xs.length ≤ t.d.i.length
        rw [hi2]
        simp
theorem nx_stp {t : Ms} (hk : Dk t.d) (hb : t.stpB = true) : Nx t.d t.stp.d ∧ (t.stpS 0 = 0 ∨ t.stpS 0 = 1) := by
  unfold Ms.stpB Ms.insB at hb
  simp only [Bool.and_eq_true] at hb
  obtain ⟨⟨h1, h2⟩, h3⟩ := hb
  have hok : t.ins.ok = true := by unfold Ms.ins; unfold decOk at h2; simp only [Bool.and_eq_true] at h2; exact h2.2.2
  obtain ⟨op, sm, sr, dm, dr, e1, e2, e3, e4, e5, hi⟩ := is_nat hok
  have kn : Dk t.nxt.d := hk.regS _ _
  unfold Ms.stp Ms.stpS
  rw [show t.ins.op.toNat = op by omega, show t.ins.s.m.toNat = sm by omega, show t.ins.s.r.toNat = sr by omega, show t.ins.d.m.toNat = dm by omega, show t.ins.d.r.toNat = dr by omega] at *
  have q := nx_dos kn op sm sr dm dr t.ins.n hi h3
  refine ⟨⟨q.dk, q.out, q.inp⟩, ?_⟩
  unfold doS
  split
  · exact .inr rfl
  · exact .inl rfl
theorem small_stA (t : Ms) (st : Int) (h : t.d.small) : (t.stA st).d.small := by
  unfold Ms.stA
  split
  · rename_i hc
    simp only [Bool.and_eq_true, beq_iff_eq] at hc
    exact (nx_stp (dk_of hc.1).1 hc.2.2).1.dk.small
  · exact h
end Go.Proofs.YtboedaofbchdkaaDoor

namespace Go.Proofs.YtboedaofbchdkaaDoor
open Go.ChangeShapes Go.WideShapes Go.ChangeAt Go.RowKit
set_option linter.unusedVariables false
set_option maxRecDepth 8000
set_option linter.unusedSimpArgs false
/-- What a machine holds, and how it stands, behind so many steps. -/
def Ms.it : Nat → Ms → Int → Ms × Int
  | 0, t, st => (t, st)
  | k + 1, t, st => Ms.it k (t.stA st) (t.stN st)
theorem stA_off {t : Ms} {st : Int} (h : (t.d.ok st && st == 0) = false) : t.stA st = t ∧ t.stN st = st := by
  unfold Ms.stA Ms.stN
  rw [← Bool.and_assoc, h]
  simp
theorem it_off {t : Ms} {st : Int} (h : (t.d.ok st && st == 0) = false) : ∀ k, Ms.it k t st = (t, st)
  | 0 => rfl
  | k + 1 => by unfold Ms.it; rw [(stA_off h).1, (stA_off h).2]; exact it_off h k
theorem it_stand {t : Ms} {st : Int} (h : st ≠ 0) (k : Nat) : Ms.it k t st = (t, st) := it_off (by simp [h]) k
/-- What Run leaves. -/
def Ms.rn (t : Ms) (st n : Int) : Ms × Int := if 0 ≤ n ∧ n ≤ 2000 then Ms.it n.toNat t st else (t, st)
theorem rn_in (t : Ms) (st : Int) (k : Nat) (h : k ≤ 2000) : t.rn st (k : Int) = Ms.it k t st := by
  unfold Ms.rn
  rw [if_pos (by omega), Int.toNat_natCast]
theorem rn_out (t : Ms) (st n : Int) (h : ¬ (0 ≤ n ∧ n ≤ 2000)) : t.rn st n = (t, st) := by unfold Ms.rn; rw [if_neg h]
/-- A right machine's step, as the model's loop leaves it. -/
theorem stA_dk {t : Ms} (h : Dk t.d) : t.stA 0 = (if t.stpB = true then t.stp else t) ∧ t.stN 0 = (if t.stpB = true then t.stpS 0 else 2) := by
  unfold Ms.stA Ms.stN
  have k := h.ok 0 (by omega) (by omega)
  simp [k]
theorem dk_stA {t : Ms} (h : Dk t.d) : Dk (t.stA 0).d := by
  rw [(stA_dk h).1]
  split
  · rename_i hb
    exact (nx_stp h hb).1.dk
  · exact h
end Go.Proofs.YtboedaofbchdkaaDoor

namespace Go.Proofs.YtboedaofbchdkaaDoor
open Go.ChangeShapes Go.WideShapes Go.ChangeAt Go.RowKit
set_option linter.unusedVariables false
set_option maxRecDepth 8000
set_option linter.unusedSimpArgs false
theorem OwnO.nz {w : World} {B : Nat} {s : Sl} {ns : List Int} (h : OwnO w B s ns) : s.nz := by
  rcases h with ⟨rfl, _⟩ | ⟨g, off, cap, rfl, _⟩
  · exact fun _ => rfl
  · exact fun c => by cases c
theorem OwnE.nz {w : World} {B : Nat} {x : Mv} {d : Md} (h : OwnE w B x d) : x.nz := ⟨h.m.nz, h.r.nz, h.i.nz, h.o.nz⟩
end Go.Proofs.YtboedaofbchdkaaDoor

namespace Go.Proofs.YtboedaofbchdkaaDoor
open Go.ChangeShapes Go.WideShapes Go.ChangeAt Go.RowKit
set_option linter.unusedVariables false
set_option maxRecDepth 8000
set_option linter.unusedSimpArgs false
theorem ms_of_eq {y : Mv} {t : Ms} {st : Int} (h : y.fl = t.fl st) : y.ms t.d = t ∧ y.st = st := by
  have h2 := h
  simp only [Mv.fl, Ms.fl, Prod.mk.injEq] at h2
  obtain ⟨a, b, c, d, e⟩ := h2
  exact ⟨by unfold Mv.ms; rw [a, b, c, d], e⟩
/-- The boxes of walk, and the machine that it has come to. -/
structure Wk (w wr : World) (y : Mv) (t : Ms) (st : Int) : Prop where
  b : Bst w wr y
  own : OwnE wr (w.heap.size + 2) y t.d
  fl : y.fl = t.fl st
  sm : t.d.small
section
variable {w wr w' : World} {y y2 : Mv} {t t2 : Ms} {st s2 : Int}
theorem Bst.put {x : Mv} (h : Bst w wr x) (y : Mv) : Bst w (wr.setRow w.heap.size y.cs) y :=
  ⟨setRow_heap wr _ _ _ 32 _ h.bx, by rw [setRow_other wr w.heap.size (w.heap.size + 1) y.cs (by omega)]; exact h.re, below_setRow h.bel (Nat.le_refl _) _, by have := h.sz; simpa using this⟩
theorem Wk.step (h : Wk w wr y t st) (hb : Below wr.heap.size wr w') (o : OwnE w' (wr.heap.size + 2) y2 t2.d) (hf : y2.fl = t2.fl s2) (hs : t2.d.small) : Wk w (w'.setRow w.heap.size y2.cs) y2 t2 s2 :=
  ⟨(h.b.later hb).put y2, (o.base (by have := h.b.sz; omega)).row (by omega) _, hf, hs⟩
theorem Wk.tab (h : Wk w wr y t st) (ht : Tab w) : Tab wr := ht.later h.b.bel
theorem Wk.stp (h : Wk w wr y t st) (ht : Tab w) : StIs y t.d (t.stA st).d ((t.stA st).fl (t.stN st)) wr := by
  have q := stepI_all y t.d wr (small_mv h.own.rd h.sm) h.own.nz h.own.rd (h.tab ht)
  rw [(ms_of_eq h.fl).1, (ms_of_eq h.fl).2] at q
  exact q
end
/-- What walk answers. -/
def WlIs (x : Mv) (n : Int) (d2 : Md) (f2 : Bool × Bool × Bool × Bool × Int) (w : World) : Prop := Calls Tryd.prog 21 #[.agg x.cs, .int .i64 n] w fun e w' => ∃ (y : Mv) (k : Int), e = .returned (.tuple #[.agg y.cs, .int .i64 k]) ∧ y.fl = f2 ∧ OwnE w' (w.heap.size + 2) y d2 ∧ Below w.heap.size w w'
set_option maxHeartbeats 4000000 in
theorem walk_any (x : Mv) (d : Md) (n : Int) (w : World) (hs : x.small) (hz : x.nz) (hr : RdM w x d) (ht : Tab w) : WlIs x n ((x.ms d).rn x.st n).1.d (((x.ms d).rn x.st n).1.fl ((x.ms d).rn x.st n).2) w := by
  have B1 := hide (bst_new w x)
  have CM := hide (copyM_any x d _ hs hz (hr.later (unhide B1).bel))
  have SM := hide (small_md hr hs)
  have TB := hide ht
  unfold WlIs
  by_cases hn : 0 ≤ n ∧ n ≤ 2000
  rotate_left
  · rw [rn_out _ _ _ hn]
    clear hs hz hr ht
    go_enter Tryd.func21, Tryd.ntmps21
    go_wp2_with (refine wpList_load_row rfl 32 _ rfl w.heap.size rfl 32 x.cs (0, 0) _ (unhide B1).bx Tryd.underlying32 rfl (by kernel_rfl) ?_)
    refine (unhide CM).mono ?_
    rintro e w2 ⟨y, rfl, fy, oy, hb⟩
    have W2 := hide (show Wk w (w2.setRow w.heap.size y.cs) y (x.ms d) x.st from ⟨((unhide B1).later hb).put y, (oy.toE.base (by have := (unhide B1).sz; omega)).row (by omega) _, fy, unhide SM⟩)
    have B2 := hide ((unhide B1).later hb)
    clear fy oy hb CM B1
    by_cases h0 : n < 0
    · go_wp2_with (first | (refine wpList_store_row rfl 32 _ _ rfl w.heap.size y.cs rfl rfl 32 x.cs (unhide B2).bx (by kernel_rfl) rfl (Mv.cs_one _) ?_) | (refine wpList_load_row rfl 32 _ rfl w.heap.size rfl 32 y.cs (0, 0) _ (unhide W2).b.bx Tryd.underlying32 rfl (by kernel_rfl) ?_) | (refine wpList_store_row rfl 32 _ _ rfl (w.heap.size + 1) y.cs rfl rfl 32 zMv.cs (unhide W2).b.re (by kernel_rfl) rfl (Mv.cs_one _) ?_))
      obtain ⟨r1, r2⟩ := (unhide W2).b.done y.cs
      refine bodyPost_ret (results_row2 (P := Tryd.prog) rfl _ _ (w.heap.size + 1) 32 y.cs (0, 0) _ rfl r1 Tryd.underlying32 rfl (by kernel_rfl)) rfl ?_
      exact ⟨y, _, rfl, (unhide W2).fl, (unhide W2).own.row (by omega) _, r2⟩
    · have h2 : 2000 < n := by omega
      go_wp2_with (first | (refine wpList_store_row rfl 32 _ _ rfl w.heap.size y.cs rfl rfl 32 x.cs (unhide B2).bx (by kernel_rfl) rfl (Mv.cs_one _) ?_) | (refine wpList_load_row rfl 32 _ rfl w.heap.size rfl 32 y.cs (0, 0) _ (unhide W2).b.bx Tryd.underlying32 rfl (by kernel_rfl) ?_) | (refine wpList_store_row rfl 32 _ _ rfl (w.heap.size + 1) y.cs rfl rfl 32 zMv.cs (unhide W2).b.re (by kernel_rfl) rfl (Mv.cs_one _) ?_))
      obtain ⟨r1, r2⟩ := (unhide W2).b.done y.cs
      refine bodyPost_ret (results_row2 (P := Tryd.prog) rfl _ _ (w.heap.size + 1) 32 y.cs (0, 0) _ rfl r1 Tryd.underlying32 rfl (by kernel_rfl)) rfl ?_
      exact ⟨y, _, rfl, (unhide W2).fl, (unhide W2).own.row (by omega) _, r2⟩
  · obtain ⟨N, hN⟩ := Int.eq_ofNat_of_zero_le hn.1
    subst hN
    have hN2 : N ≤ 2000 := by omega
    rw [rn_in _ _ _ hN2]
    obtain ⟨T, hT⟩ : ∃ T, T = Ms.it N (x.ms d) x.st := ⟨_, rfl⟩
    rw [← hT]
    have ET := hide hT
    clear hs hz hr ht hn hT
    go_enter Tryd.func21, Tryd.ntmps21
    go_wp2_with (refine wpList_load_row rfl 32 _ rfl w.heap.size rfl 32 x.cs (0, 0) _ (unhide B1).bx Tryd.underlying32 rfl (by kernel_rfl) ?_)
    refine (unhide CM).mono ?_
    rintro e w2 ⟨y0, rfl, fy, oy, hb⟩
    have W2 := hide (show Wk w (w2.setRow w.heap.size y0.cs) y0 (x.ms d) x.st from ⟨((unhide B1).later hb).put y0, (oy.toE.base (by have := (unhide B1).sz; omega)).row (by omega) _, fy, unhide SM⟩)
    have B2 := hide ((unhide B1).later hb)
    clear fy oy hb CM B1
    go_wp2_with (first | (refine wpList_store_row rfl 32 _ _ rfl w.heap.size y0.cs rfl rfl 32 x.cs (unhide B2).bx (by kernel_rfl) rfl (Mv.cs_one _) ?_) | (refine wpList_load_row rfl 32 _ rfl w.heap.size rfl 32 y0.cs (0, 0) _ (unhide W2).b.bx Tryd.underlying32 rfl (by kernel_rfl) ?_) | (refine wpList_store_row rfl 32 _ _ rfl (w.heap.size + 1) y0.cs rfl rfl 32 zMv.cs (unhide W2).b.re (by kernel_rfl) rfl (Mv.cs_one _) ?_))
    go_loopw [17] (fun i wr => ∃ (k : Nat) (y : Mv) (t : Ms) (st : Int), k ≤ N ∧ i = .int .i64 k ∧ Wk w wr y t st ∧ Hid (T = Ms.it (N - k) t st)) (fun i _ => N - (intOf i).toNat)
    case atStart => exact ⟨0, y0, x.ms d, x.st, Nat.zero_le _, rfl, unhide W2, unhide ET⟩
    case round =>
      clear W2 B2 ET SM
      obtain ⟨k, y, t, st, hk, rfl, hw, hT⟩ := hrel
      have W1 := hide hw
      by_cases hlt : k < N
      · have c8 := row_st hw.b.bx
        rw [(ms_of_eq hw.fl).2] at c8
        by_cases hst : st = 0
        · subst hst
          have ST := hide (hw.stp (unhide TB))
          unfold StIs at ST
          have SM := hide (small_stA t 0 hw.sm)
          have E2 := hide (show T = Ms.it (N - (k + 1)) (t.stA 0) (t.stN 0) by rw [hT.out, show N - k = (N - (k + 1)) + 1 by omega]; rfl)
          generalize t.stN 0 = s2 at ST E2
          generalize t.stA 0 = t2 at ST SM E2
          clear hw hT
          go_wp2_with (refine wpList_load_row rfl 32 _ rfl w.heap.size rfl 32 y.cs (0, 0) _ (unhide W1).b.bx Tryd.underlying32 rfl (by kernel_rfl) ?_)
          refine (unhide ST).mono ?_
          rintro e w3 ⟨y2, rfl, fy, oy, hb⟩
          have W3 := hide ((unhide W1).step hb oy fy (unhide SM))
          have R3 := hide ((unhide W1).b.later hb).bx
          clear fy oy hb ST SM c8 W1
          go_wp2_with (refine wpList_store_row rfl 32 _ _ rfl w.heap.size y2.cs rfl rfl 32 y.cs (unhide R3) (by kernel_rfl) rfl (Mv.cs_one _) ?_)
          go_roundw
          case rel => exact ⟨k + 1, y2, t2, s2, by omega, by go_num, unhide W3, unhide E2⟩
          case measure => simp [intOf]; omega
        · have E1 := hide (show T = (t, st) by rw [hT.out]; exact it_stand hst _)
          clear hw hT
          go_wp2_with (first | (refine wpList_load_row rfl 32 _ rfl w.heap.size rfl 32 y.cs (0, 0) _ (unhide W1).b.bx Tryd.underlying32 rfl (by kernel_rfl) ?_) | (refine wpList_store_row rfl 32 _ _ rfl (w.heap.size + 1) y.cs rfl rfl 32 zMv.cs (unhide W1).b.re (by kernel_rfl) rfl (Mv.cs_one _) ?_))
          obtain ⟨r1, r2⟩ := (unhide W1).b.done y.cs
          refine bodyPost_ret (results_row2 (P := Tryd.prog) rfl _ _ (w.heap.size + 1) 32 y.cs (0, 0) _ rfl r1 Tryd.underlying32 rfl (by kernel_rfl)) rfl ?_
          have e := unhide E1
          exact ⟨y, _, rfl, by rw [e]; exact (unhide W1).fl, by rw [e]; exact (unhide W1).own.row (by omega) _, r2⟩
      · obtain rfl : k = N := by omega
        have E1 := hide (show T = (t, st) by rw [hT.out, Nat.sub_self]; rfl)
        clear hw hT
        go_wp2_with (first | (refine wpList_load_row rfl 32 _ rfl w.heap.size rfl 32 y.cs (0, 0) _ (unhide W1).b.bx Tryd.underlying32 rfl (by kernel_rfl) ?_) | (refine wpList_store_row rfl 32 _ _ rfl (w.heap.size + 1) y.cs rfl rfl 32 zMv.cs (unhide W1).b.re (by kernel_rfl) rfl (Mv.cs_one _) ?_))
        obtain ⟨r1, r2⟩ := (unhide W1).b.done y.cs
        refine bodyPost_ret (results_row2 (P := Tryd.prog) rfl _ _ (w.heap.size + 1) 32 y.cs (0, 0) _ rfl r1 Tryd.underlying32 rfl (by kernel_rfl)) rfl ?_
        have e := unhide E1
        exact ⟨y, _, rfl, by rw [e]; exact (unhide W1).fl, by rw [e]; exact (unhide W1).own.row (by omega) _, r2⟩
/-- What Run answers. -/
def RnIs (x : Mv) (n : Int) (d2 : Md) (f2 : Bool × Bool × Bool × Bool × Int) (w : World) : Prop := Calls Tryd.prog 9 #[.agg x.cs, .int .i64 n] w fun e w' => ∃ y : Mv, e = .returned (.agg y.cs) ∧ y.fl = f2 ∧ OwnE w' (w.heap.size + 2) y d2 ∧ Below w.heap.size w w'
set_option maxHeartbeats 4000000 in
theorem runI_any (x : Mv) (d : Md) (n : Int) (w : World) (hs : x.small) (hz : x.nz) (hr : RdM w x d) (ht : Tab w) : RnIs x n ((x.ms d).rn x.st n).1.d (((x.ms d).rn x.st n).1.fl ((x.ms d).rn x.st n).2) w := by
  have B1 := hide (bst_new w x)
  have WL := hide (walk_any x d n _ hs hz (hr.later (unhide B1).bel) (ht.later (unhide B1).bel))
  unfold WlIs at WL
  unfold RnIs
  generalize ((x.ms d).rn x.st n).1.fl ((x.ms d).rn x.st n).2 = F2 at WL ⊢
  generalize ((x.ms d).rn x.st n).1.d = D2 at WL ⊢
  clear hs hz hr ht
  go_enter Tryd.func9, Tryd.ntmps9
  go_wp2_with (refine wpList_load_row rfl 32 _ rfl w.heap.size rfl 32 x.cs (0, 0) _ (unhide B1).bx Tryd.underlying32 rfl (by kernel_rfl) ?_)
  refine (unhide WL).mono ?_
  rintro e w2 ⟨y, k, rfl, fy, oy, hb⟩
  have FY := hide fy
  have B2 := hide (((unhide B1).later hb).later (below_new w2 (.cells y.cs 32)))
  have O2 := hide ((oy.base (C := w.heap.size + 2) (by have := (unhide B1).sz; omega)).later (below_new w2 (.cells y.cs 32)))
  have R2 := hide (heap_alloc_last w2 (.cells y.cs 32))
  clear fy oy hb WL B1
  go_wp2_with (first | (refine wpList_store_new rfl 32 _ _ rfl y.cs rfl rfl _ (by kernel_rfl) rfl (Mv.cs_one _) ?_) | (refine wpList_load_row rfl 32 _ rfl w2.heap.size rfl 32 y.cs (0, 0) _ (unhide R2) Tryd.underlying32 rfl (by kernel_rfl) ?_) | (refine wpList_store_row rfl 32 _ _ rfl (w.heap.size + 1) y.cs rfl rfl 32 zMv.cs (unhide B2).re (by kernel_rfl) rfl (Mv.cs_one _) ?_))
  obtain ⟨r1, r2⟩ := (unhide B2).done y.cs
  refine bodyPost_ret (results_cell_row (P := Tryd.prog) rfl _ _ (w.heap.size + 1) 32 y.cs (0, 0) _ rfl r1 Tryd.underlying32 rfl (by kernel_rfl)) rfl ?_
  exact ⟨y, rfl, unhide FY, (unhide O2).row (by omega) _, r2⟩
end Go.Proofs.YtboedaofbchdkaaDoor

namespace Go.Proofs.YtboedaofbchdkaaDoor
open Go.ChangeShapes Go.WideShapes Go.ChangeAt Go.RowKit
set_option linter.unusedVariables false
set_option maxRecDepth 100000
set_option linter.unusedSectionVars false
set_option linter.unusedSimpArgs false
/-- The two instructions; their words laid together; the machine that they lie in, with what is pushed. -/
def pI (n : Int) : Is := ⟨1, ⟨2, 7, n⟩, ⟨4, 6, 0⟩, 0⟩
def pJ : Is := ⟨1, ⟨2, 6, 0⟩, ⟨0, 3, 0⟩, 0⟩
def pW (n : Int) : List Int := [5606, n, 5507, 0]
def pM (n : Int) : List Int := over z256 32 (pW n)
def pS (n m3 sp pc : Int) (mem : List Int) (a b v c : Bool) : Ms := ⟨⟨mem, [0, 0, 0, m3, 0, 0, sp, pc], [], []⟩, a, b, v, c⟩
theorem p_stA {t : Ms} (hk : Dk t.d) (hb : t.stpB = true) : t.stA 0 = t.stp ∧ t.stN 0 = t.stpS 0 := by
  obtain ⟨h1, h2⟩ := stA_dk hk
  rw [if_pos hb] at h1 h2
  exact ⟨h1, h2⟩
theorem p_ok {n : Int} (hn : 0 ≤ n ∧ n ≤ 65535) : (pI n).ok = true := by
  unfold Is.ok Od.ok pI
  rw [inB_t n 0 65535 hn]
  rfl
theorem p_enc {n : Int} (hn : 0 ≤ n ∧ n ≤ 65535) : (pI n).enc = [5606, n] := by
  unfold Is.enc
  rw [if_pos (p_ok hn)]
  kernel_rfl
theorem p_new {n : Int} (hn : 0 ≤ n ∧ n ≤ 65535) : newD (pW n) 64 64 [] = (pS n 0 512 64 (pM n) false false false false).d := by
  have h : newB (pW n) 64 64 [] = true := by
    unfold newB pW wdB
    simp [inB, hn.1, hn.2]
  unfold newD
  exact (if_pos h).trans (by kernel_rfl)
theorem p_dk {n : Int} (hn : 0 ≤ n ∧ n ≤ 65535) (a b v c : Bool) : Dk (pS n 0 512 64 (pM n) a b v c).d :=
  dk_new (by show 32 + 4 ≤ 256; omega) (fun k hk => by
    simp only [pW, List.mem_cons, List.not_mem_nil, or_false] at hk
    rcases hk with rfl | rfl | rfl | rfl <;> omega) (fun k hk => by cases hk) (by show (0 : Nat) ≤ 50; omega) (by omega) (by omega)
theorem p_B1 {n : Int} (hn : 0 ≤ n ∧ n ≤ 65535) (a b v c : Bool) : (pS n 0 512 64 (pM n) a b v c).stpB = true := by
  have h : decOk (pM n) 32 = true := by
    unfold decOk
    rw [show decX (pM n) 32 = pI n by kernel_rfl, p_ok hn]
    kernel_rfl
  have h2 : (pS n 0 512 64 (pM n) a b v c).insB = true := by
    unfold Ms.insB
    show (adB 64 && decOk (pM n) 32) = true
    rw [h]
    kernel_rfl
  have h3 : ((pS n 0 512 64 (pM n) a b v c).nxt.doB (pS n 0 512 64 (pM n) a b v c).ins.op.toNat (pS n 0 512 64 (pM n) a b v c).ins.s.m.toNat (pS n 0 512 64 (pM n) a b v c).ins.s.r.toNat (pS n 0 512 64 (pM n) a b v c).ins.d.m.toNat (pS n 0 512 64 (pM n) a b v c).ins.d.r.toNat (pS n 0 512 64 (pM n) a b v c).ins.n) = true := by kernel_rfl
  exact Bool.and_eq_true_iff.2 ⟨h2, h3⟩
theorem p_1 {n : Int} (hn : 0 ≤ n ∧ n ≤ 65535) (a b v c : Bool) : (pS n 0 512 64 (pM n) a b v c).stA 0 = pS n 0 510 68 ((pM n).set 255 n) (sgB n) (n == 0) false c ∧ (pS n 0 512 64 (pM n) a b v c).stN 0 = 0 := by
  obtain ⟨h1, h2⟩ := p_stA (p_dk hn a b v c) (p_B1 hn a b v c)
  have e : (pS n 0 512 64 (pM n) a b v c).stp = pS n 0 510 68 ((pM n).set 255 (n % 65536)) (sgB n) (n % 65536 == 0) false c := by kernel_rfl
  rw [show n % 65536 = n by omega] at e
  exact ⟨h1.trans e, h2.trans (by kernel_rfl)⟩
theorem p_2 {n : Int} (hn : 0 ≤ n ∧ n ≤ 65535) (a b v c : Bool) (hk : Dk (pS n 0 510 68 ((pM n).set 255 n) a b v c).d) : (pS n 0 510 68 ((pM n).set 255 n) a b v c).stA 0 = pS n n 512 70 ((pM n).set 255 n) (sgB n) (n == 0) false c ∧ (pS n 0 510 68 ((pM n).set 255 n) a b v c).stN 0 = 0 := by
  obtain ⟨h1, h2⟩ := p_stA hk (by kernel_rfl)
  have e : (pS n 0 510 68 ((pM n).set 255 n) a b v c).stp = pS n (n % 65536) 512 70 ((pM n).set 255 n) (sgB n) (n % 65536 == 0) false c := by kernel_rfl
  rw [show n % 65536 = n by omega] at e
  exact ⟨h1.trans e, h2.trans (by kernel_rfl)⟩
theorem p_3 {n : Int} (hn : 0 ≤ n ∧ n ≤ 65535) (a b v c : Bool) (hk : Dk (pS n n 512 70 ((pM n).set 255 n) a b v c).d) : (pS n n 512 70 ((pM n).set 255 n) a b v c).stA 0 = pS n n 512 72 ((pM n).set 255 n) a b v c ∧ (pS n n 512 70 ((pM n).set 255 n) a b v c).stN 0 = 1 := by
  obtain ⟨h1, h2⟩ := p_stA hk (by kernel_rfl)
  have e : (pS n n 512 70 ((pM n).set 255 n) a b v c).stp = pS n n 512 72 ((pM n).set 255 n) a b v c := by kernel_rfl
  exact ⟨h1.trans e, h2.trans (by kernel_rfl)⟩
/-- The three steps. -/
theorem p_run {n : Int} (hn : 0 ≤ n ∧ n ≤ 65535) : Ms.it 3 (pS n 0 512 64 (pM n) false false false false) 0 = (pS n n 512 72 ((pM n).set 255 n) (sgB n) (n == 0) false false, 1) := by
  have k0 := p_dk hn false false false false
  obtain ⟨a1, b1⟩ := p_1 hn false false false false
  have k1 := dk_stA k0
  rw [a1] at k1
  obtain ⟨a2, b2⟩ := p_2 hn (sgB n) (n == 0) false false k1
  have k2 := dk_stA k1
  rw [a2] at k2
  obtain ⟨a3, b3⟩ := p_3 hn (sgB n) (n == 0) false false k2
  unfold Ms.it
  rw [a1, b1]
  unfold Ms.it
  rw [a2, b2]
  unfold Ms.it
  rw [a3, b3]
  rfl
theorem p_n {n : Int} (hn : 0 ≤ n ∧ n ≤ 65535) : sgB n = decide (32768 ≤ n) := by unfold sgB; rw [show n % 65536 = n by omega]
theorem pj_enc : pJ.enc = [5507] := by kernel_rfl
end Go.Proofs.YtboedaofbchdkaaDoor

namespace Go.Proofs.YtboedaofbchdkaaDoor
open Go.ChangeShapes Go.WideShapes Go.ChangeAt Go.RowKit
set_option linter.unusedVariables false
set_option maxRecDepth 8000
set_option linter.unusedSimpArgs false
/-- The bytes that came in, while the law goes on. -/
structure Lc (W wr : World) (a : Option Addr) (xs : List UInt8) : Prop where
  bel : Below W.heap.size W wr
  rd : Rd wr a xs
end Go.Proofs.YtboedaofbchdkaaDoor

namespace Go.Proofs.YtboedaofbchdkaaDoor
open Go.ChangeShapes Go.WideShapes Go.ChangeAt Go.RowKit
set_option linter.unusedVariables false
set_option maxRecDepth 8000
theorem own : ownKnob Tryd.prog.godebug = none := by kernel_rfl
theorem laidOut : laidOutB Tryd.prog = true := by kernel_rfl
theorem gTab : Tryd.prog.globalNamed "loop.example/g00329/impl.firstWords" = some 0 := by kernel_rfl
theorem tTab : (Tryd.prog.globals[0]?).map (·.type) = some 85 := by kernel_rfl
theorem tabL_eq : (Rows.laid_loop_example_g00329_impl_firstWords : DataW Unit) = Lib.tabData .i64 baseL := by kernel_rfl
/-- What the list gives: the table's cells. -/
theorem tab_of_laid {W : World} (h : laidMetH Tryd.prog [("loop.example/g00329/impl.firstWords", Rows.laid_loop_example_g00329_impl_firstWords)] W) : Tab W := by
  rw [MakeChecks.laidMetH_plain _ _ _ (by kernel_rfl)] at h
  rw [tabL_eq] at h
  have h2 := Lib.tabIs_of_head gTab tTab Tryd.underlying85 Tryd.underlying3 (by kernel_rfl) (by kernel_rfl) h
  have hc : ∀ k, k < 24 → W.cell? ⟨0, k, none⟩ = some (.int .i64 (baseAt k)) := fun k hk => by
    have hk' : k < baseL.length := hk
    rw [h2.cell gTab k hk']; rfl
  exact ⟨World.block_lt_of_cell? W _ (hc 0 (by omega)), hc⟩
end Go.Proofs.YtboedaofbchdkaaDoor

namespace Go.Proofs.YtboedaofbchdkaaDoor
open Go.ChangeShapes Go.WideShapes Go.ChangeAt Go.RowKit
set_option linter.unusedVariables false
set_option maxRecDepth 100000
set_option linter.unusedSectionVars false
set_option linter.unusedSimpArgs false
/-- The call by the register r; the words; the machine that they lie in. -/
def cI (r : Nat) : Is := ⟨15, ⟨0, 0, 0⟩, ⟨3, 7, 80⟩, (r : Int)⟩
def cW (r : Nat) : List Int := [2079 + 64 * (r : Int), 80, 0]
def cM (r : Nat) : List Int := over z256 32 (cW r)
def cN (r : Nat) : Md := ⟨cM r, newR 64, [], []⟩
def cP (r : Nat) : Md := ⟨(cM r).set 40 (128 + (r : Int)), newR 64, [], []⟩
def cD (r : Nat) : Md := ⟨(cM r).set 40 (128 + (r : Int)), (newR 64).set r 1234, [], []⟩
def cS (r : Nat) : Ms := ⟨cD r, false, false, false, false⟩
theorem six_of {p : Nat → Prop} (h0 : p 0) (h1 : p 1) (h2 : p 2) (h3 : p 3) (h4 : p 4) (h5 : p 5) : ∀ r, r < 6 → p r := fun r h =>
  match r, h with
  | 0, _ => h0
  | 1, _ => h1
  | 2, _ => h2
  | 3, _ => h3
  | 4, _ => h4
  | 5, _ => h5
theorem c_enc : ∀ r, r < 6 → (cI r).enc = [2079 + 64 * (r : Int), 80] := six_of (by kernel_rfl) (by kernel_rfl) (by kernel_rfl) (by kernel_rfl) (by kernel_rfl) (by kernel_rfl)
theorem c_new : ∀ r, r < 6 → newD (cW r) 64 64 [] = cN r := six_of (by kernel_rfl) (by kernel_rfl) (by kernel_rfl) (by kernel_rfl) (by kernel_rfl) (by kernel_rfl)
theorem c_has : ∀ r, r < 6 → (cN r).has 80 = true := six_of (by kernel_rfl) (by kernel_rfl) (by kernel_rfl) (by kernel_rfl) (by kernel_rfl) (by kernel_rfl)
theorem c_put : ∀ r, r < 6 → (cN r).put 80 (128 + (r : Int)) = cP r := six_of (by kernel_rfl) (by kernel_rfl) (by kernel_rfl) (by kernel_rfl) (by kernel_rfl) (by kernel_rfl)
theorem c_ok : ∀ r, r < 6 → (cD r).ok 0 = true := six_of (by kernel_rfl) (by kernel_rfl) (by kernel_rfl) (by kernel_rfl) (by kernel_rfl) (by kernel_rfl)
/-- Behind one step. -/
theorem c_x7 : ∀ r, r < 6 → nAt ((cS r).stA 0).d.r 7 = 80 := six_of (by kernel_rfl) (by kernel_rfl) (by kernel_rfl) (by kernel_rfl) (by kernel_rfl) (by kernel_rfl)
theorem c_xr : ∀ r, r < 6 → nAt ((cS r).stA 0).d.r r = 68 := six_of (by kernel_rfl) (by kernel_rfl) (by kernel_rfl) (by kernel_rfl) (by kernel_rfl) (by kernel_rfl)
theorem c_x6 : ∀ r, r < 6 → nAt ((cS r).stA 0).d.r 6 = 510 := six_of (by kernel_rfl) (by kernel_rfl) (by kernel_rfl) (by kernel_rfl) (by kernel_rfl) (by kernel_rfl)
theorem c_xl : ∀ r, r < 6 → ((cS r).stA 0).d.r.length = 8 := six_of (by kernel_rfl) (by kernel_rfl) (by kernel_rfl) (by kernel_rfl) (by kernel_rfl) (by kernel_rfl)
/-- Behind three. -/
theorem c_ys : ∀ r, r < 6 → (Ms.it 3 (cS r) 0).2 = 1 := six_of (by kernel_rfl) (by kernel_rfl) (by kernel_rfl) (by kernel_rfl) (by kernel_rfl) (by kernel_rfl)
theorem c_yr : ∀ r, r < 6 → nAt (Ms.it 3 (cS r) 0).1.d.r r = 1234 := six_of (by kernel_rfl) (by kernel_rfl) (by kernel_rfl) (by kernel_rfl) (by kernel_rfl) (by kernel_rfl)
theorem c_y6 : ∀ r, r < 6 → nAt (Ms.it 3 (cS r) 0).1.d.r 6 = 512 := six_of (by kernel_rfl) (by kernel_rfl) (by kernel_rfl) (by kernel_rfl) (by kernel_rfl) (by kernel_rfl)
theorem c_yl : ∀ r, r < 6 → (Ms.it 3 (cS r) 0).1.d.r.length = 8 := six_of (by kernel_rfl) (by kernel_rfl) (by kernel_rfl) (by kernel_rfl) (by kernel_rfl) (by kernel_rfl)
end Go.Proofs.YtboedaofbchdkaaDoor
