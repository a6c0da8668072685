/- Contracts over this seat's translation, laid together; conditions stand as hypotheses of each. -/
import Derived.Test.YtfkmibgamkignaaBndB
import Derived.Test.YtfkmibgamkignaaBndC
import Derived.Test.YtfkmibgamkignaaBndD
import Derived.Test.YtfkmibgamkignaaBndF
import Derived.Test.YtfkmibgamkignaaBndG
import Derived.Test.YtfkmibgamkignaaBndI
import Derived.Lib.SmallJoins

namespace Go.Proofs.Ytfkmibgamkignaa
open Go.ChangeShapes Go.WideShapes Go.ChangeAt Go.RowKit
set_option linter.unusedVariables false
set_option maxRecDepth 8000
set_option linter.unusedSimpArgs false

theorem results_rr1 {P : Program} {fn : Func} {p p2 u : Tmp} {ty ty2 : TypeId} (h : fn.results = #[.cell p ty, .cell p2 ty2, .tmp u]) (tmps : Array Value) (w : World) (g : Nat) (t : TypeId) (cs : Array Value) (fr : Nat × Nat) (d : TypeDesc)
    (hp : tmps.getD p undef = .pointer (some ⟨g, 0, none⟩)) (hg : w.heap[g]? = some (.cells cs t fr))
    (hu : P.underlying ty = some d) (hd : (match d with | .struct _ | .array _ _ => true | _ => false) = true) (hi : (P.info? ty).map (·.size) = some cs.size)
    (g2 : Nat) (t2 : TypeId) (cs2 : Array Value) (fr2 : Nat × Nat) (d2 : TypeDesc) (hp2 : tmps.getD p2 undef = .pointer (some ⟨g2, 0, none⟩)) (hg2 : w.heap[g2]? = some (.cells cs2 t2 fr2))
    (hu2 : P.underlying ty2 = some d2) (hd2 : (match d2 with | .struct _ | .array _ _ => true | _ => false) = true) (hi2 : (P.info? ty2).map (·.size) = some cs2.size) :
    (results fn tmps).run P w = .ok (.tuple #[.agg cs, .agg cs2, tmps.getD u undef]) w := by
  have hp' : tmps[p]?.getD undef = .pointer (some ⟨g, 0, none⟩) := by simpa using hp
  have hp2' : tmps[p2]?.getD undef = .pointer (some ⟨g2, 0, none⟩) := by simpa using hp2
  simp [results, h, hp', hp2', asAddr, run_loadVar_row w g t ty cs fr d hg hu hd hi, run_loadVar_row w g2 t2 ty2 cs2 fr2 d2 hg2 hu2 hd2 hi2]

theorem ok_r8 {d : Md} {st : Int} (h : d.ok st = true) : d.R8 ∧ ∀ a, 0 ≤ d.get a ∧ d.get a ≤ 65535 := by
  unfold Md.ok at h
  simp only [Bool.and_eq_true, beq_iff_eq, decide_eq_true_eq] at h
  obtain ⟨h1, h2, h3, h4, _⟩ := h
  have hm := Wd.of h2
  have hr := Wd.of h4
  refine ⟨⟨by omega, fun j hj => hr _ (nAt_mem (by omega))⟩, fun a => ?_⟩
  unfold Md.get
  split
  · rename_i hh
    obtain ⟨ha, hl⟩ := has_t hh
    obtain ⟨a0, _, _⟩ := adB_t ha
    exact hm _ (nAt_mem (by omega))
  · omega

/-- The boxes of a machine, an operand, and the two answers' places. -/
structure Bq (w wr : World) (x : Mv) (o : Od) : Prop where
  bx : wr.heap[w.heap.size]? = some (.cells x.cs 28 (0, 0))
  bo : wr.heap[w.heap.size + 1]? = some (.cells #[.int .i64 o.m, .int .i64 o.r, .int .i64 o.x] 40 (0, 0))
  rm : wr.heap[w.heap.size + 1 + 1]? = some (.cells zMv.cs 28 (0, 0))
  rp : wr.heap[w.heap.size + 1 + 1 + 1]? = some (.cells #[.int .i64 0, .int .i64 0] 44 (0, 0))
  bel : Below w.heap.size w wr
  sz : w.heap.size + 4 ≤ wr.heap.size
theorem bq_new (w : World) (x : Mv) (o : Od) : Bq w ((((w.alloc (.cells x.cs 28)).alloc (.cells #[.int .i64 o.m, .int .i64 o.r, .int .i64 o.x] 40)).alloc (.cells zMv.cs 28)).alloc (.cells #[.int .i64 0, .int .i64 0] 44)) x o :=
  ⟨row_lat (row_lat (row_lat (heap_alloc_last w _) (below_new _ _)) (below_new _ _)) (below_new _ _),
   row_lat (row_lat (by have := heap_alloc_last (w.alloc (.cells x.cs 28)) (.cells #[.int .i64 o.m, .int .i64 o.r, .int .i64 o.x] 40); simpa using this) (below_new _ _)) (below_new _ _),
   row_lat (by have := heap_alloc_last ((w.alloc (.cells x.cs 28)).alloc (.cells #[.int .i64 o.m, .int .i64 o.r, .int .i64 o.x] 40)) (.cells zMv.cs 28); simpa using this) (below_new _ _),
   by have := heap_alloc_last (((w.alloc (.cells x.cs 28)).alloc (.cells #[.int .i64 o.m, .int .i64 o.r, .int .i64 o.x] 40)).alloc (.cells zMv.cs 28)) (.cells #[.int .i64 0, .int .i64 0] 44); simpa using this,
   ((((Below.refl _ _).alloc (Nat.le_refl _) _).alloc (by simp) _).alloc (by simp; omega) _).alloc (by simp; omega) _, by simp⟩
section
variable {w wr w' : World} {x : Mv} {o : Od}
theorem Bq.later (h : Bq w wr x o) (hb : Below wr.heap.size wr w') : Bq w w' x o :=
  ⟨row_lat h.bx hb, row_lat h.bo hb, row_lat h.rm hb, row_lat h.rp hb, h.bel.trans (hb.mono (by have := h.sz; omega)), Nat.le_trans h.sz hb.size⟩
theorem Bq.past (h : Bq w wr x o) {gr : Nat} (hg : wr.grownBy w' (some gr)) (ho : w.heap.size + 4 ≤ gr) : Bq w w' x o :=
  ⟨row_past h.bx hg (by omega), row_past h.bo hg (by omega), row_past h.rm hg (by omega), row_past h.rp hg (by omega), h.bel.grown hg h.bel.size (fun k e => by cases e; omega), Nat.le_trans h.sz hg.size⟩
theorem Bq.o3 (h : Bq w wr x o) : wr.cell? ⟨w.heap.size + 1, 0, none⟩ = some (.int .i64 o.m) ∧ wr.cell? ⟨w.heap.size + 1, 1, none⟩ = some (.int .i64 o.r) ∧ wr.cell? ⟨w.heap.size + 1, 2, none⟩ = some (.int .i64 o.x) :=
  ⟨(cell_of_row wr _ 0 _ 40 _ h.bo).trans rfl, (cell_of_row wr _ 1 _ 40 _ h.bo).trans rfl, (cell_of_row wr _ 2 _ 40 _ h.bo).trans rfl⟩
/-- The first answer laid: the second's place is as it was. -/
theorem Bq.rp2 (h : Bq w wr x o) (cs : Array Value) : (wr.setRow (w.heap.size + 1 + 1) cs).heap[w.heap.size + 1 + 1 + 1]? = some (.cells #[.int .i64 0, .int .i64 0] 44 (0, 0)) := (setRow_other _ _ _ _ (by omega)).trans h.rp
/-- Both answers laid. -/
theorem Bq.done (h : Bq w wr x o) (cs ps : Array Value) :
    ((wr.setRow (w.heap.size + 1 + 1) cs).setRow (w.heap.size + 1 + 1 + 1) ps).heap[w.heap.size + 1 + 1]? = some (.cells cs 28 (0, 0)) ∧ ((wr.setRow (w.heap.size + 1 + 1) cs).setRow (w.heap.size + 1 + 1 + 1) ps).heap[w.heap.size + 1 + 1 + 1]? = some (.cells ps 44 (0, 0)) ∧ Below w.heap.size w ((wr.setRow (w.heap.size + 1 + 1) cs).setRow (w.heap.size + 1 + 1 + 1) ps) :=
  ⟨(setRow_other _ _ _ _ (by omega)).trans (setRow_heap _ _ _ _ 28 _ h.rm), setRow_heap _ _ _ _ 44 _ (h.rp2 cs), below_setRow (below_setRow h.bel (by omega) _) (by omega) _⟩
end

set_option maxHeartbeats 4000000 in
theorem placeS_no (x : Mv) (d : Md) (o : Od) (w : World) (hs : x.small) (hz : x.nz) (hr : RdM w x d) (hno : (d.ok x.st && o.ok) = false) :
    Calls Try.prog 24 #[.agg x.cs, o.v] w fun e w' => ∃ y : Mv, e = .returned (.tuple #[.agg y.cs, .agg #[.int .i64 0, .int .i64 0], .bool false]) ∧ y.fl = x.fl ∧ OwnM w' (w.heap.size + 4) y d ∧ Below w.heap.size w w' := by
  have B := hide (bq_new w x o)
  have X := hide (hr.later (unhide B).bel)
  have M := hide (copyS_any x d _ hs hz (unhide X))
  have S := hide hs
  unfold Od.v
  have OO := hide (fun w => opdOk_any o w)
  obtain ⟨q1, hq1⟩ : ∃ q, d.ok x.st = q := ⟨_, rfl⟩
  obtain ⟨q2, hq2⟩ : ∃ q, o.ok = q := ⟨_, rfl⟩
  rw [hq1, hq2] at hno
  rw [hq2] at OO
  have HQ1 := hide hq1
  have HNO := hide hno
  unfold Od.v at OO
  clear hr hs hz hq1 hq2 hno
  go_enter Try.func24, Try.ntmps24
  go_wp2_with (refine wpList_load_row rfl 28 _ rfl w.heap.size rfl 28 x.cs (0, 0) _ (unhide B).bx Try.underlying28 rfl (by kernel_rfl) ?_)
  refine (unhide M).mono ?_
  rintro e w1 ⟨y, rfl, fy, oy, hb⟩
  have FY := hide fy
  have O1 := hide ((oy.base (C := w.heap.size + 4) (by have := (unhide B).sz; omega)).later (below_new w1 (.cells y.cs 28)))
  have B1 := hide (((unhide B).later hb).later (below_new w1 (.cells y.cs 28)))
  have G1 := hide (heap_alloc_last w1 (.cells y.cs 28))
  have K1 := hide (okS_any x d (w1.alloc (.cells y.cs 28)) (unhide S) (((unhide X).later hb).later (below_new w1 (.cells y.cs 28))))
  rw [unhide HQ1] at K1
  clear fy oy hb M B X
  go_wp2_with (first | (refine wpList_store_new rfl 28 _ _ rfl y.cs rfl rfl _ (by kernel_rfl) rfl (Mv.cs_one _) ?_) | (refine wpList_load_row rfl 28 _ rfl w.heap.size rfl 28 x.cs (0, 0) _ (unhide B1).bx Try.underlying28 rfl (by kernel_rfl) ?_))
  refine (unhide K1).mono ?_
  rintro e w2 ⟨rfl, hb⟩
  have B2 := hide ((unhide B1).later hb)
  have G2 := hide (row_lat (unhide G1) hb)
  have O2 := hide ((unhide O1).later hb)
  clear hb B1 G1 O1 K1
  cases q1
  · go_wp2_with (first | (refine wpList_load_row rfl 28 _ rfl w1.heap.size rfl 28 y.cs (0, 0) _ (unhide G2) Try.underlying28 rfl (by kernel_rfl) ?_) | (refine wpList_store_row rfl 28 _ _ rfl (w.heap.size + 1 + 1) y.cs rfl rfl 28 zMv.cs (unhide B2).rm (by kernel_rfl) rfl (Mv.cs_one _) ?_) | (refine wpList_store_row rfl 44 _ _ rfl (w.heap.size + 1 + 1 + 1) #[.int .i64 0, .int .i64 0] rfl rfl 44 #[.int .i64 0, .int .i64 0] ((unhide B2).rp2 y.cs) (by kernel_rfl) rfl (by simp [Value.oneCell']) ?_))
    obtain ⟨r1, r2, r3⟩ := (unhide B2).done y.cs #[.int .i64 0, .int .i64 0]
    refine bodyPost_ret (results_rr1 (P := Try.prog) rfl _ _ (w.heap.size + 1 + 1) 28 y.cs (0, 0) _ rfl r1 Try.underlying28 rfl (by kernel_rfl) (w.heap.size + 1 + 1 + 1) 44 #[.int .i64 0, .int .i64 0] (0, 0) _ rfl r2 Try.underlying44 rfl (by kernel_rfl)) rfl ?_
    exact ⟨y, rfl, unhide FY, ((unhide O2).row (by omega) _).row (by omega) _, r3⟩
  · obtain rfl : q2 = false := by simpa using unhide HNO
    obtain ⟨k0, k1, k2⟩ := (unhide B2).o3
    go_wp2_with fail
    clear k0 k1 k2
    refine (unhide OO w2).mono ?_
    rintro e w3 ⟨rfl, hb⟩
    have B3 := hide ((unhide B2).later hb)
    have G3 := hide (row_lat (unhide G2) hb)
    have O3 := hide ((unhide O2).later hb)
    clear hb B2 G2 O2
    go_wp2_with (first | (refine wpList_load_row rfl 28 _ rfl w1.heap.size rfl 28 y.cs (0, 0) _ (unhide G3) Try.underlying28 rfl (by kernel_rfl) ?_) | (refine wpList_store_row rfl 28 _ _ rfl (w.heap.size + 1 + 1) y.cs rfl rfl 28 zMv.cs (unhide B3).rm (by kernel_rfl) rfl (Mv.cs_one _) ?_) | (refine wpList_store_row rfl 44 _ _ rfl (w.heap.size + 1 + 1 + 1) #[.int .i64 0, .int .i64 0] rfl rfl 44 #[.int .i64 0, .int .i64 0] ((unhide B3).rp2 y.cs) (by kernel_rfl) rfl (by simp [Value.oneCell']) ?_))
    obtain ⟨r1, r2, r3⟩ := (unhide B3).done y.cs #[.int .i64 0, .int .i64 0]
    refine bodyPost_ret (results_rr1 (P := Try.prog) rfl _ _ (w.heap.size + 1 + 1) 28 y.cs (0, 0) _ rfl r1 Try.underlying28 rfl (by kernel_rfl) (w.heap.size + 1 + 1 + 1) 44 #[.int .i64 0, .int .i64 0] (0, 0) _ rfl r2 Try.underlying44 rfl (by kernel_rfl)) rfl ?_
    exact ⟨y, rfl, unhide FY, ((unhide O3).row (by omega) _).row (by omega) _, r3⟩
end Go.Proofs.Ytfkmibgamkignaa

namespace Go.Proofs.Ytfkmibgamkignaa
open Go.ChangeShapes Go.WideShapes Go.ChangeAt Go.RowKit
set_option linter.unusedVariables false
set_option maxRecDepth 8000
set_option linter.unusedSimpArgs false

theorem alloc_sizeP (w : World) (o : Obj) : (w.alloc o).heap.size = w.heap.size + 1 := by simp
theorem own_rge {w : World} {B gr n c : Nat} {y : Mv} {d : Md} (O : OwnM w B y d) (e : y.r = ⟨some ⟨gr, 0, none⟩, n, c⟩) : B ≤ gr := by
  have ev : y.r.v = .slice (some ⟨gr, 0, none⟩) n c := by rw [e]; rfl
  have o := O.r
  rw [ev] at o
  exact (o.lt (g := gr) rfl).1
theorem pl_false (d : Md) (mo re : Nat) (h : d.plO mo re = false) : d.plR mo re = 0 ∧ d.plA mo re = 0 := by
  have hm : ¬ mo = 0 := fun e => by unfold Md.plO at h; rw [if_pos e] at h; cases h
  unfold Md.plR Md.plA
  rw [if_neg hm, if_neg hm, h]
  exact ⟨rfl, rfl⟩

set_option maxHeartbeats 8000000 in
theorem placeS_in (x : Mv) (d : Md) (mo re : Nat) (X : Int) (w : World) (hs : x.small) (hz : x.nz) (hr : RdM w x d) (h1 : d.ok x.st = true) (h2 : (⟨(mo : Int), (re : Int), X⟩ : Od).ok = true) (h7 : mo ≤ 7) (hr8 : re < 8) :
    Calls Try.prog 24 #[.agg x.cs, (⟨(mo : Int), (re : Int), X⟩ : Od).v] w fun e w' => ∃ y : Mv, e = .returned (.tuple #[.agg y.cs, .agg #[.int .i64 (d.plR mo re), .int .i64 (d.plA mo re)], .bool (d.plO mo re)]) ∧ y.fl = x.fl ∧ OwnM w' (w.heap.size + 4) y (if d.plO mo re = true then d.plD mo re else d) ∧ Below w.heap.size w w' := by
  have B := hide (bq_new w x ⟨(mo : Int), (re : Int), X⟩)
  have X0 := hide (hr.later (unhide B).bel)
  have M := hide (copyS_any x d _ hs hz (unhide X0))
  have S := hide hs
  have NZ := hide hz
  have HR := hide hr
  have OO := hide (fun w => opdOk_any ⟨(mo : Int), (re : Int), X⟩ w)
  rw [h2] at OO
  have HQ1 := hide h1
  obtain ⟨r8, hget⟩ := ok_r8 h1
  have R8 := hide r8
  have HG := hide hget
  have HF := hide (pl_false d mo re)
  unfold Od.v at OO ⊢
  obtain ⟨ok, hok⟩ : ∃ b, d.plO mo re = b := ⟨_, rfl⟩
  obtain ⟨RR, hRR⟩ : ∃ b, d.plR mo re = b := ⟨_, rfl⟩
  obtain ⟨AA, hAA⟩ : ∃ b, d.plA mo re = b := ⟨_, rfl⟩
  obtain ⟨D2, hD2⟩ : ∃ b, d.plD mo re = b := ⟨_, rfl⟩
  have HO := hide (And.intro hok (And.intro hRR (And.intro hAA hD2)))
  rw [hok, hRR, hAA] at HF
  rw [hok, hRR, hAA, hD2]
  clear hr hs hz h1 h2 r8 hget hok hRR hAA hD2
  go_enter Try.func24, Try.ntmps24
  go_wp2_with (refine wpList_load_row rfl 28 _ rfl w.heap.size rfl 28 x.cs (0, 0) _ (unhide B).bx Try.underlying28 rfl (by kernel_rfl) ?_)
  refine (unhide M).mono ?_
  rintro e w1 ⟨y, rfl, fy, oy, hb⟩
  have oy := oy.base (C := w.heap.size + 4) (by have := (unhide B).sz; omega)
  obtain ⟨gr, rc, er⟩ := sl_formP oy.r (by rw [(unhide R8).1]; omega)
  have GR := hide (And.intro (own_rlt oy er) (own_rge oy er))
  have ER := hide er
  have FY := hide fy
  have SY := hide (small_of (unhide X0) oy.rd (unhide S))
  have O1 := hide (oy.later (below_new w1 (.cells y.cs 28)))
  have B1 := hide (((unhide B).later hb).later (below_new w1 (.cells y.cs 28)))
  have G1 := hide (heap_alloc_last w1 (.cells y.cs 28))
  have K1 := hide (okS_any x d (w1.alloc (.cells y.cs 28)) (unhide S) (((unhide X0).later hb).later (below_new w1 (.cells y.cs 28))))
  rw [unhide HQ1] at K1
  clear fy oy hb M B X0 er
  go_wp2_with (first | (refine wpList_store_new rfl 28 _ _ rfl y.cs rfl rfl _ (by kernel_rfl) rfl (Mv.cs_one _) ?_) | (refine wpList_load_row rfl 28 _ rfl w.heap.size rfl 28 x.cs (0, 0) _ (unhide B1).bx Try.underlying28 rfl (by kernel_rfl) ?_))
  refine (unhide K1).mono ?_
  rintro e w2 ⟨rfl, hb⟩
  have B2 := hide ((unhide B1).later hb)
  have G2 := hide (row_lat (unhide G1) hb)
  have O2 := hide ((unhide O1).later hb)
  clear hb B1 G1 O1 K1
  obtain ⟨k0, k1, k2⟩ := (unhide B2).o3
  go_wp2_with fail
  clear k0 k1 k2
  refine (unhide OO w2).mono ?_
  rintro e w3 ⟨rfl, hb⟩
  have B3 := hide ((unhide B2).later hb)
  have P3 := hide (show Pm w3 w1.heap.size (w.heap.size + 4) gr rc y d from ⟨row_lat (unhide G2) hb, (unhide O2).later hb, unhide ER, by have := (unhide GR).1; omega⟩)
  have PL := hide (plS_any w1.heap.size (w.heap.size + 4) gr rc mo re X y d w3 (unhide P3) (unhide R8) hr8 (unhide SY) (unhide HG _) h7)
  unfold PlIs at PL
  obtain ⟨e1, e2, e3, e4⟩ := unhide HO
  rw [e1, e2, e3, e4] at PL
  clear hb B2 G2 O2 P3 e1 e2 e3 e4 HO
  go_wp2_with (refine wpList_load_row rfl 40 _ rfl (w.heap.size + 1) rfl 40 #[.int .i64 (mo : Int), .int .i64 (re : Int), .int .i64 X] (0, 0) _ (unhide B3).bo Try.underlying40 rfl (by kernel_rfl) ?_)
  refine (unhide PL).mono ?_
  rintro e w4 ⟨rfl, p4, g4⟩
  have P4 := hide (p4.later (below_new w4 (.cells #[.int .i64 RR, .int .i64 AA] 44)))
  have B4 := hide (((unhide B3).past g4 (unhide GR).2).later (below_new w4 (.cells #[.int .i64 RR, .int .i64 AA] 44)))
  have Z4 := hide (((unhide B3).past g4 (unhide GR).2).sz)
  have Q4 := hide (heap_alloc_last w4 (.cells #[.int .i64 RR, .int .i64 AA] 44))
  clear p4 g4 PL B3
  cases ok
  · obtain ⟨rfl, rfl⟩ := unhide HF (by trivial)
    have M2 := hide (copyS_any x d (w4.alloc (.cells #[.int .i64 0, .int .i64 0] 44)) (unhide S) (unhide NZ) ((unhide HR).later (unhide B4).bel))
    go_wp2_with (first | (refine wpList_store_new rfl 44 _ _ rfl #[.int .i64 0, .int .i64 0] rfl rfl _ (by kernel_rfl) rfl (by simp [Value.oneCell']) ?_) | (refine wpList_load_row rfl 28 _ rfl w.heap.size rfl 28 x.cs (0, 0) _ (unhide B4).bx Try.underlying28 rfl (by kernel_rfl) ?_))
    refine (unhide M2).mono ?_
    rintro e w5 ⟨y2, rfl, fy, oy, hb⟩
    have F2 := hide fy
    have O5 := hide (oy.base (C := w.heap.size + 4) (by have := (unhide B4).sz; omega))
    have B5 := hide ((unhide B4).later hb)
    clear fy oy hb M2 B4 P4 Q4
    go_wp2_with (first | (refine wpList_store_row rfl 28 _ _ rfl (w.heap.size + 1 + 1) y2.cs rfl rfl 28 zMv.cs (unhide B5).rm (by kernel_rfl) rfl (Mv.cs_one _) ?_) | (refine wpList_store_row rfl 44 _ _ rfl (w.heap.size + 1 + 1 + 1) #[.int .i64 0, .int .i64 0] rfl rfl 44 #[.int .i64 0, .int .i64 0] ((unhide B5).rp2 y2.cs) (by kernel_rfl) rfl (by simp [Value.oneCell']) ?_))
    obtain ⟨r1, r2, r3⟩ := (unhide B5).done y2.cs #[.int .i64 0, .int .i64 0]
    refine bodyPost_ret (results_rr1 (P := Try.prog) rfl _ _ (w.heap.size + 1 + 1) 28 y2.cs (0, 0) _ rfl r1 Try.underlying28 rfl (by kernel_rfl) (w.heap.size + 1 + 1 + 1) 44 #[.int .i64 0, .int .i64 0] (0, 0) _ rfl r2 Try.underlying44 rfl (by kernel_rfl)) rfl ?_
    exact ⟨y2, rfl, unhide F2, ((unhide O5).row (by omega) _).row (by omega) _, r3⟩
  · go_wp2_with (refine wpList_store_new rfl 44 _ _ rfl #[.int .i64 RR, .int .i64 AA] rfl rfl _ (by kernel_rfl) rfl (by simp [Value.oneCell']) ?_)
    generalize hg4 : w4.heap.size = g4 at Q4 Z4 ⊢
    generalize hw5 : w4.alloc (Obj.cells #[.int .i64 RR, .int .i64 AA] 44) = w5 at P4 B4 Q4 ⊢
    have HN := hide (unhide Z4)
    clear hw5 hg4
    refine wp_region_held_drew (S := fun v => v.heap[w1.heap.size]? = some (.cells y.cs 28 (0, 0)) ∧ v.heap[g4]? = some (.cells #[.int .i64 RR, .int .i64 AA] 44 (0, 0))) (by kernel_rfl) ⟨row_lat (unhide P4).row below_drew, row_lat (unhide Q4) below_drew⟩ (fun hS => ?_)
    have HS := hide hS
    clear hS
    refine wpAnyH_take (i := 0) (v := .agg y.cs) rfl (by kernel_rfl) (by kernel_rfl) (by kernel_rfl) (fun _ _ _ h => h) (yields_load rfl 28 _ rfl w1.heap.size rfl 28 y.cs _ (fun w h => h.1) Try.underlying28 rfl (by kernel_rfl)) (unhide HS) ?_
    go_simp
    refine wpAnyH_take (i := 1) (v := .agg #[.int .i64 RR, .int .i64 AA]) rfl (by kernel_rfl) (by kernel_rfl) (by kernel_rfl) (fun _ _ _ h => h) (yields_load rfl 44 _ rfl g4 rfl 44 #[.int .i64 RR, .int .i64 AA] _ (fun w h => h.2) Try.underlying44 rfl (by kernel_rfl)) (unhide HS) ?_
    go_simp
    have B5 := hide ((unhide B4).later below_drew)
    have W1 := hide (show w.heap.size + 4 ≤ w1.heap.size by have := (unhide GR); omega)
    refine wpAnyH_ready (rs := [2]) (by kernel_rfl) (by simp) ?_
    refine AllReadyH.cons rfl (fun K2 hK => ?_) AllReadyH.nil
    rw [if_pos (by rfl)]
    refine wp_store_row 28 _ _ rfl (w.heap.size + 1 + 1) y.cs rfl rfl 28 zMv.cs (unhide B5).rm (by kernel_rfl) rfl (Mv.cs_one _) ?_
    refine hK.out _ _ (⟨(setRow_other _ _ _ _ (by have := unhide W1; omega)).trans (unhide HS).1, (setRow_other _ _ _ _ (by have := unhide HN; omega)).trans (unhide HS).2⟩) (fun hS => ?_)
    clear HS
    have HS := hide hS
    clear hS hK K2
    go_simp
    refine wpAnyH_ready (rs := [3]) (by kernel_rfl) (by simp) ?_
    refine AllReadyH.cons rfl (fun K2 hK => ?_) AllReadyH.nil
    rw [if_pos (by rfl)]
    refine wp_store_row 44 _ _ rfl (w.heap.size + 1 + 1 + 1) #[.int .i64 RR, .int .i64 AA] rfl rfl 44 #[.int .i64 0, .int .i64 0] ((unhide B5).rp2 y.cs) (by kernel_rfl) rfl (by simp [Value.oneCell']) ?_
    refine hK.out _ _ (⟨(setRow_other _ _ _ _ (by have := unhide W1; omega)).trans (unhide HS).1, (setRow_other _ _ _ _ (by have := unhide HN; omega)).trans (unhide HS).2⟩) (fun hS => ?_)
    clear HS
    have HS := hide hS
    clear hS hK K2
    go_simp
    refine wpAnyH_take (i := 4) (v := .bool true) rfl (by kernel_rfl) (by kernel_rfl) (by kernel_rfl) (fun _ _ _ h => h) (Or.inl ⟨by rfl, fun w hc => ?_⟩) (unhide HS) ?_
    · clear hc; go_simp
    go_simp
    refine wpAnyH_done (by kernel_rfl) ?_ _
    clear HS
    go_wp2_with fail
    obtain ⟨r1, r2, r3⟩ := (unhide B5).done y.cs #[.int .i64 RR, .int .i64 AA]
    refine bodyPost_ret (results_rr1 (P := Try.prog) rfl _ _ (w.heap.size + 1 + 1) 28 y.cs (0, 0) _ rfl r1 Try.underlying28 rfl (by kernel_rfl) (w.heap.size + 1 + 1 + 1) 44 #[.int .i64 RR, .int .i64 AA] (0, 0) _ rfl r2 Try.underlying44 rfl (by kernel_rfl)) rfl ?_
    exact ⟨y, rfl, unhide FY, (((unhide P4).own.later below_drew).row (by omega) _).row (by omega) _, r3⟩

/-- Is an operand anywhere; where; and the machine behind. -/
def Md.pcI (d : Md) (st : Int) (o : Od) : Bool := d.ok st && o.ok
def Md.pcO (d : Md) (st : Int) (o : Od) : Bool := if d.pcI st o = true then d.plO o.m.toNat o.r.toNat else false
def Md.pcR (d : Md) (st : Int) (o : Od) : Int := if d.pcI st o = true then d.plR o.m.toNat o.r.toNat else 0
def Md.pcA (d : Md) (st : Int) (o : Od) : Int := if d.pcI st o = true then d.plA o.m.toNat o.r.toNat else 0
def Md.pcD (d : Md) (st : Int) (o : Od) : Md := if d.pcO st o = true then d.plD o.m.toNat o.r.toNat else d
theorem placeS_any (x : Mv) (d : Md) (o : Od) (w : World) (hs : x.small) (hz : x.nz) (hr : RdM w x d) :
    Calls Try.prog 24 #[.agg x.cs, o.v] w fun e w' => ∃ y : Mv, e = .returned (.tuple #[.agg y.cs, .agg #[.int .i64 (d.pcR x.st o), .int .i64 (d.pcA x.st o)], .bool (d.pcO x.st o)]) ∧ y.fl = x.fl ∧ OwnM w' (w.heap.size + 4) y (d.pcD x.st o) ∧ Below w.heap.size w w' := by
  unfold Md.pcD Md.pcR Md.pcA Md.pcO
  cases hI : d.pcI x.st o
  · simp only [Bool.false_eq_true, if_false]
    exact placeS_no x d o w hs hz hr hI
  · simp only [if_true]
    obtain ⟨h1, h2⟩ : d.ok x.st = true ∧ o.ok = true := by unfold Md.pcI at hI; simpa using hI
    obtain ⟨om, orr, ox⟩ := o
    have h3 := h2
    unfold Od.ok at h3
    simp only [Bool.and_eq_true] at h3
    obtain ⟨⟨⟨a1, a2⟩, _⟩, _⟩ := h3
    obtain ⟨m0, m1⟩ := inB_b a1
    obtain ⟨r0, r1⟩ := inB_b a2
    obtain ⟨mo, rfl⟩ := Int.eq_ofNat_of_zero_le m0
    obtain ⟨re, rfl⟩ := Int.eq_ofNat_of_zero_le r0
    have := placeS_in x d mo re ox w hs hz hr h1 h2 (by omega) (by omega)
    simpa using this
end Go.Proofs.Ytfkmibgamkignaa

namespace Go.Proofs.Ytfkmibgamkignaa
open Go.ChangeShapes Go.WideShapes Go.ChangeAt Go.RowKit
set_option linter.unusedVariables false
set_option maxRecDepth 8000
set_option linter.unusedSimpArgs false

set_option maxHeartbeats 1000000 in
theorem hasXI_any (o : Od) (w : World) : Calls Try.prog 84 #[o.v] w fun e w' => e = .returned (.bool o.hasX) ∧ Below w.heap.size w w' := by
  obtain ⟨m, r, x⟩ := o
  have HR := hide (show ∀ b : Bool, b = Od.hasX ⟨m, r, x⟩ → Ending.returned (.bool b) = .returned (.bool (Od.hasX ⟨m, r, x⟩)) from fun b h => by rw [h])
  unfold Od.v
  simp only
  have hB := hide ((Below.refl w.heap.size w).alloc (Nat.le_refl _) (Obj.cells #[.int .i64 m, .int .i64 r, .int .i64 x] 40))
  cases h6 : (m == 6)
  · cases h7 : (m == 7)
    · cases h2 : (m == 2)
      · cases h3 : (m == 3)
        · go_enter Try.func84, Try.ntmps84
          go_wp2
          go_ret
          exact ⟨unhide HR _ (by simp [Od.hasX, *]), unhide hB⟩
        · go_enter Try.func84, Try.ntmps84
          go_wp2
          go_ret
          exact ⟨unhide HR _ (by simp [Od.hasX, *]), unhide hB⟩
      · go_enter Try.func84, Try.ntmps84
        go_wp2
        go_ret
        exact ⟨unhide HR _ (by simp [Od.hasX, *]), unhide hB⟩
    · go_enter Try.func84, Try.ntmps84
      go_wp2
      go_ret
      exact ⟨unhide HR _ (by simp [Od.hasX, *]), unhide hB⟩
  · go_enter Try.func84, Try.ntmps84
    go_wp2
    go_ret
    exact ⟨unhide HR _ (by simp [Od.hasX, *]), unhide hB⟩
set_option maxHeartbeats 1000000 in
theorem opdOkI_any (o : Od) (w : World) : Calls Try.prog 65 #[o.v] w fun e w' => e = .returned (.bool o.ok) ∧ Below w.heap.size w w' := by
  have HX := hide (fun w => hasXI_any o w)
  obtain ⟨m, r, x⟩ := o
  have HR := hide (show ∀ b : Bool, b = Od.ok ⟨m, r, x⟩ → Ending.returned (.bool b) = .returned (.bool (Od.ok ⟨m, r, x⟩)) from fun b h => by rw [h])
  have HF : ∀ q, Od.hasX ⟨m, r, x⟩ = q → Od.ok ⟨m, r, x⟩ = (((inB m 0 7 && inB r 0 7) && inB x 0 65535) && (q || x == 0)) := fun q h => by rw [← h]; rfl
  obtain ⟨q, hq⟩ : ∃ q, Od.hasX ⟨m, r, x⟩ = q := ⟨_, rfl⟩
  have HF2 := hide (HF q hq)
  rw [hq] at HX
  clear hq HF
  have hB := hide ((Below.refl w.heap.size w).alloc (Nat.le_refl _) (Obj.cells #[.int .i64 m, .int .i64 r, .int .i64 x] 40))
  have HS := hide (box_below w (Obj.cells #[.int .i64 m, .int .i64 r, .int .i64 x] 40))
  have hz : w.heap.size + 1 ≤ (w.alloc (Obj.cells #[.int .i64 m, .int .i64 r, .int .i64 x] 40)).heap.size := by simp
  have HZ := hide hz
  clear hz
  have hc : ∀ y : Sub (w.heap.size + 1) (w.alloc (Obj.cells #[.int .i64 m, .int .i64 r, .int .i64 x] 40)), y.w.cell? ⟨w.heap.size, 2, none⟩ = some (.int .i64 x) := fun y => y.cells 2 _ rfl
  unfold Od.v at HX ⊢
  simp only at HX ⊢
  cases h1 : decide (m < 0)
  · cases h2 : decide (7 < m)
    · cases h3 : decide (r < 0)
      · cases h4 : decide (7 < r)
        · go_enter Try.func65, Try.ntmps65
          go_wp2_with fail
          refine (Sub.call (x := ⟨_, Below.refl _ _⟩) (unhide HZ) (unhide HX _)).mono ?_
          rintro e _ ⟨rfl, y, rfl⟩
          clear HX
          cases q
          · go_wp2
            go_ret
            exact ⟨unhide HR _ (by rw [unhide HF2]; simp at *; simp [inB, *]; omega), unhide HS _ y.h⟩
          · go_wp2_with (go_at_call 51; refine (isWord_any _ _).mono ?_; rintro e _ ⟨rfl, rfl⟩)
            go_ret
            exact ⟨unhide HR _ (by rw [unhide HF2]; simp at *; simp [inB, *]), unhide HS _ y.h⟩
        · go_enter Try.func65, Try.ntmps65
          go_wp2
          go_ret
          exact ⟨unhide HR _ (by rw [unhide HF2]; simp at *; simp [inB, *]; omega), unhide hB⟩
      · go_enter Try.func65, Try.ntmps65
        go_wp2
        go_ret
        exact ⟨unhide HR _ (by rw [unhide HF2]; simp at *; simp [inB, *]; omega), unhide hB⟩
    · go_enter Try.func65, Try.ntmps65
      go_wp2
      go_ret
      exact ⟨unhide HR _ (by rw [unhide HF2]; simp at *; simp [inB, *]; omega), unhide hB⟩
  · go_enter Try.func65, Try.ntmps65
    go_wp2
    go_ret
    exact ⟨unhide HR _ (by rw [unhide HF2]; simp at *; simp [inB, *]; omega), unhide hB⟩

end Go.Proofs.Ytfkmibgamkignaa

namespace Go.Proofs.Ytfkmibgamkignaa
open Go.ChangeShapes Go.WideShapes Go.ChangeAt Go.RowKit
set_option linter.unusedVariables false
set_option maxRecDepth 8000
set_option linter.unusedSimpArgs false

set_option maxHeartbeats 4000000 in
theorem placeI_no (x : Mv) (d : Md) (o : Od) (w : World) (hs : x.small) (hz : x.nz) (hr : RdM w x d) (hno : (d.ok x.st && o.ok) = false) :
    Calls Try.prog 23 #[.agg x.cs, o.v] w fun e w' => ∃ y : Mv, e = .returned (.tuple #[.agg y.cs, .agg #[.int .i64 0, .int .i64 0], .bool false]) ∧ y.fl = x.fl ∧ OwnM w' (w.heap.size + 4) y d ∧ Below w.heap.size w w' := by
  have B := hide (bq_new w x o)
  have X := hide (hr.later (unhide B).bel)
  have M := hide (fun w (h : RdM w x d) => copyM_any x d w hs hz h)
  have K := hide (okI_any x d _ hs (unhide X))
  unfold Od.v
  have OO := hide (fun w => opdOkI_any o w)
  obtain ⟨q1, hq1⟩ : ∃ q, d.ok x.st = q := ⟨_, rfl⟩
  obtain ⟨q2, hq2⟩ : ∃ q, o.ok = q := ⟨_, rfl⟩
  rw [hq1, hq2] at hno
  rw [hq2] at OO
  rw [hq1] at K
  have HNO := hide hno
  unfold Od.v at OO
  clear hr hs hz hq1 hq2 hno
  go_enter Try.func23, Try.ntmps23
  go_wp2_with (refine wpList_load_row rfl 28 _ rfl w.heap.size rfl 28 x.cs (0, 0) _ (unhide B).bx Try.underlying28 rfl (by kernel_rfl) ?_)
  refine (unhide K).mono ?_
  rintro e w1 ⟨rfl, hb⟩
  have B1 := hide ((unhide B).later hb)
  have X1 := hide ((unhide X).later hb)
  clear hb K B X
  cases q1
  · have M1 := hide (unhide M w1 (unhide X1))
    go_wp2_with (refine wpList_load_row rfl 28 _ rfl w.heap.size rfl 28 x.cs (0, 0) _ (unhide B1).bx Try.underlying28 rfl (by kernel_rfl) ?_)
    refine (unhide M1).mono ?_
    rintro e w2 ⟨y, rfl, fy, oy, hb⟩
    have FY := hide fy
    have B2 := hide ((unhide B1).later hb)
    have O2 := hide (oy.base (C := w.heap.size + 4) (by have := (unhide B1).sz; omega))
    clear fy oy hb M1 B1 X1
    go_wp2_with (first | (refine wpList_store_row rfl 28 _ _ rfl (w.heap.size + 1 + 1) y.cs rfl rfl 28 zMv.cs (unhide B2).rm (by kernel_rfl) rfl (Mv.cs_one _) ?_) | (refine wpList_store_row rfl 44 _ _ rfl (w.heap.size + 1 + 1 + 1) #[.int .i64 0, .int .i64 0] rfl rfl 44 #[.int .i64 0, .int .i64 0] ((unhide B2).rp2 y.cs) (by kernel_rfl) rfl (by simp [Value.oneCell']) ?_))
    obtain ⟨r1, r2, r3⟩ := (unhide B2).done y.cs #[.int .i64 0, .int .i64 0]
    refine bodyPost_ret (results_rr1 (P := Try.prog) rfl _ _ (w.heap.size + 1 + 1) 28 y.cs (0, 0) _ rfl r1 Try.underlying28 rfl (by kernel_rfl) (w.heap.size + 1 + 1 + 1) 44 #[.int .i64 0, .int .i64 0] (0, 0) _ rfl r2 Try.underlying44 rfl (by kernel_rfl)) rfl ?_
    exact ⟨y, rfl, unhide FY, ((unhide O2).row (by omega) _).row (by omega) _, r3⟩
  · obtain rfl : q2 = false := by simpa using unhide HNO
    obtain ⟨k0, k1, k2⟩ := (unhide B1).o3
    go_wp2_with fail
    clear k0 k1 k2
    refine (unhide OO w1).mono ?_
    rintro e w2 ⟨rfl, hb⟩
    have B2 := hide ((unhide B1).later hb)
    have M2 := hide (unhide M w2 ((unhide X1).later hb))
    clear hb B1 X1
    go_wp2_with (refine wpList_load_row rfl 28 _ rfl w.heap.size rfl 28 x.cs (0, 0) _ (unhide B2).bx Try.underlying28 rfl (by kernel_rfl) ?_)
    refine (unhide M2).mono ?_
    rintro e w3 ⟨y, rfl, fy, oy, hb⟩
    have FY := hide fy
    have B3 := hide ((unhide B2).later hb)
    have O3 := hide (oy.base (C := w.heap.size + 4) (by have := (unhide B2).sz; omega))
    clear fy oy hb M2 B2
    go_wp2_with (first | (refine wpList_store_row rfl 28 _ _ rfl (w.heap.size + 1 + 1) y.cs rfl rfl 28 zMv.cs (unhide B3).rm (by kernel_rfl) rfl (Mv.cs_one _) ?_) | (refine wpList_store_row rfl 44 _ _ rfl (w.heap.size + 1 + 1 + 1) #[.int .i64 0, .int .i64 0] rfl rfl 44 #[.int .i64 0, .int .i64 0] ((unhide B3).rp2 y.cs) (by kernel_rfl) rfl (by simp [Value.oneCell']) ?_))
    obtain ⟨r1, r2, r3⟩ := (unhide B3).done y.cs #[.int .i64 0, .int .i64 0]
    refine bodyPost_ret (results_rr1 (P := Try.prog) rfl _ _ (w.heap.size + 1 + 1) 28 y.cs (0, 0) _ rfl r1 Try.underlying28 rfl (by kernel_rfl) (w.heap.size + 1 + 1 + 1) 44 #[.int .i64 0, .int .i64 0] (0, 0) _ rfl r2 Try.underlying44 rfl (by kernel_rfl)) rfl ?_
    exact ⟨y, rfl, unhide FY, ((unhide O3).row (by omega) _).row (by omega) _, r3⟩
end Go.Proofs.Ytfkmibgamkignaa

namespace Go.Proofs.Ytfkmibgamkignaa
open Go.ChangeShapes Go.WideShapes Go.ChangeAt Go.RowKit
set_option linter.unusedVariables false
set_option maxRecDepth 8000
set_option linter.unusedSimpArgs false

theorem laid_full {ns : List Int} (h : ns.length = 256) : laidM ns z256 = ns := by
  unfold laidM
  rw [List.take_of_length_le (by omega), List.drop_eq_nil_of_le (by rw [z256_len]; omega), List.append_nil]
theorem ok_m {d : Md} {st : Int} (h : d.ok st = true) : d.m.length = 256 := by
  unfold Md.ok at h
  simp only [Bool.and_eq_true, beq_iff_eq, decide_eq_true_eq] at h
  have := h.1
  omega
theorem back_full {ns : List Int} (h : ns.length = 256) : ns.take ns.length ++ ns.drop 256 = ns := by
  rw [List.take_of_length_le (Nat.le_refl _), List.drop_eq_nil_of_le (by omega), List.append_nil]

theorem Bq.pastR {w wr w' : World} {x : Mv} {o : Od} {r : Option Nat} (h : Bq w wr x o) (hg : wr.grownBy w' r) (ho : ∀ b, r = some b → w.heap.size + 4 ≤ b) : Bq w w' x o :=
  have k : ∀ {g : Nat} {ob : Obj}, wr.heap[g]? = some ob → g < w.heap.size + 4 → w'.heap[g]? = some ob := fun h1 h2 => (hg.block _ (row_lt h1) (fun e => by have := ho _ e.symm; omega)).trans h1
  ⟨k h.bx (by omega), k h.bo (by omega), k h.rm (by omega), k h.rp (by omega), h.bel.grown hg h.bel.size (fun b e => by have := ho _ e; omega), Nat.le_trans h.sz hg.size⟩

set_option maxHeartbeats 8000000 in
theorem placeI_in (x : Mv) (d : Md) (mo re : Nat) (X : Int) (w : World) (hs : x.small) (hz : x.nz) (hr : RdM w x d) (h1 : d.ok x.st = true) (h2 : (⟨(mo : Int), (re : Int), X⟩ : Od).ok = true) (h7 : mo ≤ 7) (hr8 : re < 8) :
    Calls Try.prog 23 #[.agg x.cs, (⟨(mo : Int), (re : Int), X⟩ : Od).v] w fun e w' => ∃ y : Mv, e = .returned (.tuple #[.agg y.cs, .agg #[.int .i64 (d.plR mo re), .int .i64 (d.plA mo re)], .bool (d.plO mo re)]) ∧ y.fl = x.fl ∧ OwnM w' (w.heap.size + 4) y (if d.plO mo re = true then d.plD mo re else d) ∧ Below w.heap.size w w' := by
  have B := hide (bq_new w x ⟨(mo : Int), (re : Int), X⟩)
  have X0 := hide (hr.later (unhide B).bel)
  have M := hide (fun w (h : RdM w x d) => copyM_any x d w hs hz h)
  have MO := hide (fun w (h : RdM w x d) => machineOf_any x d w hs hz h)
  have K := hide (okI_any x d _ hs (unhide X0))
  rw [h1] at K
  have S := hide hs
  have HR := hide hr
  have OO := hide (fun w => opdOkI_any ⟨(mo : Int), (re : Int), X⟩ w)
  rw [h2] at OO
  obtain ⟨r8, hget⟩ := ok_r8 h1
  have R8 := hide r8
  have HG := hide hget
  have ML := hide (ok_m h1)
  rw [laid_full (unhide ML)] at MO
  have HF := hide (pl_false d mo re)
  unfold Od.v at OO ⊢
  obtain ⟨ok, hok⟩ : ∃ b, d.plO mo re = b := ⟨_, rfl⟩
  obtain ⟨RR, hRR⟩ : ∃ b, d.plR mo re = b := ⟨_, rfl⟩
  obtain ⟨AA, hAA⟩ : ∃ b, d.plA mo re = b := ⟨_, rfl⟩
  obtain ⟨D2, hD2⟩ : ∃ b, d.plD mo re = b := ⟨_, rfl⟩
  have HO := hide (And.intro hok (And.intro hRR (And.intro hAA hD2)))
  rw [hok, hRR, hAA] at HF
  rw [hok, hRR, hAA, hD2]
  clear hr hs hz h1 h2 r8 hget hok hRR hAA hD2
  go_enter Try.func23, Try.ntmps23
  go_wp2_with (refine wpList_load_row rfl 28 _ rfl w.heap.size rfl 28 x.cs (0, 0) _ (unhide B).bx Try.underlying28 rfl (by kernel_rfl) ?_)
  refine (unhide K).mono ?_
  rintro e w1 ⟨rfl, hb⟩
  have B1 := hide ((unhide B).later hb)
  have X1 := hide ((unhide X0).later hb)
  clear hb K B X0
  obtain ⟨k0, k1, k2⟩ := (unhide B1).o3
  go_wp2_with fail
  clear k0 k1 k2
  refine (unhide OO w1).mono ?_
  rintro e w2 ⟨rfl, hb⟩
  have B2 := hide ((unhide B1).later hb)
  have X2 := hide ((unhide X1).later hb)
  have MO2 := hide (unhide MO w2 (unhide X2))
  clear hb B1 X1 OO
  go_wp2_with (refine wpList_load_row rfl 28 _ rfl w.heap.size rfl 28 x.cs (0, 0) _ (unhide B2).bx Try.underlying28 rfl (by kernel_rfl) ?_)
  refine (unhide MO2).mono ?_
  rintro e w3 ⟨y, rfl, fy, oy, hb⟩
  have oy := oy.base (C := w.heap.size + 4) (by have := (unhide B2).sz; omega)
  obtain ⟨gr, rc, er⟩ := sl_formP oy.r (by rw [(unhide R8).1]; omega)
  have GR := hide (And.intro (own_rlt oy er) (own_rge oy er))
  have FY := hide fy
  have SY := hide (small_of (unhide X2) oy.rd (unhide S))
  have B3 := hide (((unhide B2).later hb).later (below_new w3 (.cells (bigA d.m y) 80)))
  have X3 := hide (((unhide X2).later hb).later (below_new w3 (.cells (bigA d.m y) 80)))
  have P3 := hide (show Pg (w3.alloc (.cells (bigA d.m y) 80)) w3.heap.size (w.heap.size + 4) gr rc y d from ⟨heap_alloc_last w3 _, unhide ML, oy.later (below_new w3 _), er, by have := (unhide GR).1; omega⟩)
  have OM := hide (own_ne (g := w3.heap.size) oy.m (.inr (Nat.le_refl _)))
  have PL := hide (po_any w3.heap.size (w.heap.size + 4) gr rc mo re X y d (w3.alloc (.cells (bigA d.m y) 80)) (unhide P3) (unhide R8) hr8 (unhide SY) (unhide HG _) h7 (by have := (unhide GR).1; simp; omega) (by simp))
  unfold PoIs at PL
  obtain ⟨e1, e2, e3, e4⟩ := unhide HO
  rw [e1, e2, e3, e4] at PL
  have LT := hide (show w.heap.size + 4 ≤ w3.heap.size by have := (unhide B2).sz; have := hb.size; omega)
  clear fy oy hb MO2 B2 X2 er e1 e2 e3 e4 HO
  go_wp2_with (first | (refine wpList_alloc60 rfl rfl ?_) | (refine wpList_store60 rfl _ _ rfl d.m y (unhide ML) rfl rfl ?_) | (refine wpList_load_row rfl 40 _ rfl (w.heap.size + 1) rfl 40 #[.int .i64 (mo : Int), .int .i64 (re : Int), .int .i64 X] (0, 0) _ (unhide B3).bo Try.underlying40 rfl (by kernel_rfl) ?_))
  refine (unhide PL).mono ?_
  rintro e w4 ⟨rfl, p4, g4⟩
  have P4 := hide p4
  have B4 := hide (((unhide B3).past g4 (unhide GR).2).later (below_new w4 (.cells #[.int .i64 RR, .int .i64 AA] 44)))
  have Z4 := hide (((unhide B3).past g4 (unhide GR).2).sz)
  have Q4 := hide (heap_alloc_last w4 (.cells #[.int .i64 RR, .int .i64 AA] 44))
  clear p4 g4 PL B3 X3 P3
  cases ok
  · obtain ⟨rfl, rfl⟩ := unhide HF (by trivial)
    have M2 := hide (unhide M (w4.alloc (.cells #[.int .i64 0, .int .i64 0] 44)) ((unhide HR).later (unhide B4).bel))
    go_wp2_with (first | (refine wpList_store_new rfl 44 _ _ rfl #[.int .i64 0, .int .i64 0] rfl rfl _ (by kernel_rfl) rfl (by simp [Value.oneCell']) ?_) | (refine wpList_load_row rfl 28 _ rfl w.heap.size rfl 28 x.cs (0, 0) _ (unhide B4).bx Try.underlying28 rfl (by kernel_rfl) ?_))
    refine (unhide M2).mono ?_
    rintro e w5 ⟨y2, rfl, fy, oy2, hb⟩
    have F2 := hide fy
    have O5 := hide (oy2.base (C := w.heap.size + 4) (by have := (unhide B4).sz; omega))
    have B5 := hide ((unhide B4).later hb)
    clear fy oy2 hb M2 B4 P4 Q4
    go_wp2_with (first | (refine wpList_store_row rfl 28 _ _ rfl (w.heap.size + 1 + 1) y2.cs rfl rfl 28 zMv.cs (unhide B5).rm (by kernel_rfl) rfl (Mv.cs_one _) ?_) | (refine wpList_store_row rfl 44 _ _ rfl (w.heap.size + 1 + 1 + 1) #[.int .i64 0, .int .i64 0] rfl rfl 44 #[.int .i64 0, .int .i64 0] ((unhide B5).rp2 y2.cs) (by kernel_rfl) rfl (by simp [Value.oneCell']) ?_))
    obtain ⟨r1, r2, r3⟩ := (unhide B5).done y2.cs #[.int .i64 0, .int .i64 0]
    refine bodyPost_ret (results_rr1 (P := Try.prog) rfl _ _ (w.heap.size + 1 + 1) 28 y2.cs (0, 0) _ rfl r1 Try.underlying28 rfl (by kernel_rfl) (w.heap.size + 1 + 1 + 1) 44 #[.int .i64 0, .int .i64 0] (0, 0) _ rfl r2 Try.underlying44 rfl (by kernel_rfl)) rfl ?_
    exact ⟨y2, rfl, unhide F2, ((unhide O5).row (by omega) _).row (by omega) _, r3⟩
  · have P5 := hide ((unhide P4 (by trivial)).later (below_new w4 (.cells #[.int .i64 RR, .int .i64 AA] 44)))
    have AN := hide (answer_any w3.heap.size (w.heap.size + 4) D2.m y D2 _ (unhide P5).len (unhide P5).row (unhide P5).own (unhide OM))
    rw [back_full (unhide P5).len] at AN
    go_wp2_with (first | (refine wpList_store_new rfl 44 _ _ rfl #[.int .i64 RR, .int .i64 AA] rfl rfl _ (by kernel_rfl) rfl (by simp [Value.oneCell']) ?_))
    generalize hg4 : w4.heap.size = g4 at Q4 Z4 ⊢
    generalize hw5 : w4.alloc (Obj.cells #[.int .i64 RR, .int .i64 AA] 44) = w5 at P5 B4 Q4 AN ⊢
    have LM := hide (fun b (hb : y.m.v.ownBlock = some b) => (show w.heap.size + 4 ≤ b ∧ b < w4.heap.size from ⟨((unhide P4 (by trivial)).own.m.lt hb).1, ((unhide P4 (by trivial)).own.m.lt hb).2⟩))
    rw [hg4] at LM
    clear hw5 hg4 P4
    have Q5 := hide (row_lat (unhide Q4) (below_drew (w := w5)))
    have P6 := hide ((unhide P5).later (below_drew (w := w5)))
    have AN2 := hide (answer_any w3.heap.size (w.heap.size + 4) D2.m y D2 _ (unhide P6).len (unhide P6).row (unhide P6).own (unhide OM))
    rw [back_full (unhide P6).len] at AN2
    clear AN P5
    refine wp_region_held_drew (S := fun v => v.heap[g4]? = some (.cells #[.int .i64 RR, .int .i64 AA] 44 (0, 0))) (by kernel_rfl) (unhide Q5) (fun hS => ?_)
    have HS := hide hS
    clear hS
    refine wpAnyH_take (i := 1) (v := .agg #[.int .i64 RR, .int .i64 AA]) rfl (by kernel_rfl) (by kernel_rfl) (by kernel_rfl) (fun _ _ _ h => h) (yields_load rfl 44 _ rfl g4 rfl 44 #[.int .i64 RR, .int .i64 AA] _ (fun w h => h) Try.underlying44 rfl (by kernel_rfl)) (unhide HS) ?_
    go_simp
    refine wpAnyH_ready (rs := [0]) (by kernel_rfl) (by simp) ?_
    refine AllReadyH.cons rfl (fun K2 hK => ?_) AllReadyH.nil
    go_simp
    refine (unhide AN2).mono ?_
    rintro e w6 ⟨rfl, o6, g6⟩
    have B6 := hide (((unhide B4).later (below_drew (w := w5))).pastR g6 (fun b hb => (unhide LM b hb).1))
    have O6 := hide o6
    refine hK.out _ _ ((g6.block g4 (row_lt (unhide Q5)) (fun e => by have := (unhide LM g4 e.symm).2; omega)).trans (unhide Q5)) (fun hS => ?_)
    clear HS
    have HS := hide hS
    clear hS hK K2 o6 g6 AN2 B4 P6
    go_simp
    refine wpAnyH_ready (rs := [2]) (by kernel_rfl) (by simp) ?_
    refine AllReadyH.cons rfl (fun K2 hK => ?_) AllReadyH.nil
    rw [if_pos (by rfl)]
    refine wp_store_row 28 _ _ rfl (w.heap.size + 1 + 1) y.cs rfl rfl 28 zMv.cs (unhide B6).rm (by kernel_rfl) rfl (Mv.cs_one _) ?_
    refine hK.out _ _ ((setRow_other _ _ _ _ (by have := unhide Z4; omega)).trans (unhide HS)) (fun hS => ?_)
    clear HS
    have HS := hide hS
    clear hS hK K2
    go_simp
    refine wpAnyH_ready (rs := [3]) (by kernel_rfl) (by simp) ?_
    refine AllReadyH.cons rfl (fun K2 hK => ?_) AllReadyH.nil
    rw [if_pos (by rfl)]
    refine wp_store_row 44 _ _ rfl (w.heap.size + 1 + 1 + 1) #[.int .i64 RR, .int .i64 AA] rfl rfl 44 #[.int .i64 0, .int .i64 0] ((unhide B6).rp2 y.cs) (by kernel_rfl) rfl (by simp [Value.oneCell']) ?_
    refine hK.out _ _ ((setRow_other _ _ _ _ (by have := unhide Z4; omega)).trans (unhide HS)) (fun hS => ?_)
    clear HS
    have HS := hide hS
    clear hS hK K2
    go_simp
    refine wpAnyH_take (i := 4) (v := .bool true) rfl (by kernel_rfl) (by kernel_rfl) (by kernel_rfl) (fun _ _ _ h => h) (Or.inl ⟨by rfl, fun w hc => ?_⟩) (unhide HS) ?_
    · clear hc; go_simp
    go_simp
    refine wpAnyH_done (by kernel_rfl) ?_ _
    clear HS
    go_wp2_with fail
    obtain ⟨r1, r2, r3⟩ := (unhide B6).done y.cs #[.int .i64 RR, .int .i64 AA]
    refine bodyPost_ret (results_rr1 (P := Try.prog) rfl _ _ (w.heap.size + 1 + 1) 28 y.cs (0, 0) _ rfl r1 Try.underlying28 rfl (by kernel_rfl) (w.heap.size + 1 + 1 + 1) 44 #[.int .i64 RR, .int .i64 AA] (0, 0) _ rfl r2 Try.underlying44 rfl (by kernel_rfl)) rfl ?_
    exact ⟨y, rfl, unhide FY, ((unhide O6).row (by omega) _).row (by omega) _, r3⟩

theorem placeI_any (x : Mv) (d : Md) (o : Od) (w : World) (hs : x.small) (hz : x.nz) (hr : RdM w x d) :
    Calls Try.prog 23 #[.agg x.cs, o.v] w fun e w' => ∃ y : Mv, e = .returned (.tuple #[.agg y.cs, .agg #[.int .i64 (d.pcR x.st o), .int .i64 (d.pcA x.st o)], .bool (d.pcO x.st o)]) ∧ y.fl = x.fl ∧ OwnM w' (w.heap.size + 4) y (d.pcD x.st o) ∧ Below w.heap.size w w' := by
  unfold Md.pcD Md.pcR Md.pcA Md.pcO
  cases hI : d.pcI x.st o
  · simp only [Bool.false_eq_true, if_false]
    exact placeI_no x d o w hs hz hr hI
  · simp only [if_true]
    obtain ⟨h1, h2⟩ : d.ok x.st = true ∧ o.ok = true := by unfold Md.pcI at hI; simpa using hI
    obtain ⟨om, orr, ox⟩ := o
    have h3 := h2
    unfold Od.ok at h3
    simp only [Bool.and_eq_true] at h3
    obtain ⟨⟨⟨a1, a2⟩, _⟩, _⟩ := h3
    obtain ⟨m0, m1⟩ := inB_b a1
    obtain ⟨r0, r1⟩ := inB_b a2
    obtain ⟨mo, rfl⟩ := Int.eq_ofNat_of_zero_le m0
    obtain ⟨re, rfl⟩ := Int.eq_ofNat_of_zero_le r0
    have := placeI_in x d mo re ox w hs hz hr h1 h2 (by omega) (by omega)
    simpa using this
end Go.Proofs.Ytfkmibgamkignaa

namespace Go.Proofs.Ytfkmibgamkignaa
open Go.ChangeShapes Go.WideShapes Go.ChangeAt Go.RowKit
set_option linter.unusedVariables false
set_option maxRecDepth 8000

section
variable {H : Type} {enc : TypeId × Value → H} {W : World} {b0 base : Nat} {held : Bool}
theorem sl_of_trod {n : Nat} {c : Value} {y : DataW H × List MemPlace} (h : DataW.trod enc Try.prog W base (fun _ => true) held n 24 [c] = some y) : ∃ (s : Sl) (ns : List Int), c = .slice s.a s.n s.c ∧ RdN W s.a ns ∧ ns.length = s.n ∧ s.n ≤ maxLen := by
  rcases open_ints Try.underlying24 Try.underlying3 (by kernel_rfl) h with ⟨hcs, _⟩ | ⟨x, l, k, zs, hcs, _, hl, hm, hz, _, hcell, hwz⟩
  · simp at hcs
    exact ⟨⟨none, 0, 0⟩, [], hcs, .inl rfl, rfl, Nat.zero_le _⟩
  · simp at hcs
    have hrow : IsRow .i64 W (some x) l k zs := .inr ⟨x, rfl, hl, hm, by simpa using hz, hcell, hwz⟩
    obtain ⟨ns, h1, h2, h3, h4, _⟩ := rdN_of_row hrow
    exact ⟨⟨some x, l, k⟩, ns, hcs, h4, h1, Nat.le_trans hl hm⟩
theorem bool_of_trod {n : Nat} {c : Value} {y : DataW H × List MemPlace} (h : DataW.trod enc Try.prog W base (fun _ => true) held n 4 [c] = some y) : ∃ b : Bool, c = .bool b := by
  obtain ⟨b, hb, _⟩ := DataW.trod_bool Try.underlying4 h
  simp at hb
  exact ⟨b, hb⟩
theorem int_of_trod {n : Nat} {c : Value} {y : DataW H × List MemPlace} (h : DataW.trod enc Try.prog W base (fun _ => true) held n 3 [c] = some y) : ∃ x : Int, c = .int .i64 x ∧ (Lit.int .i64 x).wf = true := by
  obtain ⟨x, hx, _, hw⟩ := DataW.trod_int Try.underlying3 h
  simp at hx
  exact ⟨x, hx, hw⟩
theorem some_of_get {α : Type} {xs : List α} {o : Option α} {i : Nat} (h : o = xs[i]?) (hi : i < xs.length) : ∃ y, o = some y := ⟨xs[i], by rw [h, List.getElem?_eq_getElem hi]⟩
set_option maxHeartbeats 1000000 in
theorem open_mv {r : Reach} {v : Value} {d : DataW H} {p : List MemPlace} (hv : Value.okWide Try.prog W r b0 58 v) (h : DataW.Trod enc Try.prog W base (fun _ => true) held 58 v d p) : ∃ (x : Mv) (e : Md), v = .agg x.cs ∧ RdM W x e ∧ x.lens := by
  obtain ⟨cs, rfl, hsz⟩ := okWide_struct Try.underlying58 hv
  obtain ⟨fuel, hf⟩ := h
  obtain ⟨xs, n, _, _, hl, hlen, hg⟩ := DataW.trod_struct Try.underlying58 hf
  have hc : Try.prog.cellsOf 58 = 9 := by kernel_rfl
  have hc3 : Try.prog.cellsOf 3 = 1 := by kernel_rfl
  have hc4 : Try.prog.cellsOf 4 = 1 := by kernel_rfl
  have hc24 : Try.prog.cellsOf 24 = 1 := by kernel_rfl
  rw [hc] at hsz
  obtain ⟨l⟩ := cs
  match l, hsz with
  | [k0, k1, k2, k3, k4, k5, k6, k7, k8], _ =>
    have hlen' : xs.length = 9 := hlen
    have g0 := hg 0 (Field.mk "Mem" 24 0 false "" "" 0) rfl
    have g1 := hg 1 (Field.mk "R" 24 1 false "" "" 24) rfl
    have g2 := hg 2 (Field.mk "N" 4 2 false "" "" 48) rfl
    have g3 := hg 3 (Field.mk "Z" 4 3 false "" "" 49) rfl
    have g4 := hg 4 (Field.mk "V" 4 4 false "" "" 50) rfl
    have g5 := hg 5 (Field.mk "C" 4 5 false "" "" 51) rfl
    have g6 := hg 6 (Field.mk "In" 24 6 false "" "" 56) rfl
    have g7 := hg 7 (Field.mk "Out" 24 7 false "" "" 80) rfl
    have g8 := hg 8 (Field.mk "Stop" 3 8 false "" "" 104) rfl
    simp only [hc3, hc4, hc24, Value.cells] at g0 g1 g2 g3 g4 g5 g6 g7 g8
    obtain ⟨y0, e0⟩ := some_of_get g0 (by omega)
    obtain ⟨y1, e1⟩ := some_of_get g1 (by omega)
    obtain ⟨y2, e2⟩ := some_of_get g2 (by omega)
    obtain ⟨y3, e3⟩ := some_of_get g3 (by omega)
    obtain ⟨y4, e4⟩ := some_of_get g4 (by omega)
    obtain ⟨y5, e5⟩ := some_of_get g5 (by omega)
    obtain ⟨y6, e6⟩ := some_of_get g6 (by omega)
    obtain ⟨y7, e7⟩ := some_of_get g7 (by omega)
    obtain ⟨y8, e8⟩ := some_of_get g8 (by omega)
    simp only [List.drop_succ_cons, List.drop_zero, List.take_succ_cons, List.take_zero] at e0 e1 e2 e3 e4 e5 e6 e7 e8
    obtain ⟨s0, n0, rfl, r0, l0, m0⟩ := sl_of_trod e0
    obtain ⟨s1, n1, rfl, r1, l1, m1⟩ := sl_of_trod e1
    obtain ⟨q2, rfl⟩ := bool_of_trod e2
    obtain ⟨q3, rfl⟩ := bool_of_trod e3
    obtain ⟨q4, rfl⟩ := bool_of_trod e4
    obtain ⟨q5, rfl⟩ := bool_of_trod e5
    obtain ⟨s6, n6, rfl, r6, l6, m6⟩ := sl_of_trod e6
    obtain ⟨s7, n7, rfl, r7, l7, m7⟩ := sl_of_trod e7
    obtain ⟨x8, rfl, _⟩ := int_of_trod e8
    exact ⟨⟨s0, s1, q2, q3, q4, q5, s6, s7, x8⟩, ⟨n0, n1, n6, n7⟩, rfl, ⟨r0, r1, r6, r7, l0, l1, l6, l7⟩, m0, m1, m6, m7⟩
end
end Go.Proofs.Ytfkmibgamkignaa

namespace Go.Proofs.Ytfkmibgamkignaa
open Go.ChangeShapes Go.WideShapes Go.ChangeAt Go.RowKit
set_option linter.unusedVariables false
set_option maxRecDepth 8000
set_option linter.unusedSimpArgs false

set_option maxHeartbeats 1000000 in
theorem eqPlace_any (r a : Int) (w : World) : Calls Try.prog 43 #[.agg #[.int .i64 r, .int .i64 a], .agg #[.int .i64 r, .int .i64 a]] w fun e w' => e = .returned (.bool true) ∧ Below w.heap.size w w' := by
  have hb : Below w.heap.size w ((w.alloc (.cells #[.int .i64 r, .int .i64 a] 44)).alloc (.cells #[.int .i64 r, .int .i64 a] 44)) := ((Below.refl _ _).alloc (Nat.le_refl _) _).alloc (by simp) _
  have HB := hide hb
  clear hb
  go_enter Try.func43, Try.ntmps43
  go_wp2
  go_ret
  exact ⟨rfl, unhide HB⟩
set_option maxHeartbeats 1000000 in
theorem toPlace_any (r a : Int) (w : World) : Calls Try.prog 44 #[.agg #[.int .i64 r, .int .i64 a]] w fun e w' => e = .returned (.agg #[.int .i64 r, .int .i64 a]) ∧ Below w.heap.size w w' := by
  have hb : Below w.heap.size w (((w.alloc (.cells #[.int .i64 r, .int .i64 a] 67)).alloc (.cells #[.int .i64 r, .int .i64 a] 44)).alloc (.cells #[.int .i64 r, .int .i64 a] 44)) := (((Below.refl _ _).alloc (Nat.le_refl _) _).alloc (by simp) _).alloc (by simp; omega) _
  have rw1 : (((w.alloc (.cells #[.int .i64 r, .int .i64 a] 67)).alloc (.cells #[.int .i64 r, .int .i64 a] 44)).alloc (.cells #[.int .i64 r, .int .i64 a] 44)).heap[w.heap.size + 1]? = some (.cells #[.int .i64 r, .int .i64 a] 44 (0, 0)) :=
    row_lat (by have := heap_alloc_last (w.alloc (.cells #[.int .i64 r, .int .i64 a] 67)) (.cells #[.int .i64 r, .int .i64 a] 44); simpa using this) (below_new _ _)
  have HB := hide hb
  have RW := hide rw1
  clear hb rw1
  go_enter Try.func44, Try.ntmps44
  go_wp2
  refine bodyPost_ret (results_cell_row (P := Try.prog) rfl _ _ (w.heap.size + 1) 44 #[.int .i64 r, .int .i64 a] (0, 0) _ rfl (unhide RW) Try.underlying44 rfl (by kernel_rfl)) rfl ?_
  exact ⟨rfl, unhide HB⟩
end Go.Proofs.Ytfkmibgamkignaa

namespace Go.Proofs.Ytfkmibgamkignaa
open Go.ChangeShapes Go.WideShapes Go.ChangeAt Go.RowKit
set_option linter.unusedVariables false
set_option maxRecDepth 8000
set_option linter.unusedSimpArgs false

section
variable {H : Type} {enc : TypeId × Value → H} {W : World} {b0 base : Nat} {spare : TypeId → Bool} {held : Bool}
def Bd64 (x : Int) : Prop := (Lit.int .i64 x).wf = true
theorem trod_od {fuel : Nat} {cs : List Value} {x : DataW H × List MemPlace} (h : DataW.trod enc Try.prog W base spare held fuel 63 cs = some x) : ∃ o : Od, cs = [.int .i64 o.m, .int .i64 o.r, .int .i64 o.x] ∧ Bd64 o.m ∧ Bd64 o.r ∧ Bd64 o.x := by
  obtain ⟨y0, y1, y2, n, _, hl, h0, h1, h2⟩ := _root_.Go.Deep.trod_struct3 Try.underlying63 h
  have hc : Try.prog.cellsOf 63 = 3 := by kernel_rfl
  have hc3 : Try.prog.cellsOf 3 = 1 := by kernel_rfl
  rw [hc] at hl
  match cs, hl with
  | [c0, c1, c2], _ =>
    obtain ⟨m, e0, _, w0⟩ := DataW.trod_int Try.underlying3 h0
    obtain ⟨r, e1, _, w1⟩ := DataW.trod_int Try.underlying3 h1
    obtain ⟨x, e2, _, w2⟩ := DataW.trod_int Try.underlying3 h2
    simp only [hc3] at e0 e1 e2
    simp at e0 e1 e2
    subst e0 e1 e2
    exact ⟨⟨m, r, x⟩, rfl, w0, w1, w2⟩
theorem open_od {r : Reach} {v : Value} {d : DataW H} {p : List MemPlace} (hv : Value.okWide Try.prog W r b0 63 v) (h : DataW.Trod enc Try.prog W base spare held 63 v d p) : ∃ o : Od, v = o.v ∧ Bd64 o.m ∧ Bd64 o.r ∧ Bd64 o.x := by
  obtain ⟨cs, rfl, hsz⟩ := okWide_struct Try.underlying63 hv
  obtain ⟨fuel, hf⟩ := h
  obtain ⟨o, hcs, b1, b2, b3⟩ := trod_od hf
  refine ⟨o, ?_, b1, b2, b3⟩
  have : cs.toList = [.int .i64 o.m, .int .i64 o.r, .int .i64 o.x] := by simpa [Value.cells] using hcs
  unfold Od.v
  rw [← Array.toArray_toList (xs := cs), this]
end

set_option maxHeartbeats 1000000 in
theorem toOpd_any (o : Od) (w : World) : Calls Try.prog 42 #[o.v] w fun e w' => e = .returned o.v ∧ Below w.heap.size w w' := by
  obtain ⟨m, r, x⟩ := o
  unfold Od.v
  simp only
  have hB : ∀ o1 o2 o3, Below w.heap.size w (((w.alloc o1).alloc o2).alloc o3) := fun o1 o2 o3 => (((Below.refl _ _).alloc (Nat.le_refl _) _).alloc (by simp) _).alloc (by simp; omega) _
  have hG : ∀ o1 o2 o3, (((w.alloc o1).alloc o2).alloc o3).heap[w.heap.size + 1]? = some o2 := fun o1 o2 o3 => by
    have h1 : (w.alloc o1).heap.size = w.heap.size + 1 := by simp
    have h2 : ((w.alloc o1).alloc o2).heap[w.heap.size + 1]? = some o2 := by rw [← h1]; exact Array.getElem?_push_size
    exact ((Below.refl ((w.alloc o1).alloc o2).heap.size _).alloc (Nat.le_refl _) o3).block _ (by simp) |>.trans h2
  have HB := hide hB
  have HG := hide hG
  clear hB hG
  go_enter Try.func42, Try.ntmps42
  go_wp2
  refine bodyPost_ret (results_cell_row (P := Try.prog) rfl _ _ (w.heap.size + 1) 40 #[.int .i64 m, .int .i64 r, .int .i64 x] (0, 0) _ rfl (unhide HG _ _ _) Try.underlying40 rfl (by kernel_rfl)) rfl ?_
  exact ⟨rfl, unhide HB _ _ _⟩

theorem small_reg {d : Md} (h : d.small) (k : Nat) (v : Int) : (d.reg k v).small := ⟨h.1, by simpa [Md.reg] using h.2.1, h.2.2.1, h.2.2.2⟩
theorem small_pl {d : Md} (h : d.small) (mo re : Nat) : (d.plD mo re).small := by
  unfold Md.plD Md.adD Md.fet
  repeat' split
  all_goals first | exact h | exact small_reg h _ _
theorem small_pc {d : Md} (h : d.small) (st : Int) (o : Od) : (d.pcD st o).small := by
  unfold Md.pcD
  split
  · exact small_pl h _ _
  · exact h
end Go.Proofs.Ytfkmibgamkignaa

namespace Go.Proofs.Ytfkmibgamkignaa
open Go.ChangeShapes Go.WideShapes Go.ChangeAt Go.RowKit
set_option linter.unusedVariables false
set_option maxRecDepth 8000
set_option linter.unusedSimpArgs false

section
variable {o : Oper} {a : Act} {w : World} {K : Act → World → Prop} {Q : Exit → Act → World → Prop}
theorem wp_callF (f : FuncId) (xs : List Operand) (tys : Array TypeId) (ho : o.op = .call { callee := .value (.func f), args := xs.toArray, argTypes := tys }) (vs : List Value) (hv : xs.map a.eval = vs) (hcf : ∀ vs w, (callFunc f vs).run Try.prog w = .ok (.enter f vs) w) (R : Value → World → Prop)
    (hc : Calls Try.prog f vs.toArray w fun e w' => ∃ u, e = .returned u ∧ R u w') (h : ∀ u w', R u w' → K (a.put o.dst u) w') : o.wp Try.prog a w K Q := by
  have hrun : (execOp a.eval o).run Try.prog w = .ok (.enter f vs.toArray) w := by
    have he : a.eval (.func f) = .func (.func f) #[] #[] := rfl
    unfold execOp
    simp only [ho, resolve, he, List.map_toArray, hv]
    simp [go_sem]
    exact hcf vs.toArray w
  unfold Oper.wp
  rw [hrun, Oper.upon_enter]
  refine hc.mono ?_
  rintro e w' ⟨u, rfl, hu⟩
  exact h u w' hu
theorem wp_assign (x : Operand) (ho : o.op = .assign x) (h : K (a.put o.dst (a.eval x)) w) : o.wp Try.prog a w K Q := by
  unfold Oper.wp execOp
  simp only [ho, Sem.run_bind, Sem.run_pure, Result.andThen_ok]
  exact h
theorem wp_extract (x : Operand) (i : Nat) (ho : o.op = .extract x i) (vs : Array Value) (hx : a.eval x = .tuple vs) (v : Value) (hi : vs[i]? = some v) (h : K (a.put o.dst v) w) : o.wp Try.prog a w K Q := by
  unfold Oper.wp execOp
  simp only [ho, hx, Instr.extract, hi, Sem.run_bind, Sem.run_pure, Result.andThen_ok]
  exact h
theorem wp_allocT (ty : TypeId) (z : Array Value) (n : Nat) (hz : (Try.prog.info? ty).map (fun i => (i.zero, i.size)) = some (some (.agg z), n)) (ho : o.op = .alloc ty) (h : K (a.put o.dst (.pointer (some ⟨w.heap.size, 0, none⟩))) (w.alloc (.cells z ty))) : o.wp Try.prog a w K Q := by
  have hz := (zero_of_info hz).1
  unfold Oper.wp execOp
  simp only [ho, Instr.alloc, hz, Sem.run_bind, Sem.run_pure, Result.andThen_ok]
  simp [go_sem]
  exact h
end
theorem cf24 : ∀ vs w, (callFunc 24 vs).run Try.prog w = .ok (.enter 24 vs) w := fun _ _ => by simp [go_sem]
theorem zero44 : (Try.prog.info? 44).map (fun i => (i.zero, i.size)) = some (some (.agg #[.int .i64 0, .int .i64 0]), 2) := by kernel_rfl
theorem zero40 : (Try.prog.info? 40).map (fun i => (i.zero, i.size)) = some (some (.agg #[.int .i64 0, .int .i64 0, .int .i64 0]), 3) := by kernel_rfl

/-- What has come up holds whatever it waits for. -/
def Shut (ops : Array Oper) (f : Nat → Bool) : Prop := ∀ (j : Nat) (o : Oper), ops[j]? = some o → f j = true → ∀ e ∈ o.after, Region.binds .any e = true → f e.on = true
theorem shut_step {ops : Array Oper} {f : Nat → Bool} (h : Shut ops f) (i : Nat) (o : Oper) (ho : ops[i]? = some o) (hd : ∀ e ∈ o.after, Region.binds .any e = true → f e.on = true) : Shut ops (fun j => if j = i then true else f j) := by
  intro j p hp hj e he hb
  by_cases hji : j = i
  · subst hji
    rw [ho] at hp
    cases hp
    have := hd e he hb
    by_cases h2 : e.on = j
    · simp [h2]
    · simp [h2, this]
  · have hj' : f j = true := by simpa [hji] using hj
    have := h j p hp hj' e he hb
    by_cases h2 : e.on = i
    · simp [h2]
    · simp [h2, this]
section
variable {P : Program} {ops : Array Oper} {Q : Exit → Act → World → Prop}
theorem wpAny_invB (I : (Nat → Bool) → Act → World → Prop)
    (hstep : ∀ (i : Nat) (o : Oper), ops[i]? = some o → ∀ (f : Nat → Bool) (a : Act) (w : World), I f a w → f i = false → (∀ e ∈ o.after, Region.binds .any e = true → f e.on = true) →
      ∀ K : Act → World → Prop, (∀ a' w', I (fun j => if j = i then true else f j) a' w' → K a' w') → if Region.wanted o (yielded ops a.tmps) = true then Oper.wp P o a w K Q else K (a.put o.dst undef) w)
    (hdone : ∀ (f : Nat → Bool) (a : Act) (w : World), I f a w → (∀ i, i < ops.size → f i = true) → Q .normal a w)
    (hac : ∀ (i : Nat) (o : Oper), ops[i]? = some o → ∀ e ∈ o.after, Region.binds .any e = true → e.on < i) :
    ∀ (fuel : Nat) (listed : Array Bool) (a : Act) (w : World), listed.size = ops.size → (List.range ops.size).countP (fun j => !listed.getD j false) ≤ fuel → I (fun j => listed.getD j false) a w → wpAny P .any ops Q fuel listed a w := by
  have hnil : ∀ (listed : Array Bool), listed.size = ops.size → Region.ready .any ops listed = [] → ∀ i, i < ops.size → listed.getD i false = true := by
    intro listed hsz hr i
    induction i using Nat.strongRecOn with
    | ind i ih =>
      intro hi
      cases hb : listed.getD i false with
      | true => rfl
      | false =>
        have hm : i ∈ Region.ready .any ops listed := mem_ready.2 ⟨by
          have hi' : i < listed.size := by omega
          simpa [hi'] using hb, ops[i], by simp [hi], fun e he hb2 => ih e.on (hac i _ (by simp [hi]) e he hb2) (Nat.lt_trans (hac i _ (by simp [hi]) e he hb2) hi)⟩
        rw [hr] at hm
        cases hm
  intro fuel
  induction fuel with
  | zero =>
    intro listed a w hsz hc hI
    have hall : ∀ i, i < ops.size → listed.getD i false = true := fun i hi => by
      have h0 : (List.range ops.size).countP (fun j => !listed.getD j false) = 0 := by omega
      rw [List.countP_eq_zero] at h0
      have := h0 i (List.mem_range.2 hi)
      simpa using this
    refine ⟨?_, hdone _ a w hI hall⟩
    apply List.eq_nil_iff_forall_not_mem.2
    intro i hi
    obtain ⟨h1, o, ho, _⟩ := mem_ready.1 hi
    have hi' := (Array.getElem?_eq_some_iff.1 ho).1
    have := hall i hi'
    have hi'' : i < listed.size := by omega
    simp [hi''] at this h1
    rw [this] at h1
    cases h1
  | succ fuel ih =>
    intro listed a w hsz hc hI
    refine ⟨fun hr => hdone _ a w hI (hnil listed hsz hr), fun i hi => ?_⟩
    obtain ⟨h1, o, ho, hd⟩ := mem_ready.1 hi
    have hi' := (Array.getElem?_eq_some_iff.1 ho).1
    have hi'' : i < listed.size := by omega
    have hf : listed.getD i false = false := by simpa [hi''] using h1
    refine wpOp_step ho fun K hK => ?_
    refine hstep i o ho _ a w hI hf (fun e he hb => hd e he hb) K fun a' w' hI' => hK a' w' ?_
    refine ih _ a' w' (by simpa using hsz) ?_ (by rw [getD_set listed i hi'']; exact hI')
    have := countP_one (fun j => !listed.getD j false) (fun j => !(listed.setIfInBounds i true).getD j false) i (by simp [hf]) (by
      have := congrFun (getD_set listed i hi'') i
      simp only [if_true] at this
      rw [this]; rfl) (fun j hj => by
      have := congrFun (getD_set listed i hi'') j
      simp only [if_neg hj] at this
      rw [this]) (List.range ops.size) List.nodup_range (List.mem_range.2 hi')
    omega
/-- Each operation waits for earlier ones alone. -/
def waitsBB (ops : Array Oper) : Bool := (List.range ops.size).all fun i => ((ops[i]?).map fun o => o.after.all fun e => !Region.binds .any e || decide (e.on < i)).getD true
theorem waitsB_of (h : waitsBB ops = true) : ∀ (i : Nat) (o : Oper), ops[i]? = some o → ∀ e ∈ o.after, Region.binds .any e = true → e.on < i := by
  intro i o ho e he hb
  unfold waitsBB at h
  rw [List.all_eq_true] at h
  have := h i (List.mem_range.2 (Array.getElem?_eq_some_iff.1 ho).1)
  rw [ho] at this
  simp only [Option.map_some, Option.getD_some] at this
  have := Array.all_eq_true_iff_forall_mem.1 this e he
  simpa [hb] using this
/-- The whole region: what holds of it at its beginning, behind each operation, and what that gives at its end. -/
theorem wp_region_invB {id : Nat} {a : Act} {w : World} (I : (Nat → Bool) → Act → World → Prop) (hm : P.follows .mixedOrders = true) (h0 : I (fun _ => false) a w.drew)
    (hac : waitsBB ops = true)
    (hstep : ∀ (i : Nat) (o : Oper), ops[i]? = some o → ∀ (f : Nat → Bool) (a : Act) (w : World), I f a w → f i = false → (∀ e ∈ o.after, Region.binds .any e = true → f e.on = true) →
      ∀ K : Act → World → Prop, (∀ a' w', I (fun j => if j = i then true else f j) a' w' → K a' w') → if Region.wanted o (yielded ops a.tmps) = true then Oper.wp P o a w K Q else K (a.put o.dst undef) w)
    (hdone : ∀ (f : Nat → Bool) (a : Act) (w : World), I f a w → (∀ i, i < ops.size → f i = true) → Q .normal a w) : (Code.region id ops true).wp P Q a w := by
  refine wp_region_any hm ?_
  refine wpAny_invB I hstep hdone (waitsB_of hac) ops.size _ a _ (by simp) ?_ ?_
  · exact Nat.le_trans (List.countP_le_length) (by simp)
  · have e : (fun j => (Array.replicate ops.size false).getD j false) = fun _ => false := by
      funext j
      simp only [Array.getD_eq_getD_getElem?]
      by_cases hj : j < ops.size
      · rw [Array.getElem?_eq_getElem (by simpa using hj)]; simp
      · rw [Array.getElem?_eq_none (by simpa using hj)]; rfl
    rw [e]
    exact h0
theorem wp_region_shut {id : Nat} {a : Act} {w : World} (I : (Nat → Bool) → Act → World → Prop) (hm : P.follows .mixedOrders = true) (h0 : I (fun _ => false) a w.drew)
    (hac : waitsBB ops = true)
    (hstep : ∀ (i : Nat) (o : Oper), ops[i]? = some o → ∀ (f : Nat → Bool) (a : Act) (w : World), I f a w → Shut ops f → f i = false → (∀ e ∈ o.after, Region.binds .any e = true → f e.on = true) →
      ∀ K : Act → World → Prop, (∀ a' w', I (fun j => if j = i then true else f j) a' w' → K a' w') → if Region.wanted o (yielded ops a.tmps) = true then Oper.wp P o a w K Q else K (a.put o.dst undef) w)
    (hdone : ∀ (f : Nat → Bool) (a : Act) (w : World), I f a w → (∀ i, i < ops.size → f i = true) → Q .normal a w) : (Code.region id ops true).wp P Q a w :=
  wp_region_invB (fun f a w => I f a w ∧ Shut ops f) hm ⟨h0, fun _ _ _ h => no h⟩ hac
    (fun i o ho f a w hI hf hd K hK => hstep i o ho f a w hI.1 hI.2 hf hd K (fun a' w' hI' => hK a' w' ⟨hI', shut_step hI.2 i o ho hd⟩))
    (fun f a w hI hall => hdone f a w hI.1 hall)
end
/-- A row of another type lies in none of a machine's lists. -/
theorem OwnN.off {w : World} {B g t : Nat} {v : Value} {ns : List Int} {cs : Array Value} {fr : Nat × Nat} (h : OwnN w B v ns) (hg : w.heap[g]? = some (.cells cs t fr)) (ht : t ≠ 3) : v.ownBlock ≠ some g := fun e => by
  obtain ⟨h1, ⟨h2, h3⟩ | ⟨gm, cap, cur, e2, hB, hh, hn, hm, hs, ht2⟩⟩ := id h
  · rw [h2] at e; cases e
  · rw [e2] at e
    have : gm = g := by simpa [Value.ownBlock] using e
    subst this
    rw [hg] at hh
    injection hh with hh
    injection hh with _ hh
    exact ht hh
theorem OwnM.off {w : World} {B g t : Nat} {x : Mv} {d : Md} {cs : Array Value} {fr : Nat × Nat} (h : OwnM w B x d) (hg : w.heap[g]? = some (.cells cs t fr)) (ht : t ≠ 3) : ∀ b, x.at b → b ≠ g := fun b hb e => by
  subst e
  rcases hb with h1 | h1 | h1 | h1
  · exact h.m.off hg ht h1
  · exact h.r.off hg ht h1
  · exact h.i.off hg ht h1
  · exact h.o.off hg ht h1
theorem OwnM.lay {w : World} {B g t : Nat} {x : Mv} {d : Md} {cs : Array Value} {fr : Nat × Nat} (h : OwnM w B x d) (hg : w.heap[g]? = some (.cells cs t fr)) (ht : t ≠ 3) (c2 : Array Value) : OwnM (w.setRow g c2) B x d :=
  h.keepH fun k hk _ => setRow_other w g k c2 (fun e => h.off hg ht k hk e)
theorem row_lay {w : World} {g g' t t' : Nat} {cs cs' c2 : Array Value} {fr fr' : Nat × Nat} (h : w.heap[g']? = some (.cells cs' t' fr')) (hg : w.heap[g]? = some (.cells cs t fr)) (ht : t' ≠ t) : (w.setRow g c2).heap[g']? = some (.cells cs' t' fr') :=
  (setRow_other w g g' c2 (ne_of_rows h hg (fun e => by injection e with _ e; exact ht e))).trans h
end Go.Proofs.Ytfkmibgamkignaa

namespace Go.Proofs.Ytfkmibgamkignaa
open Go.ChangeShapes Go.WideShapes Go.ChangeAt Go.RowKit
set_option linter.unusedVariables false
set_option maxRecDepth 8000
set_option linter.unusedSimpArgs false

theorem cf40 : ∀ vs w, (callFunc 40 vs).run Try.prog w = .ok (.enter 40 vs) w := fun _ _ => by simp [go_sem]
theorem cf42 : ∀ vs w, (callFunc 42 vs).run Try.prog w = .ok (.enter 42 vs) w := fun _ _ => by simp [go_sem]
theorem cf23 : ∀ vs w, (callFunc 23 vs).run Try.prog w = .ok (.enter 23 vs) w := fun _ _ => by simp [go_sem]
/-- What holds of a region, whatever part of it has come up. -/
structure Ra (x : Mv) (d D : Md) (om orr ox pr pa : Int) (ok : Bool) (Wb w : World) (f : Nat → Bool) (v0 v1 v2 v3 v4 v5 v6 v7 v8 v9 v10 v13 : Value) : Prop where
  bel : Below Wb.heap.size Wb w
  h0 : f 0 = true → v0 = .agg x.cs
  h1 : f 1 = true → ∃ y : Mv, v1 = .agg y.cs ∧ y.fl = x.fl ∧ OwnM w Wb.heap.size y d
  h2 : f 2 = true → v2 = .agg #[.int .i64 om, .int .i64 orr, .int .i64 ox]
  h3 : f 3 = true → v3 = .agg #[.int .i64 om, .int .i64 orr, .int .i64 ox]
  h4 : f 4 = true → ∃ s : Mv, v4 = .tuple #[.agg s.cs, .agg #[.int .i64 pr, .int .i64 pa], .bool ok] ∧ s.fl = x.fl ∧ OwnM w Wb.heap.size s D
  h5 : f 5 = true → v5 = v4
  h6 : f 6 = true → ∃ s : Mv, v4 = .tuple #[.agg s.cs, .agg #[.int .i64 pr, .int .i64 pa], .bool ok] ∧ v6 = .agg s.cs
  h7 : f 7 = true → v7 = .agg #[.int .i64 pr, .int .i64 pa]
  h8 : f 8 = true → v8 = .bool ok
  h9 : f 9 = true → ∃ g : Nat, v9 = .pointer (some ⟨g, 0, none⟩) ∧ Wb.heap.size ≤ g ∧ (f 11 = false → w.heap[g]? = some (.cells zMv.cs 28 (0, 0)))
  h10 : f 10 = true → ∃ g : Nat, v10 = .pointer (some ⟨g, 0, none⟩) ∧ Wb.heap.size ≤ g ∧ (f 12 = false → w.heap[g]? = some (.cells #[.int .i64 0, .int .i64 0] 44 (0, 0)))
  h11 : f 11 = true → ∃ g : Nat, v9 = .pointer (some ⟨g, 0, none⟩) ∧ Wb.heap.size ≤ g ∧ ∃ s : Mv, v4 = .tuple #[.agg s.cs, .agg #[.int .i64 pr, .int .i64 pa], .bool ok] ∧ w.heap[g]? = some (.cells s.cs 28 (0, 0))
  h12 : f 12 = true → ∃ g : Nat, v10 = .pointer (some ⟨g, 0, none⟩) ∧ Wb.heap.size ≤ g ∧ w.heap[g]? = some (.cells #[.int .i64 pr, .int .i64 pa] 44 (0, 0))
  h13 : f 13 = true → v13 = .bool ok
section
variable {x : Mv} {d D : Md} {om orr ox pr pa : Int} {ok : Bool} {Wb w w2 : World} {f : Nat → Bool} {v0 v1 v2 v3 v4 v5 v6 v7 v8 v9 v10 v13 : Value}
theorem Ra.mk0 (h : Below Wb.heap.size Wb w) : Ra x d D om orr ox pr pa ok Wb w (fun _ => false) v0 v1 v2 v3 v4 v5 v6 v7 v8 v9 v10 v13 := ⟨h, fun h => no h, fun h => no h, fun h => no h, fun h => no h, fun h => no h, fun h => no h, fun h => no h, fun h => no h, fun h => no h, fun h => no h, fun h => no h, fun h => no h, fun h => no h, fun h => no h⟩
theorem Ra.lat (J : Ra x d D om orr ox pr pa ok Wb w f v0 v1 v2 v3 v4 v5 v6 v7 v8 v9 v10 v13) (hb : Below w.heap.size w w2) : Ra x d D om orr ox pr pa ok Wb w2 f v0 v1 v2 v3 v4 v5 v6 v7 v8 v9 v10 v13 :=
  ⟨J.bel.trans (hb.mono J.bel.size), (J.h0),
    (fun h => by obtain ⟨y, e, k, o⟩ := (J.h1 h); exact ⟨y, e, k, o.later hb⟩),
    (J.h2),
    (J.h3),
    (fun h => by obtain ⟨y, e, k, o⟩ := (J.h4 h); exact ⟨y, e, k, o.later hb⟩),
    (J.h5),
    (J.h6),
    (J.h7),
    (J.h8),
    (fun h => by obtain ⟨g, e, l, r⟩ := J.h9 h; exact ⟨g, e, l, fun k => row_lat (r k) hb⟩),
    (fun h => by obtain ⟨g, e, l, r⟩ := J.h10 h; exact ⟨g, e, l, fun k => row_lat (r k) hb⟩),
    (fun h => by obtain ⟨g, e, l, s, e2, r⟩ := J.h11 h; exact ⟨g, e, l, s, e2, row_lat r hb⟩),
    (fun h => by obtain ⟨g, e, l, r⟩ := J.h12 h; exact ⟨g, e, l, row_lat r hb⟩),
    (J.h13)⟩
theorem Ra.p0 (J : Ra x d D om orr ox pr pa ok Wb w f v0 v1 v2 v3 v4 v5 v6 v7 v8 v9 v10 v13)  {u : Value} (hu : u = .agg x.cs) : Ra x d D om orr ox pr pa ok Wb w (fun j => if j = 0 then true else f j) u v1 v2 v3 v4 v5 v6 v7 v8 v9 v10 v13 :=
  ⟨J.bel, (fun _ => hu), (J.h1), (J.h2), (J.h3), (J.h4), (J.h5), (J.h6), (J.h7), (J.h8), (J.h9), (J.h10), (J.h11), (J.h12), (J.h13)⟩
theorem Ra.p1 (J : Ra x d D om orr ox pr pa ok Wb w f v0 v1 v2 v3 v4 v5 v6 v7 v8 v9 v10 v13)  {u : Value} (hu : ∃ y : Mv, u = .agg y.cs ∧ y.fl = x.fl ∧ OwnM w Wb.heap.size y d) : Ra x d D om orr ox pr pa ok Wb w (fun j => if j = 1 then true else f j) v0 u v2 v3 v4 v5 v6 v7 v8 v9 v10 v13 :=
  ⟨J.bel, (J.h0), (fun _ => hu), (J.h2), (J.h3), (J.h4), (J.h5), (J.h6), (J.h7), (J.h8), (J.h9), (J.h10), (J.h11), (J.h12), (J.h13)⟩
theorem Ra.p2 (J : Ra x d D om orr ox pr pa ok Wb w f v0 v1 v2 v3 v4 v5 v6 v7 v8 v9 v10 v13)  {u : Value} (hu : u = .agg #[.int .i64 om, .int .i64 orr, .int .i64 ox]) : Ra x d D om orr ox pr pa ok Wb w (fun j => if j = 2 then true else f j) v0 v1 u v3 v4 v5 v6 v7 v8 v9 v10 v13 :=
  ⟨J.bel, (J.h0), (J.h1), (fun _ => hu), (J.h3), (J.h4), (J.h5), (J.h6), (J.h7), (J.h8), (J.h9), (J.h10), (J.h11), (J.h12), (J.h13)⟩
theorem Ra.p3 (J : Ra x d D om orr ox pr pa ok Wb w f v0 v1 v2 v3 v4 v5 v6 v7 v8 v9 v10 v13)  {u : Value} (hu : u = .agg #[.int .i64 om, .int .i64 orr, .int .i64 ox]) : Ra x d D om orr ox pr pa ok Wb w (fun j => if j = 3 then true else f j) v0 v1 v2 u v4 v5 v6 v7 v8 v9 v10 v13 :=
  ⟨J.bel, (J.h0), (J.h1), (J.h2), (fun _ => hu), (J.h4), (J.h5), (J.h6), (J.h7), (J.h8), (J.h9), (J.h10), (J.h11), (J.h12), (J.h13)⟩
theorem Ra.p4 (J : Ra x d D om orr ox pr pa ok Wb w f v0 v1 v2 v3 v4 v5 v6 v7 v8 v9 v10 v13) (n5 : f 5 = false) (n6 : f 6 = false) (n11 : f 11 = false) {u : Value} (hu : ∃ s : Mv, u = .tuple #[.agg s.cs, .agg #[.int .i64 pr, .int .i64 pa], .bool ok] ∧ s.fl = x.fl ∧ OwnM w Wb.heap.size s D) : Ra x d D om orr ox pr pa ok Wb w (fun j => if j = 4 then true else f j) v0 v1 v2 v3 u v5 v6 v7 v8 v9 v10 v13 :=
  ⟨J.bel, (J.h0), (J.h1), (J.h2), (J.h3), (fun _ => hu), (fun h => no (n5.symm.trans h)), (fun h => no (n6.symm.trans h)), (J.h7), (J.h8), (J.h9), (J.h10), (fun h => no (n11.symm.trans h)), (J.h12), (J.h13)⟩
theorem Ra.p5 (J : Ra x d D om orr ox pr pa ok Wb w f v0 v1 v2 v3 v4 v5 v6 v7 v8 v9 v10 v13)  {u : Value} (hu : u = v4) : Ra x d D om orr ox pr pa ok Wb w (fun j => if j = 5 then true else f j) v0 v1 v2 v3 v4 u v6 v7 v8 v9 v10 v13 :=
  ⟨J.bel, (J.h0), (J.h1), (J.h2), (J.h3), (J.h4), (fun _ => hu), (J.h6), (J.h7), (J.h8), (J.h9), (J.h10), (J.h11), (J.h12), (J.h13)⟩
theorem Ra.p6 (J : Ra x d D om orr ox pr pa ok Wb w f v0 v1 v2 v3 v4 v5 v6 v7 v8 v9 v10 v13)  {u : Value} (hu : ∃ s : Mv, v4 = .tuple #[.agg s.cs, .agg #[.int .i64 pr, .int .i64 pa], .bool ok] ∧ u = .agg s.cs) : Ra x d D om orr ox pr pa ok Wb w (fun j => if j = 6 then true else f j) v0 v1 v2 v3 v4 v5 u v7 v8 v9 v10 v13 :=
  ⟨J.bel, (J.h0), (J.h1), (J.h2), (J.h3), (J.h4), (J.h5), (fun _ => hu), (J.h7), (J.h8), (J.h9), (J.h10), (J.h11), (J.h12), (J.h13)⟩
theorem Ra.p7 (J : Ra x d D om orr ox pr pa ok Wb w f v0 v1 v2 v3 v4 v5 v6 v7 v8 v9 v10 v13)  {u : Value} (hu : u = .agg #[.int .i64 pr, .int .i64 pa]) : Ra x d D om orr ox pr pa ok Wb w (fun j => if j = 7 then true else f j) v0 v1 v2 v3 v4 v5 v6 u v8 v9 v10 v13 :=
  ⟨J.bel, (J.h0), (J.h1), (J.h2), (J.h3), (J.h4), (J.h5), (J.h6), (fun _ => hu), (J.h8), (J.h9), (J.h10), (J.h11), (J.h12), (J.h13)⟩
theorem Ra.p8 (J : Ra x d D om orr ox pr pa ok Wb w f v0 v1 v2 v3 v4 v5 v6 v7 v8 v9 v10 v13)  {u : Value} (hu : u = .bool ok) : Ra x d D om orr ox pr pa ok Wb w (fun j => if j = 8 then true else f j) v0 v1 v2 v3 v4 v5 v6 v7 u v9 v10 v13 :=
  ⟨J.bel, (J.h0), (J.h1), (J.h2), (J.h3), (J.h4), (J.h5), (J.h6), (J.h7), (fun _ => hu), (J.h9), (J.h10), (J.h11), (J.h12), (J.h13)⟩
theorem Ra.p9 (J : Ra x d D om orr ox pr pa ok Wb w f v0 v1 v2 v3 v4 v5 v6 v7 v8 v9 v10 v13) (n11 : f 11 = false) (ns : f 11 = false) {u : Value} (hu : ∃ g : Nat, u = .pointer (some ⟨g, 0, none⟩) ∧ Wb.heap.size ≤ g ∧ (f 11 = false → w.heap[g]? = some (.cells zMv.cs 28 (0, 0)))) : Ra x d D om orr ox pr pa ok Wb w (fun j => if j = 9 then true else f j) v0 v1 v2 v3 v4 v5 v6 v7 v8 u v10 v13 :=
  ⟨J.bel, (J.h0), (J.h1), (J.h2), (J.h3), (J.h4), (J.h5), (J.h6), (J.h7), (J.h8), (fun _ => hu), (J.h10), (fun h => no (n11.symm.trans h)), (J.h12), (J.h13)⟩
theorem Ra.a9 (J : Ra x d D om orr ox pr pa ok Wb w f v0 v1 v2 v3 v4 v5 v6 v7 v8 v9 v10 v13) (n11 : f 11 = false) (ns : f 11 = false) : Ra x d D om orr ox pr pa ok Wb (w.alloc (.cells zMv.cs 28)) (fun j => if j = 9 then true else f j) v0 v1 v2 v3 v4 v5 v6 v7 v8 (.pointer (some ⟨w.heap.size, 0, none⟩)) v10 v13 :=
  (J.lat (below_new w _)).p9 n11 ns ⟨_, rfl, J.bel.size, fun _ => heap_alloc_last w _⟩
theorem Ra.p10 (J : Ra x d D om orr ox pr pa ok Wb w f v0 v1 v2 v3 v4 v5 v6 v7 v8 v9 v10 v13) (n12 : f 12 = false) (ns : f 12 = false) {u : Value} (hu : ∃ g : Nat, u = .pointer (some ⟨g, 0, none⟩) ∧ Wb.heap.size ≤ g ∧ (f 12 = false → w.heap[g]? = some (.cells #[.int .i64 0, .int .i64 0] 44 (0, 0)))) : Ra x d D om orr ox pr pa ok Wb w (fun j => if j = 10 then true else f j) v0 v1 v2 v3 v4 v5 v6 v7 v8 v9 u v13 :=
  ⟨J.bel, (J.h0), (J.h1), (J.h2), (J.h3), (J.h4), (J.h5), (J.h6), (J.h7), (J.h8), (J.h9), (fun _ => hu), (J.h11), (fun h => no (n12.symm.trans h)), (J.h13)⟩
theorem Ra.a10 (J : Ra x d D om orr ox pr pa ok Wb w f v0 v1 v2 v3 v4 v5 v6 v7 v8 v9 v10 v13) (n12 : f 12 = false) (ns : f 12 = false) : Ra x d D om orr ox pr pa ok Wb (w.alloc (.cells #[.int .i64 0, .int .i64 0] 44)) (fun j => if j = 10 then true else f j) v0 v1 v2 v3 v4 v5 v6 v7 v8 v9 (.pointer (some ⟨w.heap.size, 0, none⟩)) v13 :=
  (J.lat (below_new w _)).p10 n12 ns ⟨_, rfl, J.bel.size, fun _ => heap_alloc_last w _⟩
theorem Ra.p13 (J : Ra x d D om orr ox pr pa ok Wb w f v0 v1 v2 v3 v4 v5 v6 v7 v8 v9 v10 v13)  {u : Value} (hu : u = .bool ok) : Ra x d D om orr ox pr pa ok Wb w (fun j => if j = 13 then true else f j) v0 v1 v2 v3 v4 v5 v6 v7 v8 v9 v10 u :=
  ⟨J.bel, (J.h0), (J.h1), (J.h2), (J.h3), (J.h4), (J.h5), (J.h6), (J.h7), (J.h8), (J.h9), (J.h10), (J.h11), (J.h12), (fun _ => hu)⟩
theorem Ra.s11 (J : Ra x d D om orr ox pr pa ok Wb w f v0 v1 v2 v3 v4 v5 v6 v7 v8 v9 v10 v13) {g : Nat} (ev : v9 = .pointer (some ⟨g, 0, none⟩)) (lo : Wb.heap.size ≤ g) (hg : w.heap[g]? = some (.cells zMv.cs 28 (0, 0))) {s : Mv} (es : v4 = .tuple #[.agg s.cs, .agg #[.int .i64 pr, .int .i64 pa], .bool ok]) : Ra x d D om orr ox pr pa ok Wb (w.setRow g s.cs) (fun j => if j = 11 then true else f j) v0 v1 v2 v3 v4 v5 v6 v7 v8 v9 v10 v13 :=
  ⟨below_setRow J.bel lo _, (J.h0),
    (fun h => by obtain ⟨y, e, k, o⟩ := (J.h1 h); exact ⟨y, e, k, o.lay hg (by decide) _⟩),
    (J.h2),
    (J.h3),
    (fun h => by obtain ⟨y, e, k, o⟩ := (J.h4 h); exact ⟨y, e, k, o.lay hg (by decide) _⟩),
    (J.h5),
    (J.h6),
    (J.h7),
    (J.h8),
    (fun h => ⟨g, ev, lo, fun k => no k.symm⟩),
    (fun h => by obtain ⟨g2, e, l, r⟩ := J.h10 h; exact ⟨g2, e, l, fun k => row_lay (r k) hg (by decide)⟩),
    (fun _ => ⟨g, ev, lo, s, es, setRow_heap w g _ _ 28 _ hg⟩),
    (fun h => by obtain ⟨g2, e, l, r⟩ := J.h12 h; exact ⟨g2, e, l, row_lay r hg (by decide)⟩),
    (J.h13)⟩
theorem Ra.s12 (J : Ra x d D om orr ox pr pa ok Wb w f v0 v1 v2 v3 v4 v5 v6 v7 v8 v9 v10 v13) {g : Nat} (ev : v10 = .pointer (some ⟨g, 0, none⟩)) (lo : Wb.heap.size ≤ g) (hg : w.heap[g]? = some (.cells #[.int .i64 0, .int .i64 0] 44 (0, 0))) : Ra x d D om orr ox pr pa ok Wb (w.setRow g #[.int .i64 pr, .int .i64 pa]) (fun j => if j = 12 then true else f j) v0 v1 v2 v3 v4 v5 v6 v7 v8 v9 v10 v13 :=
  ⟨below_setRow J.bel lo _, (J.h0),
    (fun h => by obtain ⟨y, e, k, o⟩ := (J.h1 h); exact ⟨y, e, k, o.lay hg (by decide) _⟩),
    (J.h2),
    (J.h3),
    (fun h => by obtain ⟨y, e, k, o⟩ := (J.h4 h); exact ⟨y, e, k, o.lay hg (by decide) _⟩),
    (J.h5),
    (J.h6),
    (J.h7),
    (J.h8),
    (fun h => by obtain ⟨g2, e, l, r⟩ := J.h9 h; exact ⟨g2, e, l, fun k => row_lay (r k) hg (by decide)⟩),
    (fun h => ⟨g, ev, lo, fun k => no k.symm⟩),
    (fun h => by obtain ⟨g2, e, l, s2, e2, r⟩ := J.h11 h; exact ⟨g2, e, l, s2, e2, row_lay r hg (by decide)⟩),
    (fun _ => ⟨g, ev, lo, setRow_heap w g _ _ 44 _ hg⟩),
    (J.h13)⟩
end
/-- What holds of a region, whatever part of it has come up. -/
structure Rb (x : Mv) (d D : Md) (om orr ox pr pa : Int) (ok : Bool) (Wb w : World) (f : Nat → Bool) (v0 v1 v2 v3 v4 v5 v6 v7 v8 v9 v12 : Value) : Prop where
  bel : Below Wb.heap.size Wb w
  h0 : f 0 = true → v0 = .agg x.cs
  h1 : f 1 = true → v1 = .agg #[.int .i64 om, .int .i64 orr, .int .i64 ox]
  h2 : f 2 = true → v2 = .agg #[.int .i64 om, .int .i64 orr, .int .i64 ox]
  h3 : f 3 = true → ∃ s : Mv, v3 = .tuple #[.agg s.cs, .agg #[.int .i64 pr, .int .i64 pa], .bool ok] ∧ s.fl = x.fl ∧ OwnM w Wb.heap.size s D
  h4 : f 4 = true → v4 = v3
  h5 : f 5 = true → ∃ s : Mv, v3 = .tuple #[.agg s.cs, .agg #[.int .i64 pr, .int .i64 pa], .bool ok] ∧ v5 = .agg s.cs
  h6 : f 6 = true → v6 = .agg #[.int .i64 pr, .int .i64 pa]
  h7 : f 7 = true → v7 = .bool ok
  h8 : f 8 = true → ∃ g : Nat, v8 = .pointer (some ⟨g, 0, none⟩) ∧ Wb.heap.size ≤ g ∧ (f 10 = false → w.heap[g]? = some (.cells zMv.cs 28 (0, 0)))
  h9 : f 9 = true → ∃ g : Nat, v9 = .pointer (some ⟨g, 0, none⟩) ∧ Wb.heap.size ≤ g ∧ (f 11 = false → w.heap[g]? = some (.cells #[.int .i64 0, .int .i64 0] 44 (0, 0)))
  h10 : f 10 = true → ∃ g : Nat, v8 = .pointer (some ⟨g, 0, none⟩) ∧ Wb.heap.size ≤ g ∧ ∃ s : Mv, v3 = .tuple #[.agg s.cs, .agg #[.int .i64 pr, .int .i64 pa], .bool ok] ∧ w.heap[g]? = some (.cells s.cs 28 (0, 0))
  h11 : f 11 = true → ∃ g : Nat, v9 = .pointer (some ⟨g, 0, none⟩) ∧ Wb.heap.size ≤ g ∧ w.heap[g]? = some (.cells #[.int .i64 pr, .int .i64 pa] 44 (0, 0))
  h12 : f 12 = true → v12 = .bool ok
section
variable {x : Mv} {d D : Md} {om orr ox pr pa : Int} {ok : Bool} {Wb w w2 : World} {f : Nat → Bool} {v0 v1 v2 v3 v4 v5 v6 v7 v8 v9 v12 : Value}
theorem Rb.mk0 (h : Below Wb.heap.size Wb w) : Rb x d D om orr ox pr pa ok Wb w (fun _ => false) v0 v1 v2 v3 v4 v5 v6 v7 v8 v9 v12 := ⟨h, fun h => no h, fun h => no h, fun h => no h, fun h => no h, fun h => no h, fun h => no h, fun h => no h, fun h => no h, fun h => no h, fun h => no h, fun h => no h, fun h => no h, fun h => no h⟩
theorem Rb.lat (J : Rb x d D om orr ox pr pa ok Wb w f v0 v1 v2 v3 v4 v5 v6 v7 v8 v9 v12) (hb : Below w.heap.size w w2) : Rb x d D om orr ox pr pa ok Wb w2 f v0 v1 v2 v3 v4 v5 v6 v7 v8 v9 v12 :=
  ⟨J.bel.trans (hb.mono J.bel.size), (J.h0),
    (J.h1),
    (J.h2),
    (fun h => by obtain ⟨y, e, k, o⟩ := (J.h3 h); exact ⟨y, e, k, o.later hb⟩),
    (J.h4),
    (J.h5),
    (J.h6),
    (J.h7),
    (fun h => by obtain ⟨g, e, l, r⟩ := J.h8 h; exact ⟨g, e, l, fun k => row_lat (r k) hb⟩),
    (fun h => by obtain ⟨g, e, l, r⟩ := J.h9 h; exact ⟨g, e, l, fun k => row_lat (r k) hb⟩),
    (fun h => by obtain ⟨g, e, l, s, e2, r⟩ := J.h10 h; exact ⟨g, e, l, s, e2, row_lat r hb⟩),
    (fun h => by obtain ⟨g, e, l, r⟩ := J.h11 h; exact ⟨g, e, l, row_lat r hb⟩),
    (J.h12)⟩
theorem Rb.p0 (J : Rb x d D om orr ox pr pa ok Wb w f v0 v1 v2 v3 v4 v5 v6 v7 v8 v9 v12)  {u : Value} (hu : u = .agg x.cs) : Rb x d D om orr ox pr pa ok Wb w (fun j => if j = 0 then true else f j) u v1 v2 v3 v4 v5 v6 v7 v8 v9 v12 :=
  ⟨J.bel, (fun _ => hu), (J.h1), (J.h2), (J.h3), (J.h4), (J.h5), (J.h6), (J.h7), (J.h8), (J.h9), (J.h10), (J.h11), (J.h12)⟩
theorem Rb.p1 (J : Rb x d D om orr ox pr pa ok Wb w f v0 v1 v2 v3 v4 v5 v6 v7 v8 v9 v12)  {u : Value} (hu : u = .agg #[.int .i64 om, .int .i64 orr, .int .i64 ox]) : Rb x d D om orr ox pr pa ok Wb w (fun j => if j = 1 then true else f j) v0 u v2 v3 v4 v5 v6 v7 v8 v9 v12 :=
  ⟨J.bel, (J.h0), (fun _ => hu), (J.h2), (J.h3), (J.h4), (J.h5), (J.h6), (J.h7), (J.h8), (J.h9), (J.h10), (J.h11), (J.h12)⟩
theorem Rb.p2 (J : Rb x d D om orr ox pr pa ok Wb w f v0 v1 v2 v3 v4 v5 v6 v7 v8 v9 v12)  {u : Value} (hu : u = .agg #[.int .i64 om, .int .i64 orr, .int .i64 ox]) : Rb x d D om orr ox pr pa ok Wb w (fun j => if j = 2 then true else f j) v0 v1 u v3 v4 v5 v6 v7 v8 v9 v12 :=
  ⟨J.bel, (J.h0), (J.h1), (fun _ => hu), (J.h3), (J.h4), (J.h5), (J.h6), (J.h7), (J.h8), (J.h9), (J.h10), (J.h11), (J.h12)⟩
theorem Rb.p3 (J : Rb x d D om orr ox pr pa ok Wb w f v0 v1 v2 v3 v4 v5 v6 v7 v8 v9 v12) (n4 : f 4 = false) (n5 : f 5 = false) (n10 : f 10 = false) {u : Value} (hu : ∃ s : Mv, u = .tuple #[.agg s.cs, .agg #[.int .i64 pr, .int .i64 pa], .bool ok] ∧ s.fl = x.fl ∧ OwnM w Wb.heap.size s D) : Rb x d D om orr ox pr pa ok Wb w (fun j => if j = 3 then true else f j) v0 v1 v2 u v4 v5 v6 v7 v8 v9 v12 :=
  ⟨J.bel, (J.h0), (J.h1), (J.h2), (fun _ => hu), (fun h => no (n4.symm.trans h)), (fun h => no (n5.symm.trans h)), (J.h6), (J.h7), (J.h8), (J.h9), (fun h => no (n10.symm.trans h)), (J.h11), (J.h12)⟩
theorem Rb.p4 (J : Rb x d D om orr ox pr pa ok Wb w f v0 v1 v2 v3 v4 v5 v6 v7 v8 v9 v12)  {u : Value} (hu : u = v3) : Rb x d D om orr ox pr pa ok Wb w (fun j => if j = 4 then true else f j) v0 v1 v2 v3 u v5 v6 v7 v8 v9 v12 :=
  ⟨J.bel, (J.h0), (J.h1), (J.h2), (J.h3), (fun _ => hu), (J.h5), (J.h6), (J.h7), (J.h8), (J.h9), (J.h10), (J.h11), (J.h12)⟩
theorem Rb.p5 (J : Rb x d D om orr ox pr pa ok Wb w f v0 v1 v2 v3 v4 v5 v6 v7 v8 v9 v12)  {u : Value} (hu : ∃ s : Mv, v3 = .tuple #[.agg s.cs, .agg #[.int .i64 pr, .int .i64 pa], .bool ok] ∧ u = .agg s.cs) : Rb x d D om orr ox pr pa ok Wb w (fun j => if j = 5 then true else f j) v0 v1 v2 v3 v4 u v6 v7 v8 v9 v12 :=
  ⟨J.bel, (J.h0), (J.h1), (J.h2), (J.h3), (J.h4), (fun _ => hu), (J.h6), (J.h7), (J.h8), (J.h9), (J.h10), (J.h11), (J.h12)⟩
theorem Rb.p6 (J : Rb x d D om orr ox pr pa ok Wb w f v0 v1 v2 v3 v4 v5 v6 v7 v8 v9 v12)  {u : Value} (hu : u = .agg #[.int .i64 pr, .int .i64 pa]) : Rb x d D om orr ox pr pa ok Wb w (fun j => if j = 6 then true else f j) v0 v1 v2 v3 v4 v5 u v7 v8 v9 v12 :=
  ⟨J.bel, (J.h0), (J.h1), (J.h2), (J.h3), (J.h4), (J.h5), (fun _ => hu), (J.h7), (J.h8), (J.h9), (J.h10), (J.h11), (J.h12)⟩
theorem Rb.p7 (J : Rb x d D om orr ox pr pa ok Wb w f v0 v1 v2 v3 v4 v5 v6 v7 v8 v9 v12)  {u : Value} (hu : u = .bool ok) : Rb x d D om orr ox pr pa ok Wb w (fun j => if j = 7 then true else f j) v0 v1 v2 v3 v4 v5 v6 u v8 v9 v12 :=
  ⟨J.bel, (J.h0), (J.h1), (J.h2), (J.h3), (J.h4), (J.h5), (J.h6), (fun _ => hu), (J.h8), (J.h9), (J.h10), (J.h11), (J.h12)⟩
theorem Rb.p8 (J : Rb x d D om orr ox pr pa ok Wb w f v0 v1 v2 v3 v4 v5 v6 v7 v8 v9 v12) (n10 : f 10 = false) (ns : f 10 = false) {u : Value} (hu : ∃ g : Nat, u = .pointer (some ⟨g, 0, none⟩) ∧ Wb.heap.size ≤ g ∧ (f 10 = false → w.heap[g]? = some (.cells zMv.cs 28 (0, 0)))) : Rb x d D om orr ox pr pa ok Wb w (fun j => if j = 8 then true else f j) v0 v1 v2 v3 v4 v5 v6 v7 u v9 v12 :=
  ⟨J.bel, (J.h0), (J.h1), (J.h2), (J.h3), (J.h4), (J.h5), (J.h6), (J.h7), (fun _ => hu), (J.h9), (fun h => no (n10.symm.trans h)), (J.h11), (J.h12)⟩
theorem Rb.a8 (J : Rb x d D om orr ox pr pa ok Wb w f v0 v1 v2 v3 v4 v5 v6 v7 v8 v9 v12) (n10 : f 10 = false) (ns : f 10 = false) : Rb x d D om orr ox pr pa ok Wb (w.alloc (.cells zMv.cs 28)) (fun j => if j = 8 then true else f j) v0 v1 v2 v3 v4 v5 v6 v7 (.pointer (some ⟨w.heap.size, 0, none⟩)) v9 v12 :=
  (J.lat (below_new w _)).p8 n10 ns ⟨_, rfl, J.bel.size, fun _ => heap_alloc_last w _⟩
theorem Rb.p9 (J : Rb x d D om orr ox pr pa ok Wb w f v0 v1 v2 v3 v4 v5 v6 v7 v8 v9 v12) (n11 : f 11 = false) (ns : f 11 = false) {u : Value} (hu : ∃ g : Nat, u = .pointer (some ⟨g, 0, none⟩) ∧ Wb.heap.size ≤ g ∧ (f 11 = false → w.heap[g]? = some (.cells #[.int .i64 0, .int .i64 0] 44 (0, 0)))) : Rb x d D om orr ox pr pa ok Wb w (fun j => if j = 9 then true else f j) v0 v1 v2 v3 v4 v5 v6 v7 v8 u v12 :=
  ⟨J.bel, (J.h0), (J.h1), (J.h2), (J.h3), (J.h4), (J.h5), (J.h6), (J.h7), (J.h8), (fun _ => hu), (J.h10), (fun h => no (n11.symm.trans h)), (J.h12)⟩
theorem Rb.a9 (J : Rb x d D om orr ox pr pa ok Wb w f v0 v1 v2 v3 v4 v5 v6 v7 v8 v9 v12) (n11 : f 11 = false) (ns : f 11 = false) : Rb x d D om orr ox pr pa ok Wb (w.alloc (.cells #[.int .i64 0, .int .i64 0] 44)) (fun j => if j = 9 then true else f j) v0 v1 v2 v3 v4 v5 v6 v7 v8 (.pointer (some ⟨w.heap.size, 0, none⟩)) v12 :=
  (J.lat (below_new w _)).p9 n11 ns ⟨_, rfl, J.bel.size, fun _ => heap_alloc_last w _⟩
theorem Rb.p12 (J : Rb x d D om orr ox pr pa ok Wb w f v0 v1 v2 v3 v4 v5 v6 v7 v8 v9 v12)  {u : Value} (hu : u = .bool ok) : Rb x d D om orr ox pr pa ok Wb w (fun j => if j = 12 then true else f j) v0 v1 v2 v3 v4 v5 v6 v7 v8 v9 u :=
  ⟨J.bel, (J.h0), (J.h1), (J.h2), (J.h3), (J.h4), (J.h5), (J.h6), (J.h7), (J.h8), (J.h9), (J.h10), (J.h11), (fun _ => hu)⟩
theorem Rb.s10 (J : Rb x d D om orr ox pr pa ok Wb w f v0 v1 v2 v3 v4 v5 v6 v7 v8 v9 v12) {g : Nat} (ev : v8 = .pointer (some ⟨g, 0, none⟩)) (lo : Wb.heap.size ≤ g) (hg : w.heap[g]? = some (.cells zMv.cs 28 (0, 0))) {s : Mv} (es : v3 = .tuple #[.agg s.cs, .agg #[.int .i64 pr, .int .i64 pa], .bool ok]) : Rb x d D om orr ox pr pa ok Wb (w.setRow g s.cs) (fun j => if j = 10 then true else f j) v0 v1 v2 v3 v4 v5 v6 v7 v8 v9 v12 :=
  ⟨below_setRow J.bel lo _, (J.h0),
    (J.h1),
    (J.h2),
    (fun h => by obtain ⟨y, e, k, o⟩ := (J.h3 h); exact ⟨y, e, k, o.lay hg (by decide) _⟩),
    (J.h4),
    (J.h5),
    (J.h6),
    (J.h7),
    (fun h => ⟨g, ev, lo, fun k => no k.symm⟩),
    (fun h => by obtain ⟨g2, e, l, r⟩ := J.h9 h; exact ⟨g2, e, l, fun k => row_lay (r k) hg (by decide)⟩),
    (fun _ => ⟨g, ev, lo, s, es, setRow_heap w g _ _ 28 _ hg⟩),
    (fun h => by obtain ⟨g2, e, l, r⟩ := J.h11 h; exact ⟨g2, e, l, row_lay r hg (by decide)⟩),
    (J.h12)⟩
theorem Rb.s11 (J : Rb x d D om orr ox pr pa ok Wb w f v0 v1 v2 v3 v4 v5 v6 v7 v8 v9 v12) {g : Nat} (ev : v9 = .pointer (some ⟨g, 0, none⟩)) (lo : Wb.heap.size ≤ g) (hg : w.heap[g]? = some (.cells #[.int .i64 0, .int .i64 0] 44 (0, 0))) : Rb x d D om orr ox pr pa ok Wb (w.setRow g #[.int .i64 pr, .int .i64 pa]) (fun j => if j = 11 then true else f j) v0 v1 v2 v3 v4 v5 v6 v7 v8 v9 v12 :=
  ⟨below_setRow J.bel lo _, (J.h0),
    (J.h1),
    (J.h2),
    (fun h => by obtain ⟨y, e, k, o⟩ := (J.h3 h); exact ⟨y, e, k, o.lay hg (by decide) _⟩),
    (J.h4),
    (J.h5),
    (J.h6),
    (J.h7),
    (fun h => by obtain ⟨g2, e, l, r⟩ := J.h8 h; exact ⟨g2, e, l, fun k => row_lay (r k) hg (by decide)⟩),
    (fun h => ⟨g, ev, lo, fun k => no k.symm⟩),
    (fun h => by obtain ⟨g2, e, l, s2, e2, r⟩ := J.h10 h; exact ⟨g2, e, l, s2, e2, row_lay r hg (by decide)⟩),
    (fun _ => ⟨g, ev, lo, setRow_heap w g _ _ 44 _ hg⟩),
    (J.h12)⟩
end
end Go.Proofs.Ytfkmibgamkignaa
