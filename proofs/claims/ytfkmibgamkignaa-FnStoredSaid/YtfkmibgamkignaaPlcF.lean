/- Where an operand is: the model's answer; over this seat's translation; conditions stand as hypotheses of each. -/
import Derived.Test.YtfkmibgamkignaaPlcE
import Derived.Test.YtfkmibgamkignaaDrmB
namespace Go.Proofs.Ytfkmibgamkignaa
open Go.ChangeShapes Go.WideShapes Go.ChangeAt Go.RowKit
set_option linter.unusedVariables false
set_option maxRecDepth 8000
set_option linter.unusedSimpArgs false

theorem results_rr1 {P : Program} {fn : Func} {p p2 u : Tmp} {ty ty2 : TypeId} (h : fn.results = #[.cell p ty, .cell p2 ty2, .tmp u]) (tmps : Array Value) (w : World) (g : Nat) (t : TypeId) (cs : Array Value) (fr : Nat × Nat) (d : TypeDesc)
    (hp : tmps.getD p undef = .pointer (some ⟨g, 0, none⟩)) (hg : w.heap[g]? = some (.cells cs t fr))
    (hu : P.underlying ty = some d) (hd : (match d with | .struct _ | .array _ _ => true | _ => false) = true) (hi : (P.info? ty).map (·.size) = some cs.size)
    (g2 : Nat) (t2 : TypeId) (cs2 : Array Value) (fr2 : Nat × Nat) (d2 : TypeDesc) (hp2 : tmps.getD p2 undef = .pointer (some ⟨g2, 0, none⟩)) (hg2 : w.heap[g2]? = some (.cells cs2 t2 fr2))
    (hu2 : P.underlying ty2 = some d2) (hd2 : (match d2 with | .struct _ | .array _ _ => true | _ => false) = true) (hi2 : (P.info? ty2).map (·.size) = some cs2.size) :
    (results fn tmps).run P w = .ok (.tuple #[.agg cs, .agg cs2, tmps.getD u undef]) w := by
  have hp' : tmps[p]?.getD undef = .pointer (some ⟨g, 0, none⟩) := by simpa using hp
  have hp2' : tmps[p2]?.getD undef = .pointer (some ⟨g2, 0, none⟩) := by simpa using hp2
  simp [results, h, hp', hp2', asAddr, run_loadVar_row w g t ty cs fr d hg hu hd hi, run_loadVar_row w g2 t2 ty2 cs2 fr2 d2 hg2 hu2 hd2 hi2]

theorem ok_r8 {d : Md} {st : Int} (h : d.ok st = true) : d.R8 ∧ ∀ a, 0 ≤ d.get a ∧ d.get a ≤ 65535 := by
  unfold Md.ok at h
  simp only [Bool.and_eq_true, beq_iff_eq, decide_eq_true_eq] at h
  obtain ⟨h1, h2, h3, h4, _⟩ := h
  have hm := Wd.of h2
  have hr := Wd.of h4
  refine ⟨⟨by omega, fun j hj => hr _ (nAt_mem (by omega))⟩, fun a => ?_⟩
  unfold Md.get
  split
  · rename_i hh
    obtain ⟨ha, hl⟩ := has_t hh
    obtain ⟨a0, _, _⟩ := adB_t ha
    exact hm _ (nAt_mem (by omega))
  · omega

/-- The boxes of a machine, an operand, and the two answers' places. -/
structure Bq (w wr : World) (x : Mv) (o : Od) : Prop where
  bx : wr.heap[w.heap.size]? = some (.cells x.cs 28 (0, 0))
  bo : wr.heap[w.heap.size + 1]? = some (.cells #[.int .i64 o.m, .int .i64 o.r, .int .i64 o.x] 40 (0, 0))
  rm : wr.heap[w.heap.size + 1 + 1]? = some (.cells zMv.cs 28 (0, 0))
  rp : wr.heap[w.heap.size + 1 + 1 + 1]? = some (.cells #[.int .i64 0, .int .i64 0] 44 (0, 0))
  bel : Below w.heap.size w wr
  sz : w.heap.size + 4 ≤ wr.heap.size
theorem bq_new (w : World) (x : Mv) (o : Od) : Bq w ((((w.alloc (.cells x.cs 28)).alloc (.cells #[.int .i64 o.m, .int .i64 o.r, .int .i64 o.x] 40)).alloc (.cells zMv.cs 28)).alloc (.cells #[.int .i64 0, .int .i64 0] 44)) x o :=
  ⟨row_lat (row_lat (row_lat (heap_alloc_last w _) (below_new _ _)) (below_new _ _)) (below_new _ _),
   row_lat (row_lat (by have := heap_alloc_last (w.alloc (.cells x.cs 28)) (.cells #[.int .i64 o.m, .int .i64 o.r, .int .i64 o.x] 40); simpa using this) (below_new _ _)) (below_new _ _),
   row_lat (by have := heap_alloc_last ((w.alloc (.cells x.cs 28)).alloc (.cells #[.int .i64 o.m, .int .i64 o.r, .int .i64 o.x] 40)) (.cells zMv.cs 28); simpa using this) (below_new _ _),
   by have := heap_alloc_last (((w.alloc (.cells x.cs 28)).alloc (.cells #[.int .i64 o.m, .int .i64 o.r, .int .i64 o.x] 40)).alloc (.cells zMv.cs 28)) (.cells #[.int .i64 0, .int .i64 0] 44); simpa using this,
   ((((Below.refl _ _).alloc (Nat.le_refl _) _).alloc (by simp) _).alloc (by simp; omega) _).alloc (by simp; omega) _, by simp⟩
section
variable {w wr w' : World} {x : Mv} {o : Od}
theorem Bq.later (h : Bq w wr x o) (hb : Below wr.heap.size wr w') : Bq w w' x o :=
  ⟨row_lat h.bx hb, row_lat h.bo hb, row_lat h.rm hb, row_lat h.rp hb, h.bel.trans (hb.mono (by have := h.sz; omega)), Nat.le_trans h.sz hb.size⟩
theorem Bq.past (h : Bq w wr x o) {gr : Nat} (hg : wr.grownBy w' (some gr)) (ho : w.heap.size + 4 ≤ gr) : Bq w w' x o :=
  ⟨row_past h.bx hg (by omega), row_past h.bo hg (by omega), row_past h.rm hg (by omega), row_past h.rp hg (by omega), h.bel.grown hg h.bel.size (fun k e => by cases e; omega), Nat.le_trans h.sz hg.size⟩
theorem Bq.o3 (h : Bq w wr x o) : wr.cell? ⟨w.heap.size + 1, 0, none⟩ = some (.int .i64 o.m) ∧ wr.cell? ⟨w.heap.size + 1, 1, none⟩ = some (.int .i64 o.r) ∧ wr.cell? ⟨w.heap.size + 1, 2, none⟩ = some (.int .i64 o.x) :=
  ⟨(cell_of_row wr _ 0 _ 40 _ h.bo).trans rfl, (cell_of_row wr _ 1 _ 40 _ h.bo).trans rfl, (cell_of_row wr _ 2 _ 40 _ h.bo).trans rfl⟩
/-- The first answer laid: the second's place is as it was. -/
theorem Bq.rp2 (h : Bq w wr x o) (cs : Array Value) : (wr.setRow (w.heap.size + 1 + 1) cs).heap[w.heap.size + 1 + 1 + 1]? = some (.cells #[.int .i64 0, .int .i64 0] 44 (0, 0)) := (setRow_other _ _ _ _ (by omega)).trans h.rp
/-- Both answers laid. -/
theorem Bq.done (h : Bq w wr x o) (cs ps : Array Value) :
    ((wr.setRow (w.heap.size + 1 + 1) cs).setRow (w.heap.size + 1 + 1 + 1) ps).heap[w.heap.size + 1 + 1]? = some (.cells cs 28 (0, 0)) ∧ ((wr.setRow (w.heap.size + 1 + 1) cs).setRow (w.heap.size + 1 + 1 + 1) ps).heap[w.heap.size + 1 + 1 + 1]? = some (.cells ps 44 (0, 0)) ∧ Below w.heap.size w ((wr.setRow (w.heap.size + 1 + 1) cs).setRow (w.heap.size + 1 + 1 + 1) ps) :=
  ⟨(setRow_other _ _ _ _ (by omega)).trans (setRow_heap _ _ _ _ 28 _ h.rm), setRow_heap _ _ _ _ 44 _ (h.rp2 cs), below_setRow (below_setRow h.bel (by omega) _) (by omega) _⟩
end

set_option maxHeartbeats 4000000 in
theorem placeS_no (x : Mv) (d : Md) (o : Od) (w : World) (hs : x.small) (hz : x.nz) (hr : RdM w x d) (hno : (d.ok x.st && o.ok) = false) :
    Calls Try.prog 24 #[.agg x.cs, o.v] w fun e w' => ∃ y : Mv, e = .returned (.tuple #[.agg y.cs, .agg #[.int .i64 0, .int .i64 0], .bool false]) ∧ y.fl = x.fl ∧ OwnM w' (w.heap.size + 4) y d ∧ Below w.heap.size w w' := by
  have B := hide (bq_new w x o)
  have X := hide (hr.later (unhide B).bel)
  have M := hide (copyS_any x d _ hs hz (unhide X))
  have S := hide hs
  unfold Od.v
  have OO := hide (fun w => opdOk_any o w)
  obtain ⟨q1, hq1⟩ : ∃ q, d.ok x.st = q := ⟨_, rfl⟩
  obtain ⟨q2, hq2⟩ : ∃ q, o.ok = q := ⟨_, rfl⟩
  rw [hq1, hq2] at hno
  rw [hq2] at OO
  have HQ1 := hide hq1
  have HNO := hide hno
  unfold Od.v at OO
  clear hr hs hz hq1 hq2 hno
  go_enter Try.func24, Try.ntmps24
  go_wp2_with (refine wpList_load_row rfl 28 _ rfl w.heap.size rfl 28 x.cs (0, 0) _ (unhide B).bx Try.underlying28 rfl (by kernel_rfl) ?_)
  refine (unhide M).mono ?_
  rintro e w1 ⟨y, rfl, fy, oy, hb⟩
  have FY := hide fy
  have O1 := hide ((oy.base (C := w.heap.size + 4) (by have := (unhide B).sz; omega)).later (below_new w1 (.cells y.cs 28)))
  have B1 := hide (((unhide B).later hb).later (below_new w1 (.cells y.cs 28)))
  have G1 := hide (heap_alloc_last w1 (.cells y.cs 28))
  have K1 := hide (okS_any x d (w1.alloc (.cells y.cs 28)) (unhide S) (((unhide X).later hb).later (below_new w1 (.cells y.cs 28))))
  rw [unhide HQ1] at K1
  clear fy oy hb M B X
  go_wp2_with (first | (refine wpList_store_new rfl 28 _ _ rfl y.cs rfl rfl _ (by kernel_rfl) rfl (Mv.cs_one _) ?_) | (refine wpList_load_row rfl 28 _ rfl w.heap.size rfl 28 x.cs (0, 0) _ (unhide B1).bx Try.underlying28 rfl (by kernel_rfl) ?_))
  refine (unhide K1).mono ?_
  rintro e w2 ⟨rfl, hb⟩
  have B2 := hide ((unhide B1).later hb)
  have G2 := hide (row_lat (unhide G1) hb)
  have O2 := hide ((unhide O1).later hb)
  clear hb B1 G1 O1 K1
  cases q1
  · go_wp2_with (first | (refine wpList_load_row rfl 28 _ rfl w1.heap.size rfl 28 y.cs (0, 0) _ (unhide G2) Try.underlying28 rfl (by kernel_rfl) ?_) | (refine wpList_store_row rfl 28 _ _ rfl (w.heap.size + 1 + 1) y.cs rfl rfl 28 zMv.cs (unhide B2).rm (by kernel_rfl) rfl (Mv.cs_one _) ?_) | (refine wpList_store_row rfl 44 _ _ rfl (w.heap.size + 1 + 1 + 1) #[.int .i64 0, .int .i64 0] rfl rfl 44 #[.int .i64 0, .int .i64 0] ((unhide B2).rp2 y.cs) (by kernel_rfl) rfl (by simp [Value.oneCell']) ?_))
    obtain ⟨r1, r2, r3⟩ := (unhide B2).done y.cs #[.int .i64 0, .int .i64 0]
    refine bodyPost_ret (results_rr1 (P := Try.prog) rfl _ _ (w.heap.size + 1 + 1) 28 y.cs (0, 0) _ rfl r1 Try.underlying28 rfl (by kernel_rfl) (w.heap.size + 1 + 1 + 1) 44 #[.int .i64 0, .int .i64 0] (0, 0) _ rfl r2 Try.underlying44 rfl (by kernel_rfl)) rfl ?_
    exact ⟨y, rfl, unhide FY, ((unhide O2).row (by omega) _).row (by omega) _, r3⟩
  · obtain rfl : q2 = false := by simpa using unhide HNO
    obtain ⟨k0, k1, k2⟩ := (unhide B2).o3
    go_wp2_with fail
    clear k0 k1 k2
    refine (unhide OO w2).mono ?_
    rintro e w3 ⟨rfl, hb⟩
    have B3 := hide ((unhide B2).later hb)
    have G3 := hide (row_lat (unhide G2) hb)
    have O3 := hide ((unhide O2).later hb)
    clear hb B2 G2 O2
    go_wp2_with (first | (refine wpList_load_row rfl 28 _ rfl w1.heap.size rfl 28 y.cs (0, 0) _ (unhide G3) Try.underlying28 rfl (by kernel_rfl) ?_) | (refine wpList_store_row rfl 28 _ _ rfl (w.heap.size + 1 + 1) y.cs rfl rfl 28 zMv.cs (unhide B3).rm (by kernel_rfl) rfl (Mv.cs_one _) ?_) | (refine wpList_store_row rfl 44 _ _ rfl (w.heap.size + 1 + 1 + 1) #[.int .i64 0, .int .i64 0] rfl rfl 44 #[.int .i64 0, .int .i64 0] ((unhide B3).rp2 y.cs) (by kernel_rfl) rfl (by simp [Value.oneCell']) ?_))
    obtain ⟨r1, r2, r3⟩ := (unhide B3).done y.cs #[.int .i64 0, .int .i64 0]
    refine bodyPost_ret (results_rr1 (P := Try.prog) rfl _ _ (w.heap.size + 1 + 1) 28 y.cs (0, 0) _ rfl r1 Try.underlying28 rfl (by kernel_rfl) (w.heap.size + 1 + 1 + 1) 44 #[.int .i64 0, .int .i64 0] (0, 0) _ rfl r2 Try.underlying44 rfl (by kernel_rfl)) rfl ?_
    exact ⟨y, rfl, unhide FY, ((unhide O3).row (by omega) _).row (by omega) _, r3⟩
end Go.Proofs.Ytfkmibgamkignaa
