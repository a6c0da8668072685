/- Where an operand is: the program's answer where it is nowhere; over this seat's translation; conditions stand as hypotheses of each. -/
import Derived.Test.YtfkmibgamkignaaPrgI
import Derived.Test.YtfkmibgamkignaaPlcG
import Derived.Test.YtfkmibgamkignaaOpi
namespace Go.Proofs.Ytfkmibgamkignaa
open Go.ChangeShapes Go.WideShapes Go.ChangeAt Go.RowKit
set_option linter.unusedVariables false
set_option maxRecDepth 8000
set_option linter.unusedSimpArgs false

set_option maxHeartbeats 4000000 in
theorem placeI_no (x : Mv) (d : Md) (o : Od) (w : World) (hs : x.small) (hz : x.nz) (hr : RdM w x d) (hno : (d.ok x.st && o.ok) = false) :
    Calls Try.prog 23 #[.agg x.cs, o.v] w fun e w' => ∃ y : Mv, e = .returned (.tuple #[.agg y.cs, .agg #[.int .i64 0, .int .i64 0], .bool false]) ∧ y.fl = x.fl ∧ OwnM w' (w.heap.size + 4) y d ∧ Below w.heap.size w w' := by
  have B := hide (bq_new w x o)
  have X := hide (hr.later (unhide B).bel)
  have M := hide (fun w (h : RdM w x d) => copyM_any x d w hs hz h)
  have K := hide (okI_any x d _ hs (unhide X))
  unfold Od.v
  have OO := hide (fun w => opdOkI_any o w)
  obtain ⟨q1, hq1⟩ : ∃ q, d.ok x.st = q := ⟨_, rfl⟩
  obtain ⟨q2, hq2⟩ : ∃ q, o.ok = q := ⟨_, rfl⟩
  rw [hq1, hq2] at hno
  rw [hq2] at OO
  rw [hq1] at K
  have HNO := hide hno
  unfold Od.v at OO
  clear hr hs hz hq1 hq2 hno
  go_enter Try.func23, Try.ntmps23
  go_wp2_with (refine wpList_load_row rfl 28 _ rfl w.heap.size rfl 28 x.cs (0, 0) _ (unhide B).bx Try.underlying28 rfl (by kernel_rfl) ?_)
  refine (unhide K).mono ?_
  rintro e w1 ⟨rfl, hb⟩
  have B1 := hide ((unhide B).later hb)
  have X1 := hide ((unhide X).later hb)
  clear hb K B X
  cases q1
  · have M1 := hide (unhide M w1 (unhide X1))
    go_wp2_with (refine wpList_load_row rfl 28 _ rfl w.heap.size rfl 28 x.cs (0, 0) _ (unhide B1).bx Try.underlying28 rfl (by kernel_rfl) ?_)
    refine (unhide M1).mono ?_
    rintro e w2 ⟨y, rfl, fy, oy, hb⟩
    have FY := hide fy
    have B2 := hide ((unhide B1).later hb)
    have O2 := hide (oy.base (C := w.heap.size + 4) (by have := (unhide B1).sz; omega))
    clear fy oy hb M1 B1 X1
    go_wp2_with (first | (refine wpList_store_row rfl 28 _ _ rfl (w.heap.size + 1 + 1) y.cs rfl rfl 28 zMv.cs (unhide B2).rm (by kernel_rfl) rfl (Mv.cs_one _) ?_) | (refine wpList_store_row rfl 44 _ _ rfl (w.heap.size + 1 + 1 + 1) #[.int .i64 0, .int .i64 0] rfl rfl 44 #[.int .i64 0, .int .i64 0] ((unhide B2).rp2 y.cs) (by kernel_rfl) rfl (by simp [Value.oneCell']) ?_))
    obtain ⟨r1, r2, r3⟩ := (unhide B2).done y.cs #[.int .i64 0, .int .i64 0]
    refine bodyPost_ret (results_rr1 (P := Try.prog) rfl _ _ (w.heap.size + 1 + 1) 28 y.cs (0, 0) _ rfl r1 Try.underlying28 rfl (by kernel_rfl) (w.heap.size + 1 + 1 + 1) 44 #[.int .i64 0, .int .i64 0] (0, 0) _ rfl r2 Try.underlying44 rfl (by kernel_rfl)) rfl ?_
    exact ⟨y, rfl, unhide FY, ((unhide O2).row (by omega) _).row (by omega) _, r3⟩
  · obtain rfl : q2 = false := by simpa using unhide HNO
    obtain ⟨k0, k1, k2⟩ := (unhide B1).o3
    go_wp2_with fail
    clear k0 k1 k2
    refine (unhide OO w1).mono ?_
    rintro e w2 ⟨rfl, hb⟩
    have B2 := hide ((unhide B1).later hb)
    have M2 := hide (unhide M w2 ((unhide X1).later hb))
    clear hb B1 X1
    go_wp2_with (refine wpList_load_row rfl 28 _ rfl w.heap.size rfl 28 x.cs (0, 0) _ (unhide B2).bx Try.underlying28 rfl (by kernel_rfl) ?_)
    refine (unhide M2).mono ?_
    rintro e w3 ⟨y, rfl, fy, oy, hb⟩
    have FY := hide fy
    have B3 := hide ((unhide B2).later hb)
    have O3 := hide (oy.base (C := w.heap.size + 4) (by have := (unhide B2).sz; omega))
    clear fy oy hb M2 B2
    go_wp2_with (first | (refine wpList_store_row rfl 28 _ _ rfl (w.heap.size + 1 + 1) y.cs rfl rfl 28 zMv.cs (unhide B3).rm (by kernel_rfl) rfl (Mv.cs_one _) ?_) | (refine wpList_store_row rfl 44 _ _ rfl (w.heap.size + 1 + 1 + 1) #[.int .i64 0, .int .i64 0] rfl rfl 44 #[.int .i64 0, .int .i64 0] ((unhide B3).rp2 y.cs) (by kernel_rfl) rfl (by simp [Value.oneCell']) ?_))
    obtain ⟨r1, r2, r3⟩ := (unhide B3).done y.cs #[.int .i64 0, .int .i64 0]
    refine bodyPost_ret (results_rr1 (P := Try.prog) rfl _ _ (w.heap.size + 1 + 1) 28 y.cs (0, 0) _ rfl r1 Try.underlying28 rfl (by kernel_rfl) (w.heap.size + 1 + 1 + 1) 44 #[.int .i64 0, .int .i64 0] (0, 0) _ rfl r2 Try.underlying44 rfl (by kernel_rfl)) rfl ?_
    exact ⟨y, rfl, unhide FY, ((unhide O3).row (by omega) _).row (by omega) _, r3⟩
end Go.Proofs.Ytfkmibgamkignaa
