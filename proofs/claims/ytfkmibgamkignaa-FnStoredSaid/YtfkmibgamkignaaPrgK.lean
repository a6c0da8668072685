/- Where an operand is: the program's answer; over this seat's translation; conditions stand as hypotheses of each. -/
import Derived.Test.YtfkmibgamkignaaPrgJ
namespace Go.Proofs.Ytfkmibgamkignaa
open Go.ChangeShapes Go.WideShapes Go.ChangeAt Go.RowKit
set_option linter.unusedVariables false
set_option maxRecDepth 8000
set_option linter.unusedSimpArgs false

theorem laid_full {ns : List Int} (h : ns.length = 256) : laidM ns z256 = ns := by
  unfold laidM
  rw [List.take_of_length_le (by omega), List.drop_eq_nil_of_le (by rw [z256_len]; omega), List.append_nil]
theorem ok_m {d : Md} {st : Int} (h : d.ok st = true) : d.m.length = 256 := by
  unfold Md.ok at h
  simp only [Bool.and_eq_true, beq_iff_eq, decide_eq_true_eq] at h
  have := h.1
  omega
theorem back_full {ns : List Int} (h : ns.length = 256) : ns.take ns.length ++ ns.drop 256 = ns := by
  rw [List.take_of_length_le (Nat.le_refl _), List.drop_eq_nil_of_le (by omega), List.append_nil]

theorem Bq.pastR {w wr w' : World} {x : Mv} {o : Od} {r : Option Nat} (h : Bq w wr x o) (hg : wr.grownBy w' r) (ho : ∀ b, r = some b → w.heap.size + 4 ≤ b) : Bq w w' x o :=
  have k : ∀ {g : Nat} {ob : Obj}, wr.heap[g]? = some ob → g < w.heap.size + 4 → w'.heap[g]? = some ob := fun h1 h2 => (hg.block _ (row_lt h1) (fun e => by have := ho _ e.symm; omega)).trans h1
  ⟨k h.bx (by omega), k h.bo (by omega), k h.rm (by omega), k h.rp (by omega), h.bel.grown hg h.bel.size (fun b e => by have := ho _ e; omega), Nat.le_trans h.sz hg.size⟩

set_option maxHeartbeats 8000000 in
theorem placeI_in (x : Mv) (d : Md) (mo re : Nat) (X : Int) (w : World) (hs : x.small) (hz : x.nz) (hr : RdM w x d) (h1 : d.ok x.st = true) (h2 : (⟨(mo : Int), (re : Int), X⟩ : Od).ok = true) (h7 : mo ≤ 7) (hr8 : re < 8) :
    Calls Try.prog 23 #[.agg x.cs, (⟨(mo : Int), (re : Int), X⟩ : Od).v] w fun e w' => ∃ y : Mv, e = .returned (.tuple #[.agg y.cs, .agg #[.int .i64 (d.plR mo re), .int .i64 (d.plA mo re)], .bool (d.plO mo re)]) ∧ y.fl = x.fl ∧ OwnM w' (w.heap.size + 4) y (if d.plO mo re = true then d.plD mo re else d) ∧ Below w.heap.size w w' := by
  have B := hide (bq_new w x ⟨(mo : Int), (re : Int), X⟩)
  have X0 := hide (hr.later (unhide B).bel)
  have M := hide (fun w (h : RdM w x d) => copyM_any x d w hs hz h)
  have MO := hide (fun w (h : RdM w x d) => machineOf_any x d w hs hz h)
  have K := hide (okI_any x d _ hs (unhide X0))
  rw [h1] at K
  have S := hide hs
  have HR := hide hr
  have OO := hide (fun w => opdOkI_any ⟨(mo : Int), (re : Int), X⟩ w)
  rw [h2] at OO
  obtain ⟨r8, hget⟩ := ok_r8 h1
  have R8 := hide r8
  have HG := hide hget
  have ML := hide (ok_m h1)
  rw [laid_full (unhide ML)] at MO
  have HF := hide (pl_false d mo re)
  unfold Od.v at OO ⊢
  obtain ⟨ok, hok⟩ : ∃ b, d.plO mo re = b := ⟨_, rfl⟩
  obtain ⟨RR, hRR⟩ : ∃ b, d.plR mo re = b := ⟨_, rfl⟩
  obtain ⟨AA, hAA⟩ : ∃ b, d.plA mo re = b := ⟨_, rfl⟩
  obtain ⟨D2, hD2⟩ : ∃ b, d.plD mo re = b := ⟨_, rfl⟩
  have HO := hide (And.intro hok (And.intro hRR (And.intro hAA hD2)))
  rw [hok, hRR, hAA] at HF
  rw [hok, hRR, hAA, hD2]
  clear hr hs hz h1 h2 r8 hget hok hRR hAA hD2
  go_enter Try.func23, Try.ntmps23
  go_wp2_with (refine wpList_load_row rfl 28 _ rfl w.heap.size rfl 28 x.cs (0, 0) _ (unhide B).bx Try.underlying28 rfl (by kernel_rfl) ?_)
  refine (unhide K).mono ?_
  rintro e w1 ⟨rfl, hb⟩
  have B1 := hide ((unhide B).later hb)
  have X1 := hide ((unhide X0).later hb)
  clear hb K B X0
  obtain ⟨k0, k1, k2⟩ := (unhide B1).o3
  go_wp2_with fail
  clear k0 k1 k2
  refine (unhide OO w1).mono ?_
  rintro e w2 ⟨rfl, hb⟩
  have B2 := hide ((unhide B1).later hb)
  have X2 := hide ((unhide X1).later hb)
  have MO2 := hide (unhide MO w2 (unhide X2))
  clear hb B1 X1 OO
  go_wp2_with (refine wpList_load_row rfl 28 _ rfl w.heap.size rfl 28 x.cs (0, 0) _ (unhide B2).bx Try.underlying28 rfl (by kernel_rfl) ?_)
  refine (unhide MO2).mono ?_
  rintro e w3 ⟨y, rfl, fy, oy, hb⟩
  have oy := oy.base (C := w.heap.size + 4) (by have := (unhide B2).sz; omega)
  obtain ⟨gr, rc, er⟩ := sl_formP oy.r (by rw [(unhide R8).1]; omega)
  have GR := hide (And.intro (own_rlt oy er) (own_rge oy er))
  have FY := hide fy
  have SY := hide (small_of (unhide X2) oy.rd (unhide S))
  have B3 := hide (((unhide B2).later hb).later (below_new w3 (.cells (bigA d.m y) 80)))
  have X3 := hide (((unhide X2).later hb).later (below_new w3 (.cells (bigA d.m y) 80)))
  have P3 := hide (show Pg (w3.alloc (.cells (bigA d.m y) 80)) w3.heap.size (w.heap.size + 4) gr rc y d from ⟨heap_alloc_last w3 _, unhide ML, oy.later (below_new w3 _), er, by have := (unhide GR).1; omega⟩)
  have OM := hide (own_ne (g := w3.heap.size) oy.m (.inr (Nat.le_refl _)))
  have PL := hide (po_any w3.heap.size (w.heap.size + 4) gr rc mo re X y d (w3.alloc (.cells (bigA d.m y) 80)) (unhide P3) (unhide R8) hr8 (unhide SY) (unhide HG _) h7 (by have := (unhide GR).1; simp; omega) (by simp))
  unfold PoIs at PL
  obtain ⟨e1, e2, e3, e4⟩ := unhide HO
  rw [e1, e2, e3, e4] at PL
  have LT := hide (show w.heap.size + 4 ≤ w3.heap.size by have := (unhide B2).sz; have := hb.size; omega)
  clear fy oy hb MO2 B2 X2 er e1 e2 e3 e4 HO
  go_wp2_with (first | (refine wpList_alloc60 rfl rfl ?_) | (refine wpList_store60 rfl _ _ rfl d.m y (unhide ML) rfl rfl ?_) | (refine wpList_load_row rfl 40 _ rfl (w.heap.size + 1) rfl 40 #[.int .i64 (mo : Int), .int .i64 (re : Int), .int .i64 X] (0, 0) _ (unhide B3).bo Try.underlying40 rfl (by kernel_rfl) ?_))
  refine (unhide PL).mono ?_
  rintro e w4 ⟨rfl, p4, g4⟩
  have P4 := hide p4
  have B4 := hide (((unhide B3).past g4 (unhide GR).2).later (below_new w4 (.cells #[.int .i64 RR, .int .i64 AA] 44)))
  have Z4 := hide (((unhide B3).past g4 (unhide GR).2).sz)
  have Q4 := hide (heap_alloc_last w4 (.cells #[.int .i64 RR, .int .i64 AA] 44))
  clear p4 g4 PL B3 X3 P3
  cases ok
  · obtain ⟨rfl, rfl⟩ := unhide HF (by trivial)
    have M2 := hide (unhide M (w4.alloc (.cells #[.int .i64 0, .int .i64 0] 44)) ((unhide HR).later (unhide B4).bel))
    go_wp2_with (first | (refine wpList_store_new rfl 44 _ _ rfl #[.int .i64 0, .int .i64 0] rfl rfl _ (by kernel_rfl) rfl (by simp [Value.oneCell']) ?_) | (refine wpList_load_row rfl 28 _ rfl w.heap.size rfl 28 x.cs (0, 0) _ (unhide B4).bx Try.underlying28 rfl (by kernel_rfl) ?_))
    refine (unhide M2).mono ?_
    rintro e w5 ⟨y2, rfl, fy, oy2, hb⟩
    have F2 := hide fy
    have O5 := hide (oy2.base (C := w.heap.size + 4) (by have := (unhide B4).sz; omega))
    have B5 := hide ((unhide B4).later hb)
    clear fy oy2 hb M2 B4 P4 Q4
    go_wp2_with (first | (refine wpList_store_row rfl 28 _ _ rfl (w.heap.size + 1 + 1) y2.cs rfl rfl 28 zMv.cs (unhide B5).rm (by kernel_rfl) rfl (Mv.cs_one _) ?_) | (refine wpList_store_row rfl 44 _ _ rfl (w.heap.size + 1 + 1 + 1) #[.int .i64 0, .int .i64 0] rfl rfl 44 #[.int .i64 0, .int .i64 0] ((unhide B5).rp2 y2.cs) (by kernel_rfl) rfl (by simp [Value.oneCell']) ?_))
    obtain ⟨r1, r2, r3⟩ := (unhide B5).done y2.cs #[.int .i64 0, .int .i64 0]
    refine bodyPost_ret (results_rr1 (P := Try.prog) rfl _ _ (w.heap.size + 1 + 1) 28 y2.cs (0, 0) _ rfl r1 Try.underlying28 rfl (by kernel_rfl) (w.heap.size + 1 + 1 + 1) 44 #[.int .i64 0, .int .i64 0] (0, 0) _ rfl r2 Try.underlying44 rfl (by kernel_rfl)) rfl ?_
    exact ⟨y2, rfl, unhide F2, ((unhide O5).row (by omega) _).row (by omega) _, r3⟩
  · have P5 := hide ((unhide P4 (by trivial)).later (below_new w4 (.cells #[.int .i64 RR, .int .i64 AA] 44)))
    have AN := hide (answer_any w3.heap.size (w.heap.size + 4) D2.m y D2 _ (unhide P5).len (unhide P5).row (unhide P5).own (unhide OM))
    rw [back_full (unhide P5).len] at AN
    go_wp2_with (first | (refine wpList_store_new rfl 44 _ _ rfl #[.int .i64 RR, .int .i64 AA] rfl rfl _ (by kernel_rfl) rfl (by simp [Value.oneCell']) ?_))
    generalize hg4 : w4.heap.size = g4 at Q4 Z4 ⊢
    generalize hw5 : w4.alloc (Obj.cells #[.int .i64 RR, .int .i64 AA] 44) = w5 at P5 B4 Q4 AN ⊢
    have LM := hide (fun b (hb : y.m.v.ownBlock = some b) => (show w.heap.size + 4 ≤ b ∧ b < w4.heap.size from ⟨((unhide P4 (by trivial)).own.m.lt hb).1, ((unhide P4 (by trivial)).own.m.lt hb).2⟩))
    rw [hg4] at LM
    clear hw5 hg4 P4
    have Q5 := hide (row_lat (unhide Q4) (below_drew (w := w5)))
    have P6 := hide ((unhide P5).later (below_drew (w := w5)))
    have AN2 := hide (answer_any w3.heap.size (w.heap.size + 4) D2.m y D2 _ (unhide P6).len (unhide P6).row (unhide P6).own (unhide OM))
    rw [back_full (unhide P6).len] at AN2
    clear AN P5
    refine wp_region_held_drew (S := fun v => v.heap[g4]? = some (.cells #[.int .i64 RR, .int .i64 AA] 44 (0, 0))) (by kernel_rfl) (unhide Q5) (fun hS => ?_)
    have HS := hide hS
    clear hS
    refine wpAnyH_take (i := 1) (v := .agg #[.int .i64 RR, .int .i64 AA]) rfl (by kernel_rfl) (by kernel_rfl) (by kernel_rfl) (fun _ _ _ h => h) (yields_load rfl 44 _ rfl g4 rfl 44 #[.int .i64 RR, .int .i64 AA] _ (fun w h => h) Try.underlying44 rfl (by kernel_rfl)) (unhide HS) ?_
    go_simp
    refine wpAnyH_ready (rs := [0]) (by kernel_rfl) (by simp) ?_
    refine AllReadyH.cons rfl (fun K2 hK => ?_) AllReadyH.nil
    go_simp
    refine (unhide AN2).mono ?_
    rintro e w6 ⟨rfl, o6, g6⟩
    have B6 := hide (((unhide B4).later (below_drew (w := w5))).pastR g6 (fun b hb => (unhide LM b hb).1))
    have O6 := hide o6
    refine hK.out _ _ ((g6.block g4 (row_lt (unhide Q5)) (fun e => by have := (unhide LM g4 e.symm).2; omega)).trans (unhide Q5)) (fun hS => ?_)
    clear HS
    have HS := hide hS
    clear hS hK K2 o6 g6 AN2 B4 P6
    go_simp
    refine wpAnyH_ready (rs := [2]) (by kernel_rfl) (by simp) ?_
    refine AllReadyH.cons rfl (fun K2 hK => ?_) AllReadyH.nil
    rw [if_pos (by rfl)]
    refine wp_store_row 28 _ _ rfl (w.heap.size + 1 + 1) y.cs rfl rfl 28 zMv.cs (unhide B6).rm (by kernel_rfl) rfl (Mv.cs_one _) ?_
    refine hK.out _ _ ((setRow_other _ _ _ _ (by have := unhide Z4; omega)).trans (unhide HS)) (fun hS => ?_)
    clear HS
    have HS := hide hS
    clear hS hK K2
    go_simp
    refine wpAnyH_ready (rs := [3]) (by kernel_rfl) (by simp) ?_
    refine AllReadyH.cons rfl (fun K2 hK => ?_) AllReadyH.nil
    rw [if_pos (by rfl)]
    refine wp_store_row 44 _ _ rfl (w.heap.size + 1 + 1 + 1) #[.int .i64 RR, .int .i64 AA] rfl rfl 44 #[.int .i64 0, .int .i64 0] ((unhide B6).rp2 y.cs) (by kernel_rfl) rfl (by simp [Value.oneCell']) ?_
    refine hK.out _ _ ((setRow_other _ _ _ _ (by have := unhide Z4; omega)).trans (unhide HS)) (fun hS => ?_)
    clear HS
    have HS := hide hS
    clear hS hK K2
    go_simp
    refine wpAnyH_take (i := 4) (v := .bool true) rfl (by kernel_rfl) (by kernel_rfl) (by kernel_rfl) (fun _ _ _ h => h) (Or.inl ⟨by rfl, fun w hc => ?_⟩) (unhide HS) ?_
    · clear hc; go_simp
    go_simp
    refine wpAnyH_done (by kernel_rfl) ?_ _
    clear HS
    go_wp2_with fail
    obtain ⟨r1, r2, r3⟩ := (unhide B6).done y.cs #[.int .i64 RR, .int .i64 AA]
    refine bodyPost_ret (results_rr1 (P := Try.prog) rfl _ _ (w.heap.size + 1 + 1) 28 y.cs (0, 0) _ rfl r1 Try.underlying28 rfl (by kernel_rfl) (w.heap.size + 1 + 1 + 1) 44 #[.int .i64 RR, .int .i64 AA] (0, 0) _ rfl r2 Try.underlying44 rfl (by kernel_rfl)) rfl ?_
    exact ⟨y, rfl, unhide FY, ((unhide O6).row (by omega) _).row (by omega) _, r3⟩

theorem placeI_any (x : Mv) (d : Md) (o : Od) (w : World) (hs : x.small) (hz : x.nz) (hr : RdM w x d) :
    Calls Try.prog 23 #[.agg x.cs, o.v] w fun e w' => ∃ y : Mv, e = .returned (.tuple #[.agg y.cs, .agg #[.int .i64 (d.pcR x.st o), .int .i64 (d.pcA x.st o)], .bool (d.pcO x.st o)]) ∧ y.fl = x.fl ∧ OwnM w' (w.heap.size + 4) y (d.pcD x.st o) ∧ Below w.heap.size w w' := by
  unfold Md.pcD Md.pcR Md.pcA Md.pcO
  cases hI : d.pcI x.st o
  · simp only [Bool.false_eq_true, if_false]
    exact placeI_no x d o w hs hz hr hI
  · simp only [if_true]
    obtain ⟨h1, h2⟩ : d.ok x.st = true ∧ o.ok = true := by unfold Md.pcI at hI; simpa using hI
    obtain ⟨om, orr, ox⟩ := o
    have h3 := h2
    unfold Od.ok at h3
    simp only [Bool.and_eq_true] at h3
    obtain ⟨⟨⟨a1, a2⟩, _⟩, _⟩ := h3
    obtain ⟨m0, m1⟩ := inB_b a1
    obtain ⟨r0, r1⟩ := inB_b a2
    obtain ⟨mo, rfl⟩ := Int.eq_ofNat_of_zero_le m0
    obtain ⟨re, rfl⟩ := Int.eq_ofNat_of_zero_le r0
    have := placeI_in x d mo re ox w hs hz hr h1 h2 (by omega) (by omega)
    simpa using this
end Go.Proofs.Ytfkmibgamkignaa
