/- Where an operand is: the model's answer; over this seat's translation; conditions stand as hypotheses of each. -/
import Derived.Test.YtfkmibgamkignaaPlcF
namespace Go.Proofs.Ytfkmibgamkignaa
open Go.ChangeShapes Go.WideShapes Go.ChangeAt Go.RowKit
set_option linter.unusedVariables false
set_option maxRecDepth 8000
set_option linter.unusedSimpArgs false

theorem alloc_sizeP (w : World) (o : Obj) : (w.alloc o).heap.size = w.heap.size + 1 := by simp
theorem own_rge {w : World} {B gr n c : Nat} {y : Mv} {d : Md} (O : OwnM w B y d) (e : y.r = ⟨some ⟨gr, 0, none⟩, n, c⟩) : B ≤ gr := by
  have ev : y.r.v = .slice (some ⟨gr, 0, none⟩) n c := by rw [e]; rfl
  have o := O.r
  rw [ev] at o
  exact (o.lt (g := gr) rfl).1
theorem pl_false (d : Md) (mo re : Nat) (h : d.plO mo re = false) : d.plR mo re = 0 ∧ d.plA mo re = 0 := by
  have hm : ¬ mo = 0 := fun e => by unfold Md.plO at h; rw [if_pos e] at h; cases h
  unfold Md.plR Md.plA
  rw [if_neg hm, if_neg hm, h]
  exact ⟨rfl, rfl⟩

set_option maxHeartbeats 8000000 in
theorem placeS_in (x : Mv) (d : Md) (mo re : Nat) (X : Int) (w : World) (hs : x.small) (hz : x.nz) (hr : RdM w x d) (h1 : d.ok x.st = true) (h2 : (⟨(mo : Int), (re : Int), X⟩ : Od).ok = true) (h7 : mo ≤ 7) (hr8 : re < 8) :
    Calls Try.prog 24 #[.agg x.cs, (⟨(mo : Int), (re : Int), X⟩ : Od).v] w fun e w' => ∃ y : Mv, e = .returned (.tuple #[.agg y.cs, .agg #[.int .i64 (d.plR mo re), .int .i64 (d.plA mo re)], .bool (d.plO mo re)]) ∧ y.fl = x.fl ∧ OwnM w' (w.heap.size + 4) y (if d.plO mo re = true then d.plD mo re else d) ∧ Below w.heap.size w w' := by
  have B := hide (bq_new w x ⟨(mo : Int), (re : Int), X⟩)
  have X0 := hide (hr.later (unhide B).bel)
  have M := hide (copyS_any x d _ hs hz (unhide X0))
  have S := hide hs
  have NZ := hide hz
  have HR := hide hr
  have OO := hide (fun w => opdOk_any ⟨(mo : Int), (re : Int), X⟩ w)
  rw [h2] at OO
  have HQ1 := hide h1
  obtain ⟨r8, hget⟩ := ok_r8 h1
  have R8 := hide r8
  have HG := hide hget
  have HF := hide (pl_false d mo re)
  unfold Od.v at OO ⊢
  obtain ⟨ok, hok⟩ : ∃ b, d.plO mo re = b := ⟨_, rfl⟩
  obtain ⟨RR, hRR⟩ : ∃ b, d.plR mo re = b := ⟨_, rfl⟩
  obtain ⟨AA, hAA⟩ : ∃ b, d.plA mo re = b := ⟨_, rfl⟩
  obtain ⟨D2, hD2⟩ : ∃ b, d.plD mo re = b := ⟨_, rfl⟩
  have HO := hide (And.intro hok (And.intro hRR (And.intro hAA hD2)))
  rw [hok, hRR, hAA] at HF
  rw [hok, hRR, hAA, hD2]
  clear hr hs hz h1 h2 r8 hget hok hRR hAA hD2
  go_enter Try.func24, Try.ntmps24
  go_wp2_with (refine wpList_load_row rfl 28 _ rfl w.heap.size rfl 28 x.cs (0, 0) _ (unhide B).bx Try.underlying28 rfl (by kernel_rfl) ?_)
  refine (unhide M).mono ?_
  rintro e w1 ⟨y, rfl, fy, oy, hb⟩
  have oy := oy.base (C := w.heap.size + 4) (by have := (unhide B).sz; omega)
  obtain ⟨gr, rc, er⟩ := sl_formP oy.r (by rw [(unhide R8).1]; omega)
  have GR := hide (And.intro (own_rlt oy er) (own_rge oy er))
  have ER := hide er
  have FY := hide fy
  have SY := hide (small_of (unhide X0) oy.rd (unhide S))
  have O1 := hide (oy.later (below_new w1 (.cells y.cs 28)))
  have B1 := hide (((unhide B).later hb).later (below_new w1 (.cells y.cs 28)))
  have G1 := hide (heap_alloc_last w1 (.cells y.cs 28))
  have K1 := hide (okS_any x d (w1.alloc (.cells y.cs 28)) (unhide S) (((unhide X0).later hb).later (below_new w1 (.cells y.cs 28))))
  rw [unhide HQ1] at K1
  clear fy oy hb M B X0 er
  go_wp2_with (first | (refine wpList_store_new rfl 28 _ _ rfl y.cs rfl rfl _ (by kernel_rfl) rfl (Mv.cs_one _) ?_) | (refine wpList_load_row rfl 28 _ rfl w.heap.size rfl 28 x.cs (0, 0) _ (unhide B1).bx Try.underlying28 rfl (by kernel_rfl) ?_))
  refine (unhide K1).mono ?_
  rintro e w2 ⟨rfl, hb⟩
  have B2 := hide ((unhide B1).later hb)
  have G2 := hide (row_lat (unhide G1) hb)
  have O2 := hide ((unhide O1).later hb)
  clear hb B1 G1 O1 K1
  obtain ⟨k0, k1, k2⟩ := (unhide B2).o3
  go_wp2_with fail
  clear k0 k1 k2
  refine (unhide OO w2).mono ?_
  rintro e w3 ⟨rfl, hb⟩
  have B3 := hide ((unhide B2).later hb)
  have P3 := hide (show Pm w3 w1.heap.size (w.heap.size + 4) gr rc y d from ⟨row_lat (unhide G2) hb, (unhide O2).later hb, unhide ER, by have := (unhide GR).1; omega⟩)
  have PL := hide (plS_any w1.heap.size (w.heap.size + 4) gr rc mo re X y d w3 (unhide P3) (unhide R8) hr8 (unhide SY) (unhide HG _) h7)
  unfold PlIs at PL
  obtain ⟨e1, e2, e3, e4⟩ := unhide HO
  rw [e1, e2, e3, e4] at PL
  clear hb B2 G2 O2 P3 e1 e2 e3 e4 HO
  go_wp2_with (refine wpList_load_row rfl 40 _ rfl (w.heap.size + 1) rfl 40 #[.int .i64 (mo : Int), .int .i64 (re : Int), .int .i64 X] (0, 0) _ (unhide B3).bo Try.underlying40 rfl (by kernel_rfl) ?_)
  refine (unhide PL).mono ?_
  rintro e w4 ⟨rfl, p4, g4⟩
  have P4 := hide (p4.later (below_new w4 (.cells #[.int .i64 RR, .int .i64 AA] 44)))
  have B4 := hide (((unhide B3).past g4 (unhide GR).2).later (below_new w4 (.cells #[.int .i64 RR, .int .i64 AA] 44)))
  have Z4 := hide (((unhide B3).past g4 (unhide GR).2).sz)
  have Q4 := hide (heap_alloc_last w4 (.cells #[.int .i64 RR, .int .i64 AA] 44))
  clear p4 g4 PL B3
  cases ok
  · obtain ⟨rfl, rfl⟩ := unhide HF (by trivial)
    have M2 := hide (copyS_any x d (w4.alloc (.cells #[.int .i64 0, .int .i64 0] 44)) (unhide S) (unhide NZ) ((unhide HR).later (unhide B4).bel))
    go_wp2_with (first | (refine wpList_store_new rfl 44 _ _ rfl #[.int .i64 0, .int .i64 0] rfl rfl _ (by kernel_rfl) rfl (by simp [Value.oneCell']) ?_) | (refine wpList_load_row rfl 28 _ rfl w.heap.size rfl 28 x.cs (0, 0) _ (unhide B4).bx Try.underlying28 rfl (by kernel_rfl) ?_))
    refine (unhide M2).mono ?_
    rintro e w5 ⟨y2, rfl, fy, oy, hb⟩
    have F2 := hide fy
    have O5 := hide (oy.base (C := w.heap.size + 4) (by have := (unhide B4).sz; omega))
    have B5 := hide ((unhide B4).later hb)
    clear fy oy hb M2 B4 P4 Q4
    go_wp2_with (first | (refine wpList_store_row rfl 28 _ _ rfl (w.heap.size + 1 + 1) y2.cs rfl rfl 28 zMv.cs (unhide B5).rm (by kernel_rfl) rfl (Mv.cs_one _) ?_) | (refine wpList_store_row rfl 44 _ _ rfl (w.heap.size + 1 + 1 + 1) #[.int .i64 0, .int .i64 0] rfl rfl 44 #[.int .i64 0, .int .i64 0] ((unhide B5).rp2 y2.cs) (by kernel_rfl) rfl (by simp [Value.oneCell']) ?_))
    obtain ⟨r1, r2, r3⟩ := (unhide B5).done y2.cs #[.int .i64 0, .int .i64 0]
    refine bodyPost_ret (results_rr1 (P := Try.prog) rfl _ _ (w.heap.size + 1 + 1) 28 y2.cs (0, 0) _ rfl r1 Try.underlying28 rfl (by kernel_rfl) (w.heap.size + 1 + 1 + 1) 44 #[.int .i64 0, .int .i64 0] (0, 0) _ rfl r2 Try.underlying44 rfl (by kernel_rfl)) rfl ?_
    exact ⟨y2, rfl, unhide F2, ((unhide O5).row (by omega) _).row (by omega) _, r3⟩
  · go_wp2_with (refine wpList_store_new rfl 44 _ _ rfl #[.int .i64 RR, .int .i64 AA] rfl rfl _ (by kernel_rfl) rfl (by simp [Value.oneCell']) ?_)
    generalize hg4 : w4.heap.size = g4 at Q4 Z4 ⊢
    generalize hw5 : w4.alloc (Obj.cells #[.int .i64 RR, .int .i64 AA] 44) = w5 at P4 B4 Q4 ⊢
    have HN := hide (unhide Z4)
    clear hw5 hg4
    refine wp_region_held_drew (S := fun v => v.heap[w1.heap.size]? = some (.cells y.cs 28 (0, 0)) ∧ v.heap[g4]? = some (.cells #[.int .i64 RR, .int .i64 AA] 44 (0, 0))) (by kernel_rfl) ⟨row_lat (unhide P4).row below_drew, row_lat (unhide Q4) below_drew⟩ (fun hS => ?_)
    have HS := hide hS
    clear hS
    refine wpAnyH_take (i := 0) (v := .agg y.cs) rfl (by kernel_rfl) (by kernel_rfl) (by kernel_rfl) (fun _ _ _ h => h) (yields_load rfl 28 _ rfl w1.heap.size rfl 28 y.cs _ (fun w h => h.1) Try.underlying28 rfl (by kernel_rfl)) (unhide HS) ?_
    go_simp
    refine wpAnyH_take (i := 1) (v := .agg #[.int .i64 RR, .int .i64 AA]) rfl (by kernel_rfl) (by kernel_rfl) (by kernel_rfl) (fun _ _ _ h => h) (yields_load rfl 44 _ rfl g4 rfl 44 #[.int .i64 RR, .int .i64 AA] _ (fun w h => h.2) Try.underlying44 rfl (by kernel_rfl)) (unhide HS) ?_
    go_simp
    have B5 := hide ((unhide B4).later below_drew)
    have W1 := hide (show w.heap.size + 4 ≤ w1.heap.size by have := (unhide GR); omega)
    refine wpAnyH_ready (rs := [2]) (by kernel_rfl) (by simp) ?_
    refine AllReadyH.cons rfl (fun K2 hK => ?_) AllReadyH.nil
    rw [if_pos (by rfl)]
    refine wp_store_row 28 _ _ rfl (w.heap.size + 1 + 1) y.cs rfl rfl 28 zMv.cs (unhide B5).rm (by kernel_rfl) rfl (Mv.cs_one _) ?_
    refine hK.out _ _ (⟨(setRow_other _ _ _ _ (by have := unhide W1; omega)).trans (unhide HS).1, (setRow_other _ _ _ _ (by have := unhide HN; omega)).trans (unhide HS).2⟩) (fun hS => ?_)
    clear HS
    have HS := hide hS
    clear hS hK K2
    go_simp
    refine wpAnyH_ready (rs := [3]) (by kernel_rfl) (by simp) ?_
    refine AllReadyH.cons rfl (fun K2 hK => ?_) AllReadyH.nil
    rw [if_pos (by rfl)]
    refine wp_store_row 44 _ _ rfl (w.heap.size + 1 + 1 + 1) #[.int .i64 RR, .int .i64 AA] rfl rfl 44 #[.int .i64 0, .int .i64 0] ((unhide B5).rp2 y.cs) (by kernel_rfl) rfl (by simp [Value.oneCell']) ?_
    refine hK.out _ _ (⟨(setRow_other _ _ _ _ (by have := unhide W1; omega)).trans (unhide HS).1, (setRow_other _ _ _ _ (by have := unhide HN; omega)).trans (unhide HS).2⟩) (fun hS => ?_)
    clear HS
    have HS := hide hS
    clear hS hK K2
    go_simp
    refine wpAnyH_take (i := 4) (v := .bool true) rfl (by kernel_rfl) (by kernel_rfl) (by kernel_rfl) (fun _ _ _ h => h) (Or.inl ⟨by rfl, fun w hc => ?_⟩) (unhide HS) ?_
    · clear hc; go_simp
    go_simp
    refine wpAnyH_done (by kernel_rfl) ?_ _
    clear HS
    go_wp2_with fail
    obtain ⟨r1, r2, r3⟩ := (unhide B5).done y.cs #[.int .i64 RR, .int .i64 AA]
    refine bodyPost_ret (results_rr1 (P := Try.prog) rfl _ _ (w.heap.size + 1 + 1) 28 y.cs (0, 0) _ rfl r1 Try.underlying28 rfl (by kernel_rfl) (w.heap.size + 1 + 1 + 1) 44 #[.int .i64 RR, .int .i64 AA] (0, 0) _ rfl r2 Try.underlying44 rfl (by kernel_rfl)) rfl ?_
    exact ⟨y, rfl, unhide FY, (((unhide P4).own.later below_drew).row (by omega) _).row (by omega) _, r3⟩

/-- Is an operand anywhere; where; and the machine behind. -/
def Md.pcI (d : Md) (st : Int) (o : Od) : Bool := d.ok st && o.ok
def Md.pcO (d : Md) (st : Int) (o : Od) : Bool := if d.pcI st o = true then d.plO o.m.toNat o.r.toNat else false
def Md.pcR (d : Md) (st : Int) (o : Od) : Int := if d.pcI st o = true then d.plR o.m.toNat o.r.toNat else 0
def Md.pcA (d : Md) (st : Int) (o : Od) : Int := if d.pcI st o = true then d.plA o.m.toNat o.r.toNat else 0
def Md.pcD (d : Md) (st : Int) (o : Od) : Md := if d.pcO st o = true then d.plD o.m.toNat o.r.toNat else d
theorem placeS_any (x : Mv) (d : Md) (o : Od) (w : World) (hs : x.small) (hz : x.nz) (hr : RdM w x d) :
    Calls Try.prog 24 #[.agg x.cs, o.v] w fun e w' => ∃ y : Mv, e = .returned (.tuple #[.agg y.cs, .agg #[.int .i64 (d.pcR x.st o), .int .i64 (d.pcA x.st o)], .bool (d.pcO x.st o)]) ∧ y.fl = x.fl ∧ OwnM w' (w.heap.size + 4) y (d.pcD x.st o) ∧ Below w.heap.size w w' := by
  unfold Md.pcD Md.pcR Md.pcA Md.pcO
  cases hI : d.pcI x.st o
  · simp only [Bool.false_eq_true, if_false]
    exact placeS_no x d o w hs hz hr hI
  · simp only [if_true]
    obtain ⟨h1, h2⟩ : d.ok x.st = true ∧ o.ok = true := by unfold Md.pcI at hI; simpa using hI
    obtain ⟨om, orr, ox⟩ := o
    have h3 := h2
    unfold Od.ok at h3
    simp only [Bool.and_eq_true] at h3
    obtain ⟨⟨⟨a1, a2⟩, _⟩, _⟩ := h3
    obtain ⟨m0, m1⟩ := inB_b a1
    obtain ⟨r0, r1⟩ := inB_b a2
    obtain ⟨mo, rfl⟩ := Int.eq_ofNat_of_zero_le m0
    obtain ⟨re, rfl⟩ := Int.eq_ofNat_of_zero_le r0
    have := placeS_in x d mo re ox w hs hz hr h1 h2 (by omega) (by omega)
    simpa using this
end Go.Proofs.Ytfkmibgamkignaa
