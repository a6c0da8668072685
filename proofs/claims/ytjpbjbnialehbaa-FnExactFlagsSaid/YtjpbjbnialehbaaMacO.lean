/- A word written by the model; over this seat's translation; conditions stand as hypotheses of each. -/
import Derived.Test.YtjpbjbnialehbaaMacN
namespace Go.Proofs.Ytjpbjbnialehbaa
open Go.ChangeShapes Go.WideShapes Go.ChangeAt Go.RowKit
set_option linter.unusedVariables false
set_option maxRecDepth 8000
set_option linter.unusedSimpArgs false

/-- One number of an owned list written. -/
theorem OwnN.set {w : World} {B b n cap : Nat} {ns : List Int} (h : OwnN w B (.slice (some ⟨b, 0, none⟩) n cap) ns) (k : Nat) (v : Int) (hk : k < ns.length) :
    OwnN (w.setCell ⟨b, k, none⟩ (.int .i64 v)) B (.slice (some ⟨b, 0, none⟩) n cap) (ns.set k v) ∧ w.grownBy (w.setCell ⟨b, k, none⟩ (.int .i64 v)) (some b) := by
  have hl : ns.length = n := by obtain ⟨a, c, e, _⟩ := h.rd; simp at e; omega
  subst hl
  have st := World.ownsRow.stored h k (.int .i64 v)
  refine ⟨?_, st.2⟩
  have e : cellsN (ns.set k v) = (cellsN ns).set k (.int .i64 v) := by unfold cellsN; rw [List.map_set]
  unfold OwnN
  rw [List.length_set, e]
  exact st.1
theorem OwnN.cellAt {w : World} {B b n cap : Nat} {ns : List Int} (h : OwnN w B (.slice (some ⟨b, 0, none⟩) n cap) ns) (k : Nat) (hk : k < ns.length) : w.cell? ⟨b, k, none⟩ = some (.int .i64 (nAt ns k)) ∧ w.frozen? ⟨b, k, none⟩ = false := by
  have hl : ns.length = n := by obtain ⟨a, c, e, _⟩ := h.rd; simp at e; omega
  subst hl
  refine ⟨?_, World.ownsRow.frozenAt h k⟩
  rw [World.ownsRow.cellAt h k (by omega)]
  simp only [cellsN, List.getElem?_map, List.getElem?_eq_getElem hk, Option.map_some, nAt, List.getD_eq_getElem?_getD, Option.getD_some]

set_option maxHeartbeats 2000000 in
theorem writeS_any (x : Mv) (d : Md) (a n : Int) (w : World) (hs : x.small) (hz : x.nz) (hr : RdM w x d) : Calls Try.prog 23 #[.agg x.cs, .int .i64 a, .int .i64 n] w fun e w' => ∃ y : Mv, e = .returned (.tuple #[.agg y.cs, .bool (d.has a)]) ∧ y.fl = x.fl ∧ OwnM w' (w.heap.size + 2) y (d.put a n) ∧ Below w.heap.size w w' := by
  have C := hide (cc_new w x)
  have X := hide (hr.later (unhide C).bel)
  have M := hide (copyS_any x d _ hs hz (unhide X))
  have HT := hide (has_t (d := d) (a := a))
  have S := hide hs
  unfold Md.put
  obtain ⟨q, hq⟩ : ∃ q, d.has a = q := ⟨_, rfl⟩
  rw [hq] at HT ⊢
  have HQ := hide hq
  clear hr hs hz hq
  go_enter Try.func23, Try.ntmps23
  go_wp2_with (refine wpList_load_row rfl 38 _ rfl w.heap.size rfl 38 x.cs (0, 0) _ (unhide C).bx Try.underlying38 rfl (by kernel_rfl) ?_)
  refine (unhide M).mono ?_
  rintro e w1 ⟨y, rfl, fy, oy, hb⟩
  have FY := hide fy
  have O1 := hide (oy.base (C := w.heap.size + 2) (by have := (unhide C).sz; omega))
  have C1 := hide (((unhide C).later hb).later (below_new w1 (.cells y.cs 38)))
  have X1 := hide (((unhide X).later hb).later (below_new w1 (.cells y.cs 38)))
  have H1 := hide (readS_any x d a (w1.alloc (.cells y.cs 38)) (unhide S) (unhide X1))
  rw [unhide HQ] at H1
  have G1 := hide (heap_alloc_last w1 (.cells y.cs 38))
  have Z1 := hide (Nat.le_trans (unhide C).sz hb.size)
  clear fy oy hb M C X
  go_wp2_with (first | (refine wpList_store_new rfl 38 _ _ rfl y.cs rfl rfl _ (by kernel_rfl) rfl (Mv.cs_one _) ?_) | (refine wpList_load_row rfl 38 _ rfl w.heap.size rfl 38 x.cs (0, 0) _ (unhide C1).bx Try.underlying38 rfl (by kernel_rfl) ?_))
  refine (unhide H1).mono ?_
  rintro e w2 ⟨rfl, hb⟩
  have C2 := hide ((unhide C1).later hb)
  have G2 := hide (row_lat (unhide G1) hb)
  have O2 := hide (((unhide O1).later (below_new w1 (.cells y.cs 38))).later hb)
  clear hb C1 G1 H1 X1
  cases q
  · go_wp2_with (first | (refine wpList_load_row rfl 38 _ rfl w1.heap.size rfl 38 y.cs (0, 0) _ (unhide G2) Try.underlying38 rfl (by kernel_rfl) ?_) | (refine wpList_store_row rfl 38 _ _ rfl (w.heap.size + 1) y.cs rfl rfl 38 zMv.cs (unhide C2).re (by kernel_rfl) rfl (Mv.cs_one _) ?_))
    refine bodyPost_ret (results_row2 (P := Try.prog) rfl _ _ (w.heap.size + 1) 38 y.cs (0, 0) _ rfl (setRow_heap w2 _ _ _ 38 _ (unhide C2).re) Try.underlying38 rfl (by kernel_rfl)) rfl ?_
    exact ⟨y, rfl, unhide FY, (unhide O2).row (by omega) _, below_setRow (unhide C2).bel (by omega) _⟩
  · obtain ⟨ta, tl⟩ := unhide HT (by trivial)
    obtain ⟨t0, t1, _⟩ := adB_t ta
    obtain ⟨k, hk⟩ := Int.eq_ofNat_of_zero_le (show 0 ≤ a / 2 by omega)
    have hkl : k < d.m.length := by omega
    have hml := (unhide O2).m.len
    obtain ⟨gm, hgm⟩ : ∃ gm, y.m.a = some ⟨gm, 0, none⟩ := by
      rcases (unhide O2).m.form with ⟨_, h0⟩ | ⟨g, cap, e, _⟩
      · rw [h0] at hkl; simp at hkl
      · unfold Sl.v at e; simp at e; exact ⟨g, e.1⟩
    have hmv : y.m.v = .slice (some ⟨gm, 0, none⟩) y.m.n y.m.c := by unfold Sl.v; rw [hgm]
    have o2 := (unhide O2).m
    rw [hmv] at o2
    have o2d := o2.later (below_drew (w := w2))
    have cA := hide (o2d.cellAt k hkl)
    have sA := o2d.set k (n % 65536) hkl
    have gA : w2.drew.grownBy (w2.drew.setCell ⟨gm, k, none⟩ (.int .i64 (n % 65536))) y.m.v.ownBlock := by rw [hmv]; exact sA.2
    have O3 := hide (((unhide O2).later (below_drew (w := w2))).putM gA (by rw [hmv]; exact sA.1))
    have gmB := (o2.lt (g := gm) rfl).1
    have gm1 : gm < w1.heap.size := by
      have := (unhide O1).m
      rw [hmv] at this
      exact (this.lt (g := gm) rfl).2
    have C3 := hide (((unhide C2).later (below_drew (w := w2))).pastR sA.2 (fun b e => by cases e; exact gmB))
    have G3 := hide ((sA.2.block w1.heap.size (row_lt (row_lat (unhide G2) (below_drew (w := w2)))) (by simp; omega)).trans (row_lat (unhide G2) (below_drew (w := w2))))
    have D0 : Hid (w2.drew.cell? ⟨w1.heap.size, 0, none⟩ = some (.slice (some ⟨gm, 0, none⟩) y.m.n y.m.c)) := hide (by rw [← hgm]; exact row_m (row_lat (unhide G2) (below_drew (w := w2))))
    have HKK := hide (show (a / 2).toNat = k by omega)
    have GM := hide hgm
    have HQ2 := hide (quo2 t0 (by omega) hk)
    have WR := hide (fun w => wrapS_any n w)
    have kn : (k : Int) < (y.m.n : Int) := by omega
    have kn0 : k < y.m.n := by omega
    obtain ⟨q, hq⟩ : ∃ q, n % 65536 = q := ⟨_, rfl⟩
    rw [hq] at O3 C3 G3 WR
    have HQQ := hide hq
    clear hq sA gA o2 o2d hmv hml ta HT C2 O2 G2 HQ tl hk hgm gmB gm1 hkl O1
    go_wp2_with fail
    refine wp_region_held_drew (S := fun w' => w'.cell? ⟨w1.heap.size, 0, none⟩ = some (.slice (some ⟨gm, 0, none⟩) y.m.n y.m.c)) (by kernel_rfl) (unhide D0) (fun hS => ?_)
    have HS := hide hS
    clear hS
    refine wpAnyH_take (i := 0) (v := .pointer (some ⟨w1.heap.size, 0, none⟩)) rfl (by kernel_rfl) (by kernel_rfl) (by kernel_rfl) (fun _ _ _ h => h) (Or.inl ⟨by rfl, fun w hc => ?_⟩) (unhide HS) ?_
    · clear hc; go_simp
    go_simp
    refine wpAnyH_take (i := 1) (v := .slice (some ⟨gm, 0, none⟩) y.m.n y.m.c) rfl (by kernel_rfl) (by kernel_rfl) (by kernel_rfl) (fun _ _ _ h => h) (Or.inl ⟨by rfl, fun w hc => ?_⟩) (unhide HS) ?_
    · go_simp
    go_simp
    refine wpAnyH_take (i := 2) (v := .int .i64 a) rfl (by kernel_rfl) (by kernel_rfl) (by kernel_rfl) (fun _ _ _ h => h) (Or.inl ⟨by rfl, fun w hc => ?_⟩) (unhide HS) ?_
    · clear hc; go_simp
    go_simp
    refine wpAnyH_take (i := 3) (v := .int .i64 (k : Int)) rfl (by kernel_rfl) (by kernel_rfl) (by kernel_rfl) (fun _ _ _ h => h) (Or.inl ⟨by rfl, fun w hc => ?_⟩) (unhide HS) ?_
    · clear hc; have hq2 := unhide HQ2; go_simp
    go_simp
    refine wpAnyH_take (i := 4) (v := .int .i64 n) rfl (by kernel_rfl) (by kernel_rfl) (by kernel_rfl) (fun _ _ _ h => h) (Or.inl ⟨by rfl, fun w hc => ?_⟩) (unhide HS) ?_
    · clear hc; go_simp
    go_simp
    refine wpAnyH_ready (rs := [5]) (by kernel_rfl) (by simp) ?_
    refine AllReadyH.cons rfl (fun K hK => ?_) AllReadyH.nil
    go_simp
    refine (unhide WR _).mono ?_
    rintro e w' ⟨rfl, hw'⟩
    rw [hw']
    clear hw' w'
    refine hK.out _ _ (unhide D0) (fun _ => ?_)
    clear hK K
    refine wpAnyH_take (i := 6) (v := .pointer (some ⟨gm, k, none⟩)) rfl (by kernel_rfl) (by kernel_rfl) (by kernel_rfl) (fun _ _ _ h => h) (Or.inl ⟨by rfl, fun w hc => ?_⟩) (unhide HS) ?_
    · clear hc; go_simp
    go_simp
    refine wpAnyH_ready (rs := [7]) (by kernel_rfl) (by simp) ?_
    refine AllReadyH.cons rfl (fun K hK => ?_) AllReadyH.nil
    obtain ⟨cA1, cA2⟩ := unhide cA
    go_simp
    refine hK.out _ _ ((row_m (unhide G3)).trans (by rw [unhide GM])) (fun _ => ?_)
    clear hK K
    refine wpAnyH_done (by kernel_rfl) ?_ _
    go_wp2_with (first | (refine wpList_load_row rfl 38 _ rfl w1.heap.size rfl 38 y.cs (0, 0) _ (unhide G3) Try.underlying38 rfl (by kernel_rfl) ?_) | (refine wpList_store_row rfl 38 _ _ rfl (w.heap.size + 1) y.cs rfl rfl 38 zMv.cs (unhide C3).re (by kernel_rfl) rfl (Mv.cs_one _) ?_))
    refine bodyPost_ret (results_row2 (P := Try.prog) rfl _ _ (w.heap.size + 1) 38 y.cs (0, 0) _ rfl (setRow_heap _ _ _ _ 38 _ (unhide C3).re) Try.underlying38 rfl (by kernel_rfl)) rfl ?_
    refine ⟨y, rfl, unhide FY, ?_, below_setRow (unhide C3).bel (by omega) _⟩
    rw [unhide HKK, unhide HQQ]
    exact (unhide O3).row (by omega) _
end Go.Proofs.Ytjpbjbnialehbaa
