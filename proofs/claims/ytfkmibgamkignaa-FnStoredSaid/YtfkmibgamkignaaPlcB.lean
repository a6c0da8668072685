/- A place stored into: the model's answer; over this seat's translation; conditions stand as hypotheses of each. -/
import Derived.Test.YtfkmibgamkignaaPlcA
import Derived.Test.YtfkmibgamkignaaMacS
namespace Go.Proofs.Ytfkmibgamkignaa
open Go.ChangeShapes Go.WideShapes Go.ChangeAt Go.RowKit
set_option linter.unusedVariables false
set_option maxRecDepth 8000
set_option linter.unusedSimpArgs false

/-- What is there behind a store. -/
def Md.stD (d : Md) (r a n : Int) : Md := if r = -1 then d.put a n else if d.ldB r a = true then ⟨d.m, d.r.set r.toNat (n % 65536), d.i, d.o⟩ else d

/-- The boxes of a machine, a place, and the answer's place. -/
structure Bs (w wr : World) (x : Mv) (r a : Int) : Prop where
  bx : wr.heap[w.heap.size]? = some (.cells x.cs 28 (0, 0))
  bp : wr.heap[w.heap.size + 1]? = some (.cells #[.int .i64 r, .int .i64 a] 44 (0, 0))
  re : wr.heap[w.heap.size + 1 + 1]? = some (.cells zMv.cs 28 (0, 0))
  bel : Below w.heap.size w wr
  sz : w.heap.size + 3 ≤ wr.heap.size
theorem bs_new (w : World) (x : Mv) (r a : Int) : Bs w (((w.alloc (.cells x.cs 28)).alloc (.cells #[.int .i64 r, .int .i64 a] 44)).alloc (.cells zMv.cs 28)) x r a :=
  ⟨row_lat (bp_new w x r a).bx (below_new _ _), row_lat (bp_new w x r a).bp (below_new _ _), by have := heap_alloc_last ((w.alloc (.cells x.cs 28)).alloc (.cells #[.int .i64 r, .int .i64 a] 44)) (.cells zMv.cs 28); simpa using this, (bp_new w x r a).bel.alloc (by simp; omega) _, by simp⟩
section
variable {w wr w' : World} {x : Mv} {r a : Int}
theorem Bs.later (h : Bs w wr x r a) (hb : Below wr.heap.size wr w') : Bs w w' x r a :=
  ⟨row_lat h.bx hb, row_lat h.bp hb, row_lat h.re hb, h.bel.trans (hb.mono (by have := h.sz; omega)), Nat.le_trans h.sz hb.size⟩
theorem Bs.cr (h : Bs w wr x r a) : wr.cell? ⟨w.heap.size + 1, 0, none⟩ = some (.int .i64 r) := (cell_of_row wr _ 0 _ 44 _ h.bp).trans rfl
theorem Bs.ca (h : Bs w wr x r a) : wr.cell? ⟨w.heap.size + 1, 1, none⟩ = some (.int .i64 a) := (cell_of_row wr _ 1 _ 44 _ h.bp).trans rfl
/-- A list of what is new is written: what stood stays. -/
theorem Bs.past (h : Bs w wr x r a) {o : Option Nat} (hg : wr.grownBy w' o) (ho : ∀ b, o = some b → w.heap.size + 3 ≤ b) : Bs w w' x r a :=
  ⟨(hg.block _ (row_lt h.bx) (fun e => by have := ho _ e.symm; omega)).trans h.bx, (hg.block _ (row_lt h.bp) (fun e => by have := ho _ e.symm; omega)).trans h.bp, (hg.block _ (row_lt h.re) (fun e => by have := ho _ e.symm; omega)).trans h.re, h.bel.grown hg h.bel.size (fun k e => by have := ho _ e; omega), Nat.le_trans h.sz hg.size⟩
end

theorem sl_formP {w : World} {B : Nat} {s : Sl} {ns : List Int} (h : OwnN w B s.v ns) (h0 : 0 < ns.length) : ∃ g c, s = ⟨some ⟨g, 0, none⟩, ns.length, c⟩ := by
  obtain ⟨sa, sn, sc⟩ := s
  rcases h.form with ⟨_, e0⟩ | ⟨g, cap, e, _⟩
  · rw [e0] at h0; simp at h0
  · unfold Sl.v at e
    simp at e
    exact ⟨g, cap, by rw [e.1, e.2.1, e.2.2]⟩
/-- One register of an owned machine written. -/
theorem own_setR {w : World} {B gr n c : Nat} {y : Mv} {d : Md} (O : OwnM w B y d) (e : y.r = ⟨some ⟨gr, 0, none⟩, n, c⟩) (k : Nat) (v : Int) (hk : k < d.r.length) :
    OwnM (w.setCell ⟨gr, k, none⟩ (.int .i64 v)) B y ⟨d.m, d.r.set k v, d.i, d.o⟩ ∧ w.grownBy (w.setCell ⟨gr, k, none⟩ (.int .i64 v)) (some gr) ∧ B ≤ gr ∧ gr < w.heap.size ∧ w.cell? ⟨gr, k, none⟩ = some (.int .i64 (nAt d.r k)) ∧ w.frozen? ⟨gr, k, none⟩ = false := by
  have ev : y.r.v = .slice (some ⟨gr, 0, none⟩) n c := by rw [e]; rfl
  have o := O.r
  rw [ev] at o
  obtain ⟨c1, c2⟩ := o.cellAt k hk
  have st := o.set k v hk
  have lt := o.lt (g := gr) rfl
  exact ⟨O.putR (by rw [ev]; exact st.2) (by rw [ev]; exact st.1), st.2, lt.1, lt.2, c1, c2⟩
theorem own_rlt {w : World} {B gr n c : Nat} {y : Mv} {d : Md} (O : OwnM w B y d) (e : y.r = ⟨some ⟨gr, 0, none⟩, n, c⟩) : gr < w.heap.size := by
  have ev : y.r.v = .slice (some ⟨gr, 0, none⟩) n c := by rw [e]; rfl
  have o := O.r
  rw [ev] at o
  exact (o.lt (g := gr) rfl).2
theorem row_past {w w' : World} {g gr : Nat} {o : Obj} (h : w.heap[g]? = some o) (hg : w.grownBy w' (some gr)) (hne : gr ≠ g) : w'.heap[g]? = some o := (hg.block g (row_lt h) (fun e => hne (by cases e; rfl))).trans h

set_option maxHeartbeats 4000000 in
theorem storeS_any (x : Mv) (d : Md) (r a n : Int) (w : World) (hs : x.small) (hz : x.nz) (hr : RdM w x d) :
    Calls Try.prog 30 #[.agg x.cs, .agg #[.int .i64 r, .int .i64 a], .int .i64 n] w fun e w' => ∃ y : Mv, e = .returned (.tuple #[.agg y.cs, .bool (d.ldB r a)]) ∧ y.fl = x.fl ∧ OwnM w' (w.heap.size + 2) y (d.stD r a n) ∧ Below w.heap.size w w' := by
  have B := hide (bs_new w x r a)
  have X := hide (hr.later (unhide B).bel)
  by_cases h1 : r = -1
  · subst h1
    have R := hide (writeS_any x d a n _ hs hz (unhide X))
    unfold Md.stD Md.ldB
    rw [if_pos rfl, if_pos rfl]
    clear hr hs hz X
    go_enter Try.func30, Try.ntmps30
    go_wp2_with (first | (refine wpList_load_row rfl 28 _ rfl w.heap.size rfl 28 x.cs (0, 0) _ (unhide B).bx Try.underlying28 rfl (by kernel_rfl) ?_))
    refine (unhide R).mono ?_
    rintro e w1 ⟨y, rfl, fy, oy, hb⟩
    have FY := hide fy
    have O1 := hide (oy.base (C := w.heap.size + 3) (by have := (unhide B).sz; omega))
    have B1 := hide ((unhide B).later hb)
    clear fy oy hb R B
    go_wp2_with (first | (refine wpList_store_row rfl 28 _ _ rfl (w.heap.size + 1 + 1) y.cs rfl rfl 28 zMv.cs (unhide B1).re (by kernel_rfl) rfl (Mv.cs_one _) ?_))
    refine bodyPost_ret (results_row2 (P := Try.prog) rfl _ _ (w.heap.size + 1 + 1) 28 y.cs (0, 0) _ rfl (setRow_heap _ _ _ _ 28 _ (unhide B1).re) Try.underlying28 rfl (by kernel_rfl)) rfl ?_
    exact ⟨y, rfl, unhide FY, ((unhide O1).row (by omega) _).base (by omega), below_setRow (unhide B1).bel (by omega) _⟩
  · have c1 : x.cs[1]? = some (.slice x.r.a x.r.n x.r.c) := rfl
    have I := hide (fun w => in_any r 0 ((x.r.n : Int) - 1) w)
    have hn := hs.2.1
    have hw1 : IntKind.i64.wrap ((x.r.n : Int) - 1) = (x.r.n : Int) - 1 := by rw [IntKind.wrap_i64]; omega
    have M := hide (copyS_any x d _ hs hz (unhide X))
    unfold Md.stD Md.ldB
    rw [if_neg h1, if_neg h1]
    have HRL := hide hr.rl
    rw [hr.rl]
    obtain ⟨q, hq⟩ : ∃ q, inB r 0 ((x.r.n : Int) - 1) = q := ⟨_, rfl⟩
    rw [hq] at I ⊢
    have HQ := hide hq
    obtain ⟨bb, hbb⟩ : ∃ b, (a == -1) = b := ⟨_, rfl⟩
    rw [hbb]
    have HBB := hide hbb
    clear hr hs hz X hq hbb
    go_enter Try.func30, Try.ntmps30
    go_wp2_with (refine wpList_load_row rfl 28 _ rfl w.heap.size rfl 28 x.cs (0, 0) _ (unhide B).bx Try.underlying28 rfl (by kernel_rfl) ?_)
    refine (unhide M).mono ?_
    rintro e w1 ⟨y, rfl, fy, oy, hb⟩
    have FY := hide fy
    have O1 := hide ((oy.base (C := w.heap.size + 3) (by have := (unhide B).sz; omega)).later (below_new w1 (.cells y.cs 28)))
    have O0 := hide oy
    have B1 := hide (((unhide B).later hb).later (below_new w1 (.cells y.cs 28)))
    have G1 := hide (heap_alloc_last w1 (.cells y.cs 28))
    have Z1 := hide (((unhide B).later hb).sz)
    clear fy oy hb M B
    have b0 := (unhide B1).cr
    have b1 := (unhide B1).ca
    have b2 := row_r (unhide B1).bx
    cases q
    · go_wp2_with (first | (refine wpList_store_new rfl 28 _ _ rfl y.cs rfl rfl _ (by kernel_rfl) rfl (Mv.cs_one _) ?_) | (go_at_call 59; refine (unhide I _).mono ?_; rintro e w' ⟨rfl, hw'⟩; rw [hw']; clear hw' w') | (refine wpList_load_row rfl 28 _ rfl w1.heap.size rfl 28 y.cs (0, 0) _ (unhide G1) Try.underlying28 rfl (by kernel_rfl) ?_) | (refine wpList_store_row rfl 28 _ _ rfl (w.heap.size + 1 + 1) y.cs rfl rfl 28 zMv.cs (unhide B1).re (by kernel_rfl) rfl (Mv.cs_one _) ?_))
      refine bodyPost_ret (results_row2 (P := Try.prog) rfl _ _ (w.heap.size + 1 + 1) 28 y.cs (0, 0) _ rfl (setRow_heap _ _ _ _ 28 _ (unhide B1).re) Try.underlying28 rfl (by kernel_rfl)) rfl ?_
      exact ⟨y, rfl, unhide FY, ((unhide O1).row (by omega) _).base (by omega), below_setRow (unhide B1).bel (by omega) _⟩
    · cases bb
      rotate_left
      · obtain rfl : a = -1 := by simpa using unhide HBB
        go_wp2_with (first | (refine wpList_store_new rfl 28 _ _ rfl y.cs rfl rfl _ (by kernel_rfl) rfl (Mv.cs_one _) ?_) | (go_at_call 59; refine (unhide I _).mono ?_; rintro e w' ⟨rfl, hw'⟩; rw [hw']; clear hw' w'))
        obtain ⟨r0, r1⟩ : 0 ≤ r ∧ r ≤ (x.r.n : Int) - 1 := by have := unhide HQ; unfold inB at this; simpa using this
        obtain ⟨k, rfl⟩ := Int.eq_ofNat_of_zero_le r0
        have hkl : k < d.r.length := by have := unhide HRL; omega
        obtain ⟨gr, rc, er⟩ := sl_formP (unhide O1).r (by omega)
        have glt := own_rlt (unhide O0) er
        have gne : gr ≠ w1.heap.size := by omega
        clear b0 b1 b2
        generalize hwz : w1.alloc (Obj.cells y.cs 28) = wz at O1 B1 G1 ⊢
        clear hwz
        obtain ⟨o3, g3, gb, gl, cA1, cA2⟩ := own_setR ((unhide O1).later (below_drew (w := wz))) er k (n % 65536) hkl
        have O3 := hide o3
        have B3 := hide (((unhide B1).later below_drew).past g3 (fun b e => by cases e; omega))
        have G3 := hide (row_past (row_lat (unhide G1) below_drew) g3 (by omega))
        have D0 : Hid (wz.drew.cell? ⟨w1.heap.size, 1, none⟩ = some (.slice (some ⟨gr, 0, none⟩) d.r.length rc) ∧ wz.drew.cell? ⟨w.heap.size + 1, 0, none⟩ = some (.int .i64 (k : Int))) := hide ⟨by rw [row_r (row_lat (unhide G1) below_drew), er], ((unhide B1).later below_drew).cr⟩
        have C12 := hide (And.intro cA1 cA2)
        have ER := hide er
        have WR := hide (fun w => wrapS_any n w)
        obtain ⟨q, hq⟩ : ∃ q, n % 65536 = q := ⟨_, rfl⟩
        rw [hq] at O3 B3 G3 WR
        have HQQ := hide hq
        have hki : (k : Int) < (d.r.length : Int) := by omega
        clear hq o3 g3 gb gl cA1 cA2 er O1 G1 B1 O0 HQ c1 I glt gne
        refine wp_region_held_drew (S := fun v => v.cell? ⟨w1.heap.size, 1, none⟩ = some (.slice (some ⟨gr, 0, none⟩) d.r.length rc) ∧ v.cell? ⟨w.heap.size + 1, 0, none⟩ = some (.int .i64 (k : Int))) (by kernel_rfl) (unhide D0) (fun hS => ?_)
        have HS := hide hS
        clear hS
        refine wpAnyH_take (i := 0) (v := .pointer (some ⟨w1.heap.size, 1, none⟩)) rfl (by kernel_rfl) (by kernel_rfl) (by kernel_rfl) (fun _ _ _ h => h) (Or.inl ⟨by rfl, fun w hc => ?_⟩) (unhide HS) ?_
        · clear hc; go_simp
        go_simp
        refine wpAnyH_take (i := 1) (v := .slice (some ⟨gr, 0, none⟩) d.r.length rc) rfl (by kernel_rfl) (by kernel_rfl) (by kernel_rfl) (fun _ _ _ h => h) (Or.inl ⟨by rfl, fun w hc => ?_⟩) (unhide HS) ?_
        · have h1 := hc.1; clear hc; go_simp
        go_simp
        refine wpAnyH_take (i := 2) (v := .pointer (some ⟨w.heap.size + 1, 0, none⟩)) rfl (by kernel_rfl) (by kernel_rfl) (by kernel_rfl) (fun _ _ _ h => h) (Or.inl ⟨by rfl, fun w hc => ?_⟩) (unhide HS) ?_
        · clear hc; go_simp
        go_simp
        refine wpAnyH_take (i := 3) (v := .int .i64 (k : Int)) rfl (by kernel_rfl) (by kernel_rfl) (by kernel_rfl) (fun _ _ _ h => h) (Or.inl ⟨by rfl, fun w hc => ?_⟩) (unhide HS) ?_
        · have h1 := hc.2; clear hc; go_simp
        go_simp
        refine wpAnyH_take (i := 4) (v := .int .i64 n) rfl (by kernel_rfl) (by kernel_rfl) (by kernel_rfl) (fun _ _ _ h => h) (Or.inl ⟨by rfl, fun w hc => ?_⟩) (unhide HS) ?_
        · clear hc; go_simp
        go_simp
        refine wpAnyH_ready (rs := [5]) (by kernel_rfl) (by simp) ?_
        refine AllReadyH.cons rfl (fun K2 hK => ?_) AllReadyH.nil
        go_simp
        refine (unhide WR _).mono ?_
        rintro e w' ⟨rfl, hw'⟩
        rw [hw']
        clear hw' w'
        refine hK.out _ _ (unhide D0) (fun hS => ?_)
        clear HS
        have HS := hide hS
        clear hS hK K2
        refine wpAnyH_take (i := 6) (v := .pointer (some ⟨gr, k, none⟩)) rfl (by kernel_rfl) (by kernel_rfl) (by kernel_rfl) (fun _ _ _ h => h) (Or.inl ⟨by rfl, fun w hc => ?_⟩) (unhide HS) ?_
        · clear hc; go_simp
        go_simp
        refine wpAnyH_ready (rs := [7]) (by kernel_rfl) (by simp) ?_
        refine AllReadyH.cons rfl (fun K2 hK => ?_) AllReadyH.nil
        obtain ⟨cA1, cA2⟩ := unhide C12
        go_simp
        refine hK.out _ _ (⟨(row_r (unhide G3)).trans (by rw [unhide ER]), (unhide B3).cr⟩) (fun hS => ?_)
        clear HS
        have HS := hide hS
        clear hS hK K2
        refine wpAnyH_done (by kernel_rfl) ?_ _
        go_wp2_with (first | (refine wpList_load_row rfl 28 _ rfl w1.heap.size rfl 28 y.cs (0, 0) _ (unhide G3) Try.underlying28 rfl (by kernel_rfl) ?_) | (refine wpList_store_row rfl 28 _ _ rfl (w.heap.size + 1 + 1) y.cs rfl rfl 28 zMv.cs (unhide B3).re (by kernel_rfl) rfl (Mv.cs_one _) ?_))
        refine bodyPost_ret (results_row2 (P := Try.prog) rfl _ _ (w.heap.size + 1 + 1) 28 y.cs (0, 0) _ rfl (setRow_heap _ _ _ _ 28 _ (unhide B3).re) Try.underlying28 rfl (by kernel_rfl)) rfl ?_
        refine ⟨y, rfl, unhide FY, ?_, below_setRow (unhide B3).bel (by omega) _⟩
        show OwnM _ _ _ ⟨d.m, d.r.set ((k : Int)).toNat (n % 65536), d.i, d.o⟩
        rw [show ((k : Int)).toNat = k by omega, unhide HQQ]
        exact ((unhide O3).row (by omega) _).base (by omega)
      · have ha : ¬ a = -1 := by simpa using unhide HBB
        go_wp2_with (first | (refine wpList_store_new rfl 28 _ _ rfl y.cs rfl rfl _ (by kernel_rfl) rfl (Mv.cs_one _) ?_) | (go_at_call 59; refine (unhide I _).mono ?_; rintro e w' ⟨rfl, hw'⟩; rw [hw']; clear hw' w') | (refine wpList_load_row rfl 28 _ rfl w1.heap.size rfl 28 y.cs (0, 0) _ (unhide G1) Try.underlying28 rfl (by kernel_rfl) ?_) | (refine wpList_store_row rfl 28 _ _ rfl (w.heap.size + 1 + 1) y.cs rfl rfl 28 zMv.cs (unhide B1).re (by kernel_rfl) rfl (Mv.cs_one _) ?_))
        refine bodyPost_ret (results_row2 (P := Try.prog) rfl _ _ (w.heap.size + 1 + 1) 28 y.cs (0, 0) _ rfl (setRow_heap _ _ _ _ 28 _ (unhide B1).re) Try.underlying28 rfl (by kernel_rfl)) rfl ?_
        exact ⟨y, rfl, unhide FY, ((unhide O1).row (by omega) _).base (by omega), below_setRow (unhide B1).bel (by omega) _⟩
end Go.Proofs.Ytfkmibgamkignaa
