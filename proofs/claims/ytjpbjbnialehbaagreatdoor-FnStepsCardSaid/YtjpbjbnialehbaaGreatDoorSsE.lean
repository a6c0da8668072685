/- Contracts over this seat's translation, laid together; conditions stand as hypotheses of each. -/
import Derived.Test.YtjpbjbnialehbaaGreatDoorSsD
namespace Go.Proofs.YtjpbjbnialehbaaGreatDoor
open Go.ChangeShapes Go.WideShapes Go.ChangeAt Go.RowKit
set_option maxHeartbeats 16000000
set_option linter.unusedVariables false
set_option maxRecDepth 8000
set_option linter.unusedSimpArgs false
section
def Md.stD (d : Md) (r a n : Int) : Md := if r = -1 then d.put a n else if d.ldB r a = true then ⟨d.m, d.r.set r.toNat (n % 65536), d.i, d.o⟩ else d
structure Bs (w wr : World) (x : Mv) (r a : Int) : Prop where
 bx : wr.heap[w.heap.size]? = some (.cells x.cs 26 (0, 0))
 bp : wr.heap[w.heap.size + 1]? = some (.cells #[.int .i64 r, .int .i64 a] 97 (0, 0))
 re : wr.heap[w.heap.size + 1 + 1]? = some (.cells zMv.cs 26 (0, 0))
 bel : Below w.heap.size w wr
 sz : w.heap.size + 3 ≤ wr.heap.size
theorem bs_new (w : World) (x : Mv) (r a : Int) : Bs w (((w.alloc (.cells x.cs 26)).alloc (.cells #[.int .i64 r, .int .i64 a] 97)).alloc (.cells zMv.cs 26)) x r a :=
 ⟨row_lat (bp_new w x r a).bx (below_new _ _), row_lat (bp_new w x r a).bp (below_new _ _), by have := heap_alloc_last ((w.alloc (.cells x.cs 26)).alloc (.cells #[.int .i64 r, .int .i64 a] 97)) (.cells zMv.cs 26); simpa using this, (bp_new w x r a).bel.alloc (by simp; omega) _, by simp⟩
section
variable {w wr w' : World} {x : Mv} {r a : Int}
theorem Bs.later (h : Bs w wr x r a) (hb : Below wr.heap.size wr w') : Bs w w' x r a :=
 ⟨row_lat h.bx hb, row_lat h.bp hb, row_lat h.re hb, h.bel.trans (hb.mono (by have := h.sz; omega)), Nat.le_trans h.sz hb.size⟩
theorem Bs.cr (h : Bs w wr x r a) : wr.cell? ⟨w.heap.size + 1, 0, none⟩ = some (.int .i64 r) := (cell_of_row wr _ 0 _ 97 _ h.bp).trans rfl
theorem Bs.ca (h : Bs w wr x r a) : wr.cell? ⟨w.heap.size + 1, 1, none⟩ = some (.int .i64 a) := (cell_of_row wr _ 1 _ 97 _ h.bp).trans rfl
theorem Bs.past (h : Bs w wr x r a) {o : Option Nat} (hg : wr.grownBy w' o) (ho : ∀ b, o = some b → w.heap.size + 3 ≤ b) : Bs w w' x r a :=
 ⟨(hg.block _ (row_lt h.bx) (fun e => by have := ho _ e.symm; omega)).trans h.bx, (hg.block _ (row_lt h.bp) (fun e => by have := ho _ e.symm; omega)).trans h.bp, (hg.block _ (row_lt h.re) (fun e => by have := ho _ e.symm; omega)).trans h.re, h.bel.grown hg h.bel.size (fun k e => by have := ho _ e; omega), Nat.le_trans h.sz hg.size⟩
end
theorem sl_formP {w : World} {B : Nat} {s : Sl} {ns : List Int} (h : OwnN w B s.v ns) (h0 : 0 < ns.length) : ∃ g c, s = ⟨some ⟨g, 0, none⟩, ns.length, c⟩ := by
 obtain ⟨sa, sn, sc⟩ := s
 rcases h.form with ⟨_, e0⟩ | ⟨g, cap, e, _⟩
 · rw [e0] at h0; simp at h0
 ·
  unfold Sl.v at e
  simp at e
  exact ⟨g, cap, by rw [e.1, e.2.1, e.2.2]⟩
theorem own_setR {w : World} {B gr n c : Nat} {y : Mv} {d : Md} (O : OwnM w B y d) (e : y.r = ⟨some ⟨gr, 0, none⟩, n, c⟩) (k : Nat) (v : Int) (hk : k < d.r.length) :
  OwnM (w.setCell ⟨gr, k, none⟩ (.int .i64 v)) B y ⟨d.m, d.r.set k v, d.i, d.o⟩ ∧ w.grownBy (w.setCell ⟨gr, k, none⟩ (.int .i64 v)) (some gr) ∧ B ≤ gr ∧ gr < w.heap.size ∧ w.cell? ⟨gr, k, none⟩ = some (.int .i64 (nAt d.r k)) ∧ w.frozen? ⟨gr, k, none⟩ = false := by
 have ev : y.r.v = .slice (some ⟨gr, 0, none⟩) n c := by rw [e]; rfl
 have o := O.r
 rw [ev] at o
 obtain ⟨c1, c2⟩ := o.cellAt k hk
 have st := o.set k v hk
 have lt := o.lt (g := gr) rfl
 exact ⟨O.putR (by rw [ev]; exact st.2) (by rw [ev]; exact st.1), st.2, lt.1, lt.2, c1, c2⟩
theorem own_rlt {w : World} {B gr n c : Nat} {y : Mv} {d : Md} (O : OwnM w B y d) (e : y.r = ⟨some ⟨gr, 0, none⟩, n, c⟩) : gr < w.heap.size := by
 have ev : y.r.v = .slice (some ⟨gr, 0, none⟩) n c := by rw [e]; rfl
 have o := O.r
 rw [ev] at o
 exact (o.lt (g := gr) rfl).2
theorem row_past {w w' : World} {g gr : Nat} {o : Obj} (h : w.heap[g]? = some o) (hg : w.grownBy w' (some gr)) (hne : gr ≠ g) : w'.heap[g]? = some o := (hg.block g (row_lt h) (fun e => hne (by cases e; rfl))).trans h
theorem storeS_any (x : Mv) (d : Md) (r a n : Int) (w : World) (hs : x.small) (hz : x.nz) (hr : RdM w x d) :
  Calls Tryz.prog 144 #[.agg x.cs, .agg #[.int .i64 r, .int .i64 a], .int .i64 n] w fun e w' => ∃ y : Mv, e = .returned (.tuple #[.agg y.cs, .bool (d.ldB r a)]) ∧ y.fl = x.fl ∧ OwnM w' (w.heap.size + 2) y (d.stD r a n) ∧ Below w.heap.size w w' := by
 have B := hide (bs_new w x r a)
 have X := hide (hr.later (uh B).bel)
 by_cases h1 : r = -1
 ·
  subst h1
  have R := hide (writeS_any x d a n _ hs hz (uh X))
  unfold Md.stD Md.ldB
  rw [if_pos rfl, if_pos rfl]
  clear hr hs hz X
  go_enter Tryz.func144, Tryz.ntmps144
  go_wp2_with (first | (refine wpList_load_row rfl 26 _ rfl w.heap.size rfl 26 x.cs (0, 0) _ (uh B).bx Tryz.underlying26 rfl (by kernel_rfl) ?_))
  refine (uh R).mono ?_
  rintro e w1 ⟨y, rfl, fy, oy, hb⟩
  have FY := hide fy
  have O1 := hide (oy.base (C := w.heap.size + 3) (by have := (uh B).sz; omega))
  have B1 := hide ((uh B).later hb)
  clear fy oy hb R B
  go_wp2_with (first | (refine wpList_store_row rfl 26 _ _ rfl (w.heap.size + 1 + 1) y.cs rfl rfl 26 zMv.cs (uh B1).re (by kernel_rfl) rfl (Mv.cs_one _) ?_))
  refine bodyPost_ret (results_row2 (P := Tryz.prog) rfl _ _ (w.heap.size + 1 + 1) 26 y.cs (0, 0) _ rfl (setRow_heap _ _ _ _ 26 _ (uh B1).re) Tryz.underlying26 rfl (by kernel_rfl)) rfl ?_
  exact ⟨y, rfl, uh FY, ((uh O1).row (by omega) _).base (by omega), below_setRow (uh B1).bel (by omega) _⟩
 ·
  have c1 : x.cs[1]? = some (.slice x.r.a x.r.n x.r.c) := rfl
  have I := hide (fun w => in_any r 0 ((x.r.n : Int) - 1) w)
  have hn := hs.2.1
  have hw1 : IntKind.i64.wrap ((x.r.n : Int) - 1) = (x.r.n : Int) - 1 := by rw [IntKind.wrap_i64]; omega
  have M := hide (copyS_any x d _ hs hz (uh X))
  unfold Md.stD Md.ldB
  rw [if_neg h1, if_neg h1]
  have HRL := hide hr.rl
  rw [hr.rl]
  obtain ⟨q, hq⟩ : ∃ q, inB r 0 ((x.r.n : Int) - 1) = q := ⟨_, rfl⟩
  rw [hq] at I ⊢
  have HQ := hide hq
  obtain ⟨bb, hbb⟩ : ∃ b, (a == -1) = b := ⟨_, rfl⟩
  rw [hbb]
  have HBB := hide hbb
  clear hr hs hz X hq hbb
  go_enter Tryz.func144, Tryz.ntmps144
  go_wp2_with (refine wpList_load_row rfl 26 _ rfl w.heap.size rfl 26 x.cs (0, 0) _ (uh B).bx Tryz.underlying26 rfl (by kernel_rfl) ?_)
  refine (uh M).mono ?_
  rintro e w1 ⟨y, rfl, fy, oy, hb⟩
  have FY := hide fy
  have O1 := hide ((oy.base (C := w.heap.size + 3) (by have := (uh B).sz; omega)).later (below_new w1 (.cells y.cs 26)))
  have O0 := hide oy
  have B1 := hide (((uh B).later hb).later (below_new w1 (.cells y.cs 26)))
  have G1 := hide (heap_alloc_last w1 (.cells y.cs 26))
  have Z1 := hide (((uh B).later hb).sz)
  clear fy oy hb M B
  have b0 := (uh B1).cr
  have b1 := (uh B1).ca
  have b2 := row_r (uh B1).bx
  cases q
  ·
   go_wp2_with (first | (refine wpList_store_new rfl 26 _ _ rfl y.cs rfl rfl _ (by kernel_rfl) rfl (Mv.cs_one _) ?_) | (go_at_call 31; refine (uh I _).mono ?_; rintro e w' ⟨rfl, hw'⟩; rw [hw']; clear hw' w') | (refine wpList_load_row rfl 26 _ rfl w1.heap.size rfl 26 y.cs (0, 0) _ (uh G1) Tryz.underlying26 rfl (by kernel_rfl) ?_) | (refine wpList_store_row rfl 26 _ _ rfl (w.heap.size + 1 + 1) y.cs rfl rfl 26 zMv.cs (uh B1).re (by kernel_rfl) rfl (Mv.cs_one _) ?_))
   refine bodyPost_ret (results_row2 (P := Tryz.prog) rfl _ _ (w.heap.size + 1 + 1) 26 y.cs (0, 0) _ rfl (setRow_heap _ _ _ _ 26 _ (uh B1).re) Tryz.underlying26 rfl (by kernel_rfl)) rfl ?_
   exact ⟨y, rfl, uh FY, ((uh O1).row (by omega) _).base (by omega), below_setRow (uh B1).bel (by omega) _⟩
  ·
   cases bb
   rotate_left
   ·
    obtain rfl : a = -1 := by simpa using uh HBB
    go_wp2_with (first | (refine wpList_store_new rfl 26 _ _ rfl y.cs rfl rfl _ (by kernel_rfl) rfl (Mv.cs_one _) ?_) | (go_at_call 31; refine (uh I _).mono ?_; rintro e w' ⟨rfl, hw'⟩; rw [hw']; clear hw' w'))
    obtain ⟨r0, r1⟩ : 0 ≤ r ∧ r ≤ (x.r.n : Int) - 1 := by have := uh HQ; unfold inB at this; simpa using this
    obtain ⟨k, rfl⟩ := Int.eq_ofNat_of_zero_le r0
    have hkl : k < d.r.length := by have := uh HRL; omega
    obtain ⟨gr, rc, er⟩ := sl_formP (uh O1).r (by omega)
    have glt := own_rlt (uh O0) er
    have gne : gr ≠ w1.heap.size := by omega
    clear b0 b1 b2
    generalize hwz : w1.alloc (Obj.cells y.cs 26) = wz at O1 B1 G1 ⊢
    clear hwz
    obtain ⟨o3, g3, gb, gl, cA1, cA2⟩ := own_setR ((uh O1).later (below_drew (w := wz))) er k (n % 65536) hkl
    have O3 := hide o3
    have B3 := hide (((uh B1).later below_drew).past g3 (fun b e => by cases e; omega))
    have G3 := hide (row_past (row_lat (uh G1) below_drew) g3 (by omega))
    have D0 : Hid (wz.drew.cell? ⟨w1.heap.size, 1, none⟩ = some (.slice (some ⟨gr, 0, none⟩) d.r.length rc) ∧ wz.drew.cell? ⟨w.heap.size + 1, 0, none⟩ = some (.int .i64 (k : Int))) := hide ⟨by rw [row_r (row_lat (uh G1) below_drew), er], ((uh B1).later below_drew).cr⟩
    have C12 := hide (And.intro cA1 cA2)
    have ER := hide er
    have WR := hide (fun w => wrapS_any n w)
    obtain ⟨q, hq⟩ : ∃ q, n % 65536 = q := ⟨_, rfl⟩
    rw [hq] at O3 B3 G3 WR
    have HQQ := hide hq
    have hki : (k : Int) < (d.r.length : Int) := by omega
    clear hq o3 g3 gb gl cA1 cA2 er O1 G1 B1 O0 HQ c1 I glt gne
    refine wp_region_held_drew (S := fun v => v.cell? ⟨w1.heap.size, 1, none⟩ = some (.slice (some ⟨gr, 0, none⟩) d.r.length rc) ∧ v.cell? ⟨w.heap.size + 1, 0, none⟩ = some (.int .i64 (k : Int))) (by kernel_rfl) (uh D0) (fun hS => ?_)
    have HS := hide hS
    clear hS
    refine tkB 0 (.pointer (some ⟨w1.heap.size, 1, none⟩)) rfl (uh HS) ?_
    go_simp
    refine tkA 1 (.slice (some ⟨gr, 0, none⟩) d.r.length rc) rfl (.inl ⟨by rfl, fun w hc => ?_⟩) (uh HS) ?_
    · have h1 := hc.1; clear hc; go_simp
    go_simp
    refine tkB 2 (.pointer (some ⟨w.heap.size + 1, 0, none⟩)) rfl (uh HS) ?_
    go_simp
    refine tkA 3 (.int .i64 (k : Int)) rfl (.inl ⟨by rfl, fun w hc => ?_⟩) (uh HS) ?_
    · have h1 := hc.2; clear hc; go_simp
    go_simp
    refine tkB 4 (.int .i64 n) rfl (uh HS) ?_
    go_simp
    refine wpAnyH_ready (rs := [5]) (by kernel_rfl) (by simp) ?_
    refine AllReadyH.cons rfl (fun K2 hK => ?_) AllReadyH.nil
    go_simp
    refine (uh WR _).mono ?_
    rintro e w' ⟨rfl, hw'⟩
    rw [hw']
    clear hw' w'
    refine hK.out _ _ (uh D0) (fun hS => ?_)
    clear HS
    have HS := hide hS
    clear hS hK K2
    refine tkB 6 (.pointer (some ⟨gr, k, none⟩)) rfl (uh HS) ?_
    go_simp
    refine wpAnyH_ready (rs := [7]) (by kernel_rfl) (by simp) ?_
    refine AllReadyH.cons rfl (fun K2 hK => ?_) AllReadyH.nil
    obtain ⟨cA1, cA2⟩ := uh C12
    go_simp
    refine hK.out _ _ (⟨(row_r (uh G3)).trans (by rw [uh ER]), (uh B3).cr⟩) (fun hS => ?_)
    clear HS
    have HS := hide hS
    clear hS hK K2
    refine wpAnyH_done (by kernel_rfl) ?_ _
    go_wp2_with (first | (refine wpList_load_row rfl 26 _ rfl w1.heap.size rfl 26 y.cs (0, 0) _ (uh G3) Tryz.underlying26 rfl (by kernel_rfl) ?_) | (refine wpList_store_row rfl 26 _ _ rfl (w.heap.size + 1 + 1) y.cs rfl rfl 26 zMv.cs (uh B3).re (by kernel_rfl) rfl (Mv.cs_one _) ?_))
    refine bodyPost_ret (results_row2 (P := Tryz.prog) rfl _ _ (w.heap.size + 1 + 1) 26 y.cs (0, 0) _ rfl (setRow_heap _ _ _ _ 26 _ (uh B3).re) Tryz.underlying26 rfl (by kernel_rfl)) rfl ?_
    refine ⟨y, rfl, uh FY, ?_, below_setRow (uh B3).bel (by omega) _⟩
    show OwnM _ _ _ ⟨d.m, d.r.set ((k : Int)).toNat (n % 65536), d.i, d.o⟩
    rw [show ((k : Int)).toNat = k by omega, uh HQQ]
    exact ((uh O3).row (by omega) _).base (by omega)
   ·
    have ha : ¬ a = -1 := by simpa using uh HBB
    go_wp2_with (first | (refine wpList_store_new rfl 26 _ _ rfl y.cs rfl rfl _ (by kernel_rfl) rfl (Mv.cs_one _) ?_) | (go_at_call 31; refine (uh I _).mono ?_; rintro e w' ⟨rfl, hw'⟩; rw [hw']; clear hw' w') | (refine wpList_load_row rfl 26 _ rfl w1.heap.size rfl 26 y.cs (0, 0) _ (uh G1) Tryz.underlying26 rfl (by kernel_rfl) ?_) | (refine wpList_store_row rfl 26 _ _ rfl (w.heap.size + 1 + 1) y.cs rfl rfl 26 zMv.cs (uh B1).re (by kernel_rfl) rfl (Mv.cs_one _) ?_))
    refine bodyPost_ret (results_row2 (P := Tryz.prog) rfl _ _ (w.heap.size + 1 + 1) 26 y.cs (0, 0) _ rfl (setRow_heap _ _ _ _ 26 _ (uh B1).re) Tryz.underlying26 rfl (by kernel_rfl)) rfl ?_
    exact ⟨y, rfl, uh FY, ((uh O1).row (by omega) _).base (by omega), below_setRow (uh B1).bel (by omega) _⟩
end
section
def Md.reg (d : Md) (k : Nat) (v : Int) : Md := ⟨d.m, d.r.set k v, d.i, d.o⟩
def Md.fet (d : Md) : Md := if d.has (nAt d.r 7) = true then d.reg 7 ((nAt d.r 7 + 2) % 65536) else d
structure Pm (w : World) (g B gr rc : Nat) (x : Mv) (d : Md) : Prop where
 row : w.heap[g]? = some (.cells x.cs 26 (0, 0))
 own : OwnM w B x d
 er : x.r = ⟨some ⟨gr, 0, none⟩, d.r.length, rc⟩
 ne : gr ≠ g
section
variable {w w' : World} {g B gr rc : Nat} {x : Mv} {d : Md}
theorem Pm.later (h : Pm w g B gr rc x d) (hb : Below w.heap.size w w') : Pm w' g B gr rc x d := ⟨row_lat h.row hb, h.own.later hb, h.er, h.ne⟩
theorem Pm.set (h : Pm w g B gr rc x d) (k : Nat) (v : Int) (hk : k < d.r.length) : Pm (w.setCell ⟨gr, k, none⟩ (.int .i64 v)) g B gr rc x (d.reg k v) ∧ w.grownBy (w.setCell ⟨gr, k, none⟩ (.int .i64 v)) (some gr) ∧ w.cell? ⟨gr, k, none⟩ = some (.int .i64 (nAt d.r k)) ∧ w.frozen? ⟨gr, k, none⟩ = false := by
 obtain ⟨o3, g3, _, _, c1, c2⟩ := own_setR h.own h.er k v hk
 exact ⟨⟨row_past h.row g3 h.ne, o3, by rw [h.er]; unfold Md.reg; simp, h.ne⟩, g3, c1, c2⟩
theorem Pm.cell (h : Pm w g B gr rc x d) (k : Nat) (hk : k < d.r.length) : w.cell? ⟨gr, k, none⟩ = some (.int .i64 (nAt d.r k)) := (h.set k 0 hk).2.2.1
theorem Pm.r (h : Pm w g B gr rc x d) : w.cell? ⟨g, 1, none⟩ = some (.slice (some ⟨gr, 0, none⟩) d.r.length rc) := by rw [row_r h.row, h.er]
end
theorem fetchS_any (g B gr rc : Nat) (x : Mv) (d : Md) (w : World) (hs : x.small) (P : Pm w g B gr rc x d) (h8 : d.r.length = 8) (w0 : 0 ≤ nAt d.r 7) (w1 : nAt d.r 7 ≤ 65535) :
  Calls Tryz.prog 143 #[.pointer (some ⟨g, 0, none⟩)] w fun e w' => e = .returned (.tuple #[.int .i64 (d.get (nAt d.r 7)), .bool (d.has (nAt d.r 7))]) ∧ Pm w' g B gr rc x d.fet ∧ w.grownBy w' (some gr) := by
 have PM := hide P
 have R := hide (fun w (h : RdM w x d) => readS_any x d (nAt d.r 7) w hs h)
 have H8 := hide h8
 obtain ⟨v7, hv7⟩ : ∃ v, nAt d.r 7 = v := ⟨_, rfl⟩
 have HV := hide hv7
 unfold Md.fet
 rw [hv7] at w0 w1 R ⊢
 have CC := hide (fun v (h : Pm v g B gr rc x d) => (show v.cell? ⟨g, 1, none⟩ = some (.slice (some ⟨gr, 0, none⟩) 8 rc) ∧ v.cell? ⟨gr, 7, none⟩ = some (.int .i64 v7) by rw [h.r, h.cell 7 (by omega), hv7, h8]; exact ⟨rfl, rfl⟩))
 obtain ⟨q, hq⟩ : ∃ q, d.has v7 = q := ⟨_, rfl⟩
 obtain ⟨u, hu⟩ : ∃ u, d.get v7 = u := ⟨_, rfl⟩
 have hu0 : q = false → u = 0 := fun e => by rw [← hu]; unfold Md.get; rw [hq, e]; rfl
 have HU0 := hide hu0
 rw [hq, hu] at R
 rw [hq, hu]
 clear P hs h8 hv7 hq hu hu0
 go_enter Tryz.func143, Tryz.ntmps143
 go_wp2_with fail
 refine wp_region_held_drew (S := fun v => Pm v g B gr rc x d) (by kernel_rfl) ((uh PM).later below_drew) (fun hS => ?_)
 have HS := hide hS
 clear hS
 refine tkB 0 (.pointer (some ⟨g, 0, none⟩)) rfl (uh HS) ?_
 go_simp
 refine tkB 1 (.pointer (some ⟨g, 0, none⟩)) rfl (uh HS) ?_
 go_simp
 refine tkA 2 (.agg x.cs) rfl (yields_load rfl 26 _ rfl g rfl 26 x.cs _ (fun w h => h.row) Tryz.underlying26 rfl (by kernel_rfl)) (uh HS) ?_
 go_simp
 refine tkB 3 (.pointer (some ⟨g, 0, none⟩)) rfl (uh HS) ?_
 go_simp
 refine tkB 4 (.pointer (some ⟨g, 0, none⟩)) rfl (uh HS) ?_
 go_simp
 refine tkB 5 (.pointer (some ⟨g, 1, none⟩)) rfl (uh HS) ?_
 go_simp
 refine tkA 6 (.slice (some ⟨gr, 0, none⟩) 8 rc) rfl (.inl ⟨by rfl, fun w hc => ?_⟩) (uh HS) ?_
 · obtain ⟨h1, h2⟩ := uh CC _ hc; clear hc; go_simp
 go_simp
 refine tkB 7 (.pointer (some ⟨gr, 7, none⟩)) rfl (uh HS) ?_
 go_simp
 refine tkA 8 (.int .i64 v7) rfl (.inl ⟨by rfl, fun w hc => ?_⟩) (uh HS) ?_
 · obtain ⟨h1, h2⟩ := uh CC _ hc; clear hc; go_simp
 go_simp
 refine wpAnyH_ready (rs := [9]) (by kernel_rfl) (by simp) ?_
 refine AllReadyH.cons rfl (fun K2 hK => ?_) AllReadyH.nil
 go_simp
 refine (uh R _ (uh HS).own.rd).mono ?_
 rintro e w2 ⟨rfl, hb⟩
 have GW := hide ((show w.grownBy w.drew (some gr) from ⟨rfl, rfl, rfl, Nat.le_refl _, fun _ _ _ => rfl⟩).trans ⟨hb.os, hb.tape, hb.output, hb.size, fun k hk _ => hb.block k hk⟩)
 refine hK.out _ _ ((uh HS).later hb) (fun hS => ?_)
 clear HS
 have HS := hide hS
 clear hS hK K2
 clear hb R PM
 refine tkB 10 (.tuple #[.int .i64 u, .bool q]) rfl (uh HS) ?_
 go_simp
 refine tkB 11 (.int .i64 u) rfl (uh HS) ?_
 go_simp
 refine tkB 12 (.bool q) rfl (uh HS) ?_
 go_simp
 refine tkB 13 (.int .i64 u) rfl (uh HS) ?_
 go_simp
 refine tkB 14 (.bool q) rfl (uh HS) ?_
 go_simp
 refine wpAnyH_done (by kernel_rfl) ?_ _
 have PM := hide (uh HS)
 clear HS
 cases q
 ·
  obtain rfl := uh HU0 (by trivial)
  go_wp2_with fail
  go_ret2
  exact ⟨rfl, uh PM, uh GW⟩
 ·
  go_wp2_with fail
  obtain ⟨c1, c2⟩ := uh CC _ ((uh PM).later (below_drew (w := w2)))
  obtain ⟨p3, g3, -, c3⟩ := ((uh PM).later (below_drew (w := w2))).set 7 ((v7 + 2) % 65536) (by have := uh H8; omega)
  have P3 := hide p3
  have G3 := hide ((uh GW).trans ((show w2.grownBy w2.drew (some gr) from ⟨rfl, rfl, rfl, Nat.le_refl _, fun _ _ _ => rfl⟩).trans g3))
  have C1 := hide c1
  have C2 := hide (And.intro c2 c3)
  have E3 := hide (show (w2.drew.setCell ⟨gr, 7, none⟩ (.int .i64 ((v7 + 2) % 65536))).cell? ⟨g, 1, none⟩ = some (Value.slice (some ⟨gr, 0, none⟩) 8 rc) by have := p3.r; unfold Md.reg at this; rw [List.length_set, uh H8] at this; exact this)
  have WR := hide (fun w => wrapS_any (v7 + 2) w)
  have HW := hide (show IntKind.i64.wrap (v7 + 2) = v7 + 2 by rw [IntKind.wrap_i64]; omega)
  obtain ⟨t, ht⟩ : ∃ t, (v7 + 2) % 65536 = t := ⟨_, rfl⟩
  rw [ht] at P3 G3 E3 WR
  have HT := hide ht
  clear ht p3 g3 c1 c2 c3 GW PM CC
  refine wp_region_held_drew (S := fun v => v.cell? ⟨g, 1, none⟩ = some (.slice (some ⟨gr, 0, none⟩) 8 rc)) (by kernel_rfl) (uh C1) (fun hS => ?_)
  have HS := hide hS
  clear hS
  refine tkB 0 (.pointer (some ⟨g, 0, none⟩)) rfl (uh HS) ?_
  go_simp
  refine tkB 1 (.pointer (some ⟨g, 0, none⟩)) rfl (uh HS) ?_
  go_simp
  refine tkB 2 (.pointer (some ⟨g, 1, none⟩)) rfl (uh HS) ?_
  go_simp
  refine tkA 3 (.slice (some ⟨gr, 0, none⟩) 8 rc) rfl (.inl ⟨by rfl, fun w hc => ?_⟩) (uh HS) ?_
  · go_simp
  go_simp
  refine tkB 4 (.pointer (some ⟨g, 0, none⟩)) rfl (uh HS) ?_
  go_simp
  refine tkB 5 (.pointer (some ⟨g, 0, none⟩)) rfl (uh HS) ?_
  go_simp
  refine tkB 6 (.pointer (some ⟨g, 1, none⟩)) rfl (uh HS) ?_
  go_simp
  refine tkA 7 (.slice (some ⟨gr, 0, none⟩) 8 rc) rfl (.inl ⟨by rfl, fun w hc => ?_⟩) (uh HS) ?_
  · go_simp
  go_simp
  refine tkB 8 (.pointer (some ⟨gr, 7, none⟩)) rfl (uh HS) ?_
  go_simp
  refine wpAnyH_ready (rs := [9]) (by kernel_rfl) (by simp) ?_
  refine AllReadyH.cons rfl (fun K2 hK => ?_) AllReadyH.nil
  obtain ⟨c2, c3⟩ := uh C2
  go_simp
  clear c2 c3
  refine hK.out _ _ (uh C1) (fun hS => ?_)
  clear HS
  have HS := hide hS
  clear hS hK K2
  refine tkA 10 (.int .i64 (v7 + 2)) rfl (.inl ⟨by rfl, fun w hc => ?_⟩) (uh HS) ?_
  · clear hc; have hw := uh HW; go_simp
  go_simp
  refine wpAnyH_ready (rs := [11]) (by kernel_rfl) (by simp) ?_
  refine AllReadyH.cons rfl (fun K2 hK => ?_) AllReadyH.nil
  go_simp
  refine (uh WR _).mono ?_
  rintro e w' ⟨rfl, hw'⟩
  rw [hw']
  clear hw' w'
  refine hK.out _ _ (uh C1) (fun hS => ?_)
  clear HS
  have HS := hide hS
  clear hS hK K2
  refine tkB 12 (.pointer (some ⟨gr, 7, none⟩)) rfl (uh HS) ?_
  go_simp
  refine wpAnyH_ready (rs := [13]) (by kernel_rfl) (by simp) ?_
  refine AllReadyH.cons rfl (fun K2 hK => ?_) AllReadyH.nil
  obtain ⟨c2, c3⟩ := uh C2
  go_simp
  clear c2 c3
  refine hK.out _ _ (uh E3) (fun hS => ?_)
  clear HS
  have HS := hide hS
  clear hS hK K2
  refine wpAnyH_done (by kernel_rfl) ?_ _
  clear HS
  go_wp2_with fail
  go_ret2
  refine ⟨rfl, ?_, uh G3⟩
  show Pm _ _ _ _ _ _ (d.reg 7 ((v7 + 2) % 65536))
  rw [uh HT]
  exact uh P3
end
end Go.Proofs.YtjpbjbnialehbaaGreatDoor
