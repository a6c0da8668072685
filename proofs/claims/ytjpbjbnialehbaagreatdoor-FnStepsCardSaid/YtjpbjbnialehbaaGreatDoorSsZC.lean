/- Contracts over this seat's translation, laid together; conditions stand as hypotheses of each. -/
import Derived.Test.YtjpbjbnialehbaaGreatDoorSsZB
import Derived.Deep.CutRange
import Derived.Lib.SmallJoins
import Derived.Test.YtjpbjbnialehbaaGreatDoorRows
import Derived.Lib.LaidTab
import Derived.MakeChecks
namespace Go.Proofs.YtjpbjbnialehbaaGreatDoor
open Go.ChangeShapes Go.WideShapes Go.ChangeAt Go.RowKit
set_option maxHeartbeats 16000000
set_option linter.unusedVariables false
set_option maxRecDepth 8000
theorem own : ownKnob Tryz.prog.godebug = none := by kernel_rfl
theorem laidOut : laidOutB Tryz.prog = true := by kernel_rfl
theorem gTab : Tryz.prog.globalNamed "loop.example/g00329/impl.firstWords" = some 0 := by kernel_rfl
theorem tTab : (Tryz.prog.globals[0]?).map (·.type) = some 114 := by kernel_rfl
theorem tabL_eq : (Rows.laid_loop_example_g00329_impl_firstWords : DataW Unit) = Lib.tabData .i64 baseL := by kernel_rfl
theorem tab_of_laid {W : World} (h : laidMetH Tryz.prog [("loop.example/g00329/impl.firstWords", Rows.laid_loop_example_g00329_impl_firstWords)] W) : Tab W := by
 rw [MakeChecks.laidMetH_plain _ _ _ (by kernel_rfl)] at h
 rw [tabL_eq] at h
 have h2 := Lib.tabIs_of_head gTab tTab Tryz.underlying114 Tryz.underlying3 (by kernel_rfl) (by kernel_rfl) h
 have hc : ∀ k, k < 24 → W.cell? ⟨0, k, none⟩ = some (.int .i64 (baseAt k)) := fun k hk => by
  have hk' : k < baseL.length := hk
  rw [h2.cell gTab k hk']; rfl
 exact ⟨World.block_lt_of_cell? W _ (hc 0 (by omega)), hc⟩
set_option linter.unusedSimpArgs false
section
theorem r8_stA (t : Ms) (st : Int) (h : t.d.r.length ≤ 8) : (t.stA st).d.r.length ≤ 8 := by
 unfold Ms.stA
 split
 ·
  rename_i hc
  simp only [Bool.and_eq_true, beq_iff_eq] at hc
  exact Nat.le_of_eq (nx_stp (dk_of hc.1).1 hc.2.2).1.dk.rl
 · exact h
def Tri (x : Mv) (d d2 : Md) (f : Bool × Bool × Bool × Bool × Int) : Prop :=
 ((d.ok x.st = false ∨ x.st ≠ 0) ∧ d2 = d ∧ f = x.fl) ∨ (d.ok x.st = true ∧ x.st = 0 ∧ d2 = d ∧ f = (x.n, x.z, x.v, x.c, 2)) ∨ (d.ok x.st = true ∧ x.st = 0 ∧ Nx d d2 ∧ (f.2.2.2.2 = 0 ∨ f.2.2.2.2 = 1))
theorem tri_of (x : Mv) (d : Md) : Tri x d ((x.ms d).stA x.st).d (((x.ms d).stA x.st).fl ((x.ms d).stN x.st)) := by
 unfold Ms.stA Ms.stN
 cases hno : (d.ok x.st && x.st == 0)
 ·
  have e1 : ((x.ms d).d.ok x.st && x.st == 0) = false := hno
  have e2 : ((x.ms d).d.ok x.st && (x.st == 0 && (x.ms d).stpB)) = false := by rw [← Bool.and_assoc, e1, Bool.false_and]
  rw [e1, e2, if_neg (by simp), if_neg (by simp)]
  refine .inl ⟨?_, rfl, rfl⟩
  cases h : d.ok x.st
  · exact .inl rfl
  ·
   rw [h, Bool.true_and] at hno
   exact .inr (by simpa using hno)
 ·
  have e1 : ((x.ms d).d.ok x.st && x.st == 0) = true := hno
  have e2 : ((x.ms d).d.ok x.st && (x.st == 0 && (x.ms d).stpB)) = (x.ms d).stpB := by rw [← Bool.and_assoc, e1, Bool.true_and]
  simp only [Bool.and_eq_true, beq_iff_eq] at hno
  rw [e1, e2, if_pos rfl]
  cases hb : (x.ms d).stpB
  ·
   rw [if_neg (by simp), if_neg (by simp)]
   exact .inr (.inl ⟨hno.1, hno.2, rfl, rfl⟩)
  ·
   rw [if_pos rfl, if_pos rfl]
   have q := nx_stp (t := x.ms d) (dk_of hno.1).1 hb
   exact .inr (.inr ⟨hno.1, hno.2, q.1, q.2⟩)
structure Bo (w wr : World) : Prop where
 rm : wr.heap[w.heap.size]? = some (.cells zMv.cs 26 (0, 0))
 bel : Below w.heap.size w wr
 sz : w.heap.size + 1 ≤ wr.heap.size
section
variable {w wr w' : World}
theorem bo_new (w : World) : Bo w (w.alloc (.cells zMv.cs 26)) := ⟨heap_alloc_last w _, below_new w _, by simp⟩
theorem Bo.later (h : Bo w wr) (hb : Below wr.heap.size wr w') : Bo w w' := ⟨row_lat h.rm hb, h.bel.trans (hb.mono h.bel.size), Nat.le_trans h.sz hb.size⟩
theorem Bo.past (h : Bo w wr) {cb : Nat} (hg : wr.grownBy w' (some cb)) (hc : w.heap.size + 1 ≤ cb) : Bo w w' :=
 ⟨row_past h.rm hg (by omega), h.bel.grown hg h.bel.size (fun k e => by cases e; omega), Nat.le_trans h.sz hg.size⟩
theorem Bo.done (h : Bo w wr) (cs : Array Value) : (wr.setRow w.heap.size cs).heap[w.heap.size]? = some (.cells cs 26 (0, 0)) ∧ Below w.heap.size w (wr.setRow w.heap.size cs) :=
 ⟨setRow_heap _ _ _ _ 26 _ h.rm, below_setRow h.bel (by omega) _⟩
end
structure Dw (w wr : World) (a : Option Addr) (len cap : Nat) (xs : List UInt8) (g : Nat) (y : Mv) (d : Md) : Prop where
 bo : Bo w wr
 cur : Cur wr (w.heap.size + 1) a len cap xs
 rg : wr.heap[g]? = some (.cells y.cs 26 (0, 0))
 gl : w.heap.size + 2 ≤ g
 cd : xs = [] ∨ ∀ ad, a = some ad → ad.block < w.heap.size + 2
 am : Am wr (w.heap.size + 2) y d
section
variable {w wr w' : World} {a : Option Addr} {len cap : Nat} {xs : List UInt8} {g : Nat} {y y2 : Mv} {d d2 : Md}
theorem Dw.draw (h : Dw w wr a len cap xs g y d) (hc : Cur w' (w.heap.size + 1) a len cap xs) (hg : wr.grownBy w' (some (w.heap.size + 1))) : Dw w w' a len cap xs g y d :=
 ⟨h.bo.past hg (Nat.le_refl _), hc, row_past h.rg hg (by have := h.gl; omega), h.gl, h.cd, h.am.past hg (fun b e => by cases e; omega)⟩
theorem Dw.step (h : Dw w wr a len cap xs g y d) (own : OwnM w' (wr.heap.size + 2) y2 d2) (hs : d2.small) (h8 : d2.r.length ≤ 8) (hb : Below wr.heap.size wr w') : Dw w (w'.setRow g y2.cs) a len cap xs g y2 d2 := by
 have gl := h.gl
 have lt := row_lt h.rg
 have b := h.bo.later hb
 exact ⟨⟨(setRow_other _ _ _ _ (by omega)).trans b.rm, below_setRow b.bel (by omega) _, by rw [setRow_size]; exact b.sz⟩, (h.cur.later hb).past (grownBy_setRow _) (B := w.heap.size + 2) (by omega) h.cd (fun k e => by cases e; exact gl), setRow_heap _ _ _ _ 26 _ (row_lat h.rg hb), gl, h.cd, ((own.row (by omega) _).am hs h8).base (by omega)⟩
end
theorem rd_cd {w : World} {a : Option Addr} {xs : List UInt8} (h : Rd w a xs) : xs = [] ∨ ∀ ad, a = some ad → ad.block < w.heap.size + 2 := by
 rcases h with h0 | ⟨b, off, ha, hb, _⟩
 · exact .inl h0
 · exact .inr fun ad e => by rw [ha] at e; cases e; show b < _; omega
set_option maxRecDepth 100000 in
theorem drawStep_any (a : Option Addr) (len cap : Nat) (xs : List UInt8) (w : World) (hl : xs.length = len) (hm : len ≤ 1048576) (hr : Rd w a xs) :
  Calls Tryz.prog 6 #[.slice a len cap] w fun e w' => ∃ (x : Mv) (d : Md), e = .returned (.agg x.cs) ∧ Am w' (w.heap.size + 1) x d ∧ Below w.heap.size w w' := by
 have b0 := bo_new w
 have B0 := hide b0
 have CD := hide (rd_cd hr)
 have P := hide (new_any a len cap xs (w.alloc (.cells zMv.cs 26)) hl hm (hr.later b0.bel))
 rw [show (w.alloc (.cells zMv.cs 26)).heap.size = w.heap.size + 1 by simp] at P
 clear hr b0
 go_enter Tryz.func6, Tryz.ntmps6
 go_wp2_with fail
 refine (uh P).mono ?_
 rintro e w1 ⟨rfl, hc1, hb1⟩
 have C1 := hide hc1
 have B1 := hide ((uh B0).later (by simpa using hb1))
 clear P hc1 hb1 B0
 have P := hide (draw5_any (w.heap.size + 1) a len cap xs w1 (uh C1))
 go_wp2_with fail
 refine (uh P).mono ?_
 rintro e w2 ⟨x, d, rfl, -, dk, om, hc2, hg2⟩
 have S1 := hide (show w.heap.size + 2 ≤ w1.heap.size by have := (uh C1).lt; omega)
 have D2 := hide (show Dw w (w2.alloc (.cells x.cs 26)) a len cap xs w2.heap.size x d from
  ⟨((uh B1).past hg2 (Nat.le_refl _)).later (below_new w2 _), hc2.later (below_new w2 _), heap_alloc_last w2 _, by have := uh S1; have := hg2.size; omega, uh CD, ((om.am dk.small (Nat.le_of_eq dk.rl)).base (by have := uh S1; omega)).later (below_new w2 _)⟩)
 clear P om hc2 hg2 B1 C1 dk CD S1
 have P := hide (below_any (w.heap.size + 1) a len cap xs 4 _ (by omega) (uh D2).cur)
 go_wp2_with (refine wpList_store_new rfl 26 _ _ rfl x.cs rfl rfl _ (by kernel_rfl) rfl (Mv.cs_one _) ?_)
 refine (uh P).mono ?_
 rintro e w3 ⟨k, hk, -, rfl, hc2, hg2⟩
 obtain ⟨k0, k1⟩ := hk (by omega)
 have D3 := hide ((uh D2).draw hc2 hg2)
 clear P hc2 hg2 D2 hk
 generalize w2.heap.size = g at D3 ⊢
 go_wp2_with fail
 go_loopw [5] (fun v5 wr => ∃ (j : Nat) (y : Mv) (e : Md), j ≤ 3 ∧ v5 = .int .i64 j ∧ Hid (Dw w wr a len cap xs g y e)) (fun v5 _ => (intOf v5).toNat)
 case atStart => exact ⟨k.toNat, x, d, by omega, by rw [Int.toNat_of_nonneg k0], D3⟩
 case round =>
  clear D3 k0 k1
  obtain ⟨j, y, e, hj, rfl, DD⟩ := hrel
  by_cases hlt : 0 < j
  ·
   have hlt' : (0 : Int) < (j : Int) := by omega
   have K := hide (stepS_all y e _ (small_mv (uh DD).am.rd (uh DD).am.sm) (uh DD).am.nz (uh DD).am.rd)
   have T := hide (show ((y.ms e).stA y.st).d.small ∧ ((y.ms e).stA y.st).d.r.length ≤ 8 from ⟨small_stA _ _ (uh DD).am.sm, r8_stA _ _ (uh DD).am.r8⟩)
   unfold SsIs at K
   generalize ((y.ms e).stA y.st).fl ((y.ms e).stN y.st) = F2 at K
   generalize ((y.ms e).stA y.st).d = E2 at K T
   have RG := hide (uh DD).rg
   go_wp2_with (refine wpList_load_row rfl 26 _ rfl g rfl 26 y.cs (0, 0) _ (uh RG) Tryz.underlying26 rfl (by kernel_rfl) ?_)
   refine (uh K).mono ?_
   rintro e w5 ⟨s, rfl, -, os, hb⟩
   have R5 := hide (row_lat (uh RG) hb)
   have D5 := hide ((uh DD).step os (uh T).1 (uh T).2 hb)
   clear K T RG DD os hb
   go_wp2_with (refine wpList_store_row rfl 26 _ _ rfl g s.cs rfl rfl 26 y.cs (uh R5) (by kernel_rfl) rfl (Mv.cs_one _) ?_)
   go_roundw
   case rel => exact ⟨j - 1, s, E2, by omega, by rw [show ((j - 1 : Nat) : Int) = (j : Int) - 1 by omega], D5⟩
   case measure => simp [intOf]; omega
  ·
   obtain rfl : j = 0 := by omega
   have P := hide (once_any (w.heap.size + 1) a len cap xs 12 _ (by omega) (uh DD).cur)
   go_wp2_with fail
   refine (uh P).mono ?_
   rintro e w6 ⟨b, rfl, hc2, hg2⟩
   have D6 := hide ((uh DD).draw hc2 hg2)
   clear P hc2 hg2 DD
   cases b
   ·
    have RG := hide (uh D6).rg
    have RM := hide (uh D6).bo.rm
    go_wp2_with (first | (refine wpList_load_row rfl 26 _ rfl g rfl 26 y.cs (0, 0) _ (uh RG) Tryz.underlying26 rfl (by kernel_rfl) ?_) | (refine wpList_store_row rfl 26 _ _ rfl w.heap.size y.cs rfl rfl 26 zMv.cs (uh RM) (by kernel_rfl) rfl (Mv.cs_one _) ?_))
    obtain ⟨r1, r3⟩ := (uh D6).bo.done y.cs
    refine bodyPost_ret (results_cell_row (P := Tryz.prog) rfl _ _ w.heap.size 26 y.cs (0, 0) _ rfl r1 Tryz.underlying26 rfl (by kernel_rfl)) rfl ?_
    exact ⟨y, _, rfl, ((uh D6).am.base (by omega)).row (by omega) _, r3⟩
   ·
    have P := hide (any5_any (w.heap.size + 1) a len cap xs w6 (uh D6).cur)
    go_wp2_with fail
    refine (uh P).mono ?_
    rintro e w7 ⟨z, dz, rfl, am, hc2, hg2⟩
    have B7 := hide ((uh D6).bo.past hg2 (Nat.le_refl _))
    have A7 := hide (am.base (C := w.heap.size + 1) (by have := (uh D6).bo.sz; omega))
    clear P am hc2 hg2 D6
    go_wp2_with (refine wpList_store_row rfl 26 _ _ rfl w.heap.size z.cs rfl rfl 26 zMv.cs (uh B7).rm (by kernel_rfl) rfl (Mv.cs_one _) ?_)
    obtain ⟨r1, r3⟩ := (uh B7).done z.cs
    refine bodyPost_ret (results_cell_row (P := Tryz.prog) rfl _ _ w.heap.size 26 z.cs (0, 0) _ rfl r1 Tryz.underlying26 rfl (by kernel_rfl)) rfl ?_
    exact ⟨z, dz, rfl, (uh A7).row (by omega) _, r3⟩
end
structure Lc (W wr : World) (a : Option Addr) (xs : List UInt8) : Prop where
 bel : Below W.heap.size W wr
 rd : Rd wr a xs
theorem Lc.later {W w w' : World} {a : Option Addr} {xs : List UInt8} (h : Lc W w a xs) (hb : Below w.heap.size w w') : Lc W w' a xs := ⟨h.bel.trans (hb.mono h.bel.size), h.rd.later hb⟩
end Go.Proofs.YtjpbjbnialehbaaGreatDoor
