/- Contracts over this seat's translation, laid together; conditions stand as hypotheses of each. -/
import Derived.Test.YtjpbjbnialehbaaGreatDoorSsL
namespace Go.Proofs.YtjpbjbnialehbaaGreatDoor
open Go.ChangeShapes Go.WideShapes Go.ChangeAt Go.RowKit
set_option maxHeartbeats 16000000
set_option linter.unusedVariables false
set_option maxRecDepth 8000
set_option linter.unusedSimpArgs false
section
def LoS (B : Nat) (s : Sl) (ns : List Int) : Prop := ns = [] ∨ ∀ ad, s.a = some ad → B ≤ ad.block
structure Am (w : World) (B : Nat) (x : Mv) (d : Md) : Prop where
 rd : RdM w x d
 sm : d.small
 nz : x.nz
 r8 : d.r.length ≤ 8
 lm : LoS B x.m d.m
 lr : LoS B x.r d.r
 li : LoS B x.i d.i
 lo : LoS B x.o d.o
section
variable {w w' : World} {B : Nat} {x : Mv} {d : Md}
theorem RdN.pastB {a : Option Addr} {ns : List Int} {r : Option Nat} (h : RdN w a ns) (hg : w.grownBy w' r) (hl : ns = [] ∨ ∀ ad, a = some ad → B ≤ ad.block) (hr : ∀ b, r = some b → b < B) : RdN w' a ns := by
 rcases h with h0 | ⟨b, off, ha, hb, hc⟩
 · exact .inl h0
 ·
  by_cases h0 : ns = []
  · exact .inl h0
  refine .inr ⟨b, off, ha, Nat.lt_of_lt_of_le hb hg.size, fun i hi => ?_⟩
  rcases hl with hl | hl
  · exact absurd hl h0
  have hB := hl _ ha
  have e : w'.heap[b]? = w.heap[b]? := hg.block b hb (fun e => by have := hr _ e.symm; simp only at hB; omega)
  rw [← hc i hi]
  unfold World.cell?
  simp only [e]
theorem Am.past {r : Option Nat} (h : Am w B x d) (hg : w.grownBy w' r) (hr : ∀ b, r = some b → b < B) : Am w' B x d :=
 { h with rd := ⟨h.rd.m.pastB hg h.lm hr, h.rd.r.pastB hg h.lr hr, h.rd.i.pastB hg h.li hr, h.rd.o.pastB hg h.lo hr, h.rd.ml, h.rd.rl, h.rd.il, h.rd.ol⟩ }
theorem Am.later (h : Am w B x d) (hb : Below w.heap.size w w') : Am w' B x d := { h with rd := h.rd.later hb }
theorem Am.row (h : Am w B x d) {g : Nat} (hg : g < B) (cs : Array Value) : Am (w.setRow g cs) B x d := h.past (grownBy_setRow cs) (fun b e => by cases e; exact hg)
theorem Am.base {C : Nat} (h : Am w B x d) (hC : C ≤ B) : Am w C x d :=
 { h with lm := h.lm.imp id (fun k ad e => Nat.le_trans hC (k ad e)), lr := h.lr.imp id (fun k ad e => Nat.le_trans hC (k ad e)), li := h.li.imp id (fun k ad e => Nat.le_trans hC (k ad e)), lo := h.lo.imp id (fun k ad e => Nat.le_trans hC (k ad e)) }
theorem OwnN.los {s : Sl} {ns : List Int} (h : OwnN w B s.v ns) : LoS B s ns := by
 obtain ⟨h1, ⟨h2, h3⟩ | ⟨gm, cap, cur, e, hB, hh, hn, hm, hs, ht⟩⟩ := id h
 · exact .inl (List.eq_nil_of_length_eq_zero h3)
 ·
  refine .inr fun ad ea => ?_
  have e2 : s.v = Value.slice s.a s.n s.c := rfl
  rw [e2, ea] at e
  injection e with e
  injection e with e
  rw [e]
  exact hB
theorem OwnM.am (h : OwnM w B x d) (hs : d.small) (h8 : d.r.length ≤ 8) : Am w B x d := ⟨h.rd, hs, h.nz, h8, h.m.los, h.r.los, h.i.los, h.o.los⟩
end
theorem Am.ofM {w : World} {B : Nat} {y : Mv} {d : Md} (O : OwnM w B y d) (hD : Dk d) {s : Sl} {ns : List Int} (hr : RdN w s.a ns) (hl : ns.length = s.n) (hb : ns.length ≤ 1048576) (hz : s.nz) (lo : LoS B s ns) : Am w B { y with m := s } ⟨ns, d.r, d.i, d.o⟩ :=
 ⟨⟨hr, O.rd.r, O.rd.i, O.rd.o, hl, O.rd.rl, O.rd.il, O.rd.ol⟩, ⟨hb, hD.small.2⟩, ⟨hz, O.nz.2⟩, by have := hD.rl; show d.r.length ≤ 8; omega, lo, O.r.los, O.i.los, O.o.los⟩
theorem Am.ofR {w : World} {B : Nat} {y : Mv} {d : Md} (O : OwnM w B y d) (hD : Dk d) {s : Sl} {ns : List Int} (hr : RdN w s.a ns) (hl : ns.length = s.n) (hb : ns.length ≤ 8) (hz : s.nz) (lo : LoS B s ns) : Am w B { y with r := s } ⟨d.m, ns, d.i, d.o⟩ :=
 ⟨⟨O.rd.m, hr, O.rd.i, O.rd.o, O.rd.ml, hl, O.rd.il, O.rd.ol⟩, ⟨hD.small.1, by show ns.length ≤ _; omega, hD.small.2.2⟩, ⟨O.nz.1, hz, O.nz.2.2⟩, hb, O.m.los, lo, O.i.los, O.o.los⟩
theorem Am.ofI {w : World} {B : Nat} {y : Mv} {d : Md} (O : OwnM w B y d) (hD : Dk d) {s : Sl} {ns : List Int} (hr : RdN w s.a ns) (hl : ns.length = s.n) (hb : ns.length ≤ 1048576) (hz : s.nz) (lo : LoS B s ns) : Am w B { y with i := s } ⟨d.m, d.r, ns, d.o⟩ :=
 ⟨⟨O.rd.m, O.rd.r, hr, O.rd.o, O.rd.ml, O.rd.rl, hl, O.rd.ol⟩, ⟨hD.small.1, hD.small.2.1, hb, hD.small.2.2.2⟩, ⟨O.nz.1, O.nz.2.1, hz, O.nz.2.2.2⟩, by have := hD.rl; show d.r.length ≤ 8; omega, O.m.los, O.r.los, lo, O.o.los⟩
theorem Am.ofO {w : World} {B : Nat} {y : Mv} {d : Md} (O : OwnM w B y d) (hD : Dk d) {s : Sl} {ns : List Int} (hr : RdN w s.a ns) (hl : ns.length = s.n) (hb : ns.length ≤ 1048576) (hz : s.nz) (lo : LoS B s ns) : Am w B { y with o := s } ⟨d.m, d.r, d.i, ns⟩ :=
 ⟨⟨O.rd.m, O.rd.r, O.rd.i, hr, O.rd.ml, O.rd.rl, O.rd.il, hl⟩, ⟨hD.small.1, hD.small.2.1, hD.small.2.2.1, hb⟩, ⟨O.nz.1, O.nz.2.1, O.nz.2.2.1, hz⟩, by have := hD.rl; show d.r.length ≤ 8; omega, O.m.los, O.r.los, O.i.los, lo⟩
structure Fa (w wr : World) (cb : Nat) (a : Option Addr) (len cap : Nat) (xs : List UInt8) (y : Mv) (g5 : Nat) (d : Md) : Prop where
 er : Er w wr cb a len cap xs zMv.cs 26
 r5 : wr.heap[g5]? = some (.cells y.cs 26 (0, 0))
 am : Am wr (w.heap.size + 1) y d
section
variable {w wr w' : World} {cb : Nat} {a : Option Addr} {len cap : Nat} {xs : List UInt8} {y : Mv} {g5 : Nat} {d : Md}
theorem Ed.er (h : Ed w wr cb a len cap xs y g5 d) : Er w wr cb a len cap xs zMv.cs 26 := ⟨h.cur, h.gr, h.re, h.lt, h.cd⟩
theorem Ed.fa (h : Ed w wr cb a len cap xs y g5 d) (hs : d.small) (h8 : d.r.length ≤ 8) : Fa w wr cb a len cap xs y g5 d := ⟨h.er, h.r5, h.own.am hs h8⟩
theorem Ed.own5 (h : Ed w wr cb a len cap xs y g5 d) (j : Nat) (v : Value) : OwnM (wr.setCell ⟨g5, j, none⟩ v) (w.heap.size + 1) y d := h.own.keepH fun b hb _ => Below.heap_setCell wr ⟨g5, j, none⟩ v b (h.ne b hb)
theorem Ed.put5 (h : Ed w wr cb a len cap xs y g5 d) (j : Nat) (v : Value) (y' : Mv) (d' : Md) (he : y.cs.setIfInBounds j v = y'.cs) (ha : Am (wr.setCell ⟨g5, j, none⟩ v) (w.heap.size + 1) y' d') : Fa w (wr.setCell ⟨g5, j, none⟩ v) cb a len cap xs y' g5 d' :=
 ⟨⟨h.cur.past (grownBy_set v) h.lt h.cd (fun g e => by cases e; have := h.l5; omega), grownBy_own h.gr (grownBy_set v) (fun g e => by cases e; have := h.l5; omega), row_keep h.re (by have := h.l5; omega), h.lt, h.cd⟩, row_put h.r5 j v y' he, ha⟩
theorem Fa.done (h : Fa w wr cb a len cap xs y g5 d) : (wr.setRow w.heap.size y.cs).heap[w.heap.size]? = some (.cells y.cs 26 (0, 0)) ∧ Am (wr.setRow w.heap.size y.cs) (w.heap.size + 1) y d ∧ Cur (wr.setRow w.heap.size y.cs) cb a len cap xs ∧ w.grownBy (wr.setRow w.heap.size y.cs) (some cb) :=
 ⟨(h.er.store y.cs).re, h.am.row (by omega) _, (h.er.store y.cs).cur, (h.er.store y.cs).gr⟩
end
theorem rdN_take {w : World} {a : Option Addr} {ns : List Int} (h : RdN w a ns) (k : Nat) : RdN w a (ns.take k) := by
 rcases h with h0 | ⟨b, off, ha, hb, hc⟩
 · exact .inl (by rw [h0]; simp)
 ·
  refine .inr ⟨b, off, ha, hb, fun i hi => ?_⟩
  have hi' : i < k ∧ i < ns.length := by simp at hi; omega
  rw [hc i hi'.2]
  congr 2
  unfold nAt
  rw [List.getD_eq_getElem?_getD, List.getD_eq_getElem?_getD, List.getElem?_take, if_pos hi'.1]
theorem cuts_bd : ∀ i : Fin 3, 0 ≤ nAt [0, 100, 255] i.val ∧ nAt [0, 100, 255] i.val ≤ 255 := by decide +kernel
theorem row_cell5 {w : World} {g gm n c k : Nat} {y : Mv} (h : w.heap[g]? = some (.cells y.cs 26 (0, 0))) (e : y.m = ⟨some ⟨gm, 0, none⟩, n, c⟩) (hn : n = k) : w.cell? ⟨g, 0, none⟩ = some (.slice (some ⟨gm, 0, none⟩) k c) := by
 have := row_m h
 rw [e, hn] at this
 exact this
theorem row_cell6 {w : World} {g gm n c k : Nat} {y : Mv} (h : w.heap[g]? = some (.cells y.cs 26 (0, 0))) (e : y.r = ⟨some ⟨gm, 0, none⟩, n, c⟩) (hn : n = k) : w.cell? ⟨g, 1, none⟩ = some (.slice (some ⟨gm, 0, none⟩) k c) := by
 have := row_r h
 rw [e, hn] at this
 exact this
theorem own_form2 {w : World} {B : Nat} {s : Sl} {ns : List Int} (h : OwnN w B s.v ns) (h0 : 0 < ns.length) : ∃ g c, s = ⟨some ⟨g, 0, none⟩, ns.length, c⟩ ∧ ns.length ≤ c := by
 obtain ⟨sa, sn, sc⟩ := s
 rcases h.form with ⟨_, e⟩ | ⟨g, c, e, _, _, hc, _⟩
 · rw [e] at h0; simp at h0
 ·
  unfold Sl.v at e
  simp at e
  obtain ⟨rfl, rfl, rfl⟩ := e
  exact ⟨g, sc, rfl, hc⟩
theorem los_take {B g n c k c2 m : Nat} {ns : List Int} (h : LoS B ⟨some ⟨g, 0, none⟩, n, c⟩ ns) : LoS B ⟨some ⟨g, 0, none⟩, k, c2⟩ (ns.take m) := by
 rcases h with h | h
 · exact .inl (by rw [h]; simp)
 · exact .inr h
theorem any5_any (cb : Nat) (a : Option Addr) (len cap : Nat) (xs : List UInt8) (w : World) (hc : Cur w cb a len cap xs) :
  Calls Tryz.prog 21 #[.pointer (some ⟨cb, 0, none⟩)] w fun e w' => ∃ (x : Mv) (d : Md), e = .returned (.agg x.cs) ∧ Am w' (w.heap.size + 1) x d ∧ Cur w' cb a len cap xs ∧ w.grownBy w' (some cb) := by
 have E0 := hide (er_new hc zMv.cs 26)
 have I0 := hide (draw5_any cb a len cap xs _ (uh E0).cur)
 have hlt := hc.lt
 have CD := hide hc.code
 clear hc
 go_enter Tryz.func21, Tryz.ntmps21
 go_wp2_with fail
 refine (uh I0).mono ?_
 rintro e w1 ⟨y, d, rfl, hst, hD, oy, hc1, hg1⟩
 have E1 := hide ((uh E0).draw hc1 hg1)
 have s1 : w.heap.size < w1.heap.size := row_lt (uh E1).re
 have O1 := hide (oy.base (C := w.heap.size + 1) (by simp))
 have DD := hide hD
 have D1 := hide (show Ed w (w1.alloc (.cells y.cs 26)) cb a len cap xs y w1.heap.size d from ⟨(uh E1).cur.later (below_new w1 _), grown_below (uh E1).gr (below_new w1 _), row_lat (uh E1).re (below_new w1 _), heap_alloc_last w1 _, (uh O1).later (below_new w1 _), s1, fun b hb => by have := ((uh O1).lo hb).2; omega, hlt, uh CD⟩)
 have I1 := hide (below_any cb a len cap xs 16 _ (by omega) (uh D1).cur)
 clear hc1 hg1 I0 E0 E1 O1 oy hst hD
 go_wp2_with (refine wpList_store_new rfl 26 _ _ rfl y.cs rfl rfl _ (by kernel_rfl) rfl (Mv.cs_one _) ?_)
 refine (uh I1).mono ?_
 rintro e w2 ⟨v, hv0, hv1, rfl, hc2, hg2⟩
 have D2 := hide ((uh D1).draw hc2 hg2)
 clear hc2 hg2 I1 D1
 obtain ⟨gm, cm, em, lm⟩ := own_form2 (uh D2).own.m (by have := (uh DD).ml; omega)
 obtain ⟨gr, cr, er, lr⟩ := own_form2 (uh D2).own.r (by have := (uh DD).rl; omega)
 have EM := hide em
 have ERR := hide er
 have LM := hide lm
 have LR := hide lr
 clear em er lm lr
 by_cases q0 : v = 0
 ·
  subst q0
  clear hv0 hv1
  have D3 := hide ((uh D2).later below_drew)
  go_wp2_with fail
  refine wp_region_any (by kernel_rfl) ?_
  change wpAny _ _ _ _ _ _ _ (World.drew _)
  clear D2
  generalize w2.drew = wd at D3 ⊢
  have I3 := hide (int_lit cb a len cap xs wd (uh D3).cur [0, 100, 255] 3 rfl (by omega) (by omega) wd.heap.size rfl _ rfl)
  have D4 := hide ((uh D3).later (below_new wd (.cells #[.int .i64 0, .int .i64 100, .int .i64 255] 3)))
  refine wpAny_take (i := 0) (v := .pointer (some ⟨w1.heap.size, 0, none⟩)) rfl (by kernel_rfl) (by kernel_rfl) (by kernel_rfl) (fun _ _ _ h => h) (Or.inl ⟨by rfl, fun w => ?_⟩) ?_
  · go_simp
  go_simp
  refine wpAny_take (i := 2) (v := .pointer (some ⟨cb, 0, none⟩)) rfl (by kernel_rfl) (by kernel_rfl) (by kernel_rfl) (fun _ _ _ h => h) (Or.inl ⟨by rfl, fun w => ?_⟩) ?_
  · go_simp
  go_simp
  refine wpAny_ready (rs := [1, 3]) (by kernel_rfl) (by simp) ?_
  refine AllReady.cons rfl (fun K2 hK => ?_) (AllReady.cons rfl (fun K2 hK => ?_) (AllReady.nil))
  ·
   skip
   have o0 := row_cell5 (uh D3).r5 (uh EM) (uh DD).ml
   go_simp
   clear o0
   refine hK _ _ ?_
   clear hK K2
   refine wpAny_ready (rs := [3]) (by kernel_rfl) (by simp) ?_
   refine AllReady.cons rfl (fun K2 hK => ?_) (AllReady.nil)
   go_simp
   refine hK _ _ ?_
   clear hK K2
   refine wpAny_ready (rs := [4]) (by kernel_rfl) (by simp) ?_
   refine AllReady.cons rfl (fun K2 hK => ?_) (AllReady.nil)
   go_simp
   refine (uh I3).mono ?_
   rintro e w4 ⟨j, hj, rfl, hc3, hg3⟩
   have hjb := cuts_bd ⟨j, hj⟩
   simp only at hjb
   generalize nAt [0, 100, 255] j = kk at hjb ⊢
   obtain ⟨k0, k1⟩ := hjb
   obtain ⟨k, rfl⟩ := Int.eq_ofNat_of_zero_le k0
   have D5 := hide ((uh D4).draw hc3 hg3)
   refine hK _ _ ?_
   clear hK K2 hc3 hg3 I3 hj
   have hkc : (k : Int) ≤ (cm : Int) := by have := (uh DD).ml; have := uh LM; omega
   have hkc2 : k ≤ cm := by omega
   refine wpAny_take (i := 5) (v := .slice (some ⟨gm, 0, none⟩) k cm) rfl (by kernel_rfl) (by kernel_rfl) (by kernel_rfl) (fun _ _ _ h => h) (Or.inl ⟨by rfl, fun w => ?_⟩) ?_
   · go_simp
   go_simp
   refine wpAny_take (i := 6) (v := .pointer (some ⟨w1.heap.size, 0, none⟩)) rfl (by kernel_rfl) (by kernel_rfl) (by kernel_rfl) (fun _ _ _ h => h) (Or.inl ⟨by rfl, fun w => ?_⟩) ?_
   · go_simp
   go_simp
   refine wpAny_ready (rs := [7]) (by kernel_rfl) (by simp) ?_
   refine AllReady.cons rfl (fun K2 hK => ?_) (AllReady.nil)
   have o0 := row_m (uh D5).r5
   have f0 := row_fz (uh D5).r5 0
   go_simp
   clear o0 f0
   refine hK _ _ ?_
   clear hK K2
   have FF := hide ((uh D5).put5 0 (.slice (some ⟨gm, 0, none⟩) k cm) ({ y with m := ⟨some ⟨gm, 0, none⟩, k, cm⟩ } : Mv) ⟨d.m.take k, d.r, d.i, d.o⟩ rfl (Am.ofM ((uh D5).own5 0 _) (uh DD) (s := ⟨some ⟨gm, 0, none⟩, k, cm⟩) (by have h := ((uh D5).own5 0 (.slice (some ⟨gm, 0, none⟩) k cm)).rd.m; rw [uh EM] at h; exact rdN_take h k) (by have := (uh DD).ml; simp; omega) (by have := (uh DD).ml; simp; omega) (fun h => by cases h) (los_take (by have h := (uh D5).own.m.los; rw [uh EM] at h; exact h))))
   refine wpAny_done (by kernel_rfl) ?_ _
   go_wp2_with (first | (refine wpList_load_row rfl 26 _ rfl w1.heap.size rfl 26 (Mv.cs ({ y with m := ⟨some ⟨gm, 0, none⟩, k, cm⟩ } : Mv)) (0, 0) _ (uh FF).r5 Tryz.underlying26 rfl (by kernel_rfl) ?_) | (refine wpList_store_row rfl 26 _ _ rfl w.heap.size (Mv.cs ({ y with m := ⟨some ⟨gm, 0, none⟩, k, cm⟩ } : Mv)) rfl rfl 26 zMv.cs (uh FF).er.re (by kernel_rfl) rfl (Mv.cs_one _) ?_))
   obtain ⟨r1, r2, r3, r4⟩ := (uh FF).done
   refine bodyPost_ret (results_cell_row (P := Tryz.prog) rfl _ _ w.heap.size 26 (Mv.cs ({ y with m := ⟨some ⟨gm, 0, none⟩, k, cm⟩ } : Mv)) (0, 0) _ rfl r1 Tryz.underlying26 rfl (by kernel_rfl)) rfl ?_
   exact ⟨_, _, rfl, r2, r3, r4⟩
  ·
   skip
   go_simp
   refine hK _ _ ?_
   clear hK K2
   refine wpAny_ready (rs := [1, 4]) (by kernel_rfl) (by simp) ?_
   refine AllReady.cons rfl (fun K2 hK => ?_) (AllReady.cons rfl (fun K2 hK => ?_) (AllReady.nil))
   ·
    skip
    have o0 := row_cell5 (uh D4).r5 (uh EM) (uh DD).ml
    go_simp
    clear o0
    refine hK _ _ ?_
    clear hK K2
    refine wpAny_ready (rs := [4]) (by kernel_rfl) (by simp) ?_
    refine AllReady.cons rfl (fun K2 hK => ?_) (AllReady.nil)
    go_simp
    refine (uh I3).mono ?_
    rintro e w4 ⟨j, hj, rfl, hc3, hg3⟩
    have hjb := cuts_bd ⟨j, hj⟩
    simp only at hjb
    generalize nAt [0, 100, 255] j = kk at hjb ⊢
    obtain ⟨k0, k1⟩ := hjb
    obtain ⟨k, rfl⟩ := Int.eq_ofNat_of_zero_le k0
    have D5 := hide ((uh D4).draw hc3 hg3)
    refine hK _ _ ?_
    clear hK K2 hc3 hg3 I3 hj
    have hkc : (k : Int) ≤ (cm : Int) := by have := (uh DD).ml; have := uh LM; omega
    have hkc2 : k ≤ cm := by omega
    refine wpAny_take (i := 5) (v := .slice (some ⟨gm, 0, none⟩) k cm) rfl (by kernel_rfl) (by kernel_rfl) (by kernel_rfl) (fun _ _ _ h => h) (Or.inl ⟨by rfl, fun w => ?_⟩) ?_
    · go_simp
    go_simp
    refine wpAny_take (i := 6) (v := .pointer (some ⟨w1.heap.size, 0, none⟩)) rfl (by kernel_rfl) (by kernel_rfl) (by kernel_rfl) (fun _ _ _ h => h) (Or.inl ⟨by rfl, fun w => ?_⟩) ?_
    · go_simp
    go_simp
    refine wpAny_ready (rs := [7]) (by kernel_rfl) (by simp) ?_
    refine AllReady.cons rfl (fun K2 hK => ?_) (AllReady.nil)
    have o0 := row_m (uh D5).r5
    have f0 := row_fz (uh D5).r5 0
    go_simp
    clear o0 f0
    refine hK _ _ ?_
    clear hK K2
    have FF := hide ((uh D5).put5 0 (.slice (some ⟨gm, 0, none⟩) k cm) ({ y with m := ⟨some ⟨gm, 0, none⟩, k, cm⟩ } : Mv) ⟨d.m.take k, d.r, d.i, d.o⟩ rfl (Am.ofM ((uh D5).own5 0 _) (uh DD) (s := ⟨some ⟨gm, 0, none⟩, k, cm⟩) (by have h := ((uh D5).own5 0 (.slice (some ⟨gm, 0, none⟩) k cm)).rd.m; rw [uh EM] at h; exact rdN_take h k) (by have := (uh DD).ml; simp; omega) (by have := (uh DD).ml; simp; omega) (fun h => by cases h) (los_take (by have h := (uh D5).own.m.los; rw [uh EM] at h; exact h))))
    refine wpAny_done (by kernel_rfl) ?_ _
    go_wp2_with (first | (refine wpList_load_row rfl 26 _ rfl w1.heap.size rfl 26 (Mv.cs ({ y with m := ⟨some ⟨gm, 0, none⟩, k, cm⟩ } : Mv)) (0, 0) _ (uh FF).r5 Tryz.underlying26 rfl (by kernel_rfl) ?_) | (refine wpList_store_row rfl 26 _ _ rfl w.heap.size (Mv.cs ({ y with m := ⟨some ⟨gm, 0, none⟩, k, cm⟩ } : Mv)) rfl rfl 26 zMv.cs (uh FF).er.re (by kernel_rfl) rfl (Mv.cs_one _) ?_))
    obtain ⟨r1, r2, r3, r4⟩ := (uh FF).done
    refine bodyPost_ret (results_cell_row (P := Tryz.prog) rfl _ _ w.heap.size 26 (Mv.cs ({ y with m := ⟨some ⟨gm, 0, none⟩, k, cm⟩ } : Mv)) (0, 0) _ rfl r1 Tryz.underlying26 rfl (by kernel_rfl)) rfl ?_
    exact ⟨_, _, rfl, r2, r3, r4⟩
   ·
    skip
    go_simp
    refine (uh I3).mono ?_
    rintro e w4 ⟨j, hj, rfl, hc3, hg3⟩
    have hjb := cuts_bd ⟨j, hj⟩
    simp only at hjb
    generalize nAt [0, 100, 255] j = kk at hjb ⊢
    obtain ⟨k0, k1⟩ := hjb
    obtain ⟨k, rfl⟩ := Int.eq_ofNat_of_zero_le k0
    have D5 := hide ((uh D4).draw hc3 hg3)
    refine hK _ _ ?_
    clear hK K2 hc3 hg3 I3 hj
    have hkc : (k : Int) ≤ (cm : Int) := by have := (uh DD).ml; have := uh LM; omega
    have hkc2 : k ≤ cm := by omega
    refine wpAny_ready (rs := [1]) (by kernel_rfl) (by simp) ?_
    refine AllReady.cons rfl (fun K2 hK => ?_) (AllReady.nil)
    have o0 := row_cell5 (uh D5).r5 (uh EM) (uh DD).ml
    go_simp
    clear o0
    refine hK _ _ ?_
    clear hK K2
    refine wpAny_take (i := 5) (v := .slice (some ⟨gm, 0, none⟩) k cm) rfl (by kernel_rfl) (by kernel_rfl) (by kernel_rfl) (fun _ _ _ h => h) (Or.inl ⟨by rfl, fun w => ?_⟩) ?_
    · go_simp
    go_simp
    refine wpAny_take (i := 6) (v := .pointer (some ⟨w1.heap.size, 0, none⟩)) rfl (by kernel_rfl) (by kernel_rfl) (by kernel_rfl) (fun _ _ _ h => h) (Or.inl ⟨by rfl, fun w => ?_⟩) ?_
    · go_simp
    go_simp
    refine wpAny_ready (rs := [7]) (by kernel_rfl) (by simp) ?_
    refine AllReady.cons rfl (fun K2 hK => ?_) (AllReady.nil)
    have o0 := row_m (uh D5).r5
    have f0 := row_fz (uh D5).r5 0
    go_simp
    clear o0 f0
    refine hK _ _ ?_
    clear hK K2
    have FF := hide ((uh D5).put5 0 (.slice (some ⟨gm, 0, none⟩) k cm) ({ y with m := ⟨some ⟨gm, 0, none⟩, k, cm⟩ } : Mv) ⟨d.m.take k, d.r, d.i, d.o⟩ rfl (Am.ofM ((uh D5).own5 0 _) (uh DD) (s := ⟨some ⟨gm, 0, none⟩, k, cm⟩) (by have h := ((uh D5).own5 0 (.slice (some ⟨gm, 0, none⟩) k cm)).rd.m; rw [uh EM] at h; exact rdN_take h k) (by have := (uh DD).ml; simp; omega) (by have := (uh DD).ml; simp; omega) (fun h => by cases h) (los_take (by have h := (uh D5).own.m.los; rw [uh EM] at h; exact h))))
    refine wpAny_done (by kernel_rfl) ?_ _
    go_wp2_with (first | (refine wpList_load_row rfl 26 _ rfl w1.heap.size rfl 26 (Mv.cs ({ y with m := ⟨some ⟨gm, 0, none⟩, k, cm⟩ } : Mv)) (0, 0) _ (uh FF).r5 Tryz.underlying26 rfl (by kernel_rfl) ?_) | (refine wpList_store_row rfl 26 _ _ rfl w.heap.size (Mv.cs ({ y with m := ⟨some ⟨gm, 0, none⟩, k, cm⟩ } : Mv)) rfl rfl 26 zMv.cs (uh FF).er.re (by kernel_rfl) rfl (Mv.cs_one _) ?_))
    obtain ⟨r1, r2, r3, r4⟩ := (uh FF).done
    refine bodyPost_ret (results_cell_row (P := Tryz.prog) rfl _ _ w.heap.size 26 (Mv.cs ({ y with m := ⟨some ⟨gm, 0, none⟩, k, cm⟩ } : Mv)) (0, 0) _ rfl r1 Tryz.underlying26 rfl (by kernel_rfl)) rfl ?_
    exact ⟨_, _, rfl, r2, r3, r4⟩
 by_cases q1 : v = 1
 ·
  subst q1
  clear hv0 hv1
  have C0 := hide (row_cell6 (uh D2).r5 (uh ERR) (uh DD).rl)
  have D3 := hide ((uh D2).later below_drew)
  go_wp2_with fail
  refine wp_region_held_drew (S := fun v => v.cell? ⟨w1.heap.size, 1, none⟩ = some (.slice (some ⟨gr, 0, none⟩) 8 cr)) (by kernel_rfl) (uh C0) (fun hS => ?_)
  have HS := hide hS
  clear hS D2 C0
  generalize w2.drew = wd at D3 HS ⊢
  refine tkB 0 (.pointer (some ⟨w1.heap.size, 1, none⟩)) rfl (uh HS) ?_
  go_simp
  refine tkA 1 (.slice (some ⟨gr, 0, none⟩) 8 cr) rfl (.inl ⟨by rfl, fun w hc => ?_⟩) (uh HS) ?_
  · go_simp
  go_simp
  refine tkB 2 (.pointer (some ⟨cb, 0, none⟩)) rfl (uh HS) ?_
  go_simp
  refine tkB 4 (.pointer (some ⟨cb, 0, none⟩)) rfl (uh HS) ?_
  go_simp
  refine wpAnyH_ready (rs := [3, 5]) (by kernel_rfl) (by simp) ?_
  refine AllReadyH.cons rfl (fun K2 hK => ?_) (AllReadyH.cons rfl (fun K2 hK => ?_) AllReadyH.nil)
  ·
   skip
   have B3 := hide (below_any cb a len cap xs 8 wd (by omega) (uh D3).cur)
   go_simp
   refine (uh B3).mono ?_
   rintro e w4 ⟨z, hz0, hz1, rfl, hc3, hg3⟩
   obtain ⟨z0, z1⟩ := hz0 (by omega)
   obtain ⟨zn, rfl⟩ := Int.eq_ofNat_of_zero_le z0
   have D4 := hide ((uh D3).draw hc3 hg3)
   refine hK.out _ _ (row_cell6 (uh D4).r5 (uh ERR) (uh DD).rl) (fun hS => ?_)
   clear HS
   have HS := hide hS
   clear hS hK K2 D3 hc3 hg3 B3 hz0 hz1
   have I6 := hide (int_lit cb a len cap xs w4 (uh D4).cur [-1, 65536, 65535] 3 rfl (by omega) (by omega) w4.heap.size rfl _ rfl)
   have D5 := hide ((uh D4).later (below_new w4 (.cells #[.int .i64 (-1), .int .i64 65536, .int .i64 65535] 3)))
   refine wpAnyH_ready (rs := [5]) (by kernel_rfl) (by simp) ?_
   refine AllReadyH.cons rfl (fun K2 hK => ?_) AllReadyH.nil
   go_simp
   refine hK.out _ _ (row_cell6 (uh D5).r5 (uh ERR) (uh DD).rl) (fun hS => ?_)
   clear HS
   have HS := hide hS
   clear hS hK K2 D4
   refine wpAnyH_ready (rs := [6]) (by kernel_rfl) (by simp) ?_
   refine AllReadyH.cons rfl (fun K2 hK => ?_) AllReadyH.nil
   go_simp
   refine (uh I6).mono ?_
   rintro e w6 ⟨j, hj, rfl, hc3, hg3⟩
   generalize nAt [-1, 65536, 65535] j = x
   have D6 := hide ((uh D5).draw hc3 hg3)
   refine hK.out _ _ (row_cell6 (uh D6).r5 (uh ERR) (uh DD).rl) (fun hS => ?_)
   clear HS
   have HS := hide hS
   clear hS hK K2 D5 hc3 hg3 I6 hj
   have hzi : (zn : Int) < 8 := by omega
   have hzn : zn < 8 := by omega
   refine tkB 7 (.pointer (some ⟨gr, zn, none⟩)) rfl (uh HS) ?_
   go_simp
   obtain ⟨c1, c2⟩ := (uh D6).cellR (uh ERR) zn (by have := (uh DD).rl; omega)
   have D7 := hide ((uh D6).setR (uh ERR) zn x (by have := (uh DD).rl; omega))
   refine wpAnyH_ready (rs := [8]) (by kernel_rfl) (by simp) ?_
   refine AllReadyH.cons rfl (fun K2 hK => ?_) AllReadyH.nil
   go_simp
   clear c1 c2
   refine hK.out _ _ (row_cell6 (uh D7).r5 (uh ERR) (uh DD).rl) (fun hS => ?_)
   clear HS
   have HS := hide hS
   clear hS hK K2 D6
   refine wpAnyH_done (by kernel_rfl) ?_ _
   clear HS
   have FF := hide ((uh D7).fa ⟨(uh DD).small.1, by have := (uh DD).rl; simp; omega, (uh DD).small.2.2⟩ (by have := (uh DD).rl; simp; omega))
   go_wp2_with (first | (refine wpList_load_row rfl 26 _ rfl w1.heap.size rfl 26 (Mv.cs y) (0, 0) _ (uh FF).r5 Tryz.underlying26 rfl (by kernel_rfl) ?_) | (refine wpList_store_row rfl 26 _ _ rfl w.heap.size (Mv.cs y) rfl rfl 26 zMv.cs (uh FF).er.re (by kernel_rfl) rfl (Mv.cs_one _) ?_))
   obtain ⟨r1, r2, r3, r4⟩ := (uh FF).done
   refine bodyPost_ret (results_cell_row (P := Tryz.prog) rfl _ _ w.heap.size 26 (Mv.cs y) (0, 0) _ rfl r1 Tryz.underlying26 rfl (by kernel_rfl)) rfl ?_
   exact ⟨_, _, rfl, r2, r3, r4⟩
  ·
   skip
   have D4 := hide ((uh D3).later (below_new wd (.cells #[.int .i64 (-1), .int .i64 65536, .int .i64 65535] 3)))
   have RL := hide (RdN_lit wd [-1, 65536, 65535])
   have NE := hide (show wd.heap.size ≠ cb by have := (uh D3).cur.lt; omega)
   go_simp
   refine hK.out _ _ (row_cell6 (uh D4).r5 (uh ERR) (uh DD).rl) (fun hS => ?_)
   clear HS
   have HS := hide hS
   clear hS hK K2 D3
   refine wpAnyH_ready (rs := [3]) (by kernel_rfl) (by simp) ?_
   refine AllReadyH.cons rfl (fun K2 hK => ?_) AllReadyH.nil
   have B3 := hide (below_any cb a len cap xs 8 _ (by omega) (uh D4).cur)
   go_simp
   refine (uh B3).mono ?_
   rintro e w5 ⟨z, hz0, hz1, rfl, hc3, hg3⟩
   obtain ⟨z0, z1⟩ := hz0 (by omega)
   obtain ⟨zn, rfl⟩ := Int.eq_ofNat_of_zero_le z0
   have D5 := hide ((uh D4).draw hc3 hg3)
   have RM := hide ((uh RL).past hg3 (fun ad e => by cases e; exact uh NE))
   refine hK.out _ _ (row_cell6 (uh D5).r5 (uh ERR) (uh DD).rl) (fun hS => ?_)
   clear HS
   have HS := hide hS
   clear hS hK K2 D4 hc3 hg3 B3 hz0 hz1
   have I6 := hide (int_any cb a len cap xs (some ⟨wd.heap.size, 0, none⟩) 3 3 [-1, 65536, 65535] w5 (uh D5).cur (uh RM) (fun ad e => by cases e; exact uh NE) rfl (by omega) (by omega))
   refine wpAnyH_ready (rs := [6]) (by kernel_rfl) (by simp) ?_
   refine AllReadyH.cons rfl (fun K2 hK => ?_) AllReadyH.nil
   go_simp
   refine (uh I6).mono ?_
   rintro e w6 ⟨j, hj, rfl, hc3, hg3⟩
   generalize nAt [-1, 65536, 65535] j = x
   have D6 := hide ((uh D5).draw hc3 hg3)
   refine hK.out _ _ (row_cell6 (uh D6).r5 (uh ERR) (uh DD).rl) (fun hS => ?_)
   clear HS
   have HS := hide hS
   clear hS hK K2 D5 hc3 hg3 I6 hj
   have hzi : (zn : Int) < 8 := by omega
   have hzn : zn < 8 := by omega
   refine tkB 7 (.pointer (some ⟨gr, zn, none⟩)) rfl (uh HS) ?_
   go_simp
   obtain ⟨c1, c2⟩ := (uh D6).cellR (uh ERR) zn (by have := (uh DD).rl; omega)
   have D7 := hide ((uh D6).setR (uh ERR) zn x (by have := (uh DD).rl; omega))
   refine wpAnyH_ready (rs := [8]) (by kernel_rfl) (by simp) ?_
   refine AllReadyH.cons rfl (fun K2 hK => ?_) AllReadyH.nil
   go_simp
   clear c1 c2
   refine hK.out _ _ (row_cell6 (uh D7).r5 (uh ERR) (uh DD).rl) (fun hS => ?_)
   clear HS
   have HS := hide hS
   clear hS hK K2 D6
   refine wpAnyH_done (by kernel_rfl) ?_ _
   clear HS
   have FF := hide ((uh D7).fa ⟨(uh DD).small.1, by have := (uh DD).rl; simp; omega, (uh DD).small.2.2⟩ (by have := (uh DD).rl; simp; omega))
   go_wp2_with (first | (refine wpList_load_row rfl 26 _ rfl w1.heap.size rfl 26 (Mv.cs y) (0, 0) _ (uh FF).r5 Tryz.underlying26 rfl (by kernel_rfl) ?_) | (refine wpList_store_row rfl 26 _ _ rfl w.heap.size (Mv.cs y) rfl rfl 26 zMv.cs (uh FF).er.re (by kernel_rfl) rfl (Mv.cs_one _) ?_))
   obtain ⟨r1, r2, r3, r4⟩ := (uh FF).done
   refine bodyPost_ret (results_cell_row (P := Tryz.prog) rfl _ _ w.heap.size 26 (Mv.cs y) (0, 0) _ rfl r1 Tryz.underlying26 rfl (by kernel_rfl)) rfl ?_
   exact ⟨_, _, rfl, r2, r3, r4⟩
 by_cases q2 : v = 2
 ·
  subst q2
  clear hv0 hv1
  have o1 := row_cell6 (uh D2).r5 (uh ERR) (uh DD).rl
  have f1 := row_fz (uh D2).r5 1
  have h7 : (7 : Int) ≤ (cr : Int) := by have := (uh DD).rl; have := uh LR; omega
  have h7n : 7 ≤ cr := by omega
  have FF := hide ((uh D2).put5 1 (.slice (some ⟨gr, 0, none⟩) 7 cr) ({ y with r := ⟨some ⟨gr, 0, none⟩, 7, cr⟩ } : Mv) ⟨d.m, d.r.take 7, d.i, d.o⟩ rfl (Am.ofR ((uh D2).own5 1 _) (uh DD) (s := ⟨some ⟨gr, 0, none⟩, 7, cr⟩) (by have h := ((uh D2).own5 1 (.slice (some ⟨gr, 0, none⟩) 7 cr)).rd.r; rw [uh ERR] at h; exact rdN_take h 7) (by have := (uh DD).rl; simp; omega) (by have := (uh DD).rl; simp; omega) (fun h => by cases h) (los_take (by have h := (uh D2).own.r.los; rw [uh ERR] at h; exact h))))
  go_wp2_with (first | (refine wpList_load_row rfl 26 _ rfl w1.heap.size rfl 26 (Mv.cs ({ y with r := ⟨some ⟨gr, 0, none⟩, 7, cr⟩ } : Mv)) (0, 0) _ (uh FF).r5 Tryz.underlying26 rfl (by kernel_rfl) ?_) | (refine wpList_store_row rfl 26 _ _ rfl w.heap.size (Mv.cs ({ y with r := ⟨some ⟨gr, 0, none⟩, 7, cr⟩ } : Mv)) rfl rfl 26 zMv.cs (uh FF).er.re (by kernel_rfl) rfl (Mv.cs_one _) ?_))
  obtain ⟨r1, r2, r3, r4⟩ := (uh FF).done
  refine bodyPost_ret (results_cell_row (P := Tryz.prog) rfl _ _ w.heap.size 26 (Mv.cs ({ y with r := ⟨some ⟨gr, 0, none⟩, 7, cr⟩ } : Mv)) (0, 0) _ rfl r1 Tryz.underlying26 rfl (by kernel_rfl)) rfl ?_
  exact ⟨_, _, rfl, r2, r3, r4⟩
 by_cases q3 : v = 3
 ·
  subst q3
  clear hv0 hv1
  have I3 := hide (int_lit cb a len cap xs w2 (uh D2).cur [-1, 1, 2, 3] 4 rfl (by omega) (by omega) w2.heap.size rfl _ rfl)
  go_wp2_with fail
  refine (uh I3).mono ?_
  rintro e w4 ⟨j, hj, rfl, hc3, hg3⟩
  generalize nAt [-1, 1, 2, 3] j = x
  have D5 := hide (((uh D2).later (below_new w2 _)).draw hc3 hg3)
  clear hc3 hg3 I3 hj D2
  have o8 := row_st (uh D5).r5
  have f8 := row_fz (uh D5).r5 8
  have FF := hide (((uh D5).setF 8 (.int .i64 x) { y with st := x } rfl rfl rfl rfl rfl).fa (uh DD).small (by have := (uh DD).rl; omega))
  go_wp2_with (first | (refine wpList_load_row rfl 26 _ rfl w1.heap.size rfl 26 (Mv.cs { y with st := x }) (0, 0) _ (uh FF).r5 Tryz.underlying26 rfl (by kernel_rfl) ?_) | (refine wpList_store_row rfl 26 _ _ rfl w.heap.size (Mv.cs { y with st := x }) rfl rfl 26 zMv.cs (uh FF).er.re (by kernel_rfl) rfl (Mv.cs_one _) ?_))
  obtain ⟨r1, r2, r3, r4⟩ := (uh FF).done
  refine bodyPost_ret (results_cell_row (P := Tryz.prog) rfl _ _ w.heap.size 26 (Mv.cs { y with st := x }) (0, 0) _ rfl r1 Tryz.underlying26 rfl (by kernel_rfl)) rfl ?_
  exact ⟨_, _, rfl, r2, r3, r4⟩
 by_cases q4 : v = 4
 ·
  subst q4
  clear hv0 hv1
  have B3 := hide (below_any cb a len cap xs 2 w2 (by omega) (uh D2).cur)
  go_wp2_with fail
  refine (uh B3).mono ?_
  rintro e w4 ⟨z, hz0, hz1, rfl, hc3, hg3⟩
  obtain ⟨z0, z1⟩ := hz0 (by omega)
  obtain ⟨zn, rfl⟩ := Int.eq_ofNat_of_zero_le z0
  have D5 := hide (((uh D2).draw hc3 hg3).later (below_new w4 (.cells (zA (50 + zn)) 3)))
  have NG := hide (row_lt ((uh D2).draw hc3 hg3).r5)
  have s4 : w.heap.size < w4.heap.size := row_lt ((uh D2).draw hc3 hg3).er.re
  clear hc3 hg3 B3 hz0 hz1 D2
  have hmk := run_make_row' (P := Tryz.prog) 24 3 (.int .i64 0) 8 Tryz.underlying24 info3 rfl .i64 .i64 (50 + zn) (by omega) (by omega)
  have hma : madeCells #[Value.int .i64 0] (50 + zn) = zA (50 + zn) := by
   obtain rfl | rfl : zn = 0 ∨ zn = 1 := by omega
   all_goals kernel_rfl
  rw [hma] at hmk
  rw [show ((50 + zn : Nat) : Int) = 50 + (zn : Int) by omega] at hmk
  have hw1 : IntKind.i64.wrap (50 + (zn : Int)) = 50 + (zn : Int) := by rw [IntKind.wrap_i64]; omega
  have OW := hide (own_made (B := w.heap.size + 1) (n := 50 + zn) (heap_alloc_last w4 (.cells (zA (50 + zn)) 3)) (by omega) (by omega))
  have o7 := row_o (uh D5).r5
  have f7 := row_fz (uh D5).r5 7
  have FF := hide ((uh D5).put5 7 (.slice (some ⟨w4.heap.size, 0, none⟩) (50 + zn) (50 + zn)) { y with o := ⟨some ⟨w4.heap.size, 0, none⟩, 50 + zn, 50 + zn⟩ } ⟨d.m, d.r, d.i, List.replicate (50 + zn) 0⟩ rfl (Am.ofO ((uh D5).own5 7 _) (uh DD) (s := ⟨some ⟨w4.heap.size, 0, none⟩, 50 + zn, 50 + zn⟩) ((OwnN.rd1 (uh OW)).put (.inr (fun ad e => by cases e; have := uh NG; show w4.heap.size ≠ w1.heap.size; omega))) (by simp) (by simp; omega) (fun h => by cases h) (.inr (fun ad e => by cases e; show w.heap.size + 1 ≤ w4.heap.size; omega))))
  clear hma
  go_wp2_with (first | (refine wpList_load_row rfl 26 _ rfl w1.heap.size rfl 26 (Mv.cs { y with o := ⟨some ⟨w4.heap.size, 0, none⟩, 50 + zn, 50 + zn⟩ }) (0, 0) _ (uh FF).r5 Tryz.underlying26 rfl (by kernel_rfl) ?_) | (refine wpList_store_row rfl 26 _ _ rfl w.heap.size (Mv.cs { y with o := ⟨some ⟨w4.heap.size, 0, none⟩, 50 + zn, 50 + zn⟩ }) rfl rfl 26 zMv.cs (uh FF).er.re (by kernel_rfl) rfl (Mv.cs_one _) ?_))
  obtain ⟨r1, r2, r3, r4⟩ := (uh FF).done
  refine bodyPost_ret (results_cell_row (P := Tryz.prog) rfl _ _ w.heap.size 26 (Mv.cs { y with o := ⟨some ⟨w4.heap.size, 0, none⟩, 50 + zn, 50 + zn⟩ }) (0, 0) _ rfl r1 Tryz.underlying26 rfl (by kernel_rfl)) rfl ?_
  exact ⟨_, _, rfl, r2, r3, r4⟩
 by_cases q5 : v = 5
 ·
  subst q5
  clear hv0 hv1
  have D5 := hide ((uh D2).later (below_new w2 (.cells #[.int .i64 (-1)] 3)))
  have NG := hide (row_lt (uh D2).r5)
  have s4 : w.heap.size < w2.heap.size := row_lt (uh D2).er.re
  have RL := hide (RdN_lit w2 [-1])
  have o6 := row_i (uh D5).r5
  have f6 := row_fz (uh D5).r5 6
  have FF := hide ((uh D5).put5 6 (.slice (some ⟨w2.heap.size, 0, none⟩) 1 1) { y with i := ⟨some ⟨w2.heap.size, 0, none⟩, 1, 1⟩ } ⟨d.m, d.r, [-1], d.o⟩ rfl (Am.ofI ((uh D5).own5 6 _) (uh DD) (s := ⟨some ⟨w2.heap.size, 0, none⟩, 1, 1⟩) ((show RdN (w2.alloc (.cells #[.int .i64 (-1)] 3)) (some ⟨w2.heap.size, 0, none⟩) [-1] from uh RL).put (.inr (fun ad e => by cases e; have := uh NG; show w2.heap.size ≠ w1.heap.size; omega))) rfl (by simp) (fun h => by cases h) (.inr (fun ad e => by cases e; show w.heap.size + 1 ≤ w2.heap.size; omega))))
  go_wp2_with (first | (refine wpList_load_row rfl 26 _ rfl w1.heap.size rfl 26 (Mv.cs { y with i := ⟨some ⟨w2.heap.size, 0, none⟩, 1, 1⟩ }) (0, 0) _ (uh FF).r5 Tryz.underlying26 rfl (by kernel_rfl) ?_) | (refine wpList_store_row rfl 26 _ _ rfl w.heap.size (Mv.cs { y with i := ⟨some ⟨w2.heap.size, 0, none⟩, 1, 1⟩ }) rfl rfl 26 zMv.cs (uh FF).er.re (by kernel_rfl) rfl (Mv.cs_one _) ?_))
  obtain ⟨r1, r2, r3, r4⟩ := (uh FF).done
  refine bodyPost_ret (results_cell_row (P := Tryz.prog) rfl _ _ w.heap.size 26 (Mv.cs { y with i := ⟨some ⟨w2.heap.size, 0, none⟩, 1, 1⟩ }) (0, 0) _ rfl r1 Tryz.underlying26 rfl (by kernel_rfl)) rfl ?_
  exact ⟨_, _, rfl, r2, r3, r4⟩
 have p0 := eqB_f _ _ q0
 have p1 := eqB_f _ _ q1
 have p2 := eqB_f _ _ q2
 have p3 := eqB_f _ _ q3
 have p4 := eqB_f _ _ q4
 have p5 := eqB_f _ _ q5
 have FF := hide ((uh D2).fa (uh DD).small (by have := (uh DD).rl; omega))
 go_wp2_with (first | (refine wpList_load_row rfl 26 _ rfl w1.heap.size rfl 26 (Mv.cs y) (0, 0) _ (uh FF).r5 Tryz.underlying26 rfl (by kernel_rfl) ?_) | (refine wpList_store_row rfl 26 _ _ rfl w.heap.size (Mv.cs y) rfl rfl 26 zMv.cs (uh FF).er.re (by kernel_rfl) rfl (Mv.cs_one _) ?_))
 obtain ⟨r1, r2, r3, r4⟩ := (uh FF).done
 refine bodyPost_ret (results_cell_row (P := Tryz.prog) rfl _ _ w.heap.size 26 (Mv.cs y) (0, 0) _ rfl r1 Tryz.underlying26 rfl (by kernel_rfl)) rfl ?_
 exact ⟨_, _, rfl, r2, r3, r4⟩
end
section
theorem Dk.regS {d : Md} (h : Dk d) (k : Nat) (v : Int) : Dk (d.reg k (v % 65536)) := h.setR k _ (by omega) (by omega)
theorem dk_plS {d : Md} (h : Dk d) (mo re : Nat) : Dk (d.plD mo re) := by
 unfold Md.plD Md.adD Md.fet
 repeat' split
 all_goals first | exact h | exact h.regS _ _
theorem dk_stS {d : Md} (h : Dk d) (r p n : Int) : Dk (d.stD r p n) := by
 unfold Md.stD Md.put
 repeat' split
 all_goals first | exact h | exact h.setM _ _ (by omega) (by omega) | exact h.setR _ _ (by omega) (by omega)
theorem Dk.r8 {d : Md} (h : Dk d) : d.R8 := ⟨h.rl, fun j hj => h.rw _ (nAt_mem (by have := h.rl; omega))⟩
theorem Dk.getb {d : Md} (h : Dk d) (a : Int) : 0 ≤ d.get a ∧ d.get a ≤ 65535 := by
 unfold Md.get
 split
 ·
  rename_i hh
  obtain ⟨ha, hl⟩ := has_t hh
  obtain ⟨a0, _, _⟩ := adB_t ha
  exact h.mw _ (nAt_mem (by omega))
 · omega
theorem Dk.ldb {d : Md} (h : Dk d) (r a : Int) : 0 ≤ d.ldV r a ∧ d.ldV r a ≤ 65535 := by
 unfold Md.ldV
 split
 · exact h.getb a
 ·
  split
  ·
   rename_i h1 h2
   unfold Md.ldB at h2
   rw [if_neg h1] at h2
   simp only [Bool.and_eq_true] at h2
   obtain ⟨b3, b4⟩ := inB_b h2.1
   exact h.rw _ (nAt_mem (by omega))
  · omega
def sgB (n : Int) : Bool := decide (32768 ≤ n % 65536)
structure Ms where
 d : Md
 n : Bool
 z : Bool
 v : Bool
 c : Bool
def Ms.fl (t : Ms) (st : Int) : Bool × Bool × Bool × Bool × Int := (t.n, t.z, t.v, t.c, st)
structure Sm (w : World) (B g : Nat) (y : Mv) (t : Ms) (st : Int) : Prop where
 row : w.heap[g]? = some (.cells y.cs 26 (0, 0))
 own : OwnM w B y t.d
 fl : y.fl = t.fl st
 lo : B ≤ g
 ne : ∀ b, y.at b → b ≠ g
section
variable {w w' : World} {B g : Nat} {y : Mv} {t : Ms} {st : Int}
theorem Sm.later (h : Sm w B g y t st) (hb : Below w.heap.size w w') : Sm w' B g y t st := ⟨row_lat h.row hb, h.own.later hb, h.fl, h.lo, h.ne⟩
theorem Sm.setF (h : Sm w B g y t st) (j : Nat) (v : Value) (y' : Mv) (t' : Ms) (st' : Int) (he : y.cs.setIfInBounds j v = y'.cs) (em : y'.m = y.m) (er : y'.r = y.r) (ei : y'.i = y.i) (eo : y'.o = y.o) (hd : t'.d = t.d) (hf : y'.fl = t'.fl st') : Sm (w.setCell ⟨g, j, none⟩ v) B g y' t' st' := by
 have hat : ∀ b, y'.at b → y.at b := fun b hb => by unfold Mv.at at hb ⊢; rw [em, er, ei, eo] at hb; exact hb
 have o2 : OwnM (w.setCell ⟨g, j, none⟩ v) B y t.d := h.own.keepH fun b hb _ => Below.heap_setCell w ⟨g, j, none⟩ v b (h.ne b hb)
 refine ⟨row_put h.row j v y' he, ?_, hf, h.lo, fun b hb => h.ne b (hat b hb)⟩
 rw [hd]
 obtain ⟨o1, o3, o4, o5, a1, a2, a3, a4, a5, a6⟩ := o2
 exact ⟨by rw [em]; exact o1, by rw [er]; exact o3, by rw [ei]; exact o4, by rw [eo]; exact o5, by rw [em, er]; exact a1, by rw [em, ei]; exact a2, by rw [em, eo]; exact a3, by rw [er, ei]; exact a4, by rw [er, eo]; exact a5, by rw [ei, eo]; exact a6⟩
end
structure Fm (w w' : World) (g : Nat) (y y' : Mv) : Prop where
 os : w'.os = w.os
 tape : w'.tape = w.tape
 output : w'.output = w.output
 size : w.heap.size ≤ w'.heap.size
 blk : ∀ k, k < w.heap.size → k ≠ g → ¬ y.at k → w'.heap[k]? = w.heap[k]?
 new : ∀ b, y'.at b → y.at b ∨ w.heap.size ≤ b
section
variable {w w1 w2 : World} {g : Nat} {y y1 y2 : Mv}
theorem Fm.trans (h : Fm w w1 g y y1) (k : Fm w1 w2 g y1 y2) : Fm w w2 g y y2 :=
 ⟨k.os.trans h.os, k.tape.trans h.tape, k.output.trans h.output, Nat.le_trans h.size k.size,
  fun b hb hg hy => (k.blk b (Nat.lt_of_lt_of_le hb h.size) hg (fun e => (h.new b e).elim hy (fun l => by omega))).trans (h.blk b hb hg hy),
  fun b hb => (k.new b hb).elim (fun e => h.new b e) (fun l => .inr (Nat.le_trans h.size l))⟩
theorem Fm.of (h : Below w.heap.size w w1) : Fm w w1 g y y := ⟨h.os, h.tape, h.output, h.size, fun k hk _ _ => h.block k hk, fun b hb => .inl hb⟩
theorem Fm.grown {b : Nat} (h : w.grownBy w1 (some b)) (hb : b = g ∨ y.at b) (ha : ∀ k, y1.at k → y.at k) : Fm w w1 g y y1 :=
 ⟨h.os, h.tape, h.output, h.size, fun k hk hg hy => h.block k hk (fun e => by cases e; exact hb.elim hg hy), fun k hk => .inl (ha k hk)⟩
theorem Fm.over {C : Nat} {d2 : Md} (h : Below w.heap.size w w1) (o2 : OwnM w1 C y2 d2) (hC : w.heap.size ≤ C) (cs : Array Value) : Fm w (w1.setRow g cs) g y y2 :=
 ⟨h.os, h.tape, h.output, by rw [setRow_size]; exact h.size, fun k hk hg _ => (setRow_other w1 g k cs hg).trans (h.block k hk), fun b hb => .inr (Nat.le_trans hC (o2.lo hb).1)⟩
theorem Fm.row {k : Nat} {o : Obj} (h : Fm w w1 g y y1) (hr : w.heap[k]? = some o) (hg : k ≠ g) (hy : ¬ y.at k) : w1.heap[k]? = some o := (h.blk k (row_lt hr) hg hy).trans hr
theorem Fm.bel {B : Nat} (h : Fm w w1 g y y1) (hB : B ≤ w.heap.size) (hg : B ≤ g) (hy : ∀ b, y.at b → B ≤ b) : Below B w w1 :=
 ⟨h.os, h.tape, h.output, h.size, fun k hk => h.blk k (by omega) (by omega) (fun e => by have := hy k e; omega)⟩
end
theorem sign_any (n : Int) (w : World) : Calls Tryz.prog 125 #[.int .i64 n] w fun e w' => e = .returned (.bool (sgB n)) ∧ w' = w := by
 have WR := hide (fun w => wrapS_any n w)
 unfold sgB
 generalize n % 65536 = q at WR ⊢
 go_enter Tryz.func125, Tryz.ntmps125
 go_wp2_with fail
 refine (uh WR _).mono ?_
 rintro e w' ⟨rfl, rfl⟩
 go_wp2
 go_ret
 exact ⟨rfl, rfl⟩
def Ms.nz (t : Ms) (r : Int) (v : Bool) : Ms := { t with n := sgB r, z := (r % 65536 == 0), v := v }
def Mv.nzv (y : Mv) (r : Int) (v : Bool) : Mv := { y with n := sgB r, z := (r % 65536 == 0), v := v }
theorem nz_any (B g : Nat) (y : Mv) (t : Ms) (st : Int) (r : Int) (v : Bool) (w : World) (h : Sm w B g y t st) :
  Calls Tryz.prog 123 #[.pointer (some ⟨g, 0, none⟩), .int .i64 r, .bool v] w fun e w' => e = .returned (.tuple #[]) ∧ Sm w' B g (y.nzv r v) (t.nz r v) st ∧ Fm w w' g y (y.nzv r v) := by
 have SG := hide (fun w => sign_any r w)
 have WR := hide (fun w => wrapS_any r w)
 have H := hide h
 unfold Mv.nzv Ms.nz
 generalize sgB r = q1 at SG ⊢
 generalize r % 65536 = q2 at WR ⊢
 clear h
 have c2 := row_n (uh H).row
 have f2 := row_fz (uh H).row 2
 go_enter Tryz.func123, Tryz.ntmps123
 go_wp2_with fail
 refine (uh SG _).mono ?_
 rintro e w' ⟨rfl, hw'⟩
 rw [hw']
 clear hw' w'
 have H1 := hide ((uh H).setF 2 (.bool q1) { y with n := q1 } { t with n := q1 } st rfl rfl rfl rfl rfl rfl (by have := (uh H).fl; unfold Mv.fl Ms.fl at *; simp at *; exact ⟨this.2.1, this.2.2⟩))
 have c3 := row_z (uh H1).row
 have f3 := row_fz (uh H1).row 3
 go_wp2_with fail
 refine (uh WR _).mono ?_
 rintro e w' ⟨rfl, hw'⟩
 rw [hw']
 clear hw' w'
 have H2 := hide ((uh H1).setF 3 (.bool (q2 == 0)) { y with n := q1, z := (q2 == 0) } { t with n := q1, z := (q2 == 0) } st rfl rfl rfl rfl rfl rfl (by have := (uh H1).fl; unfold Mv.fl Ms.fl at *; simp at *; exact this.2))
 have c4 := row_v (uh H2).row
 have f4 := row_fz (uh H2).row 4
 have H3 := hide ((uh H2).setF 4 (.bool v) { y with n := q1, z := (q2 == 0), v := v } { t with n := q1, z := (q2 == 0), v := v } st rfl rfl rfl rfl rfl rfl (by have := (uh H2).fl; unfold Mv.fl Ms.fl at *; simp at *; exact this.2))
 have B3 := hide (Fm.grown (y := y) (y1 := { y with n := q1, z := (q2 == 0), v := v }) (grownBy_trans (grownBy_trans (grownBy_set (w := w) (b := g) (o := 2) (.bool q1)) (grownBy_set (b := g) (o := 3) (.bool (q2 == 0)))) (grownBy_set (b := g) (o := 4) (.bool v))) (.inl rfl) (fun k hk => (hk : y.at k)))
 clear c2 f2
 go_wp2
 go_end0
 exact ⟨rfl, uh H3, uh B3⟩
end
theorem st_no (d : Md) (r a n : Int) (h : d.ldB r a = false) : d.stD r a n = d := by
 unfold Md.stD Md.put
 by_cases h1 : r = -1
 ·
  rw [if_pos h1]
  unfold Md.ldB at h
  rw [if_pos h1] at h
  rw [h]
  simp
 ·
  rw [if_neg h1, h]
  simp
theorem Sm.small {w : World} {B g : Nat} {y : Mv} {t : Ms} {st : Int} (h : Sm w B g y t st) (hk : Dk t.d) : y.small := small_mv h.own.rd hk.small
theorem Sm.over {w w0 : World} {B g C : Nat} {y y2 : Mv} {t : Ms} {st : Int} {d2 : Md} (h : Sm w B g y t st) (o2 : OwnM w C y2 d2) (hC : B ≤ C) (hg : g < C) (hf : y2.fl = y.fl) : Sm (w.setRow g y2.cs) B g y2 { t with d := d2 } st :=
 ⟨setRow_heap w g _ _ 26 _ h.row, (o2.keepH fun k hk _ => setRow_other w g k y2.cs (by have := (o2.lo hk).1; omega)).base hC, hf.trans h.fl, h.lo, fun b hb e => by have := (o2.lo hb).1; omega⟩
theorem Sm.lay {w : World} {B g : Nat} {y : Mv} {t : Ms} {st : Int} (h : Sm w B g y t st) (q : Nat) (cs : Array Value) (hq : g ≠ q) (ho : ∀ b, y.at b → b ≠ q) : Sm (w.setRow q cs) B g y t st :=
 ⟨(setRow_other w q g cs hq).trans h.row, h.own.keepH fun k hk _ => setRow_other w q k cs (ho k hk), h.fl, h.lo, h.ne⟩
theorem put7_any (B g : Nat) (y : Mv) (t : Ms) (st r a n : Int) (w : World) (h : Sm w B g y t st) (hk : Dk t.d) :
  Calls Tryz.prog 124 #[.pointer (some ⟨g, 0, none⟩), .agg #[.int .i64 r, .int .i64 a], .int .i64 n] w fun e w' => e = .returned (.bool (t.d.ldB r a)) ∧ ∃ y', Sm w' B g y' { t with d := t.d.stD r a n } st ∧ Fm w w' g y y' := by
 have GL := hide (show g < w.heap.size from row_lt h.row)
 have BL := hide (show B ≤ w.heap.size from Nat.le_of_lt (Nat.lt_of_le_of_lt h.lo (row_lt h.row)))
 have SM := hide (h.small hk)
 have NZ := hide h.own.nz
 have H0 := hide ((h.later (below_new w (.cells #[.int .i64 r, .int .i64 a] 97))).later (below_drew (w := w.alloc (.cells #[.int .i64 r, .int .i64 a] 97))))
 have P0 := hide (row_lat (heap_alloc_last w (.cells #[.int .i64 r, .int .i64 a] 97)) (below_drew (w := w.alloc (.cells #[.int .i64 r, .int .i64 a] 97))))
 have BB := hide ((below_new w (.cells #[.int .i64 r, .int .i64 a] 97)).trans ((below_drew (w := w.alloc (.cells #[.int .i64 r, .int .i64 a] 97))).mono (by simp)))
 have KS := hide (fun w (h : RdM w y t.d) => storeS_any y t.d r a n w (uh SM) (uh NZ) h)
 have SN := hide (st_no t.d r a n)
 obtain ⟨q, hq⟩ : ∃ q, t.d.ldB r a = q := ⟨_, rfl⟩
 obtain ⟨D, hD⟩ : ∃ q, t.d.stD r a n = q := ⟨_, rfl⟩
 rw [hq, hD] at KS SN
 rw [hq, hD]
 clear h hk hq hD SM NZ
 go_enter Tryz.func124, Tryz.ntmps124
 go_wp2_with fail
 refine wp_region_held_drew (S := fun v => v.heap[g]? = some (.cells y.cs 26 (0, 0)) ∧ v.heap[w.heap.size]? = some (.cells #[.int .i64 r, .int .i64 a] 97 (0, 0))) (by kernel_rfl) ⟨(uh H0).row, uh P0⟩ (fun hS => ?_)
 have HS := hide hS
 clear hS
 generalize (w.alloc (.cells #[.int .i64 r, .int .i64 a] 97)).drew = wd at H0 P0 BB HS ⊢
 refine tkB 0 (.pointer (some ⟨g, 0, none⟩)) rfl (uh HS) ?_
 go_simp
 refine tkB 1 (.pointer (some ⟨g, 0, none⟩)) rfl (uh HS) ?_
 go_simp
 refine tkA 2 (.agg y.cs) rfl (yields_load rfl 26 _ rfl g rfl 26 y.cs _ (fun w h => h.1) Tryz.underlying26 rfl (by kernel_rfl)) (uh HS) ?_
 go_simp
 refine tkA 3 (.agg #[.int .i64 r, .int .i64 a]) rfl (yields_load rfl 97 _ rfl w.heap.size rfl 97 #[.int .i64 r, .int .i64 a] _ (fun w h => h.2) Tryz.underlying97 rfl (by kernel_rfl)) (uh HS) ?_
 go_simp
 refine tkB 4 (.int .i64 n) rfl (uh HS) ?_
 go_simp
 refine wpAnyH_ready (rs := [5, 9]) (by kernel_rfl) (by simp) ?_
 refine AllReadyH.cons rfl (fun K2 hK => ?_) (AllReadyH.cons rfl (fun K2 hK => ?_) (AllReadyH.nil))
 ·
  go_simp
  have P := hide (uh KS wd (uh H0).own.rd)
  refine (uh P).mono ?_
  rintro e w2 ⟨y2, rfl, fy, oy, hb⟩
  have FY := hide fy
  have OY := hide oy
  have OYL := hide (fun b (hb : y2.at b) => (oy.lo hb).2)
  have H2 := hide ((uh H0).later hb)
  have WD := hide (show w.heap.size < wd.heap.size from row_lt (uh P0))
  have B2 := hide ((uh BB).trans (hb.mono (by have := uh BL; have := uh WD; omega)))
  have P2 := hide (row_lat (uh P0) hb)
  refine hK.out _ _ ⟨(uh H2).row, uh P2⟩ (fun hS => ?_)
  clear HS
  have HS := hide hS
  have Z2 := hide (show wd.heap.size ≤ w2.heap.size from hb.size)
  clear hS hK K2 hb fy oy P KS
  refine tkB 6 (.tuple #[.agg y2.cs, .bool q]) rfl (uh HS) ?_
  go_simp
  refine tkB 7 (.agg y2.cs) rfl (uh HS) ?_
  go_simp
  refine tkB 8 (.bool q) rfl (uh HS) ?_
  go_simp
  refine wpAnyH_ready (rs := [9]) (by kernel_rfl) (by simp) ?_
  refine AllReadyH.cons rfl (fun K2 hK => ?_) (AllReadyH.nil)
  go_simp
  have H3 := hide ((uh H2).later (below_new w2 (.cells zMv.cs 26)))
  have O3 := hide ((uh OY).later (below_new w2 (.cells zMv.cs 26)))
  have P3 := hide (row_lat (uh P2) (below_new w2 (.cells zMv.cs 26)))
  have B3 := hide ((uh B2).trans ((below_new w2 (.cells zMv.cs 26)).mono (by have := (uh B2).size; omega)))
  have R3 := hide (heap_alloc_last w2 (.cells zMv.cs 26))
  refine hK.out _ _ ⟨(uh H3).row, uh P3⟩ (fun hS => ?_)
  clear HS
  have HS := hide hS
  clear hS hK K2 H2 OY P2 B2
  refine wpAnyH_ready (rs := [10]) (by kernel_rfl) (by simp) ?_
  refine AllReadyH.cons rfl (fun K2 hK => ?_) (AllReadyH.nil)
  rw [if_pos (by rfl)]
  refine wp_store_row 26 _ _ rfl w2.heap.size y2.cs rfl rfl 26 zMv.cs (uh R3) (by kernel_rfl) rfl (Mv.cs_one _) ?_
  have OFF := hide (fun b (hb : y.at b) => (show b ≠ w2.heap.size from fun e => by have := ((uh H0).own.lo hb).2; have := uh Z2; omega))
  have OFF2 := hide (fun b (hb : y2.at b) => (show b ≠ w2.heap.size from fun e => by have := (uh OYL b hb); omega))
  have GW := hide (show g < w2.heap.size by have := uh GL; have := uh WD; have := uh Z2; omega)
  have H4 := hide ((uh H3).lay w2.heap.size y2.cs (by have := uh GW; omega) (fun b hb => uh OFF b hb))
  have O4 := hide ((uh O3).keepH fun k hk _ => setRow_other (w2.alloc (.cells zMv.cs 26)) w2.heap.size k y2.cs (fun e => uh OFF2 k hk e))
  have P4 := hide ((setRow_other (w2.alloc (.cells zMv.cs 26)) w2.heap.size w.heap.size y2.cs (by have := uh WD; have := uh Z2; omega)).trans (uh P3))
  have B4 := hide (below_setRow (g := w2.heap.size) (uh B3) (by have := uh BL; have := uh WD; have := uh Z2; omega) y2.cs)
  have R4 := hide (setRow_heap (w2.alloc (.cells zMv.cs 26)) w2.heap.size _ y2.cs 26 _ (uh R3))
  refine hK.out _ _ ⟨(uh H4).row, uh P4⟩ (fun hS => ?_)
  clear HS
  have HS := hide hS
  clear hS hK K2 H3 O3 P3 B3 R3
  go_simp
  refine tkB 11 (.bool q) rfl (uh HS) ?_
  go_simp
  refine wpAnyH_done (by kernel_rfl) ?_ _
  clear HS
  cases q
  ·
   have hD := (uh SN (by trivial)).symm
   subst hD
   go_wp2_with fail
   go_ret
   exact ⟨rfl, y, uh H4, Fm.of (uh B4)⟩
  ·
   have H9 := hide ((uh H4).over (w0 := w) (uh O4) (by have := uh BL; have := uh WD; omega) (by have := uh GL; have := uh WD; omega) (uh FY))
   have B9 := hide (Fm.over (g := g) (y := y) (uh B4) (uh O4) (by have := uh WD; omega) y2.cs)
   go_wp2_with (first | (refine wpList_load_row rfl 26 _ rfl w2.heap.size rfl 26 y2.cs (0, 0) _ (uh R4) Tryz.underlying26 rfl (by kernel_rfl) ?_) | (refine wpList_store_row rfl 26 _ _ rfl g y2.cs rfl rfl 26 y.cs (uh H4).row (by kernel_rfl) rfl (Mv.cs_one _) ?_))
   go_ret
   exact ⟨rfl, y2, uh H9, uh B9⟩
 ·
  go_simp
  have WD := hide (show w.heap.size < wd.heap.size from row_lt (uh P0))
  have H1 := hide ((uh H0).later (below_new wd (.cells zMv.cs 26)))
  have P1 := hide (row_lat (uh P0) (below_new wd (.cells zMv.cs 26)))
  have B1 := hide ((uh BB).trans ((below_new wd (.cells zMv.cs 26)).mono (by have := uh BL; have := uh WD; omega)))
  have R1 := hide (heap_alloc_last wd (.cells zMv.cs 26))
  have P := hide (uh KS (wd.alloc (.cells zMv.cs 26)) (uh H1).own.rd)
  refine hK.out _ _ ⟨(uh H1).row, uh P1⟩ (fun hS => ?_)
  clear HS
  have HS := hide hS
  clear hS hK K2
  refine wpAnyH_ready (rs := [5]) (by kernel_rfl) (by simp) ?_
  refine AllReadyH.cons rfl (fun K2 hK => ?_) (AllReadyH.nil)
  go_simp
  refine (uh P).mono ?_
  rintro e w2 ⟨y2, rfl, fy, oy, hb⟩
  have FY := hide fy
  have OY := hide (oy.base (C := wd.heap.size + 1) (by simp))
  have H2 := hide ((uh H1).later hb)
  have B2 := hide ((uh B1).trans (hb.mono (by have := uh BL; have := uh WD; simp; omega)))
  have P2 := hide (row_lat (uh P1) hb)
  have R2 := hide (row_lat (uh R1) hb)
  refine hK.out _ _ ⟨(uh H2).row, uh P2⟩ (fun hS => ?_)
  clear HS
  have HS := hide hS
  clear hS hK K2 hb fy oy P KS H1 P1 B1 R1
  refine tkB 6 (.tuple #[.agg y2.cs, .bool q]) rfl (uh HS) ?_
  go_simp
  refine tkB 7 (.agg y2.cs) rfl (uh HS) ?_
  go_simp
  refine tkB 8 (.bool q) rfl (uh HS) ?_
  go_simp
  refine wpAnyH_ready (rs := [10]) (by kernel_rfl) (by simp) ?_
  refine AllReadyH.cons rfl (fun K2 hK => ?_) (AllReadyH.nil)
  rw [if_pos (by rfl)]
  refine wp_store_row 26 _ _ rfl wd.heap.size y2.cs rfl rfl 26 zMv.cs (uh R2) (by kernel_rfl) rfl (Mv.cs_one _) ?_
  have GW := hide (show g < wd.heap.size by have := uh GL; have := uh WD; omega)
  have H4 := hide ((uh H2).lay wd.heap.size y2.cs (by have := uh GW; omega) (fun b hb e => by have := ((uh H0).own.lo hb).2; omega))
  have O4 := hide ((uh OY).keepH fun k hk _ => setRow_other w2 wd.heap.size k y2.cs (fun e => by have := ((uh OY).lo hk).1; omega))
  have P4 := hide ((setRow_other w2 wd.heap.size w.heap.size y2.cs (by have := uh WD; omega)).trans (uh P2))
  have B4 := hide (below_setRow (g := wd.heap.size) (uh B2) (by have := uh BL; have := uh WD; omega) y2.cs)
  have R4 := hide (setRow_heap w2 wd.heap.size _ y2.cs 26 _ (uh R2))
  refine hK.out _ _ ⟨(uh H4).row, uh P4⟩ (fun hS => ?_)
  clear HS
  have HS := hide hS
  clear hS hK K2
  go_simp
  refine tkB 11 (.bool q) rfl (uh HS) ?_
  go_simp
  refine wpAnyH_done (by kernel_rfl) ?_ _
  clear HS
  cases q
  ·
   have hD := (uh SN (by trivial)).symm
   subst hD
   go_wp2_with fail
   go_ret
   exact ⟨rfl, y, uh H4, Fm.of (uh B4)⟩
  ·
   have H9 := hide ((uh H4).over (w0 := w) (uh O4) (by have := uh BL; have := uh WD; omega) (by have := uh GL; have := uh WD; omega) (uh FY))
   have B9 := hide (Fm.over (g := g) (y := y) (uh B4) (uh O4) (by have := uh WD; omega) y2.cs)
   go_wp2_with (first | (refine wpList_load_row rfl 26 _ rfl wd.heap.size rfl 26 y2.cs (0, 0) _ (uh R4) Tryz.underlying26 rfl (by kernel_rfl) ?_) | (refine wpList_store_row rfl 26 _ _ rfl g y2.cs rfl rfl 26 y.cs (uh H4).row (by kernel_rfl) rfl (Mv.cs_one _) ?_))
   go_ret
   exact ⟨rfl, y2, uh H9, uh B9⟩
end Go.Proofs.YtjpbjbnialehbaaGreatDoor
