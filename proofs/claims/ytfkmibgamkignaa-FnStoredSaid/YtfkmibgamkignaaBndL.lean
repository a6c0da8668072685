/- Contracts over this seat's translation, laid together; conditions stand as hypotheses of each. -/
import Derived.Test.YtfkmibgamkignaaBndH
import Derived.Test.YtfkmibgamkignaaBndJ
import Derived.Test.YtfkmibgamkignaaBndK
import Derived.Deep.CutRange

namespace Go.Proofs.Ytfkmibgamkignaa
open Go.ChangeShapes Go.WideShapes Go.ChangeAt Go.RowKit
set_option linter.unusedVariables false
set_option maxRecDepth 8000
set_option linter.unusedSimpArgs false

/-- A list lies from a bound on. -/
def LoS (B : Nat) (s : Sl) (ns : List Int) : Prop := ns = [] ∨ ∀ ad, s.a = some ad → B ≤ ad.block
/-- A machine that is read, of blocks from B on; right or not. -/
structure Am (w : World) (B : Nat) (x : Mv) (d : Md) : Prop where
  rd : RdM w x d
  sm : d.small
  nz : x.nz
  r8 : d.r.length ≤ 8
  lm : LoS B x.m d.m
  lr : LoS B x.r d.r
  li : LoS B x.i d.i
  lo : LoS B x.o d.o
section
variable {w w' : World} {B : Nat} {x : Mv} {d : Md}
theorem RdN.pastB {a : Option Addr} {ns : List Int} {r : Option Nat} (h : RdN w a ns) (hg : w.grownBy w' r) (hl : ns = [] ∨ ∀ ad, a = some ad → B ≤ ad.block) (hr : ∀ b, r = some b → b < B) : RdN w' a ns := by
  rcases h with h0 | ⟨b, off, ha, hb, hc⟩
  · exact .inl h0
  · by_cases h0 : ns = []
    · exact .inl h0
    refine .inr ⟨b, off, ha, Nat.lt_of_lt_of_le hb hg.size, fun i hi => ?_⟩
    rcases hl with hl | hl
    · exact absurd hl h0
    have hB := hl _ ha
    have e : w'.heap[b]? = w.heap[b]? := hg.block b hb (fun e => by have := hr _ e.symm; simp only at hB; omega)
    rw [← hc i hi]
    unfold World.cell?
    simp only [e]
theorem Am.past {r : Option Nat} (h : Am w B x d) (hg : w.grownBy w' r) (hr : ∀ b, r = some b → b < B) : Am w' B x d :=
  { h with rd := ⟨h.rd.m.pastB hg h.lm hr, h.rd.r.pastB hg h.lr hr, h.rd.i.pastB hg h.li hr, h.rd.o.pastB hg h.lo hr, h.rd.ml, h.rd.rl, h.rd.il, h.rd.ol⟩ }
theorem Am.later (h : Am w B x d) (hb : Below w.heap.size w w') : Am w' B x d := { h with rd := h.rd.later hb }
theorem Am.row (h : Am w B x d) {g : Nat} (hg : g < B) (cs : Array Value) : Am (w.setRow g cs) B x d := h.past (grownBy_setRow cs) (fun b e => by cases e; exact hg)
theorem Am.base {C : Nat} (h : Am w B x d) (hC : C ≤ B) : Am w C x d :=
  { h with lm := h.lm.imp id (fun k ad e => Nat.le_trans hC (k ad e)), lr := h.lr.imp id (fun k ad e => Nat.le_trans hC (k ad e)), li := h.li.imp id (fun k ad e => Nat.le_trans hC (k ad e)), lo := h.lo.imp id (fun k ad e => Nat.le_trans hC (k ad e)) }
theorem OwnN.los {s : Sl} {ns : List Int} (h : OwnN w B s.v ns) : LoS B s ns := by
  obtain ⟨h1, ⟨h2, h3⟩ | ⟨gm, cap, cur, e, hB, hh, hn, hm, hs, ht⟩⟩ := id h
  · exact .inl (List.eq_nil_of_length_eq_zero h3)
  · refine .inr fun ad ea => ?_
    have e2 : s.v = Value.slice s.a s.n s.c := rfl
    rw [e2, ea] at e
    injection e with e
    injection e with e
    rw [e]
    exact hB
theorem OwnM.am (h : OwnM w B x d) (hs : d.small) (h8 : d.r.length ≤ 8) : Am w B x d := ⟨h.rd, hs, h.nz, h8, h.m.los, h.r.los, h.i.los, h.o.los⟩
end


theorem Am.ofM {w : World} {B : Nat} {y : Mv} {d : Md} (O : OwnM w B y d) (hD : Dk d) {s : Sl} {ns : List Int} (hr : RdN w s.a ns) (hl : ns.length = s.n) (hb : ns.length ≤ 1048576) (hz : s.nz) (lo : LoS B s ns) : Am w B { y with m := s } ⟨ns, d.r, d.i, d.o⟩ :=
  ⟨⟨hr, O.rd.r, O.rd.i, O.rd.o, hl, O.rd.rl, O.rd.il, O.rd.ol⟩, ⟨hb, hD.small.2⟩, ⟨hz, O.nz.2⟩, by have := hD.rl; show d.r.length ≤ 8; omega, lo, O.r.los, O.i.los, O.o.los⟩
theorem Am.ofR {w : World} {B : Nat} {y : Mv} {d : Md} (O : OwnM w B y d) (hD : Dk d) {s : Sl} {ns : List Int} (hr : RdN w s.a ns) (hl : ns.length = s.n) (hb : ns.length ≤ 8) (hz : s.nz) (lo : LoS B s ns) : Am w B { y with r := s } ⟨d.m, ns, d.i, d.o⟩ :=
  ⟨⟨O.rd.m, hr, O.rd.i, O.rd.o, O.rd.ml, hl, O.rd.il, O.rd.ol⟩, ⟨hD.small.1, by show ns.length ≤ _; omega, hD.small.2.2⟩, ⟨O.nz.1, hz, O.nz.2.2⟩, hb, O.m.los, lo, O.i.los, O.o.los⟩
theorem Am.ofI {w : World} {B : Nat} {y : Mv} {d : Md} (O : OwnM w B y d) (hD : Dk d) {s : Sl} {ns : List Int} (hr : RdN w s.a ns) (hl : ns.length = s.n) (hb : ns.length ≤ 1048576) (hz : s.nz) (lo : LoS B s ns) : Am w B { y with i := s } ⟨d.m, d.r, ns, d.o⟩ :=
  ⟨⟨O.rd.m, O.rd.r, hr, O.rd.o, O.rd.ml, O.rd.rl, hl, O.rd.ol⟩, ⟨hD.small.1, hD.small.2.1, hb, hD.small.2.2.2⟩, ⟨O.nz.1, O.nz.2.1, hz, O.nz.2.2.2⟩, by have := hD.rl; show d.r.length ≤ 8; omega, O.m.los, O.r.los, lo, O.o.los⟩
theorem Am.ofO {w : World} {B : Nat} {y : Mv} {d : Md} (O : OwnM w B y d) (hD : Dk d) {s : Sl} {ns : List Int} (hr : RdN w s.a ns) (hl : ns.length = s.n) (hb : ns.length ≤ 1048576) (hz : s.nz) (lo : LoS B s ns) : Am w B { y with o := s } ⟨d.m, d.r, d.i, ns⟩ :=
  ⟨⟨O.rd.m, O.rd.r, O.rd.i, hr, O.rd.ml, O.rd.rl, O.rd.il, hl⟩, ⟨hD.small.1, hD.small.2.1, hD.small.2.2.1, hb⟩, ⟨O.nz.1, O.nz.2.1, O.nz.2.2.1, hz⟩, by have := hD.rl; show d.r.length ≤ 8; omega, O.m.los, O.r.los, O.i.los, lo⟩
/-- What stands ahead of the answer. -/
structure Fa (w wr : World) (cb : Nat) (a : Option Addr) (len cap : Nat) (xs : List UInt8) (y : Mv) (g5 : Nat) (d : Md) : Prop where
  er : Er w wr cb a len cap xs zMv.cs 28
  r5 : wr.heap[g5]? = some (.cells y.cs 28 (0, 0))
  am : Am wr (w.heap.size + 1) y d
section
variable {w wr w' : World} {cb : Nat} {a : Option Addr} {len cap : Nat} {xs : List UInt8} {y : Mv} {g5 : Nat} {d : Md}
theorem Ed.er (h : Ed w wr cb a len cap xs y g5 d) : Er w wr cb a len cap xs zMv.cs 28 := ⟨h.cur, h.gr, h.re, h.lt, h.cd⟩
theorem Ed.fa (h : Ed w wr cb a len cap xs y g5 d) (hs : d.small) (h8 : d.r.length ≤ 8) : Fa w wr cb a len cap xs y g5 d := ⟨h.er, h.r5, h.own.am hs h8⟩
/-- A list of the machine laid anew. -/
theorem Ed.own5 (h : Ed w wr cb a len cap xs y g5 d) (j : Nat) (v : Value) : OwnM (wr.setCell ⟨g5, j, none⟩ v) (w.heap.size + 1) y d := h.own.keepH fun b hb _ => Below.heap_setCell wr ⟨g5, j, none⟩ v b (h.ne b hb)
theorem Ed.put5 (h : Ed w wr cb a len cap xs y g5 d) (j : Nat) (v : Value) (y' : Mv) (d' : Md) (he : y.cs.setIfInBounds j v = y'.cs) (ha : Am (wr.setCell ⟨g5, j, none⟩ v) (w.heap.size + 1) y' d') : Fa w (wr.setCell ⟨g5, j, none⟩ v) cb a len cap xs y' g5 d' :=
  ⟨⟨h.cur.past (grownBy_set v) h.lt h.cd (fun g e => by cases e; have := h.l5; omega), grownBy_own h.gr (grownBy_set v) (fun g e => by cases e; have := h.l5; omega), row_keep h.re (by have := h.l5; omega), h.lt, h.cd⟩, row_put h.r5 j v y' he, ha⟩
theorem Fa.done (h : Fa w wr cb a len cap xs y g5 d) : (wr.setRow w.heap.size y.cs).heap[w.heap.size]? = some (.cells y.cs 28 (0, 0)) ∧ Am (wr.setRow w.heap.size y.cs) (w.heap.size + 1) y d ∧ Cur (wr.setRow w.heap.size y.cs) cb a len cap xs ∧ w.grownBy (wr.setRow w.heap.size y.cs) (some cb) :=
  ⟨(h.er.store y.cs).re, h.am.row (by omega) _, (h.er.store y.cs).cur, (h.er.store y.cs).gr⟩
theorem Ed.rdx (h : Ed w wr cb a len cap xs y g5 d) {s : Sl} {ns : List Int} {j : Nat} {v : Value} (hr : RdN wr s.a ns) (lo : LoS (w.heap.size + 1) s ns) (hn : ∀ ad, s.a = some ad → ad.block ≠ g5) : RdN (wr.setCell ⟨g5, j, none⟩ v) s.a ns := hr.put (.inr hn)
end
theorem rdN_take {w : World} {a : Option Addr} {ns : List Int} (h : RdN w a ns) (k : Nat) : RdN w a (ns.take k) := by
  rcases h with h0 | ⟨b, off, ha, hb, hc⟩
  · exact .inl (by rw [h0]; simp)
  · refine .inr ⟨b, off, ha, hb, fun i hi => ?_⟩
    have hi' : i < k ∧ i < ns.length := by simp at hi; omega
    rw [hc i hi'.2]
    congr 2
    unfold nAt
    rw [List.getD_eq_getElem?_getD, List.getD_eq_getElem?_getD, List.getElem?_take, if_pos hi'.1]
theorem cuts_bd : ∀ i : Fin 3, 0 ≤ nAt [0, 100, 255] i.val ∧ nAt [0, 100, 255] i.val ≤ 255 := by decide +kernel
theorem row_cell5 {w : World} {g gm n c k : Nat} {y : Mv} (h : w.heap[g]? = some (.cells y.cs 28 (0, 0))) (e : y.m = ⟨some ⟨gm, 0, none⟩, n, c⟩) (hn : n = k) : w.cell? ⟨g, 0, none⟩ = some (.slice (some ⟨gm, 0, none⟩) k c) := by
  have := row_m h
  rw [e, hn] at this
  exact this
theorem row_cell6 {w : World} {g gm n c k : Nat} {y : Mv} (h : w.heap[g]? = some (.cells y.cs 28 (0, 0))) (e : y.r = ⟨some ⟨gm, 0, none⟩, n, c⟩) (hn : n = k) : w.cell? ⟨g, 1, none⟩ = some (.slice (some ⟨gm, 0, none⟩) k c) := by
  have := row_r h
  rw [e, hn] at this
  exact this
theorem own_form2 {w : World} {B : Nat} {s : Sl} {ns : List Int} (h : OwnN w B s.v ns) (h0 : 0 < ns.length) : ∃ g c, s = ⟨some ⟨g, 0, none⟩, ns.length, c⟩ ∧ ns.length ≤ c := by
  obtain ⟨sa, sn, sc⟩ := s
  rcases h.form with ⟨_, e⟩ | ⟨g, c, e, _, _, hc, _⟩
  · rw [e] at h0; simp at h0
  · unfold Sl.v at e
    simp at e
    obtain ⟨rfl, rfl, rfl⟩ := e
    exact ⟨g, sc, rfl, hc⟩

theorem los_take {B g n c k c2 m : Nat} {ns : List Int} (h : LoS B ⟨some ⟨g, 0, none⟩, n, c⟩ ns) : LoS B ⟨some ⟨g, 0, none⟩, k, c2⟩ (ns.take m) := by
  rcases h with h | h
  · exact .inl (by rw [h]; simp)
  · exact .inr h

set_option maxHeartbeats 4000000 in
theorem any5_any (cb : Nat) (a : Option Addr) (len cap : Nat) (xs : List UInt8) (w : World) (hc : Cur w cb a len cap xs) :
    Calls Try.prog 61 #[.pointer (some ⟨cb, 0, none⟩)] w fun e w' => ∃ (x : Mv) (d : Md), e = .returned (.agg x.cs) ∧ Am w' (w.heap.size + 1) x d ∧ Cur w' cb a len cap xs ∧ w.grownBy w' (some cb) := by
  have E0 := hide (er_new hc zMv.cs 28)
  have I0 := hide (draw5_any cb a len cap xs _ (unhide E0).cur)
  have hlt := hc.lt
  have CD := hide hc.code
  clear hc
  go_enter Try.func61, Try.ntmps61
  go_wp2_with fail
  refine (unhide I0).mono ?_
  rintro e w1 ⟨y, d, rfl, hst, hD, oy, hc1, hg1⟩
  have E1 := hide ((unhide E0).draw hc1 hg1)
  have s1 : w.heap.size < w1.heap.size := row_lt (unhide E1).re
  have O1 := hide (oy.base (C := w.heap.size + 1) (by simp))
  have DD := hide hD
  have D1 := hide (show Ed w (w1.alloc (.cells y.cs 28)) cb a len cap xs y w1.heap.size d from ⟨(unhide E1).cur.later (below_new w1 _), grown_below (unhide E1).gr (below_new w1 _), row_lat (unhide E1).re (below_new w1 _), heap_alloc_last w1 _, (unhide O1).later (below_new w1 _), s1, fun b hb => by have := ((unhide O1).lo hb).2; omega, hlt, unhide CD⟩)
  have I1 := hide (below_any cb a len cap xs 16 _ (by omega) (unhide D1).cur)
  clear hc1 hg1 I0 E0 E1 O1 oy hst hD
  go_wp2_with (refine wpList_store_new rfl 28 _ _ rfl y.cs rfl rfl _ (by kernel_rfl) rfl (Mv.cs_one _) ?_)
  refine (unhide I1).mono ?_
  rintro e w2 ⟨v, hv0, hv1, rfl, hc2, hg2⟩
  have D2 := hide ((unhide D1).draw hc2 hg2)
  clear hc2 hg2 I1 D1
  obtain ⟨gm, cm, em, lm⟩ := own_form2 (unhide D2).own.m (by have := (unhide DD).ml; omega)
  obtain ⟨gr, cr, er, lr⟩ := own_form2 (unhide D2).own.r (by have := (unhide DD).rl; omega)
  have EM := hide em
  have ERR := hide er
  have LM := hide lm
  have LR := hide lr
  clear em er lm lr
  by_cases q0 : v = 0
  · subst q0
    clear hv0 hv1
    have D3 := hide ((unhide D2).later below_drew)
    go_wp2_with fail
    refine wp_region_any (by kernel_rfl) ?_
    change wpAny _ _ _ _ _ _ _ (World.drew _)
    clear D2
    generalize w2.drew = wd at D3 ⊢
    have I3 := hide (int_lit cb a len cap xs wd (unhide D3).cur [0, 100, 255] 3 rfl (by omega) (by omega) wd.heap.size rfl _ rfl)
    have D4 := hide ((unhide D3).later (below_new wd (.cells #[.int .i64 0, .int .i64 100, .int .i64 255] 3)))
    refine wpAny_take (i := 0) (v := .pointer (some ⟨w1.heap.size, 0, none⟩)) rfl (by kernel_rfl) (by kernel_rfl) (by kernel_rfl) (fun _ _ _ h => h) (Or.inl ⟨by rfl, fun w => ?_⟩) ?_
    · go_simp
    go_simp
    refine wpAny_take (i := 2) (v := .pointer (some ⟨cb, 0, none⟩)) rfl (by kernel_rfl) (by kernel_rfl) (by kernel_rfl) (fun _ _ _ h => h) (Or.inl ⟨by rfl, fun w => ?_⟩) ?_
    · go_simp
    go_simp
    refine wpAny_ready (rs := [1, 3]) (by kernel_rfl) (by simp) ?_
    refine AllReady.cons rfl (fun K2 hK => ?_) (AllReady.cons rfl (fun K2 hK => ?_) (AllReady.nil))
    · skip
      have o0 := row_cell5 (unhide D3).r5 (unhide EM) (unhide DD).ml
      go_simp
      clear o0
      refine hK _ _ ?_
      clear hK K2
      refine wpAny_ready (rs := [3]) (by kernel_rfl) (by simp) ?_
      refine AllReady.cons rfl (fun K2 hK => ?_) (AllReady.nil)
      go_simp
      refine hK _ _ ?_
      clear hK K2
      refine wpAny_ready (rs := [4]) (by kernel_rfl) (by simp) ?_
      refine AllReady.cons rfl (fun K2 hK => ?_) (AllReady.nil)
      go_simp
      refine (unhide I3).mono ?_
      rintro e w4 ⟨j, hj, rfl, hc3, hg3⟩
      have hjb := cuts_bd ⟨j, hj⟩
      simp only at hjb
      generalize nAt [0, 100, 255] j = kk at hjb ⊢
      obtain ⟨k0, k1⟩ := hjb
      obtain ⟨k, rfl⟩ := Int.eq_ofNat_of_zero_le k0
      have D5 := hide ((unhide D4).draw hc3 hg3)
      refine hK _ _ ?_
      clear hK K2 hc3 hg3 I3 hj
      have hkc : (k : Int) ≤ (cm : Int) := by have := (unhide DD).ml; have := unhide LM; omega
      have hkc2 : k ≤ cm := by omega
      refine wpAny_take (i := 5) (v := .slice (some ⟨gm, 0, none⟩) k cm) rfl (by kernel_rfl) (by kernel_rfl) (by kernel_rfl) (fun _ _ _ h => h) (Or.inl ⟨by rfl, fun w => ?_⟩) ?_
      · go_simp
      go_simp
      refine wpAny_take (i := 6) (v := .pointer (some ⟨w1.heap.size, 0, none⟩)) rfl (by kernel_rfl) (by kernel_rfl) (by kernel_rfl) (fun _ _ _ h => h) (Or.inl ⟨by rfl, fun w => ?_⟩) ?_
      · go_simp
      go_simp
      refine wpAny_ready (rs := [7]) (by kernel_rfl) (by simp) ?_
      refine AllReady.cons rfl (fun K2 hK => ?_) (AllReady.nil)
      have o0 := row_m (unhide D5).r5
      have f0 := row_fz (unhide D5).r5 0
      go_simp
      clear o0 f0
      refine hK _ _ ?_
      clear hK K2
      have FF := hide ((unhide D5).put5 0 (.slice (some ⟨gm, 0, none⟩) k cm) ({ y with m := ⟨some ⟨gm, 0, none⟩, k, cm⟩ } : Mv) ⟨d.m.take k, d.r, d.i, d.o⟩ rfl (Am.ofM ((unhide D5).own5 0 _) (unhide DD) (s := ⟨some ⟨gm, 0, none⟩, k, cm⟩) (by have h := ((unhide D5).own5 0 (.slice (some ⟨gm, 0, none⟩) k cm)).rd.m; rw [unhide EM] at h; exact rdN_take h k) (by have := (unhide DD).ml; simp; omega) (by have := (unhide DD).ml; simp; omega) (fun h => by cases h) (los_take (by have h := (unhide D5).own.m.los; rw [unhide EM] at h; exact h))))
      refine wpAny_done (by kernel_rfl) ?_ _
      go_wp2_with (first | (refine wpList_load_row rfl 28 _ rfl w1.heap.size rfl 28 (Mv.cs ({ y with m := ⟨some ⟨gm, 0, none⟩, k, cm⟩ } : Mv)) (0, 0) _ (unhide FF).r5 Try.underlying28 rfl (by kernel_rfl) ?_) | (refine wpList_store_row rfl 28 _ _ rfl w.heap.size (Mv.cs ({ y with m := ⟨some ⟨gm, 0, none⟩, k, cm⟩ } : Mv)) rfl rfl 28 zMv.cs (unhide FF).er.re (by kernel_rfl) rfl (Mv.cs_one _) ?_))
      obtain ⟨r1, r2, r3, r4⟩ := (unhide FF).done
      refine bodyPost_ret (results_cell_row (P := Try.prog) rfl _ _ w.heap.size 28 (Mv.cs ({ y with m := ⟨some ⟨gm, 0, none⟩, k, cm⟩ } : Mv)) (0, 0) _ rfl r1 Try.underlying28 rfl (by kernel_rfl)) rfl ?_
      exact ⟨_, _, rfl, r2, r3, r4⟩
    · skip
      go_simp
      refine hK _ _ ?_
      clear hK K2
      refine wpAny_ready (rs := [1, 4]) (by kernel_rfl) (by simp) ?_
      refine AllReady.cons rfl (fun K2 hK => ?_) (AllReady.cons rfl (fun K2 hK => ?_) (AllReady.nil))
      · skip
        have o0 := row_cell5 (unhide D4).r5 (unhide EM) (unhide DD).ml
        go_simp
        clear o0
        refine hK _ _ ?_
        clear hK K2
        refine wpAny_ready (rs := [4]) (by kernel_rfl) (by simp) ?_
        refine AllReady.cons rfl (fun K2 hK => ?_) (AllReady.nil)
        go_simp
        refine (unhide I3).mono ?_
        rintro e w4 ⟨j, hj, rfl, hc3, hg3⟩
        have hjb := cuts_bd ⟨j, hj⟩
        simp only at hjb
        generalize nAt [0, 100, 255] j = kk at hjb ⊢
        obtain ⟨k0, k1⟩ := hjb
        obtain ⟨k, rfl⟩ := Int.eq_ofNat_of_zero_le k0
        have D5 := hide ((unhide D4).draw hc3 hg3)
        refine hK _ _ ?_
        clear hK K2 hc3 hg3 I3 hj
        have hkc : (k : Int) ≤ (cm : Int) := by have := (unhide DD).ml; have := unhide LM; omega
        have hkc2 : k ≤ cm := by omega
        refine wpAny_take (i := 5) (v := .slice (some ⟨gm, 0, none⟩) k cm) rfl (by kernel_rfl) (by kernel_rfl) (by kernel_rfl) (fun _ _ _ h => h) (Or.inl ⟨by rfl, fun w => ?_⟩) ?_
        · go_simp
        go_simp
        refine wpAny_take (i := 6) (v := .pointer (some ⟨w1.heap.size, 0, none⟩)) rfl (by kernel_rfl) (by kernel_rfl) (by kernel_rfl) (fun _ _ _ h => h) (Or.inl ⟨by rfl, fun w => ?_⟩) ?_
        · go_simp
        go_simp
        refine wpAny_ready (rs := [7]) (by kernel_rfl) (by simp) ?_
        refine AllReady.cons rfl (fun K2 hK => ?_) (AllReady.nil)
        have o0 := row_m (unhide D5).r5
        have f0 := row_fz (unhide D5).r5 0
        go_simp
        clear o0 f0
        refine hK _ _ ?_
        clear hK K2
        have FF := hide ((unhide D5).put5 0 (.slice (some ⟨gm, 0, none⟩) k cm) ({ y with m := ⟨some ⟨gm, 0, none⟩, k, cm⟩ } : Mv) ⟨d.m.take k, d.r, d.i, d.o⟩ rfl (Am.ofM ((unhide D5).own5 0 _) (unhide DD) (s := ⟨some ⟨gm, 0, none⟩, k, cm⟩) (by have h := ((unhide D5).own5 0 (.slice (some ⟨gm, 0, none⟩) k cm)).rd.m; rw [unhide EM] at h; exact rdN_take h k) (by have := (unhide DD).ml; simp; omega) (by have := (unhide DD).ml; simp; omega) (fun h => by cases h) (los_take (by have h := (unhide D5).own.m.los; rw [unhide EM] at h; exact h))))
        refine wpAny_done (by kernel_rfl) ?_ _
        go_wp2_with (first | (refine wpList_load_row rfl 28 _ rfl w1.heap.size rfl 28 (Mv.cs ({ y with m := ⟨some ⟨gm, 0, none⟩, k, cm⟩ } : Mv)) (0, 0) _ (unhide FF).r5 Try.underlying28 rfl (by kernel_rfl) ?_) | (refine wpList_store_row rfl 28 _ _ rfl w.heap.size (Mv.cs ({ y with m := ⟨some ⟨gm, 0, none⟩, k, cm⟩ } : Mv)) rfl rfl 28 zMv.cs (unhide FF).er.re (by kernel_rfl) rfl (Mv.cs_one _) ?_))
        obtain ⟨r1, r2, r3, r4⟩ := (unhide FF).done
        refine bodyPost_ret (results_cell_row (P := Try.prog) rfl _ _ w.heap.size 28 (Mv.cs ({ y with m := ⟨some ⟨gm, 0, none⟩, k, cm⟩ } : Mv)) (0, 0) _ rfl r1 Try.underlying28 rfl (by kernel_rfl)) rfl ?_
        exact ⟨_, _, rfl, r2, r3, r4⟩
      · skip
        go_simp
        refine (unhide I3).mono ?_
        rintro e w4 ⟨j, hj, rfl, hc3, hg3⟩
        have hjb := cuts_bd ⟨j, hj⟩
        simp only at hjb
        generalize nAt [0, 100, 255] j = kk at hjb ⊢
        obtain ⟨k0, k1⟩ := hjb
        obtain ⟨k, rfl⟩ := Int.eq_ofNat_of_zero_le k0
        have D5 := hide ((unhide D4).draw hc3 hg3)
        refine hK _ _ ?_
        clear hK K2 hc3 hg3 I3 hj
        have hkc : (k : Int) ≤ (cm : Int) := by have := (unhide DD).ml; have := unhide LM; omega
        have hkc2 : k ≤ cm := by omega
        refine wpAny_ready (rs := [1]) (by kernel_rfl) (by simp) ?_
        refine AllReady.cons rfl (fun K2 hK => ?_) (AllReady.nil)
        have o0 := row_cell5 (unhide D5).r5 (unhide EM) (unhide DD).ml
        go_simp
        clear o0
        refine hK _ _ ?_
        clear hK K2
        refine wpAny_take (i := 5) (v := .slice (some ⟨gm, 0, none⟩) k cm) rfl (by kernel_rfl) (by kernel_rfl) (by kernel_rfl) (fun _ _ _ h => h) (Or.inl ⟨by rfl, fun w => ?_⟩) ?_
        · go_simp
        go_simp
        refine wpAny_take (i := 6) (v := .pointer (some ⟨w1.heap.size, 0, none⟩)) rfl (by kernel_rfl) (by kernel_rfl) (by kernel_rfl) (fun _ _ _ h => h) (Or.inl ⟨by rfl, fun w => ?_⟩) ?_
        · go_simp
        go_simp
        refine wpAny_ready (rs := [7]) (by kernel_rfl) (by simp) ?_
        refine AllReady.cons rfl (fun K2 hK => ?_) (AllReady.nil)
        have o0 := row_m (unhide D5).r5
        have f0 := row_fz (unhide D5).r5 0
        go_simp
        clear o0 f0
        refine hK _ _ ?_
        clear hK K2
        have FF := hide ((unhide D5).put5 0 (.slice (some ⟨gm, 0, none⟩) k cm) ({ y with m := ⟨some ⟨gm, 0, none⟩, k, cm⟩ } : Mv) ⟨d.m.take k, d.r, d.i, d.o⟩ rfl (Am.ofM ((unhide D5).own5 0 _) (unhide DD) (s := ⟨some ⟨gm, 0, none⟩, k, cm⟩) (by have h := ((unhide D5).own5 0 (.slice (some ⟨gm, 0, none⟩) k cm)).rd.m; rw [unhide EM] at h; exact rdN_take h k) (by have := (unhide DD).ml; simp; omega) (by have := (unhide DD).ml; simp; omega) (fun h => by cases h) (los_take (by have h := (unhide D5).own.m.los; rw [unhide EM] at h; exact h))))
        refine wpAny_done (by kernel_rfl) ?_ _
        go_wp2_with (first | (refine wpList_load_row rfl 28 _ rfl w1.heap.size rfl 28 (Mv.cs ({ y with m := ⟨some ⟨gm, 0, none⟩, k, cm⟩ } : Mv)) (0, 0) _ (unhide FF).r5 Try.underlying28 rfl (by kernel_rfl) ?_) | (refine wpList_store_row rfl 28 _ _ rfl w.heap.size (Mv.cs ({ y with m := ⟨some ⟨gm, 0, none⟩, k, cm⟩ } : Mv)) rfl rfl 28 zMv.cs (unhide FF).er.re (by kernel_rfl) rfl (Mv.cs_one _) ?_))
        obtain ⟨r1, r2, r3, r4⟩ := (unhide FF).done
        refine bodyPost_ret (results_cell_row (P := Try.prog) rfl _ _ w.heap.size 28 (Mv.cs ({ y with m := ⟨some ⟨gm, 0, none⟩, k, cm⟩ } : Mv)) (0, 0) _ rfl r1 Try.underlying28 rfl (by kernel_rfl)) rfl ?_
        exact ⟨_, _, rfl, r2, r3, r4⟩
  by_cases q1 : v = 1
  · subst q1
    clear hv0 hv1
    have C0 := hide (row_cell6 (unhide D2).r5 (unhide ERR) (unhide DD).rl)
    have D3 := hide ((unhide D2).later below_drew)
    go_wp2_with fail
    refine wp_region_held_drew (S := fun v => v.cell? ⟨w1.heap.size, 1, none⟩ = some (.slice (some ⟨gr, 0, none⟩) 8 cr)) (by kernel_rfl) (unhide C0) (fun hS => ?_)
    have HS := hide hS
    clear hS D2 C0
    generalize w2.drew = wd at D3 HS ⊢
    refine wpAnyH_take (i := 0) (v := .pointer (some ⟨w1.heap.size, 1, none⟩)) rfl (by kernel_rfl) (by kernel_rfl) (by kernel_rfl) (fun _ _ _ h => h) (Or.inl ⟨by rfl, fun w hc => ?_⟩) (unhide HS) ?_
    · clear hc; go_simp
    go_simp
    refine wpAnyH_take (i := 1) (v := .slice (some ⟨gr, 0, none⟩) 8 cr) rfl (by kernel_rfl) (by kernel_rfl) (by kernel_rfl) (fun _ _ _ h => h) (Or.inl ⟨by rfl, fun w hc => ?_⟩) (unhide HS) ?_
    · go_simp
    go_simp
    refine wpAnyH_take (i := 2) (v := .pointer (some ⟨cb, 0, none⟩)) rfl (by kernel_rfl) (by kernel_rfl) (by kernel_rfl) (fun _ _ _ h => h) (Or.inl ⟨by rfl, fun w hc => ?_⟩) (unhide HS) ?_
    · clear hc; go_simp
    go_simp
    refine wpAnyH_take (i := 4) (v := .pointer (some ⟨cb, 0, none⟩)) rfl (by kernel_rfl) (by kernel_rfl) (by kernel_rfl) (fun _ _ _ h => h) (Or.inl ⟨by rfl, fun w hc => ?_⟩) (unhide HS) ?_
    · clear hc; go_simp
    go_simp
    refine wpAnyH_ready (rs := [3, 5]) (by kernel_rfl) (by simp) ?_
    refine AllReadyH.cons rfl (fun K2 hK => ?_) (AllReadyH.cons rfl (fun K2 hK => ?_) AllReadyH.nil)
    · skip
      have B3 := hide (below_any cb a len cap xs 8 wd (by omega) (unhide D3).cur)
      go_simp
      refine (unhide B3).mono ?_
      rintro e w4 ⟨z, hz0, hz1, rfl, hc3, hg3⟩
      obtain ⟨z0, z1⟩ := hz0 (by omega)
      obtain ⟨zn, rfl⟩ := Int.eq_ofNat_of_zero_le z0
      have D4 := hide ((unhide D3).draw hc3 hg3)
      refine hK.out _ _ (row_cell6 (unhide D4).r5 (unhide ERR) (unhide DD).rl) (fun hS => ?_)
      clear HS
      have HS := hide hS
      clear hS hK K2 D3 hc3 hg3 B3 hz0 hz1
      have I6 := hide (int_lit cb a len cap xs w4 (unhide D4).cur [-1, 65536, 65535] 3 rfl (by omega) (by omega) w4.heap.size rfl _ rfl)
      have D5 := hide ((unhide D4).later (below_new w4 (.cells #[.int .i64 (-1), .int .i64 65536, .int .i64 65535] 3)))
      refine wpAnyH_ready (rs := [5]) (by kernel_rfl) (by simp) ?_
      refine AllReadyH.cons rfl (fun K2 hK => ?_) AllReadyH.nil
      go_simp
      refine hK.out _ _ (row_cell6 (unhide D5).r5 (unhide ERR) (unhide DD).rl) (fun hS => ?_)
      clear HS
      have HS := hide hS
      clear hS hK K2 D4
      refine wpAnyH_ready (rs := [6]) (by kernel_rfl) (by simp) ?_
      refine AllReadyH.cons rfl (fun K2 hK => ?_) AllReadyH.nil
      go_simp
      refine (unhide I6).mono ?_
      rintro e w6 ⟨j, hj, rfl, hc3, hg3⟩
      generalize nAt [-1, 65536, 65535] j = x
      have D6 := hide ((unhide D5).draw hc3 hg3)
      refine hK.out _ _ (row_cell6 (unhide D6).r5 (unhide ERR) (unhide DD).rl) (fun hS => ?_)
      clear HS
      have HS := hide hS
      clear hS hK K2 D5 hc3 hg3 I6 hj
      have hzi : (zn : Int) < 8 := by omega
      have hzn : zn < 8 := by omega
      refine wpAnyH_take (i := 7) (v := .pointer (some ⟨gr, zn, none⟩)) rfl (by kernel_rfl) (by kernel_rfl) (by kernel_rfl) (fun _ _ _ h => h) (Or.inl ⟨by rfl, fun w hc => ?_⟩) (unhide HS) ?_
      · clear hc; go_simp
      go_simp
      obtain ⟨c1, c2⟩ := (unhide D6).cellR (unhide ERR) zn (by have := (unhide DD).rl; omega)
      have D7 := hide ((unhide D6).setR (unhide ERR) zn x (by have := (unhide DD).rl; omega))
      refine wpAnyH_ready (rs := [8]) (by kernel_rfl) (by simp) ?_
      refine AllReadyH.cons rfl (fun K2 hK => ?_) AllReadyH.nil
      go_simp
      clear c1 c2
      refine hK.out _ _ (row_cell6 (unhide D7).r5 (unhide ERR) (unhide DD).rl) (fun hS => ?_)
      clear HS
      have HS := hide hS
      clear hS hK K2 D6
      refine wpAnyH_done (by kernel_rfl) ?_ _
      clear HS
      have FF := hide ((unhide D7).fa ⟨(unhide DD).small.1, by have := (unhide DD).rl; simp; omega, (unhide DD).small.2.2⟩ (by have := (unhide DD).rl; simp; omega))
      go_wp2_with (first | (refine wpList_load_row rfl 28 _ rfl w1.heap.size rfl 28 (Mv.cs y) (0, 0) _ (unhide FF).r5 Try.underlying28 rfl (by kernel_rfl) ?_) | (refine wpList_store_row rfl 28 _ _ rfl w.heap.size (Mv.cs y) rfl rfl 28 zMv.cs (unhide FF).er.re (by kernel_rfl) rfl (Mv.cs_one _) ?_))
      obtain ⟨r1, r2, r3, r4⟩ := (unhide FF).done
      refine bodyPost_ret (results_cell_row (P := Try.prog) rfl _ _ w.heap.size 28 (Mv.cs y) (0, 0) _ rfl r1 Try.underlying28 rfl (by kernel_rfl)) rfl ?_
      exact ⟨_, _, rfl, r2, r3, r4⟩
    · skip
      have D4 := hide ((unhide D3).later (below_new wd (.cells #[.int .i64 (-1), .int .i64 65536, .int .i64 65535] 3)))
      have RL := hide (RdN_lit wd [-1, 65536, 65535])
      have NE := hide (show wd.heap.size ≠ cb by have := (unhide D3).cur.lt; omega)
      go_simp
      refine hK.out _ _ (row_cell6 (unhide D4).r5 (unhide ERR) (unhide DD).rl) (fun hS => ?_)
      clear HS
      have HS := hide hS
      clear hS hK K2 D3
      refine wpAnyH_ready (rs := [3]) (by kernel_rfl) (by simp) ?_
      refine AllReadyH.cons rfl (fun K2 hK => ?_) AllReadyH.nil
      have B3 := hide (below_any cb a len cap xs 8 _ (by omega) (unhide D4).cur)
      go_simp
      refine (unhide B3).mono ?_
      rintro e w5 ⟨z, hz0, hz1, rfl, hc3, hg3⟩
      obtain ⟨z0, z1⟩ := hz0 (by omega)
      obtain ⟨zn, rfl⟩ := Int.eq_ofNat_of_zero_le z0
      have D5 := hide ((unhide D4).draw hc3 hg3)
      have RM := hide ((unhide RL).past hg3 (fun ad e => by cases e; exact unhide NE))
      refine hK.out _ _ (row_cell6 (unhide D5).r5 (unhide ERR) (unhide DD).rl) (fun hS => ?_)
      clear HS
      have HS := hide hS
      clear hS hK K2 D4 hc3 hg3 B3 hz0 hz1
      have I6 := hide (int_any cb a len cap xs (some ⟨wd.heap.size, 0, none⟩) 3 3 [-1, 65536, 65535] w5 (unhide D5).cur (unhide RM) (fun ad e => by cases e; exact unhide NE) rfl (by omega) (by omega))
      refine wpAnyH_ready (rs := [6]) (by kernel_rfl) (by simp) ?_
      refine AllReadyH.cons rfl (fun K2 hK => ?_) AllReadyH.nil
      go_simp
      refine (unhide I6).mono ?_
      rintro e w6 ⟨j, hj, rfl, hc3, hg3⟩
      generalize nAt [-1, 65536, 65535] j = x
      have D6 := hide ((unhide D5).draw hc3 hg3)
      refine hK.out _ _ (row_cell6 (unhide D6).r5 (unhide ERR) (unhide DD).rl) (fun hS => ?_)
      clear HS
      have HS := hide hS
      clear hS hK K2 D5 hc3 hg3 I6 hj
      have hzi : (zn : Int) < 8 := by omega
      have hzn : zn < 8 := by omega
      refine wpAnyH_take (i := 7) (v := .pointer (some ⟨gr, zn, none⟩)) rfl (by kernel_rfl) (by kernel_rfl) (by kernel_rfl) (fun _ _ _ h => h) (Or.inl ⟨by rfl, fun w hc => ?_⟩) (unhide HS) ?_
      · clear hc; go_simp
      go_simp
      obtain ⟨c1, c2⟩ := (unhide D6).cellR (unhide ERR) zn (by have := (unhide DD).rl; omega)
      have D7 := hide ((unhide D6).setR (unhide ERR) zn x (by have := (unhide DD).rl; omega))
      refine wpAnyH_ready (rs := [8]) (by kernel_rfl) (by simp) ?_
      refine AllReadyH.cons rfl (fun K2 hK => ?_) AllReadyH.nil
      go_simp
      clear c1 c2
      refine hK.out _ _ (row_cell6 (unhide D7).r5 (unhide ERR) (unhide DD).rl) (fun hS => ?_)
      clear HS
      have HS := hide hS
      clear hS hK K2 D6
      refine wpAnyH_done (by kernel_rfl) ?_ _
      clear HS
      have FF := hide ((unhide D7).fa ⟨(unhide DD).small.1, by have := (unhide DD).rl; simp; omega, (unhide DD).small.2.2⟩ (by have := (unhide DD).rl; simp; omega))
      go_wp2_with (first | (refine wpList_load_row rfl 28 _ rfl w1.heap.size rfl 28 (Mv.cs y) (0, 0) _ (unhide FF).r5 Try.underlying28 rfl (by kernel_rfl) ?_) | (refine wpList_store_row rfl 28 _ _ rfl w.heap.size (Mv.cs y) rfl rfl 28 zMv.cs (unhide FF).er.re (by kernel_rfl) rfl (Mv.cs_one _) ?_))
      obtain ⟨r1, r2, r3, r4⟩ := (unhide FF).done
      refine bodyPost_ret (results_cell_row (P := Try.prog) rfl _ _ w.heap.size 28 (Mv.cs y) (0, 0) _ rfl r1 Try.underlying28 rfl (by kernel_rfl)) rfl ?_
      exact ⟨_, _, rfl, r2, r3, r4⟩
  by_cases q2 : v = 2
  · subst q2
    clear hv0 hv1
    have o1 := row_cell6 (unhide D2).r5 (unhide ERR) (unhide DD).rl
    have f1 := row_fz (unhide D2).r5 1
    have h7 : (7 : Int) ≤ (cr : Int) := by have := (unhide DD).rl; have := unhide LR; omega
    have h7n : 7 ≤ cr := by omega
    have FF := hide ((unhide D2).put5 1 (.slice (some ⟨gr, 0, none⟩) 7 cr) ({ y with r := ⟨some ⟨gr, 0, none⟩, 7, cr⟩ } : Mv) ⟨d.m, d.r.take 7, d.i, d.o⟩ rfl (Am.ofR ((unhide D2).own5 1 _) (unhide DD) (s := ⟨some ⟨gr, 0, none⟩, 7, cr⟩) (by have h := ((unhide D2).own5 1 (.slice (some ⟨gr, 0, none⟩) 7 cr)).rd.r; rw [unhide ERR] at h; exact rdN_take h 7) (by have := (unhide DD).rl; simp; omega) (by have := (unhide DD).rl; simp; omega) (fun h => by cases h) (los_take (by have h := (unhide D2).own.r.los; rw [unhide ERR] at h; exact h))))
    go_wp2_with (first | (refine wpList_load_row rfl 28 _ rfl w1.heap.size rfl 28 (Mv.cs ({ y with r := ⟨some ⟨gr, 0, none⟩, 7, cr⟩ } : Mv)) (0, 0) _ (unhide FF).r5 Try.underlying28 rfl (by kernel_rfl) ?_) | (refine wpList_store_row rfl 28 _ _ rfl w.heap.size (Mv.cs ({ y with r := ⟨some ⟨gr, 0, none⟩, 7, cr⟩ } : Mv)) rfl rfl 28 zMv.cs (unhide FF).er.re (by kernel_rfl) rfl (Mv.cs_one _) ?_))
    obtain ⟨r1, r2, r3, r4⟩ := (unhide FF).done
    refine bodyPost_ret (results_cell_row (P := Try.prog) rfl _ _ w.heap.size 28 (Mv.cs ({ y with r := ⟨some ⟨gr, 0, none⟩, 7, cr⟩ } : Mv)) (0, 0) _ rfl r1 Try.underlying28 rfl (by kernel_rfl)) rfl ?_
    exact ⟨_, _, rfl, r2, r3, r4⟩
  by_cases q3 : v = 3
  · subst q3
    clear hv0 hv1
    have I3 := hide (int_lit cb a len cap xs w2 (unhide D2).cur [-1, 1, 2, 3] 4 rfl (by omega) (by omega) w2.heap.size rfl _ rfl)
    go_wp2_with fail
    refine (unhide I3).mono ?_
    rintro e w4 ⟨j, hj, rfl, hc3, hg3⟩
    generalize nAt [-1, 1, 2, 3] j = x
    have D5 := hide (((unhide D2).later (below_new w2 _)).draw hc3 hg3)
    clear hc3 hg3 I3 hj D2
    have o8 := row_st (unhide D5).r5
    have f8 := row_fz (unhide D5).r5 8
    have FF := hide (((unhide D5).setF 8 (.int .i64 x) { y with st := x } rfl rfl rfl rfl rfl).fa (unhide DD).small (by have := (unhide DD).rl; omega))
    go_wp2_with (first | (refine wpList_load_row rfl 28 _ rfl w1.heap.size rfl 28 (Mv.cs { y with st := x }) (0, 0) _ (unhide FF).r5 Try.underlying28 rfl (by kernel_rfl) ?_) | (refine wpList_store_row rfl 28 _ _ rfl w.heap.size (Mv.cs { y with st := x }) rfl rfl 28 zMv.cs (unhide FF).er.re (by kernel_rfl) rfl (Mv.cs_one _) ?_))
    obtain ⟨r1, r2, r3, r4⟩ := (unhide FF).done
    refine bodyPost_ret (results_cell_row (P := Try.prog) rfl _ _ w.heap.size 28 (Mv.cs { y with st := x }) (0, 0) _ rfl r1 Try.underlying28 rfl (by kernel_rfl)) rfl ?_
    exact ⟨_, _, rfl, r2, r3, r4⟩
  by_cases q4 : v = 4
  · subst q4
    clear hv0 hv1
    have B3 := hide (below_any cb a len cap xs 2 w2 (by omega) (unhide D2).cur)
    go_wp2_with fail
    refine (unhide B3).mono ?_
    rintro e w4 ⟨z, hz0, hz1, rfl, hc3, hg3⟩
    obtain ⟨z0, z1⟩ := hz0 (by omega)
    obtain ⟨zn, rfl⟩ := Int.eq_ofNat_of_zero_le z0
    have D5 := hide (((unhide D2).draw hc3 hg3).later (below_new w4 (.cells (zA (50 + zn)) 3)))
    have NG := hide (row_lt ((unhide D2).draw hc3 hg3).r5)
    have s4 : w.heap.size < w4.heap.size := row_lt ((unhide D2).draw hc3 hg3).er.re
    clear hc3 hg3 B3 hz0 hz1 D2
    have hmk := run_make_row' (P := Try.prog) 24 3 (.int .i64 0) 8 Try.underlying24 info3 rfl .i64 .i64 (50 + zn) (by omega) (by omega)
    have hma : madeCells #[Value.int .i64 0] (50 + zn) = zA (50 + zn) := by
      obtain rfl | rfl : zn = 0 ∨ zn = 1 := by omega
      all_goals kernel_rfl
    rw [hma] at hmk
    rw [show ((50 + zn : Nat) : Int) = 50 + (zn : Int) by omega] at hmk
    have hw1 : IntKind.i64.wrap (50 + (zn : Int)) = 50 + (zn : Int) := by rw [IntKind.wrap_i64]; omega
    have OW := hide (own_made (B := w.heap.size + 1) (n := 50 + zn) (heap_alloc_last w4 (.cells (zA (50 + zn)) 3)) (by omega) (by omega))
    have o7 := row_o (unhide D5).r5
    have f7 := row_fz (unhide D5).r5 7
    have FF := hide ((unhide D5).put5 7 (.slice (some ⟨w4.heap.size, 0, none⟩) (50 + zn) (50 + zn)) { y with o := ⟨some ⟨w4.heap.size, 0, none⟩, 50 + zn, 50 + zn⟩ } ⟨d.m, d.r, d.i, List.replicate (50 + zn) 0⟩ rfl (Am.ofO ((unhide D5).own5 7 _) (unhide DD) (s := ⟨some ⟨w4.heap.size, 0, none⟩, 50 + zn, 50 + zn⟩) ((OwnN.rd1 (unhide OW)).put (.inr (fun ad e => by cases e; have := unhide NG; show w4.heap.size ≠ w1.heap.size; omega))) (by simp) (by simp; omega) (fun h => by cases h) (.inr (fun ad e => by cases e; show w.heap.size + 1 ≤ w4.heap.size; omega))))
    clear hma
    go_wp2_with (first | (refine wpList_load_row rfl 28 _ rfl w1.heap.size rfl 28 (Mv.cs { y with o := ⟨some ⟨w4.heap.size, 0, none⟩, 50 + zn, 50 + zn⟩ }) (0, 0) _ (unhide FF).r5 Try.underlying28 rfl (by kernel_rfl) ?_) | (refine wpList_store_row rfl 28 _ _ rfl w.heap.size (Mv.cs { y with o := ⟨some ⟨w4.heap.size, 0, none⟩, 50 + zn, 50 + zn⟩ }) rfl rfl 28 zMv.cs (unhide FF).er.re (by kernel_rfl) rfl (Mv.cs_one _) ?_))
    obtain ⟨r1, r2, r3, r4⟩ := (unhide FF).done
    refine bodyPost_ret (results_cell_row (P := Try.prog) rfl _ _ w.heap.size 28 (Mv.cs { y with o := ⟨some ⟨w4.heap.size, 0, none⟩, 50 + zn, 50 + zn⟩ }) (0, 0) _ rfl r1 Try.underlying28 rfl (by kernel_rfl)) rfl ?_
    exact ⟨_, _, rfl, r2, r3, r4⟩
  by_cases q5 : v = 5
  · subst q5
    clear hv0 hv1
    have D5 := hide ((unhide D2).later (below_new w2 (.cells #[.int .i64 (-1)] 3)))
    have NG := hide (row_lt (unhide D2).r5)
    have s4 : w.heap.size < w2.heap.size := row_lt (unhide D2).er.re
    have RL := hide (RdN_lit w2 [-1])
    have o6 := row_i (unhide D5).r5
    have f6 := row_fz (unhide D5).r5 6
    have FF := hide ((unhide D5).put5 6 (.slice (some ⟨w2.heap.size, 0, none⟩) 1 1) { y with i := ⟨some ⟨w2.heap.size, 0, none⟩, 1, 1⟩ } ⟨d.m, d.r, [-1], d.o⟩ rfl (Am.ofI ((unhide D5).own5 6 _) (unhide DD) (s := ⟨some ⟨w2.heap.size, 0, none⟩, 1, 1⟩) ((show RdN (w2.alloc (.cells #[.int .i64 (-1)] 3)) (some ⟨w2.heap.size, 0, none⟩) [-1] from unhide RL).put (.inr (fun ad e => by cases e; have := unhide NG; show w2.heap.size ≠ w1.heap.size; omega))) rfl (by simp) (fun h => by cases h) (.inr (fun ad e => by cases e; show w.heap.size + 1 ≤ w2.heap.size; omega))))
    go_wp2_with (first | (refine wpList_load_row rfl 28 _ rfl w1.heap.size rfl 28 (Mv.cs { y with i := ⟨some ⟨w2.heap.size, 0, none⟩, 1, 1⟩ }) (0, 0) _ (unhide FF).r5 Try.underlying28 rfl (by kernel_rfl) ?_) | (refine wpList_store_row rfl 28 _ _ rfl w.heap.size (Mv.cs { y with i := ⟨some ⟨w2.heap.size, 0, none⟩, 1, 1⟩ }) rfl rfl 28 zMv.cs (unhide FF).er.re (by kernel_rfl) rfl (Mv.cs_one _) ?_))
    obtain ⟨r1, r2, r3, r4⟩ := (unhide FF).done
    refine bodyPost_ret (results_cell_row (P := Try.prog) rfl _ _ w.heap.size 28 (Mv.cs { y with i := ⟨some ⟨w2.heap.size, 0, none⟩, 1, 1⟩ }) (0, 0) _ rfl r1 Try.underlying28 rfl (by kernel_rfl)) rfl ?_
    exact ⟨_, _, rfl, r2, r3, r4⟩
  have p0 := eqB_f _ _ q0
  have p1 := eqB_f _ _ q1
  have p2 := eqB_f _ _ q2
  have p3 := eqB_f _ _ q3
  have p4 := eqB_f _ _ q4
  have p5 := eqB_f _ _ q5
  have FF := hide ((unhide D2).fa (unhide DD).small (by have := (unhide DD).rl; omega))
  go_wp2_with (first | (refine wpList_load_row rfl 28 _ rfl w1.heap.size rfl 28 (Mv.cs y) (0, 0) _ (unhide FF).r5 Try.underlying28 rfl (by kernel_rfl) ?_) | (refine wpList_store_row rfl 28 _ _ rfl w.heap.size (Mv.cs y) rfl rfl 28 zMv.cs (unhide FF).er.re (by kernel_rfl) rfl (Mv.cs_one _) ?_))
  obtain ⟨r1, r2, r3, r4⟩ := (unhide FF).done
  refine bodyPost_ret (results_cell_row (P := Try.prog) rfl _ _ w.heap.size 28 (Mv.cs y) (0, 0) _ rfl r1 Try.underlying28 rfl (by kernel_rfl)) rfl ?_
  exact ⟨_, _, rfl, r2, r3, r4⟩
end Go.Proofs.Ytfkmibgamkignaa

namespace Go.Proofs.Ytfkmibgamkignaa
open Go.ChangeShapes Go.WideShapes Go.ChangeAt Go.RowKit
set_option linter.unusedVariables false
set_option linter.unusedSimpArgs false

set_option maxHeartbeats 4000000 in
set_option maxRecDepth 100000 in
theorem anyD_any (cb : Nat) (a : Option Addr) (len cap : Nat) (xs : List UInt8) (w : World) (hc : Cur w cb a len cap xs) :
    Calls Try.prog 64 #[.pointer (some ⟨cb, 0, none⟩)] w fun e w' => ∃ i : Is, e = .returned i.v ∧ Cur w' cb a len cap xs ∧ w.grownBy w' (some cb) := by
  have hlt := hc.lt
  have E0 := hide (ez_new hc (cs8 [0, 0, 0, 0, 0, 0, 0, 0]) 92 8 (c8 [0, 0, 0, 0, 0, 0, 0, 0]) (row8 w [0, 0, 0, 0, 0, 0, 0, 0] 92))
  have I0 := hide (drawD_any cb a len cap xs (w.alloc (Obj.cells (cs8 [0, 0, 0, 0, 0, 0, 0, 0]) 92)) (unhide E0).cur)
  clear hc
  go_enter Try.func64, Try.ntmps64
  go_wp2_with fail
  refine (unhide I0).mono ?_
  rintro e w1 ⟨⟨op, ⟨sm, sr, sx⟩, ⟨dm, dr, dx⟩, n⟩, _, rfl, hc1, hg1⟩
  unfold Is.v
  simp only
  have E1' := hide ((unhide E0).draw hc1 hg1)
  have E1 := hide ((unhide E1').alloc (Obj.cells (cs8 [op, sm, sr, sx, dm, dr, dx, n]) 92))
  have R1 := hide (row8 w1 [op, sm, sr, sx, dm, dr, dx, n] 92)
  have s1 : w.heap.size < w1.heap.size := (unhide E1').res.lt
  have I1 := hide (below_any cb a len cap xs 12 _ (by omega) (unhide E1).cur)
  clear hc1 hg1 I0 E0 E1'
  go_wp2_with fail
  refine (unhide I1).mono ?_
  rintro e w2 ⟨y, hy0, hy1, rfl, hc2, hg2⟩
  have E2 := hide ((unhide E1).draw hc2 hg2)
  have R2 := hide (row_draw (unhide R1) hg2 (by omega))
  have hne : w.heap.size ≠ w1.heap.size := by omega
  clear hc2 hg2 I1 E1 R1 hy0 hy1
  by_cases h0 : y = 0
  · have q0 : (y == 0) = true := eqB_t _ _ h0
    clear h0
    have P3 := hide (int_lit cb a len cap xs w2 (unhide E2).cur [0, 24, 1, 14, 22] 5 rfl (by omega) (by omega) w2.heap.size rfl _ rfl)
    go_wp2_with fail
    refine (unhide P3).mono ?_
    rintro e w3 ⟨j, hj, rfl, hc, hg⟩
    generalize nAt [0, 24, 1, 14, 22] j = v
    have E3 := hide (((unhide E2).alloc _).draw hc hg)
    have R3 := hide (row_draw (row_alloc (unhide R2) _) hg (by omega))
    clear hc hg P3 hj E2 R2
    have rr := unhide R3
    have x0 : w3.cell? ⟨w1.heap.size, 0, none⟩ = some (.int .i64 (op)) := rr.cell (i := 0) (by omega)
    have g0 := rr.frozen 0
    have x1 : w3.cell? ⟨w1.heap.size, 1, none⟩ = some (.int .i64 (sm)) := rr.cell (i := 1) (by omega)
    have g1 := rr.frozen 1
    have x2 : w3.cell? ⟨w1.heap.size, 2, none⟩ = some (.int .i64 (sr)) := rr.cell (i := 2) (by omega)
    have g2 := rr.frozen 2
    have x3 : w3.cell? ⟨w1.heap.size, 3, none⟩ = some (.int .i64 (sx)) := rr.cell (i := 3) (by omega)
    have g3 := rr.frozen 3
    have x4 : w3.cell? ⟨w1.heap.size, 4, none⟩ = some (.int .i64 (dm)) := rr.cell (i := 4) (by omega)
    have g4 := rr.frozen 4
    have x5 : w3.cell? ⟨w1.heap.size, 5, none⟩ = some (.int .i64 (dr)) := rr.cell (i := 5) (by omega)
    have g5 := rr.frozen 5
    have x6 : w3.cell? ⟨w1.heap.size, 6, none⟩ = some (.int .i64 (dx)) := rr.cell (i := 6) (by omega)
    have g6 := rr.frozen 6
    have x7 : w3.cell? ⟨w1.heap.size, 7, none⟩ = some (.int .i64 (n)) := rr.cell (i := 7) (by omega)
    have g7 := rr.frozen 7
    clear rr
    have E4 := hide ((unhide E3).setO s1 0 (.int .i64 v))
    have ee := (unhide E3).res
    have c0 : w3.cell? ⟨w.heap.size, 0, none⟩ = some (.int .i64 0) := ee.cell (i := 0) (by omega)
    have f0 := ee.frozen 0
    have c1 : w3.cell? ⟨w.heap.size, 1, none⟩ = some (.int .i64 0) := ee.cell (i := 1) (by omega)
    have f1 := ee.frozen 1
    have c2 : w3.cell? ⟨w.heap.size, 2, none⟩ = some (.int .i64 0) := ee.cell (i := 2) (by omega)
    have f2 := ee.frozen 2
    have c3 : w3.cell? ⟨w.heap.size, 3, none⟩ = some (.int .i64 0) := ee.cell (i := 3) (by omega)
    have f3 := ee.frozen 3
    have c4 : w3.cell? ⟨w.heap.size, 4, none⟩ = some (.int .i64 0) := ee.cell (i := 4) (by omega)
    have f4 := ee.frozen 4
    have c5 : w3.cell? ⟨w.heap.size, 5, none⟩ = some (.int .i64 0) := ee.cell (i := 5) (by omega)
    have f5 := ee.frozen 5
    have c6 : w3.cell? ⟨w.heap.size, 6, none⟩ = some (.int .i64 0) := ee.cell (i := 6) (by omega)
    have f6 := ee.frozen 6
    have c7 : w3.cell? ⟨w.heap.size, 7, none⟩ = some (.int .i64 0) := ee.cell (i := 7) (by omega)
    have f7 := ee.frozen 7
    clear ee
    have EF := hide ((unhide E4).put8 (v) (sm) (sr) (sx) (dm) (dr) (dx) (n))
    go_wp2
    refine bodyPost_ret (results_cell_row (P := Try.prog) rfl _ _ w.heap.size 92 (cs8 [v, sm, sr, sx, dm, dr, dx, n]) (0, 0) _ rfl (row8_heap (unhide EF).res) Try.underlying92 rfl (by kernel_rfl)) rfl ?_
    exact ⟨⟨v, ⟨sm, sr, sx⟩, ⟨dm, dr, dx⟩, n⟩, rfl, (unhide EF).cur, (unhide EF).gr⟩
  by_cases h1 : y = 1
  · have q0 : (y == 0) = false := eqB_f _ _ h0
    have q1 : (y == 1) = true := eqB_t _ _ h1
    clear h0 h1
    have P3 := hide (int_lit cb a len cap xs w2 (unhide E2).cur [-129, 128, 256, -1, 8, 0] 6 rfl (by omega) (by omega) w2.heap.size rfl _ rfl)
    go_wp2_with fail
    refine (unhide P3).mono ?_
    rintro e w3 ⟨j, hj, rfl, hc, hg⟩
    generalize nAt [-129, 128, 256, -1, 8, 0] j = v
    have E3 := hide (((unhide E2).alloc _).draw hc hg)
    have R3 := hide (row_draw (row_alloc (unhide R2) _) hg (by omega))
    clear hc hg P3 hj E2 R2
    have rr := unhide R3
    have x0 : w3.cell? ⟨w1.heap.size, 0, none⟩ = some (.int .i64 (op)) := rr.cell (i := 0) (by omega)
    have g0 := rr.frozen 0
    have x1 : w3.cell? ⟨w1.heap.size, 1, none⟩ = some (.int .i64 (sm)) := rr.cell (i := 1) (by omega)
    have g1 := rr.frozen 1
    have x2 : w3.cell? ⟨w1.heap.size, 2, none⟩ = some (.int .i64 (sr)) := rr.cell (i := 2) (by omega)
    have g2 := rr.frozen 2
    have x3 : w3.cell? ⟨w1.heap.size, 3, none⟩ = some (.int .i64 (sx)) := rr.cell (i := 3) (by omega)
    have g3 := rr.frozen 3
    have x4 : w3.cell? ⟨w1.heap.size, 4, none⟩ = some (.int .i64 (dm)) := rr.cell (i := 4) (by omega)
    have g4 := rr.frozen 4
    have x5 : w3.cell? ⟨w1.heap.size, 5, none⟩ = some (.int .i64 (dr)) := rr.cell (i := 5) (by omega)
    have g5 := rr.frozen 5
    have x6 : w3.cell? ⟨w1.heap.size, 6, none⟩ = some (.int .i64 (dx)) := rr.cell (i := 6) (by omega)
    have g6 := rr.frozen 6
    have x7 : w3.cell? ⟨w1.heap.size, 7, none⟩ = some (.int .i64 (n)) := rr.cell (i := 7) (by omega)
    have g7 := rr.frozen 7
    clear rr
    have E4 := hide ((unhide E3).setO s1 7 (.int .i64 v))
    have ee := (unhide E3).res
    have c0 : w3.cell? ⟨w.heap.size, 0, none⟩ = some (.int .i64 0) := ee.cell (i := 0) (by omega)
    have f0 := ee.frozen 0
    have c1 : w3.cell? ⟨w.heap.size, 1, none⟩ = some (.int .i64 0) := ee.cell (i := 1) (by omega)
    have f1 := ee.frozen 1
    have c2 : w3.cell? ⟨w.heap.size, 2, none⟩ = some (.int .i64 0) := ee.cell (i := 2) (by omega)
    have f2 := ee.frozen 2
    have c3 : w3.cell? ⟨w.heap.size, 3, none⟩ = some (.int .i64 0) := ee.cell (i := 3) (by omega)
    have f3 := ee.frozen 3
    have c4 : w3.cell? ⟨w.heap.size, 4, none⟩ = some (.int .i64 0) := ee.cell (i := 4) (by omega)
    have f4 := ee.frozen 4
    have c5 : w3.cell? ⟨w.heap.size, 5, none⟩ = some (.int .i64 0) := ee.cell (i := 5) (by omega)
    have f5 := ee.frozen 5
    have c6 : w3.cell? ⟨w.heap.size, 6, none⟩ = some (.int .i64 0) := ee.cell (i := 6) (by omega)
    have f6 := ee.frozen 6
    have c7 : w3.cell? ⟨w.heap.size, 7, none⟩ = some (.int .i64 0) := ee.cell (i := 7) (by omega)
    have f7 := ee.frozen 7
    clear ee
    have EF := hide ((unhide E4).put8 (op) (sm) (sr) (sx) (dm) (dr) (dx) (v))
    go_wp2
    refine bodyPost_ret (results_cell_row (P := Try.prog) rfl _ _ w.heap.size 92 (cs8 [op, sm, sr, sx, dm, dr, dx, v]) (0, 0) _ rfl (row8_heap (unhide EF).res) Try.underlying92 rfl (by kernel_rfl)) rfl ?_
    exact ⟨⟨op, ⟨sm, sr, sx⟩, ⟨dm, dr, dx⟩, v⟩, rfl, (unhide EF).cur, (unhide EF).gr⟩
  by_cases h2 : y = 2
  · have q0 : (y == 0) = false := eqB_f _ _ h0
    have q1 : (y == 1) = false := eqB_f _ _ h1
    have q2 : (y == 2) = true := eqB_t _ _ h2
    clear h0 h1 h2
    have P3 := hide (int_lit cb a len cap xs w2 (unhide E2).cur [-1, 0, 6, 8] 4 rfl (by omega) (by omega) w2.heap.size rfl _ rfl)
    go_wp2_with fail
    refine (unhide P3).mono ?_
    rintro e w3 ⟨j, hj, rfl, hc, hg⟩
    generalize nAt [-1, 0, 6, 8] j = v1
    have E3 := hide (((unhide E2).alloc _).draw hc hg)
    have R3 := hide (row_draw (row_alloc (unhide R2) _) hg (by omega))
    clear hc hg P3 hj E2 R2
    have P4 := hide (int_lit cb a len cap xs w3 (unhide E3).cur [-1, 7, 8] 3 rfl (by omega) (by omega) w3.heap.size rfl _ rfl)
    go_wp2_with fail
    refine (unhide P4).mono ?_
    rintro e w4 ⟨j, hj, rfl, hc, hg⟩
    generalize nAt [-1, 7, 8] j = v2
    have E4 := hide (((unhide E3).alloc _).draw hc hg)
    have R4 := hide (row_draw (row_alloc (unhide R3) _) hg (by omega))
    clear hc hg P4 hj E3 R3
    have P5 := hide (int_lit cb a len cap xs w4 (unhide E4).cur [-1, 0, 5, 65536] 4 rfl (by omega) (by omega) w4.heap.size rfl _ rfl)
    go_wp2_with fail
    refine (unhide P5).mono ?_
    rintro e w5 ⟨j, hj, rfl, hc, hg⟩
    generalize nAt [-1, 0, 5, 65536] j = v3
    have E5 := hide (((unhide E4).alloc _).draw hc hg)
    have R5 := hide (row_draw (row_alloc (unhide R4) _) hg (by omega))
    clear hc hg P5 hj E4 R4
    have rr := unhide R5
    have x0 : w5.cell? ⟨w1.heap.size, 0, none⟩ = some (.int .i64 (op)) := rr.cell (i := 0) (by omega)
    have g0 := rr.frozen 0
    have x1 : w5.cell? ⟨w1.heap.size, 1, none⟩ = some (.int .i64 (sm)) := rr.cell (i := 1) (by omega)
    have g1 := rr.frozen 1
    have x2 : w5.cell? ⟨w1.heap.size, 2, none⟩ = some (.int .i64 (sr)) := rr.cell (i := 2) (by omega)
    have g2 := rr.frozen 2
    have x3 : w5.cell? ⟨w1.heap.size, 3, none⟩ = some (.int .i64 (sx)) := rr.cell (i := 3) (by omega)
    have g3 := rr.frozen 3
    have x4 : w5.cell? ⟨w1.heap.size, 4, none⟩ = some (.int .i64 (dm)) := rr.cell (i := 4) (by omega)
    have g4 := rr.frozen 4
    have x5 : w5.cell? ⟨w1.heap.size, 5, none⟩ = some (.int .i64 (dr)) := rr.cell (i := 5) (by omega)
    have g5 := rr.frozen 5
    have x6 : w5.cell? ⟨w1.heap.size, 6, none⟩ = some (.int .i64 (dx)) := rr.cell (i := 6) (by omega)
    have g6 := rr.frozen 6
    have x7 : w5.cell? ⟨w1.heap.size, 7, none⟩ = some (.int .i64 (n)) := rr.cell (i := 7) (by omega)
    have g7 := rr.frozen 7
    clear rr
    have E6 := hide ((((unhide E5).setO s1 1 (.int .i64 v1)).setO s1 2 (.int .i64 v2)).setO s1 3 (.int .i64 v3))
    have ee := (unhide E5).res
    have c0 : w5.cell? ⟨w.heap.size, 0, none⟩ = some (.int .i64 0) := ee.cell (i := 0) (by omega)
    have f0 := ee.frozen 0
    have c1 : w5.cell? ⟨w.heap.size, 1, none⟩ = some (.int .i64 0) := ee.cell (i := 1) (by omega)
    have f1 := ee.frozen 1
    have c2 : w5.cell? ⟨w.heap.size, 2, none⟩ = some (.int .i64 0) := ee.cell (i := 2) (by omega)
    have f2 := ee.frozen 2
    have c3 : w5.cell? ⟨w.heap.size, 3, none⟩ = some (.int .i64 0) := ee.cell (i := 3) (by omega)
    have f3 := ee.frozen 3
    have c4 : w5.cell? ⟨w.heap.size, 4, none⟩ = some (.int .i64 0) := ee.cell (i := 4) (by omega)
    have f4 := ee.frozen 4
    have c5 : w5.cell? ⟨w.heap.size, 5, none⟩ = some (.int .i64 0) := ee.cell (i := 5) (by omega)
    have f5 := ee.frozen 5
    have c6 : w5.cell? ⟨w.heap.size, 6, none⟩ = some (.int .i64 0) := ee.cell (i := 6) (by omega)
    have f6 := ee.frozen 6
    have c7 : w5.cell? ⟨w.heap.size, 7, none⟩ = some (.int .i64 0) := ee.cell (i := 7) (by omega)
    have f7 := ee.frozen 7
    clear ee
    have EF := hide ((unhide E6).put8 (op) (v1) (v2) (v3) (dm) (dr) (dx) (n))
    go_wp2
    refine bodyPost_ret (results_cell_row (P := Try.prog) rfl _ _ w.heap.size 92 (cs8 [op, v1, v2, v3, dm, dr, dx, n]) (0, 0) _ rfl (row8_heap (unhide EF).res) Try.underlying92 rfl (by kernel_rfl)) rfl ?_
    exact ⟨⟨op, ⟨v1, v2, v3⟩, ⟨dm, dr, dx⟩, n⟩, rfl, (unhide EF).cur, (unhide EF).gr⟩
  by_cases h3 : y = 3
  · have q0 : (y == 0) = false := eqB_f _ _ h0
    have q1 : (y == 1) = false := eqB_f _ _ h1
    have q2 : (y == 2) = false := eqB_f _ _ h2
    have q3 : (y == 3) = true := eqB_t _ _ h3
    clear h0 h1 h2 h3
    have P3 := hide (int_lit cb a len cap xs w2 (unhide E2).cur [-1, 1, 65536] 3 rfl (by omega) (by omega) w2.heap.size rfl _ rfl)
    go_wp2_with fail
    refine (unhide P3).mono ?_
    rintro e w3 ⟨j, hj, rfl, hc, hg⟩
    generalize nAt [-1, 1, 65536] j = v
    have E3 := hide (((unhide E2).alloc _).draw hc hg)
    have R3 := hide (row_draw (row_alloc (unhide R2) _) hg (by omega))
    clear hc hg P3 hj E2 R2
    have rr := unhide R3
    have x0 : w3.cell? ⟨w1.heap.size, 0, none⟩ = some (.int .i64 (op)) := rr.cell (i := 0) (by omega)
    have g0 := rr.frozen 0
    have x1 : w3.cell? ⟨w1.heap.size, 1, none⟩ = some (.int .i64 (sm)) := rr.cell (i := 1) (by omega)
    have g1 := rr.frozen 1
    have x2 : w3.cell? ⟨w1.heap.size, 2, none⟩ = some (.int .i64 (sr)) := rr.cell (i := 2) (by omega)
    have g2 := rr.frozen 2
    have x3 : w3.cell? ⟨w1.heap.size, 3, none⟩ = some (.int .i64 (sx)) := rr.cell (i := 3) (by omega)
    have g3 := rr.frozen 3
    have x4 : w3.cell? ⟨w1.heap.size, 4, none⟩ = some (.int .i64 (dm)) := rr.cell (i := 4) (by omega)
    have g4 := rr.frozen 4
    have x5 : w3.cell? ⟨w1.heap.size, 5, none⟩ = some (.int .i64 (dr)) := rr.cell (i := 5) (by omega)
    have g5 := rr.frozen 5
    have x6 : w3.cell? ⟨w1.heap.size, 6, none⟩ = some (.int .i64 (dx)) := rr.cell (i := 6) (by omega)
    have g6 := rr.frozen 6
    have x7 : w3.cell? ⟨w1.heap.size, 7, none⟩ = some (.int .i64 (n)) := rr.cell (i := 7) (by omega)
    have g7 := rr.frozen 7
    clear rr
    have E4 := hide ((unhide E3).setO s1 6 (.int .i64 v))
    have ee := (unhide E3).res
    have c0 : w3.cell? ⟨w.heap.size, 0, none⟩ = some (.int .i64 0) := ee.cell (i := 0) (by omega)
    have f0 := ee.frozen 0
    have c1 : w3.cell? ⟨w.heap.size, 1, none⟩ = some (.int .i64 0) := ee.cell (i := 1) (by omega)
    have f1 := ee.frozen 1
    have c2 : w3.cell? ⟨w.heap.size, 2, none⟩ = some (.int .i64 0) := ee.cell (i := 2) (by omega)
    have f2 := ee.frozen 2
    have c3 : w3.cell? ⟨w.heap.size, 3, none⟩ = some (.int .i64 0) := ee.cell (i := 3) (by omega)
    have f3 := ee.frozen 3
    have c4 : w3.cell? ⟨w.heap.size, 4, none⟩ = some (.int .i64 0) := ee.cell (i := 4) (by omega)
    have f4 := ee.frozen 4
    have c5 : w3.cell? ⟨w.heap.size, 5, none⟩ = some (.int .i64 0) := ee.cell (i := 5) (by omega)
    have f5 := ee.frozen 5
    have c6 : w3.cell? ⟨w.heap.size, 6, none⟩ = some (.int .i64 0) := ee.cell (i := 6) (by omega)
    have f6 := ee.frozen 6
    have c7 : w3.cell? ⟨w.heap.size, 7, none⟩ = some (.int .i64 0) := ee.cell (i := 7) (by omega)
    have f7 := ee.frozen 7
    clear ee
    have EF := hide ((unhide E4).put8 (op) (sm) (sr) (sx) (dm) (dr) (v) (n))
    go_wp2
    refine bodyPost_ret (results_cell_row (P := Try.prog) rfl _ _ w.heap.size 92 (cs8 [op, sm, sr, sx, dm, dr, v, n]) (0, 0) _ rfl (row8_heap (unhide EF).res) Try.underlying92 rfl (by kernel_rfl)) rfl ?_
    exact ⟨⟨op, ⟨sm, sr, sx⟩, ⟨dm, dr, v⟩, n⟩, rfl, (unhide EF).cur, (unhide EF).gr⟩
  have q0 : (y == 0) = false := eqB_f _ _ h0
  have q1 : (y == 1) = false := eqB_f _ _ h1
  have q2 : (y == 2) = false := eqB_f _ _ h2
  have q3 : (y == 3) = false := eqB_f _ _ h3
  clear h0 h1 h2 h3
  have rr := unhide R2
  have x0 : w2.cell? ⟨w1.heap.size, 0, none⟩ = some (.int .i64 (op)) := rr.cell (i := 0) (by omega)
  have g0 := rr.frozen 0
  have x1 : w2.cell? ⟨w1.heap.size, 1, none⟩ = some (.int .i64 (sm)) := rr.cell (i := 1) (by omega)
  have g1 := rr.frozen 1
  have x2 : w2.cell? ⟨w1.heap.size, 2, none⟩ = some (.int .i64 (sr)) := rr.cell (i := 2) (by omega)
  have g2 := rr.frozen 2
  have x3 : w2.cell? ⟨w1.heap.size, 3, none⟩ = some (.int .i64 (sx)) := rr.cell (i := 3) (by omega)
  have g3 := rr.frozen 3
  have x4 : w2.cell? ⟨w1.heap.size, 4, none⟩ = some (.int .i64 (dm)) := rr.cell (i := 4) (by omega)
  have g4 := rr.frozen 4
  have x5 : w2.cell? ⟨w1.heap.size, 5, none⟩ = some (.int .i64 (dr)) := rr.cell (i := 5) (by omega)
  have g5 := rr.frozen 5
  have x6 : w2.cell? ⟨w1.heap.size, 6, none⟩ = some (.int .i64 (dx)) := rr.cell (i := 6) (by omega)
  have g6 := rr.frozen 6
  have x7 : w2.cell? ⟨w1.heap.size, 7, none⟩ = some (.int .i64 (n)) := rr.cell (i := 7) (by omega)
  have g7 := rr.frozen 7
  clear rr
  have ee := (unhide E2).res
  have c0 : w2.cell? ⟨w.heap.size, 0, none⟩ = some (.int .i64 0) := ee.cell (i := 0) (by omega)
  have f0 := ee.frozen 0
  have c1 : w2.cell? ⟨w.heap.size, 1, none⟩ = some (.int .i64 0) := ee.cell (i := 1) (by omega)
  have f1 := ee.frozen 1
  have c2 : w2.cell? ⟨w.heap.size, 2, none⟩ = some (.int .i64 0) := ee.cell (i := 2) (by omega)
  have f2 := ee.frozen 2
  have c3 : w2.cell? ⟨w.heap.size, 3, none⟩ = some (.int .i64 0) := ee.cell (i := 3) (by omega)
  have f3 := ee.frozen 3
  have c4 : w2.cell? ⟨w.heap.size, 4, none⟩ = some (.int .i64 0) := ee.cell (i := 4) (by omega)
  have f4 := ee.frozen 4
  have c5 : w2.cell? ⟨w.heap.size, 5, none⟩ = some (.int .i64 0) := ee.cell (i := 5) (by omega)
  have f5 := ee.frozen 5
  have c6 : w2.cell? ⟨w.heap.size, 6, none⟩ = some (.int .i64 0) := ee.cell (i := 6) (by omega)
  have f6 := ee.frozen 6
  have c7 : w2.cell? ⟨w.heap.size, 7, none⟩ = some (.int .i64 0) := ee.cell (i := 7) (by omega)
  have f7 := ee.frozen 7
  clear ee
  have EF := hide ((unhide E2).put8 (op) (sm) (sr) (sx) (dm) (dr) (dx) (n))
  go_wp2
  refine bodyPost_ret (results_cell_row (P := Try.prog) rfl _ _ w.heap.size 92 (cs8 [op, sm, sr, sx, dm, dr, dx, n]) (0, 0) _ rfl (row8_heap (unhide EF).res) Try.underlying92 rfl (by kernel_rfl)) rfl ?_
  exact ⟨⟨op, ⟨sm, sr, sx⟩, ⟨dm, dr, dx⟩, n⟩, rfl, (unhide EF).cur, (unhide EF).gr⟩
end Go.Proofs.Ytfkmibgamkignaa

namespace Go.Proofs.Ytfkmibgamkignaa
open Go.ChangeShapes Go.WideShapes Go.ChangeAt Go.RowKit
set_option linter.unusedVariables false
set_option maxRecDepth 8000
set_option linter.unusedSimpArgs false

/-- Two answers' places, while draws go on. -/
structure Bw (w wr : World) (z : Array Value) (t : TypeId) : Prop where
  rm : wr.heap[w.heap.size]? = some (.cells zMv.cs 28 (0, 0))
  rp : wr.heap[w.heap.size + 1]? = some (.cells z t (0, 0))
  bel : Below w.heap.size w wr
  sz : w.heap.size + 2 ≤ wr.heap.size
section
variable {w wr w' : World} {z : Array Value} {t : TypeId}
theorem bw_new (w : World) (z : Array Value) (t : TypeId) : Bw w ((w.alloc (.cells zMv.cs 28)).alloc (.cells z t)) z t :=
  ⟨row_lat (heap_alloc_last w _) (below_new _ _), by have := heap_alloc_last (w.alloc (.cells zMv.cs 28)) (.cells z t); simpa using this, below_two w _ _, by simp⟩
theorem Bw.later (h : Bw w wr z t) (hb : Below wr.heap.size wr w') : Bw w w' z t := ⟨row_lat h.rm hb, row_lat h.rp hb, h.bel.trans (hb.mono h.bel.size), Nat.le_trans h.sz hb.size⟩
theorem Bw.past (h : Bw w wr z t) {cb : Nat} (hg : wr.grownBy w' (some cb)) (hc : w.heap.size + 2 ≤ cb) : Bw w w' z t :=
  ⟨row_past h.rm hg (by omega), row_past h.rp hg (by omega), h.bel.grown hg h.bel.size (fun k e => by cases e; omega), Nat.le_trans h.sz hg.size⟩
theorem Bw.rp2 (h : Bw w wr z t) (cs : Array Value) : (wr.setRow w.heap.size cs).heap[w.heap.size + 1]? = some (.cells z t (0, 0)) := (setRow_other _ _ _ _ (by omega)).trans h.rp
theorem Bw.done (h : Bw w wr z t) (cs ps : Array Value) : ((wr.setRow w.heap.size cs).setRow (w.heap.size + 1) ps).heap[w.heap.size]? = some (.cells cs 28 (0, 0)) ∧ ((wr.setRow w.heap.size cs).setRow (w.heap.size + 1) ps).heap[w.heap.size + 1]? = some (.cells ps t (0, 0)) ∧ Below w.heap.size w ((wr.setRow w.heap.size cs).setRow (w.heap.size + 1) ps) :=
  ⟨(setRow_other _ _ _ _ (by omega)).trans (setRow_heap _ _ _ _ 28 _ h.rm), setRow_heap _ _ _ _ t _ (h.rp2 cs), below_setRow (below_setRow h.bel (by omega) _) (by omega) _⟩
end
theorem results_rr {P : Program} {fn : Func} {p p2 : Tmp} {ty ty2 : TypeId} (h : fn.results = #[.cell p ty, .cell p2 ty2]) (tmps : Array Value) (w : World) (g : Nat) (t : TypeId) (cs : Array Value) (fr : Nat × Nat) (d : TypeDesc)
    (hp : tmps.getD p undef = .pointer (some ⟨g, 0, none⟩)) (hg : w.heap[g]? = some (.cells cs t fr)) (hu : P.underlying ty = some d) (hd : (match d with | .struct _ | .array _ _ => true | _ => false) = true) (hi : (P.info? ty).map (·.size) = some cs.size)
    (g2 : Nat) (t2 : TypeId) (cs2 : Array Value) (fr2 : Nat × Nat) (d2 : TypeDesc)
    (hp2 : tmps.getD p2 undef = .pointer (some ⟨g2, 0, none⟩)) (hg2 : w.heap[g2]? = some (.cells cs2 t2 fr2)) (hu2 : P.underlying ty2 = some d2) (hd2 : (match d2 with | .struct _ | .array _ _ => true | _ => false) = true) (hi2 : (P.info? ty2).map (·.size) = some cs2.size) :
    (results fn tmps).run P w = .ok (.tuple #[.agg cs, .agg cs2]) w := by
  have hp' : tmps[p]?.getD undef = .pointer (some ⟨g, 0, none⟩) := by simpa using hp
  have hp2' : tmps[p2]?.getD undef = .pointer (some ⟨g2, 0, none⟩) := by simpa using hp2
  simp [results, h, hp', hp2', asAddr, run_loadVar_row w g t ty cs fr d hg hu hd hi, run_loadVar_row w g2 t2 ty2 cs2 fr2 d2 hg2 hu2 hd2 hi2]

theorem Bw.over {w wr : World} {z : Array Value} {t : TypeId} (h : Bw w wr z t) (g : Nat) (cs : Array Value) (hg : w.heap.size + 2 ≤ g) : Bw w (wr.setRow g cs) z t :=
  ⟨(setRow_other _ _ _ _ (by omega)).trans h.rm, (setRow_other _ _ _ _ (by omega)).trans h.rp, below_setRow h.bel (by omega) _, by rw [setRow_size]; exact h.sz⟩
theorem field92 (op sm sr sx dm dr dx nn : Int) (w : World) : (Instr.field 92 (.agg #[.int .i64 op, .int .i64 sm, .int .i64 sr, .int .i64 sx, .int .i64 dm, .int .i64 dr, .int .i64 dx, .int .i64 nn]) 2).run Try.prog w = .ok (.agg #[.int .i64 dm, .int .i64 dr, .int .i64 dx]) w := by
  kernel_rfl
theorem RdN.over {w0 wr : World} {a : Option Addr} {ns : List Int} {g : Nat} (h0 : RdN w0 a ns) (h : RdN wr a ns) (hg : w0.heap.size ≤ g) (cs : Array Value) : RdN (wr.setRow g cs) a ns := by
  rcases h0 with h0 | ⟨b, off, ha, hb, _⟩
  · exact .inl h0
  · exact h.past (grownBy_setRow cs) (fun ad e => by rw [ha] at e; cases e; show b ≠ g; omega)
theorem Am.over {w0 wr : World} {B : Nat} {x : Mv} {d : Md} (h : Am wr B x d) (h0 : RdM w0 x d) (g : Nat) (hg : w0.heap.size ≤ g) (cs : Array Value) : Am (wr.setRow g cs) B x d :=
  { h with rd := ⟨h0.m.over h.rd.m hg cs, h0.r.over h.rd.r hg cs, h0.i.over h.rd.i hg cs, h0.o.over h.rd.o hg cs, h.rd.ml, h.rd.rl, h.rd.il, h.rd.ol⟩ }

set_option maxHeartbeats 4000000 in
theorem drawL_any (a : Option Addr) (len cap : Nat) (xs : List UInt8) (w : World) (hl : xs.length = len) (hm : len ≤ 1048576) (hr : Rd w a xs) :
    Calls Try.prog 25 #[.slice a len cap] w fun e w' => ∃ (x : Mv) (d : Md) (r p : Int), e = .returned (.tuple #[.agg x.cs, .agg #[.int .i64 r, .int .i64 p]]) ∧ Am w' (w.heap.size + 3) x d ∧ Below w.heap.size w w' := by
  have b0 := bw_new w #[.int .i64 0, .int .i64 0] 44
  have B0 := hide b0
  have P := hide (new_any a len cap xs ((w.alloc (.cells zMv.cs 28)).alloc (.cells #[.int .i64 0, .int .i64 0] 44)) hl hm (hr.later b0.bel))
  rw [show ((w.alloc (.cells zMv.cs 28)).alloc (.cells #[.int .i64 0, .int .i64 0] 44)).heap.size = w.heap.size + 2 by simp] at P
  clear hr b0
  go_enter Try.func25, Try.ntmps25
  go_wp2_with fail
  refine (unhide P).mono ?_
  rintro e w1 ⟨rfl, hc1, hb1⟩
  have C1 := hide hc1
  have B1 := hide ((unhide B0).later (by simpa using hb1))
  clear P hc1 hb1 B0
  have P := hide (any5_any (w.heap.size + 2) a len cap xs w1 (unhide C1))
  go_wp2_with fail
  refine (unhide P).mono ?_
  rintro e w2 ⟨x, d, rfl, am, hc2, hg2⟩
  have C2 := hide hc2
  have A2 := hide (am.base (C := w.heap.size + 3) (by have := (unhide C1).lt; omega))
  have B2 := hide ((unhide B1).past hg2 (Nat.le_refl _))
  clear P am hc2 hg2 B1 C1
  have P := hide (draw6_any (w.heap.size + 2) a len cap xs w2 (unhide C2))
  go_wp2_with fail
  refine (unhide P).mono ?_
  rintro e w3 ⟨r, p, rfl, hc2, hg2⟩
  have C3 := hide hc2
  have A3 := hide ((unhide A2).past hg2 (fun b e => by cases e; omega))
  have B3 := hide ((unhide B2).past hg2 (Nat.le_refl _))
  clear P hc2 hg2 B2 C2 A2
  go_wp2_with (first | (refine wpList_store_row rfl 28 _ _ rfl w.heap.size x.cs rfl rfl 28 zMv.cs (unhide B3).rm (by kernel_rfl) rfl (Mv.cs_one _) ?_) | (refine wpList_store_row rfl 44 _ _ rfl (w.heap.size + 1) #[.int .i64 r, .int .i64 p] rfl rfl 44 #[.int .i64 0, .int .i64 0] ((unhide B3).rp2 x.cs) (by kernel_rfl) rfl (by simp [Value.oneCell']) ?_))
  obtain ⟨r1, r2, r3⟩ := (unhide B3).done x.cs #[.int .i64 r, .int .i64 p]
  refine bodyPost_ret (results_rr (P := Try.prog) rfl _ _ w.heap.size 28 x.cs (0, 0) _ rfl r1 Try.underlying28 rfl (by kernel_rfl) (w.heap.size + 1) 44 #[.int .i64 r, .int .i64 p] (0, 0) _ rfl r2 Try.underlying44 rfl (by kernel_rfl)) rfl ?_
  exact ⟨x, d, r, p, rfl, ((unhide A3).row (by omega) _).row (by omega) _, r3⟩
set_option maxHeartbeats 4000000 in
theorem drawS_any (a : Option Addr) (len cap : Nat) (xs : List UInt8) (w : World) (hl : xs.length = len) (hm : len ≤ 1048576) (hr : Rd w a xs) :
    Calls Try.prog 28 #[.slice a len cap] w fun e w' => ∃ (x : Mv) (d : Md) (r p n : Int), e = .returned (.tuple #[.agg x.cs, .agg #[.int .i64 r, .int .i64 p], .int .i64 n]) ∧ Am w' (w.heap.size + 3) x d ∧ Below w.heap.size w w' := by
  have b0 := bw_new w #[.int .i64 0, .int .i64 0] 44
  have B0 := hide b0
  have P := hide (new_any a len cap xs ((w.alloc (.cells zMv.cs 28)).alloc (.cells #[.int .i64 0, .int .i64 0] 44)) hl hm (hr.later b0.bel))
  rw [show ((w.alloc (.cells zMv.cs 28)).alloc (.cells #[.int .i64 0, .int .i64 0] 44)).heap.size = w.heap.size + 2 by simp] at P
  clear hr b0
  go_enter Try.func28, Try.ntmps28
  go_wp2_with fail
  refine (unhide P).mono ?_
  rintro e w1 ⟨rfl, hc1, hb1⟩
  have C1 := hide hc1
  have B1 := hide ((unhide B0).later (by simpa using hb1))
  clear P hc1 hb1 B0
  have P := hide (any5_any (w.heap.size + 2) a len cap xs w1 (unhide C1))
  go_wp2_with fail
  refine (unhide P).mono ?_
  rintro e w2 ⟨x, d, rfl, am, hc2, hg2⟩
  have C2 := hide hc2
  have A2 := hide (am.base (C := w.heap.size + 3) (by have := (unhide C1).lt; omega))
  have B2 := hide ((unhide B1).past hg2 (Nat.le_refl _))
  clear P am hc2 hg2 B1 C1
  have P := hide (draw6_any (w.heap.size + 2) a len cap xs w2 (unhide C2))
  go_wp2_with fail
  refine (unhide P).mono ?_
  rintro e w3 ⟨r, p, rfl, hc2, hg2⟩
  have C3 := hide hc2
  have A3 := hide ((unhide A2).past hg2 (fun b e => by cases e; omega))
  have B3 := hide ((unhide B2).past hg2 (Nat.le_refl _))
  clear P hc2 hg2 B2 C2 A2
  have P := hide (num_any (w.heap.size + 2) a len cap xs w3 (unhide C3))
  go_wp2_with fail
  refine (unhide P).mono ?_
  rintro e w4 ⟨n, rfl, hc2, hg2⟩
  have A4 := hide ((unhide A3).past hg2 (fun b e => by cases e; omega))
  have B4 := hide ((unhide B3).past hg2 (Nat.le_refl _))
  clear P hc2 hg2 B3 C3 A3
  go_wp2_with (first | (refine wpList_store_row rfl 28 _ _ rfl w.heap.size x.cs rfl rfl 28 zMv.cs (unhide B4).rm (by kernel_rfl) rfl (Mv.cs_one _) ?_) | (refine wpList_store_row rfl 44 _ _ rfl (w.heap.size + 1) #[.int .i64 r, .int .i64 p] rfl rfl 44 #[.int .i64 0, .int .i64 0] ((unhide B4).rp2 x.cs) (by kernel_rfl) rfl (by simp [Value.oneCell']) ?_))
  obtain ⟨r1, r2, r3⟩ := (unhide B4).done x.cs #[.int .i64 r, .int .i64 p]
  refine bodyPost_ret (results_rr1 (P := Try.prog) rfl _ _ w.heap.size 28 x.cs (0, 0) _ rfl r1 Try.underlying28 rfl (by kernel_rfl) (w.heap.size + 1) 44 #[.int .i64 r, .int .i64 p] (0, 0) _ rfl r2 Try.underlying44 rfl (by kernel_rfl)) rfl ?_
  exact ⟨x, d, r, p, n, rfl, ((unhide A4).row (by omega) _).row (by omega) _, r3⟩
set_option maxHeartbeats 4000000 in
theorem drawP_any (a : Option Addr) (len cap : Nat) (xs : List UInt8) (w : World) (hl : xs.length = len) (hm : len ≤ 1048576) (hr : Rd w a xs) :
    Calls Try.prog 22 #[.slice a len cap] w fun e w' => ∃ (x : Mv) (d : Md) (o : Od), e = .returned (.tuple #[.agg x.cs, o.v]) ∧ Am w' (w.heap.size + 3) x d ∧ Below w.heap.size w w' := by
  have b0 := bw_new w #[.int .i64 0, .int .i64 0, .int .i64 0] 40
  have B0 := hide b0
  have P := hide (new_any a len cap xs ((w.alloc (.cells zMv.cs 28)).alloc (.cells #[.int .i64 0, .int .i64 0, .int .i64 0] 40)) hl hm (hr.later b0.bel))
  rw [show ((w.alloc (.cells zMv.cs 28)).alloc (.cells #[.int .i64 0, .int .i64 0, .int .i64 0] 40)).heap.size = w.heap.size + 2 by simp] at P
  clear hr b0
  go_enter Try.func22, Try.ntmps22
  go_wp2_with fail
  refine (unhide P).mono ?_
  rintro e w1 ⟨rfl, hc1, hb1⟩
  have C1 := hide hc1
  have B1 := hide ((unhide B0).later (by simpa using hb1))
  clear P hc1 hb1 B0
  have P := hide (any5_any (w.heap.size + 2) a len cap xs w1 (unhide C1))
  go_wp2_with fail
  refine (unhide P).mono ?_
  rintro e w2 ⟨x, d, rfl, am, hc2, hg2⟩
  have C2 := hide hc2
  have A2 := hide (am.base (C := w.heap.size + 3) (by have := (unhide C1).lt; omega))
  have B2 := hide ((unhide B1).past hg2 (Nat.le_refl _))
  clear P am hc2 hg2 B1 C1
  have S2 := hide (show w.heap.size + 2 ≤ w2.heap.size from (unhide B2).sz)
  have R2 := hide (unhide A2).rd
  have P := hide (opdD_any (w.heap.size + 2) a len cap xs (w2.alloc (.cells x.cs 28)) ((unhide C2).later (below_new w2 _)))
  have RX := hide (heap_alloc_last w2 (.cells x.cs 28))
  have A3 := hide ((unhide A2).later (below_new w2 (.cells x.cs 28)))
  have B3 := hide ((unhide B2).later (below_new w2 (.cells x.cs 28)))
  clear A2 B2
  go_wp2_with (refine wpList_store_new rfl 28 _ _ rfl x.cs rfl rfl _ (by kernel_rfl) rfl (Mv.cs_one _) ?_)
  refine (unhide P).mono ?_
  rintro e w3 ⟨⟨om, orr, ox⟩, -, rfl, hc2, hg2⟩
  unfold Od.v
  simp only
  have LC := hide (show w.heap.size + 2 < w2.heap.size from (unhide C2).lt)
  have RX3 := hide (row_past (unhide RX) hg2 (by have := unhide LC; omega))
  have S3 := hide (show w2.heap.size < w3.heap.size from row_lt (unhide RX3))
  have A4 := hide (((unhide A3).past hg2 (fun b e => by cases e; omega)).later (below_new w3 (.cells #[.int .i64 om, .int .i64 orr, .int .i64 ox] 40)))
  have B4 := hide (((unhide B3).past hg2 (Nat.le_refl _)).later (below_new w3 (.cells #[.int .i64 om, .int .i64 orr, .int .i64 ox] 40)))
  have RX4 := hide (row_lat (unhide RX3) (below_new w3 (.cells #[.int .i64 om, .int .i64 orr, .int .i64 ox] 40)))
  have RO4 := hide (heap_alloc_last w3 (.cells #[.int .i64 om, .int .i64 orr, .int .i64 ox] 40))
  have C4 := hide (hc2.later (below_new w3 (.cells #[.int .i64 om, .int .i64 orr, .int .i64 ox] 40)))
  clear P hc2 hg2 A3 B3 RX RX3 C2
  have P := hide (once_any (w.heap.size + 2) a len cap xs 10 _ (by omega) (unhide C4))
  go_wp2_with (refine wpList_store_new rfl 40 _ _ rfl #[.int .i64 om, .int .i64 orr, .int .i64 ox] rfl rfl _ (by kernel_rfl) rfl (by simp [Value.oneCell']) ?_)
  refine (unhide P).mono ?_
  rintro e w5 ⟨b, rfl, hc2, hg2⟩
  have A5 := hide ((unhide A4).past hg2 (fun b e => by cases e; omega))
  have B5 := hide ((unhide B4).past hg2 (Nat.le_refl _))
  have RX5 := hide (row_past (unhide RX4) hg2 (by have := unhide LC; omega))
  have RO5 := hide (row_past (unhide RO4) hg2 (by have := unhide LC; have := unhide S3; omega))
  have C5 := hide hc2
  clear P hc2 hg2 A4 B4 RX4 RO4 C4
  cases b
  · go_wp2_with fail
    refine wp_region_held_drew (S := fun v => v.heap[w2.heap.size]? = some (.cells x.cs 28 (0, 0)) ∧ v.heap[w3.heap.size]? = some (.cells #[.int .i64 om, .int .i64 orr, .int .i64 ox] 40 (0, 0))) (by kernel_rfl) ⟨row_lat (unhide RX5) below_drew, row_lat (unhide RO5) below_drew⟩ (fun hS => ?_)
    have HS := hide hS
    clear hS
    have AA := hide ((unhide A5).later (below_drew (w := w5)))
    have BB := hide ((unhide B5).later (below_drew (w := w5)))
    refine wpAnyH_take (i := 0) (v := .agg x.cs) rfl (by kernel_rfl) (by kernel_rfl) (by kernel_rfl) (fun _ _ _ h => h) (yields_load rfl 28 _ rfl w2.heap.size rfl 28 x.cs _ (fun w h => h.1) Try.underlying28 rfl (by kernel_rfl)) (unhide HS) ?_
    go_simp
    refine wpAnyH_take (i := 1) (v := .agg #[.int .i64 om, .int .i64 orr, .int .i64 ox]) rfl (by kernel_rfl) (by kernel_rfl) (by kernel_rfl) (fun _ _ _ h => h) (yields_load rfl 40 _ rfl w3.heap.size rfl 40 #[.int .i64 om, .int .i64 orr, .int .i64 ox] _ (fun w h => h.2) Try.underlying40 rfl (by kernel_rfl)) (unhide HS) ?_
    go_simp
    refine wpAnyH_ready (rs := [2]) (by kernel_rfl) (by simp) ?_
    refine AllReadyH.cons rfl (fun K2 hK => ?_) AllReadyH.nil
    rw [if_pos (by rfl)]
    refine wp_store_row 28 _ _ rfl w.heap.size x.cs rfl rfl 28 zMv.cs (unhide BB).rm (by kernel_rfl) rfl (Mv.cs_one _) ?_
    refine hK.out _ _ ⟨(setRow_other _ _ _ _ (by have := unhide S2; omega)).trans (unhide HS).1, (setRow_other _ _ _ _ (by have := unhide S2; have := unhide S3; omega)).trans (unhide HS).2⟩ (fun hS => ?_)
    clear HS
    have HS := hide hS
    clear hS hK K2
    go_simp
    refine wpAnyH_ready (rs := [3]) (by kernel_rfl) (by simp) ?_
    refine AllReadyH.cons rfl (fun K2 hK => ?_) AllReadyH.nil
    rw [if_pos (by rfl)]
    refine wp_store_row 40 _ _ rfl (w.heap.size + 1) #[.int .i64 om, .int .i64 orr, .int .i64 ox] rfl rfl 40 #[.int .i64 0, .int .i64 0, .int .i64 0] ((unhide BB).rp2 x.cs) (by kernel_rfl) rfl (by simp [Value.oneCell']) ?_
    refine hK.out _ _ ⟨(setRow_other _ _ _ _ (by have := unhide S2; omega)).trans (unhide HS).1, (setRow_other _ _ _ _ (by have := unhide S2; have := unhide S3; omega)).trans (unhide HS).2⟩ (fun hS => ?_)
    clear HS
    have HS := hide hS
    clear hS hK K2
    go_simp
    refine wpAnyH_done (by kernel_rfl) ?_ _
    clear HS
    go_wp2_with fail
    obtain ⟨r1, r2, r3⟩ := (unhide BB).done x.cs #[.int .i64 om, .int .i64 orr, .int .i64 ox]
    refine bodyPost_ret (results_rr (P := Try.prog) rfl _ _ w.heap.size 28 x.cs (0, 0) _ rfl r1 Try.underlying28 rfl (by kernel_rfl) (w.heap.size + 1) 40 #[.int .i64 om, .int .i64 orr, .int .i64 ox] (0, 0) _ rfl r2 Try.underlying40 rfl (by kernel_rfl)) rfl ?_
    exact ⟨x, d, ⟨om, orr, ox⟩, rfl, ((unhide AA).row (by omega) _).row (by omega) _, r3⟩
  · have P := hide (anyD_any (w.heap.size + 2) a len cap xs w5 (unhide C5))
    go_wp2_with fail
    refine (unhide P).mono ?_
    rintro e w6 ⟨⟨op, ⟨sm, sr, sx⟩, ⟨dm, dr, dx⟩, nn⟩, rfl, hc2, hg2⟩
    unfold Is.v
    simp only
    have A6 := hide (((unhide A5).past hg2 (fun b e => by cases e; omega)))
    have B6 := hide ((unhide B5).past hg2 (Nat.le_refl _))
    have RX6 := hide (row_past (unhide RX5) hg2 (by have := unhide LC; omega))
    have RO6 := hide (row_past (unhide RO5) hg2 (by have := unhide LC; have := unhide S3; omega))
    clear P hc2 hg2 A5 B5 RX5 RO5 C5
    have RX7 := hide ((setRow_other w6 w3.heap.size w2.heap.size #[.int .i64 dm, .int .i64 dr, .int .i64 dx] (by have := unhide S3; omega)).trans (unhide RX6))
    have RO7 := hide (setRow_heap w6 w3.heap.size _ #[.int .i64 dm, .int .i64 dr, .int .i64 dx] 40 _ (unhide RO6))
    have A7 := hide ((unhide A6).over (unhide R2) w3.heap.size (by have := unhide S3; omega) #[.int .i64 dm, .int .i64 dr, .int .i64 dx])
    have B7 := hide ((unhide B6).over w3.heap.size #[.int .i64 dm, .int .i64 dr, .int .i64 dx] (by have := unhide S2; have := unhide S3; omega))
    have hfd := field92 op sm sr sx dm dr dx nn w6
    go_wp2_with (refine wpList_store_row rfl 40 _ _ rfl w3.heap.size #[.int .i64 dm, .int .i64 dr, .int .i64 dx] rfl rfl 40 #[.int .i64 om, .int .i64 orr, .int .i64 ox] (unhide RO6) (by kernel_rfl) rfl (by simp [Value.oneCell']) ?_)
    refine wp_region_held_drew (S := fun v => v.heap[w2.heap.size]? = some (.cells x.cs 28 (0, 0)) ∧ v.heap[w3.heap.size]? = some (.cells #[.int .i64 dm, .int .i64 dr, .int .i64 dx] 40 (0, 0))) (by kernel_rfl) ⟨row_lat (unhide RX7) below_drew, row_lat (unhide RO7) below_drew⟩ (fun hS => ?_)
    have HS := hide hS
    clear hS
    have AA := hide ((unhide A7).later (below_drew (w := w6.setRow w3.heap.size #[.int .i64 dm, .int .i64 dr, .int .i64 dx])))
    have BB := hide ((unhide B7).later (below_drew (w := w6.setRow w3.heap.size #[.int .i64 dm, .int .i64 dr, .int .i64 dx])))
    refine wpAnyH_take (i := 0) (v := .agg x.cs) rfl (by kernel_rfl) (by kernel_rfl) (by kernel_rfl) (fun _ _ _ h => h) (yields_load rfl 28 _ rfl w2.heap.size rfl 28 x.cs _ (fun w h => h.1) Try.underlying28 rfl (by kernel_rfl)) (unhide HS) ?_
    go_simp
    refine wpAnyH_take (i := 1) (v := .agg #[.int .i64 dm, .int .i64 dr, .int .i64 dx]) rfl (by kernel_rfl) (by kernel_rfl) (by kernel_rfl) (fun _ _ _ h => h) (yields_load rfl 40 _ rfl w3.heap.size rfl 40 #[.int .i64 dm, .int .i64 dr, .int .i64 dx] _ (fun w h => h.2) Try.underlying40 rfl (by kernel_rfl)) (unhide HS) ?_
    go_simp
    refine wpAnyH_ready (rs := [2]) (by kernel_rfl) (by simp) ?_
    refine AllReadyH.cons rfl (fun K2 hK => ?_) AllReadyH.nil
    rw [if_pos (by rfl)]
    refine wp_store_row 28 _ _ rfl w.heap.size x.cs rfl rfl 28 zMv.cs (unhide BB).rm (by kernel_rfl) rfl (Mv.cs_one _) ?_
    refine hK.out _ _ ⟨(setRow_other _ _ _ _ (by have := unhide S2; omega)).trans (unhide HS).1, (setRow_other _ _ _ _ (by have := unhide S2; have := unhide S3; omega)).trans (unhide HS).2⟩ (fun hS => ?_)
    clear HS
    have HS := hide hS
    clear hS hK K2
    go_simp
    refine wpAnyH_ready (rs := [3]) (by kernel_rfl) (by simp) ?_
    refine AllReadyH.cons rfl (fun K2 hK => ?_) AllReadyH.nil
    rw [if_pos (by rfl)]
    refine wp_store_row 40 _ _ rfl (w.heap.size + 1) #[.int .i64 dm, .int .i64 dr, .int .i64 dx] rfl rfl 40 #[.int .i64 0, .int .i64 0, .int .i64 0] ((unhide BB).rp2 x.cs) (by kernel_rfl) rfl (by simp [Value.oneCell']) ?_
    refine hK.out _ _ ⟨(setRow_other _ _ _ _ (by have := unhide S2; omega)).trans (unhide HS).1, (setRow_other _ _ _ _ (by have := unhide S2; have := unhide S3; omega)).trans (unhide HS).2⟩ (fun hS => ?_)
    clear HS
    have HS := hide hS
    clear hS hK K2
    go_simp
    refine wpAnyH_done (by kernel_rfl) ?_ _
    clear HS
    go_wp2_with fail
    obtain ⟨r1, r2, r3⟩ := (unhide BB).done x.cs #[.int .i64 dm, .int .i64 dr, .int .i64 dx]
    refine bodyPost_ret (results_rr (P := Try.prog) rfl _ _ w.heap.size 28 x.cs (0, 0) _ rfl r1 Try.underlying28 rfl (by kernel_rfl) (w.heap.size + 1) 40 #[.int .i64 dm, .int .i64 dr, .int .i64 dx] (0, 0) _ rfl r2 Try.underlying40 rfl (by kernel_rfl)) rfl ?_
    exact ⟨x, d, ⟨dm, dr, dx⟩, rfl, ((unhide AA).row (by omega) _).row (by omega) _, r3⟩
end Go.Proofs.Ytfkmibgamkignaa

namespace Go.Proofs.Ytfkmibgamkignaa
open Go.ChangeShapes Go.WideShapes Go.ChangeAt Go.RowKit
set_option linter.unusedVariables false
set_option maxRecDepth 8000
set_option linter.unusedSimpArgs false

/-- The bytes that came in, while the law goes on. -/
structure Lc (W wr : World) (a : Option Addr) (xs : List UInt8) : Prop where
  bel : Below W.heap.size W wr
  rd : Rd wr a xs
theorem Lc.later {W w w' : World} {a : Option Addr} {xs : List UInt8} (h : Lc W w a xs) (hb : Below w.heap.size w w') : Lc W w' a xs := ⟨h.bel.trans (hb.mono h.bel.size), h.rd.later hb⟩
/-- A load of a whole row in a guarded place. -/
theorem yields_loadG {P : Program} {ops : Array Oper} {S : World → Prop} {o : Oper} {a : Act} (hw : Region.wanted o (yielded ops a.tmps) = true) (ty : TypeId) (x : Operand) (ho : o.op = .load ty x) (g : Nat) (hx : a.eval x = .pointer (some ⟨g, 0, none⟩)) (t : TypeId) (cs : Array Value) (d : TypeDesc)
    (hS : ∀ w, S w → w.heap[g]? = some (.cells cs t (0, 0))) (hu : P.underlying ty = some d) (hd : (match d with | .struct _ | .array _ _ => true | _ => false) = true) (hi : (P.info? ty).map (·.size) = some cs.size) : YieldsIf P ops S o (.agg cs) a := by
  refine .inl ⟨hw, fun w hw => ?_⟩
  simp only [execOp, ho, hx, Instr.loadAt, Instr.sureAddr, Sem.run_bind, Sem.run_pure, Result.andThen_ok, run_loadVar_row w g t ty cs (0, 0) d (hS w hw) hu hd hi]
theorem newD_ok (ni nn : List Int) (p q : Int) : (newD ni p q nn).ok 0 = decide ((0 : Int) < ((newD ni p q nn).m.length : Int)) := by
  unfold newD
  cases hb : newB ni p q nn
  · rw [if_neg (by simp)]
    rfl
  · rw [if_pos rfl]
    obtain ⟨p0, p1, p2, p3, p4, p5, p6⟩ := newB_parts hb
    obtain ⟨a0, a1⟩ := inB_b p0
    obtain ⟨q0, q1⟩ := inB_b p4
    have hk : Dk ⟨over z256 (p / 2).toNat ni, newR q, nn, []⟩ := dk_new (by omega) (Wd.of p3) (Wd.of p6) (by omega) q0 q1
    rw [hk.ok 0 (by omega) (by omega)]
    have := hk.ml
    simp only at this
    rw [this]
    rfl
theorem dk_has {d : Md} (h : Dk d) (k : Nat) (hk : k ≤ 255) : d.has (2 * (k : Int)) = true := by
  unfold Md.has
  rw [adB_i (by omega) (by omega) (by omega), h.ml]
  simp
  omega
theorem put_dk {d : Md} (h : Dk d) (k : Nat) (n : Int) (hk : k ≤ 255) : d.put (2 * (k : Int)) n = ⟨d.m.set k (n % 65536), d.r, d.i, d.o⟩ := by
  unfold Md.put
  rw [if_pos (dk_has h k hk), show (2 * (k : Int) / 2).toNat = k by omega]
theorem get_put {d : Md} (h : Dk d) (k : Nat) (n : Int) (hk : k ≤ 255) : (d.put (2 * (k : Int)) n).get (2 * (k : Int)) = n % 65536 ∧ (d.put (2 * (k : Int)) n).has (2 * (k : Int)) = true ∧ Dk (d.put (2 * (k : Int)) n) := by
  have hd : Dk (d.put (2 * (k : Int)) n) := by rw [put_dk h k n hk]; exact h.setM k _ (by omega) (by omega)
  refine ⟨?_, dk_has hd k hk, hd⟩
  unfold Md.get
  rw [if_pos (dk_has hd k hk), put_dk h k n hk, show (2 * (k : Int) / 2).toNat = k by omega]
  have := h.ml
  simp [nAt, List.getElem?_set, show k < d.m.length by omega]
theorem other_put {d : Md} (h : Dk d) (k j : Nat) (n : Int) (hk : k ≤ 255) (hj : j ≠ k) : nAt (d.put (2 * (k : Int)) n).m j = nAt d.m j := by
  rw [put_dk h k n hk]
  unfold nAt
  rw [List.getD_eq_getElem?_getD, List.getD_eq_getElem?_getD, List.getElem?_set, if_neg (fun e => hj e.symm)]
end Go.Proofs.Ytfkmibgamkignaa

namespace Go.Proofs.Ytfkmibgamkignaa
open Go.ChangeShapes Go.WideShapes Go.ChangeAt Go.RowKit
set_option linter.unusedVariables false
set_option maxRecDepth 8000
set_option linter.unusedSimpArgs false

theorem rdN_at {w : World} {s : Sl} {ns : List Int} {g n c : Nat} (h : RdN w s.a ns) (e : s = ⟨some ⟨g, 0, none⟩, n, c⟩) (j : Nat) (hj : j < ns.length) : w.cell? ⟨g, j, none⟩ = some (.int .i64 (nAt ns j)) := by
  subst e
  rcases h with rfl | ⟨b, off, e2, hb, hc⟩
  · simp at hj
  · simp at e2
    obtain ⟨rfl, rfl⟩ := e2
    simpa using hc j hj
/-- Two machines' words: where they lie. -/
structure Tl (w : World) (g h : Nat) (e d : Md) (gy cy gx cx : Nat) : Prop where
  c1 : w.cell? ⟨g, 0, none⟩ = some (.slice (some ⟨gy, 0, none⟩) 256 cy)
  c2 : w.cell? ⟨h, 0, none⟩ = some (.slice (some ⟨gx, 0, none⟩) 256 cx)
  c3 : ∀ j, j < 256 → w.cell? ⟨gy, j, none⟩ = some (.int .i64 (nAt e.m j))
  c4 : ∀ j, j < 256 → w.cell? ⟨gx, j, none⟩ = some (.int .i64 (nAt d.m j))
theorem cell_lat {w w' : World} {p : Addr} {v : Value} (h : w.cell? p = some v) (hb : Below w.heap.size w w') : w'.cell? p = some v :=
  (hb.cell (p := p) (World.block_lt_of_cell? w p h)).trans h
theorem Tl.later {w w' : World} {g h : Nat} {e d : Md} {gy cy gx cx : Nat} (t : Tl w g h e d gy cy gx cx) (hb : Below w.heap.size w w') : Tl w' g h e d gy cy gx cx :=
  ⟨cell_lat t.c1 hb, cell_lat t.c2 hb, fun j hj => cell_lat (t.c3 j hj) hb, fun j hj => cell_lat (t.c4 j hj) hb⟩
theorem tl_of {w : World} {g h B C : Nat} {e d : Md} {y x : Mv} {ty tx : TypeId} (ry : w.heap[g]? = some (.cells y.cs ty (0, 0))) (rx : w.heap[h]? = some (.cells x.cs tx (0, 0))) (oy : OwnM w B y e) (ox : OwnM w C x d) (de : Dk e) (dd : Dk d) :
    ∃ gy cy gx cx, Tl w g h e d gy cy gx cx := by
  obtain ⟨gy, cy, ey⟩ := sl_form oy.m (by rw [de.ml]; omega)
  obtain ⟨gx, cx, ex⟩ := sl_form ox.m (by rw [dd.ml]; omega)
  rw [de.ml] at ey
  rw [dd.ml] at ex
  exact ⟨gy, cy, gx, cx, by rw [row_m ry, ey], by rw [row_m rx, ex], fun j hj => rdN_at oy.rd.m ey j (by rw [de.ml]; exact hj), fun j hj => rdN_at ox.rd.m ex j (by rw [dd.ml]; exact hj)⟩
end Go.Proofs.Ytfkmibgamkignaa

namespace Go.Proofs.Ytfkmibgamkignaa
open Go.ChangeShapes Go.WideShapes Go.ChangeAt Go.RowKit
set_option linter.unusedVariables false
set_option maxRecDepth 8000
set_option linter.unusedSimpArgs false

/-- A machine and another struct, each laid into a box of its own. -/
def two (w : World) (z : Array Value) (t : TypeId) (cs ps : Array Value) : World := (((w.alloc (.cells zMv.cs 28)).alloc (.cells z t)).setRow w.heap.size cs).setRow (w.heap.size + 1) ps
section
variable (w : World) (z : Array Value) (t : TypeId) (cs ps : Array Value)
theorem two_m : (two w z t cs ps).heap[w.heap.size]? = some (.cells cs 28 (0, 0)) := ((bw_new w z t).done cs ps).1
theorem two_p : (two w z t cs ps).heap[w.heap.size + 1]? = some (.cells ps t (0, 0)) := ((bw_new w z t).done cs ps).2.1
theorem two_b : Below w.heap.size w (two w z t cs ps) := ((bw_new w z t).done cs ps).2.2
end
theorem pl_m (d : Md) (mo re : Nat) : (d.plD mo re).m = d.m := by
  unfold Md.plD Md.adD Md.fet Md.reg
  repeat' split
  all_goals rfl
theorem pc_m (d : Md) (st : Int) (o : Od) : (d.pcD st o).m = d.m := by
  unfold Md.pcD
  split
  · exact pl_m _ _ _
  · rfl
theorem Am.small {w : World} {B : Nat} {x : Mv} {d : Md} (h : Am w B x d) : x.small := small_mv h.rd h.sm
theorem pl_small {d : Md} (h : d.small) (st : Int) (o : Od) : (d.pcD st o).small := small_pc h st o
theorem row2_0 {w : World} {g : Nat} {a b : Int} {t : TypeId} (h : w.heap[g]? = some (.cells #[.int .i64 a, .int .i64 b] t (0, 0))) : w.cell? ⟨g, 0, none⟩ = some (.int .i64 a) := (cell_of_row w g 0 _ t _ h).trans rfl
theorem row2_1 {w : World} {g : Nat} {a b : Int} {t : TypeId} (h : w.heap[g]? = some (.cells #[.int .i64 a, .int .i64 b] t (0, 0))) : w.cell? ⟨g, 1, none⟩ = some (.int .i64 b) := (cell_of_row w g 1 _ t _ h).trans rfl
theorem st_small {d : Md} (h : d.small) (r a n : Int) : (d.stD r a n).small := by
  unfold Md.stD
  split
  · exact small_put h a n
  · split
    · exact ⟨h.1, by simpa using h.2.1, h.2.2.1, h.2.2.2⟩
    · exact h
end Go.Proofs.Ytfkmibgamkignaa

namespace Go.Proofs.Ytfkmibgamkignaa
open Go.ChangeShapes Go.WideShapes Go.ChangeAt Go.RowKit
set_option linter.unusedVariables false
set_option maxRecDepth 8000
set_option linter.unusedSimpArgs false

theorem Dk.reg {d : Md} (h : Dk d) (k : Nat) (v : Int) : Dk (d.reg k (v % 65536)) := h.setR k _ (by omega) (by omega)
theorem dk_pl {d : Md} (h : Dk d) (mo re : Nat) : Dk (d.plD mo re) := by
  unfold Md.plD Md.adD Md.fet
  repeat' split
  all_goals first | exact h | exact h.reg _ _
theorem dk_pc {d : Md} (h : Dk d) (st : Int) (o : Od) : Dk (d.pcD st o) := by
  unfold Md.pcD
  split
  · exact dk_pl h _ _
  · exact h
theorem pc_no (d : Md) (st : Int) (o : Od) (h : d.pcO st o = false) : d.pcD st o = d := by
  unfold Md.pcD
  rw [h]
  simp
theorem dk_st {d : Md} (h : Dk d) (r p n : Int) : Dk (d.stD r p n) := by
  unfold Md.stD Md.put
  repeat' split
  all_goals first | exact h | exact h.setM _ _ (by omega) (by omega) | exact h.setR _ _ (by omega) (by omega)
/-- What is stored there stands there. -/
theorem ld_st (d : Md) (r p n : Int) (h : d.ldB r p = true) : (d.stD r p n).ldB r p = true ∧ (d.stD r p n).ldV r p = n % 65536 := by
  by_cases h1 : r = -1
  · have hh : d.has p = true := by unfold Md.ldB at h; rw [if_pos h1] at h; exact h
    obtain ⟨ta, tl⟩ := has_t hh
    obtain ⟨t0, t1, _⟩ := adB_t ta
    have e : d.stD r p n = ⟨d.m.set (p / 2).toNat (n % 65536), d.r, d.i, d.o⟩ := by unfold Md.stD Md.put; rw [if_pos h1, if_pos hh]
    have h2 : (d.stD r p n).has p = true := by
      rw [e]
      unfold Md.has
      rw [ta]
      simp
      exact tl
    refine ⟨by unfold Md.ldB; rw [if_pos h1]; exact h2, ?_⟩
    unfold Md.ldV Md.get
    rw [if_pos h1, if_pos h2, e]
    exact nAt_set_same _ _ _ (by omega)
  · have h3 := h
    unfold Md.ldB at h3
    rw [if_neg h1] at h3
    simp only [Bool.and_eq_true, beq_iff_eq] at h3
    obtain ⟨b1, b2⟩ := h3
    obtain ⟨b3, b4⟩ := inB_b b1
    have e : d.stD r p n = ⟨d.m, d.r.set r.toNat (n % 65536), d.i, d.o⟩ := by unfold Md.stD; rw [if_neg h1, if_pos h]
    have h2 : (d.stD r p n).ldB r p = true := by
      unfold Md.ldB
      rw [if_neg h1, e]
      simp only [List.length_set]
      rw [b1, b2]
      rfl
    refine ⟨h2, ?_⟩
    unfold Md.ldV
    rw [if_neg h1, if_pos h2, e]
    exact nAt_set_same _ _ _ (by omega)
end Go.Proofs.Ytfkmibgamkignaa
