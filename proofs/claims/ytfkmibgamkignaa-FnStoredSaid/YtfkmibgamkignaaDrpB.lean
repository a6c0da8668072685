/- Drawn machines, right or not; over this seat's translation; conditions stand as hypotheses of each. -/
import Derived.Test.YtfkmibgamkignaaDrpA
namespace Go.Proofs.Ytfkmibgamkignaa
open Go.ChangeShapes Go.WideShapes Go.ChangeAt Go.RowKit
set_option linter.unusedVariables false
set_option maxRecDepth 8000
set_option linter.unusedSimpArgs false

/-- A list lies from a bound on. -/
def LoS (B : Nat) (s : Sl) (ns : List Int) : Prop := ns = [] ∨ ∀ ad, s.a = some ad → B ≤ ad.block
/-- A machine that is read, of blocks from B on; right or not. -/
structure Am (w : World) (B : Nat) (x : Mv) (d : Md) : Prop where
  rd : RdM w x d
  sm : d.small
  nz : x.nz
  r8 : d.r.length ≤ 8
  lm : LoS B x.m d.m
  lr : LoS B x.r d.r
  li : LoS B x.i d.i
  lo : LoS B x.o d.o
section
variable {w w' : World} {B : Nat} {x : Mv} {d : Md}
theorem RdN.pastB {a : Option Addr} {ns : List Int} {r : Option Nat} (h : RdN w a ns) (hg : w.grownBy w' r) (hl : ns = [] ∨ ∀ ad, a = some ad → B ≤ ad.block) (hr : ∀ b, r = some b → b < B) : RdN w' a ns := by
  rcases h with h0 | ⟨b, off, ha, hb, hc⟩
  · exact .inl h0
  · by_cases h0 : ns = []
    · exact .inl h0
    refine .inr ⟨b, off, ha, Nat.lt_of_lt_of_le hb hg.size, fun i hi => ?_⟩
    rcases hl with hl | hl
    · exact absurd hl h0
    have hB := hl _ ha
    have e : w'.heap[b]? = w.heap[b]? := hg.block b hb (fun e => by have := hr _ e.symm; simp only at hB; omega)
    rw [← hc i hi]
    unfold World.cell?
    simp only [e]
theorem Am.past {r : Option Nat} (h : Am w B x d) (hg : w.grownBy w' r) (hr : ∀ b, r = some b → b < B) : Am w' B x d :=
  { h with rd := ⟨h.rd.m.pastB hg h.lm hr, h.rd.r.pastB hg h.lr hr, h.rd.i.pastB hg h.li hr, h.rd.o.pastB hg h.lo hr, h.rd.ml, h.rd.rl, h.rd.il, h.rd.ol⟩ }
theorem Am.later (h : Am w B x d) (hb : Below w.heap.size w w') : Am w' B x d := { h with rd := h.rd.later hb }
theorem Am.row (h : Am w B x d) {g : Nat} (hg : g < B) (cs : Array Value) : Am (w.setRow g cs) B x d := h.past (grownBy_setRow cs) (fun b e => by cases e; exact hg)
theorem Am.base {C : Nat} (h : Am w B x d) (hC : C ≤ B) : Am w C x d :=
  { h with lm := h.lm.imp id (fun k ad e => Nat.le_trans hC (k ad e)), lr := h.lr.imp id (fun k ad e => Nat.le_trans hC (k ad e)), li := h.li.imp id (fun k ad e => Nat.le_trans hC (k ad e)), lo := h.lo.imp id (fun k ad e => Nat.le_trans hC (k ad e)) }
theorem OwnN.los {s : Sl} {ns : List Int} (h : OwnN w B s.v ns) : LoS B s ns := by
  obtain ⟨h1, ⟨h2, h3⟩ | ⟨gm, cap, cur, e, hB, hh, hn, hm, hs, ht⟩⟩ := id h
  · exact .inl (List.eq_nil_of_length_eq_zero h3)
  · refine .inr fun ad ea => ?_
    have e2 : s.v = Value.slice s.a s.n s.c := rfl
    rw [e2, ea] at e
    injection e with e
    injection e with e
    rw [e]
    exact hB
theorem OwnM.am (h : OwnM w B x d) (hs : d.small) (h8 : d.r.length ≤ 8) : Am w B x d := ⟨h.rd, hs, h.nz, h8, h.m.los, h.r.los, h.i.los, h.o.los⟩
end


theorem Am.ofM {w : World} {B : Nat} {y : Mv} {d : Md} (O : OwnM w B y d) (hD : Dk d) {s : Sl} {ns : List Int} (hr : RdN w s.a ns) (hl : ns.length = s.n) (hb : ns.length ≤ 1048576) (hz : s.nz) (lo : LoS B s ns) : Am w B { y with m := s } ⟨ns, d.r, d.i, d.o⟩ :=
  ⟨⟨hr, O.rd.r, O.rd.i, O.rd.o, hl, O.rd.rl, O.rd.il, O.rd.ol⟩, ⟨hb, hD.small.2⟩, ⟨hz, O.nz.2⟩, by have := hD.rl; show d.r.length ≤ 8; omega, lo, O.r.los, O.i.los, O.o.los⟩
theorem Am.ofR {w : World} {B : Nat} {y : Mv} {d : Md} (O : OwnM w B y d) (hD : Dk d) {s : Sl} {ns : List Int} (hr : RdN w s.a ns) (hl : ns.length = s.n) (hb : ns.length ≤ 8) (hz : s.nz) (lo : LoS B s ns) : Am w B { y with r := s } ⟨d.m, ns, d.i, d.o⟩ :=
  ⟨⟨O.rd.m, hr, O.rd.i, O.rd.o, O.rd.ml, hl, O.rd.il, O.rd.ol⟩, ⟨hD.small.1, by show ns.length ≤ _; omega, hD.small.2.2⟩, ⟨O.nz.1, hz, O.nz.2.2⟩, hb, O.m.los, lo, O.i.los, O.o.los⟩
theorem Am.ofI {w : World} {B : Nat} {y : Mv} {d : Md} (O : OwnM w B y d) (hD : Dk d) {s : Sl} {ns : List Int} (hr : RdN w s.a ns) (hl : ns.length = s.n) (hb : ns.length ≤ 1048576) (hz : s.nz) (lo : LoS B s ns) : Am w B { y with i := s } ⟨d.m, d.r, ns, d.o⟩ :=
  ⟨⟨O.rd.m, O.rd.r, hr, O.rd.o, O.rd.ml, O.rd.rl, hl, O.rd.ol⟩, ⟨hD.small.1, hD.small.2.1, hb, hD.small.2.2.2⟩, ⟨O.nz.1, O.nz.2.1, hz, O.nz.2.2.2⟩, by have := hD.rl; show d.r.length ≤ 8; omega, O.m.los, O.r.los, lo, O.o.los⟩
theorem Am.ofO {w : World} {B : Nat} {y : Mv} {d : Md} (O : OwnM w B y d) (hD : Dk d) {s : Sl} {ns : List Int} (hr : RdN w s.a ns) (hl : ns.length = s.n) (hb : ns.length ≤ 1048576) (hz : s.nz) (lo : LoS B s ns) : Am w B { y with o := s } ⟨d.m, d.r, d.i, ns⟩ :=
  ⟨⟨O.rd.m, O.rd.r, O.rd.i, hr, O.rd.ml, O.rd.rl, O.rd.il, hl⟩, ⟨hD.small.1, hD.small.2.1, hD.small.2.2.1, hb⟩, ⟨O.nz.1, O.nz.2.1, O.nz.2.2.1, hz⟩, by have := hD.rl; show d.r.length ≤ 8; omega, O.m.los, O.r.los, O.i.los, lo⟩
/-- What stands ahead of the answer. -/
structure Fa (w wr : World) (cb : Nat) (a : Option Addr) (len cap : Nat) (xs : List UInt8) (y : Mv) (g5 : Nat) (d : Md) : Prop where
  er : Er w wr cb a len cap xs zMv.cs 28
  r5 : wr.heap[g5]? = some (.cells y.cs 28 (0, 0))
  am : Am wr (w.heap.size + 1) y d
section
variable {w wr w' : World} {cb : Nat} {a : Option Addr} {len cap : Nat} {xs : List UInt8} {y : Mv} {g5 : Nat} {d : Md}
theorem Ed.er (h : Ed w wr cb a len cap xs y g5 d) : Er w wr cb a len cap xs zMv.cs 28 := ⟨h.cur, h.gr, h.re, h.lt, h.cd⟩
theorem Ed.fa (h : Ed w wr cb a len cap xs y g5 d) (hs : d.small) (h8 : d.r.length ≤ 8) : Fa w wr cb a len cap xs y g5 d := ⟨h.er, h.r5, h.own.am hs h8⟩
/-- A list of the machine laid anew. -/
theorem Ed.own5 (h : Ed w wr cb a len cap xs y g5 d) (j : Nat) (v : Value) : OwnM (wr.setCell ⟨g5, j, none⟩ v) (w.heap.size + 1) y d := h.own.keepH fun b hb _ => Below.heap_setCell wr ⟨g5, j, none⟩ v b (h.ne b hb)
theorem Ed.put5 (h : Ed w wr cb a len cap xs y g5 d) (j : Nat) (v : Value) (y' : Mv) (d' : Md) (he : y.cs.setIfInBounds j v = y'.cs) (ha : Am (wr.setCell ⟨g5, j, none⟩ v) (w.heap.size + 1) y' d') : Fa w (wr.setCell ⟨g5, j, none⟩ v) cb a len cap xs y' g5 d' :=
  ⟨⟨h.cur.past (grownBy_set v) h.lt h.cd (fun g e => by cases e; have := h.l5; omega), grownBy_own h.gr (grownBy_set v) (fun g e => by cases e; have := h.l5; omega), row_keep h.re (by have := h.l5; omega), h.lt, h.cd⟩, row_put h.r5 j v y' he, ha⟩
theorem Fa.done (h : Fa w wr cb a len cap xs y g5 d) : (wr.setRow w.heap.size y.cs).heap[w.heap.size]? = some (.cells y.cs 28 (0, 0)) ∧ Am (wr.setRow w.heap.size y.cs) (w.heap.size + 1) y d ∧ Cur (wr.setRow w.heap.size y.cs) cb a len cap xs ∧ w.grownBy (wr.setRow w.heap.size y.cs) (some cb) :=
  ⟨(h.er.store y.cs).re, h.am.row (by omega) _, (h.er.store y.cs).cur, (h.er.store y.cs).gr⟩
theorem Ed.rdx (h : Ed w wr cb a len cap xs y g5 d) {s : Sl} {ns : List Int} {j : Nat} {v : Value} (hr : RdN wr s.a ns) (lo : LoS (w.heap.size + 1) s ns) (hn : ∀ ad, s.a = some ad → ad.block ≠ g5) : RdN (wr.setCell ⟨g5, j, none⟩ v) s.a ns := hr.put (.inr hn)
end
theorem rdN_take {w : World} {a : Option Addr} {ns : List Int} (h : RdN w a ns) (k : Nat) : RdN w a (ns.take k) := by
  rcases h with h0 | ⟨b, off, ha, hb, hc⟩
  · exact .inl (by rw [h0]; simp)
  · refine .inr ⟨b, off, ha, hb, fun i hi => ?_⟩
    have hi' : i < k ∧ i < ns.length := by simp at hi; omega
    rw [hc i hi'.2]
    congr 2
    unfold nAt
    rw [List.getD_eq_getElem?_getD, List.getD_eq_getElem?_getD, List.getElem?_take, if_pos hi'.1]
theorem cuts_bd : ∀ i : Fin 3, 0 ≤ nAt [0, 100, 255] i.val ∧ nAt [0, 100, 255] i.val ≤ 255 := by decide +kernel
theorem row_cell5 {w : World} {g gm n c k : Nat} {y : Mv} (h : w.heap[g]? = some (.cells y.cs 28 (0, 0))) (e : y.m = ⟨some ⟨gm, 0, none⟩, n, c⟩) (hn : n = k) : w.cell? ⟨g, 0, none⟩ = some (.slice (some ⟨gm, 0, none⟩) k c) := by
  have := row_m h
  rw [e, hn] at this
  exact this
theorem row_cell6 {w : World} {g gm n c k : Nat} {y : Mv} (h : w.heap[g]? = some (.cells y.cs 28 (0, 0))) (e : y.r = ⟨some ⟨gm, 0, none⟩, n, c⟩) (hn : n = k) : w.cell? ⟨g, 1, none⟩ = some (.slice (some ⟨gm, 0, none⟩) k c) := by
  have := row_r h
  rw [e, hn] at this
  exact this
theorem own_form2 {w : World} {B : Nat} {s : Sl} {ns : List Int} (h : OwnN w B s.v ns) (h0 : 0 < ns.length) : ∃ g c, s = ⟨some ⟨g, 0, none⟩, ns.length, c⟩ ∧ ns.length ≤ c := by
  obtain ⟨sa, sn, sc⟩ := s
  rcases h.form with ⟨_, e⟩ | ⟨g, c, e, _, _, hc, _⟩
  · rw [e] at h0; simp at h0
  · unfold Sl.v at e
    simp at e
    obtain ⟨rfl, rfl, rfl⟩ := e
    exact ⟨g, sc, rfl, hc⟩

theorem los_take {B g n c k c2 m : Nat} {ns : List Int} (h : LoS B ⟨some ⟨g, 0, none⟩, n, c⟩ ns) : LoS B ⟨some ⟨g, 0, none⟩, k, c2⟩ (ns.take m) := by
  rcases h with h | h
  · exact .inl (by rw [h]; simp)
  · exact .inr h

set_option maxHeartbeats 4000000 in
theorem any5_any (cb : Nat) (a : Option Addr) (len cap : Nat) (xs : List UInt8) (w : World) (hc : Cur w cb a len cap xs) :
    Calls Try.prog 61 #[.pointer (some ⟨cb, 0, none⟩)] w fun e w' => ∃ (x : Mv) (d : Md), e = .returned (.agg x.cs) ∧ Am w' (w.heap.size + 1) x d ∧ Cur w' cb a len cap xs ∧ w.grownBy w' (some cb) := by
  have E0 := hide (er_new hc zMv.cs 28)
  have I0 := hide (draw5_any cb a len cap xs _ (unhide E0).cur)
  have hlt := hc.lt
  have CD := hide hc.code
  clear hc
  go_enter Try.func61, Try.ntmps61
  go_wp2_with fail
  refine (unhide I0).mono ?_
  rintro e w1 ⟨y, d, rfl, hst, hD, oy, hc1, hg1⟩
  have E1 := hide ((unhide E0).draw hc1 hg1)
  have s1 : w.heap.size < w1.heap.size := row_lt (unhide E1).re
  have O1 := hide (oy.base (C := w.heap.size + 1) (by simp))
  have DD := hide hD
  have D1 := hide (show Ed w (w1.alloc (.cells y.cs 28)) cb a len cap xs y w1.heap.size d from ⟨(unhide E1).cur.later (below_new w1 _), grown_below (unhide E1).gr (below_new w1 _), row_lat (unhide E1).re (below_new w1 _), heap_alloc_last w1 _, (unhide O1).later (below_new w1 _), s1, fun b hb => by have := ((unhide O1).lo hb).2; omega, hlt, unhide CD⟩)
  have I1 := hide (below_any cb a len cap xs 16 _ (by omega) (unhide D1).cur)
  clear hc1 hg1 I0 E0 E1 O1 oy hst hD
  go_wp2_with (refine wpList_store_new rfl 28 _ _ rfl y.cs rfl rfl _ (by kernel_rfl) rfl (Mv.cs_one _) ?_)
  refine (unhide I1).mono ?_
  rintro e w2 ⟨v, hv0, hv1, rfl, hc2, hg2⟩
  have D2 := hide ((unhide D1).draw hc2 hg2)
  clear hc2 hg2 I1 D1
  obtain ⟨gm, cm, em, lm⟩ := own_form2 (unhide D2).own.m (by have := (unhide DD).ml; omega)
  obtain ⟨gr, cr, er, lr⟩ := own_form2 (unhide D2).own.r (by have := (unhide DD).rl; omega)
  have EM := hide em
  have ERR := hide er
  have LM := hide lm
  have LR := hide lr
  clear em er lm lr
  by_cases q0 : v = 0
  · subst q0
    clear hv0 hv1
    have D3 := hide ((unhide D2).later below_drew)
    go_wp2_with fail
    refine wp_region_any (by kernel_rfl) ?_
    change wpAny _ _ _ _ _ _ _ (World.drew _)
    clear D2
    generalize w2.drew = wd at D3 ⊢
    have I3 := hide (int_lit cb a len cap xs wd (unhide D3).cur [0, 100, 255] 3 rfl (by omega) (by omega) wd.heap.size rfl _ rfl)
    have D4 := hide ((unhide D3).later (below_new wd (.cells #[.int .i64 0, .int .i64 100, .int .i64 255] 3)))
    refine wpAny_take (i := 0) (v := .pointer (some ⟨w1.heap.size, 0, none⟩)) rfl (by kernel_rfl) (by kernel_rfl) (by kernel_rfl) (fun _ _ _ h => h) (Or.inl ⟨by rfl, fun w => ?_⟩) ?_
    · go_simp
    go_simp
    refine wpAny_take (i := 2) (v := .pointer (some ⟨cb, 0, none⟩)) rfl (by kernel_rfl) (by kernel_rfl) (by kernel_rfl) (fun _ _ _ h => h) (Or.inl ⟨by rfl, fun w => ?_⟩) ?_
    · go_simp
    go_simp
    refine wpAny_ready (rs := [1, 3]) (by kernel_rfl) (by simp) ?_
    refine AllReady.cons rfl (fun K2 hK => ?_) (AllReady.cons rfl (fun K2 hK => ?_) (AllReady.nil))
    · skip
      have o0 := row_cell5 (unhide D3).r5 (unhide EM) (unhide DD).ml
      go_simp
      clear o0
      refine hK _ _ ?_
      clear hK K2
      refine wpAny_ready (rs := [3]) (by kernel_rfl) (by simp) ?_
      refine AllReady.cons rfl (fun K2 hK => ?_) (AllReady.nil)
      go_simp
      refine hK _ _ ?_
      clear hK K2
      refine wpAny_ready (rs := [4]) (by kernel_rfl) (by simp) ?_
      refine AllReady.cons rfl (fun K2 hK => ?_) (AllReady.nil)
      go_simp
      refine (unhide I3).mono ?_
      rintro e w4 ⟨j, hj, rfl, hc3, hg3⟩
      have hjb := cuts_bd ⟨j, hj⟩
      simp only at hjb
      generalize nAt [0, 100, 255] j = kk at hjb ⊢
      obtain ⟨k0, k1⟩ := hjb
      obtain ⟨k, rfl⟩ := Int.eq_ofNat_of_zero_le k0
      have D5 := hide ((unhide D4).draw hc3 hg3)
      refine hK _ _ ?_
      clear hK K2 hc3 hg3 I3 hj
      have hkc : (k : Int) ≤ (cm : Int) := by have := (unhide DD).ml; have := unhide LM; omega
      have hkc2 : k ≤ cm := by omega
      refine wpAny_take (i := 5) (v := .slice (some ⟨gm, 0, none⟩) k cm) rfl (by kernel_rfl) (by kernel_rfl) (by kernel_rfl) (fun _ _ _ h => h) (Or.inl ⟨by rfl, fun w => ?_⟩) ?_
      · go_simp
      go_simp
      refine wpAny_take (i := 6) (v := .pointer (some ⟨w1.heap.size, 0, none⟩)) rfl (by kernel_rfl) (by kernel_rfl) (by kernel_rfl) (fun _ _ _ h => h) (Or.inl ⟨by rfl, fun w => ?_⟩) ?_
      · go_simp
      go_simp
      refine wpAny_ready (rs := [7]) (by kernel_rfl) (by simp) ?_
      refine AllReady.cons rfl (fun K2 hK => ?_) (AllReady.nil)
      have o0 := row_m (unhide D5).r5
      have f0 := row_fz (unhide D5).r5 0
      go_simp
      clear o0 f0
      refine hK _ _ ?_
      clear hK K2
      have FF := hide ((unhide D5).put5 0 (.slice (some ⟨gm, 0, none⟩) k cm) ({ y with m := ⟨some ⟨gm, 0, none⟩, k, cm⟩ } : Mv) ⟨d.m.take k, d.r, d.i, d.o⟩ rfl (Am.ofM ((unhide D5).own5 0 _) (unhide DD) (s := ⟨some ⟨gm, 0, none⟩, k, cm⟩) (by have h := ((unhide D5).own5 0 (.slice (some ⟨gm, 0, none⟩) k cm)).rd.m; rw [unhide EM] at h; exact rdN_take h k) (by have := (unhide DD).ml; simp; omega) (by have := (unhide DD).ml; simp; omega) (fun h => by cases h) (los_take (by have h := (unhide D5).own.m.los; rw [unhide EM] at h; exact h))))
      refine wpAny_done (by kernel_rfl) ?_ _
      go_wp2_with (first | (refine wpList_load_row rfl 28 _ rfl w1.heap.size rfl 28 (Mv.cs ({ y with m := ⟨some ⟨gm, 0, none⟩, k, cm⟩ } : Mv)) (0, 0) _ (unhide FF).r5 Try.underlying28 rfl (by kernel_rfl) ?_) | (refine wpList_store_row rfl 28 _ _ rfl w.heap.size (Mv.cs ({ y with m := ⟨some ⟨gm, 0, none⟩, k, cm⟩ } : Mv)) rfl rfl 28 zMv.cs (unhide FF).er.re (by kernel_rfl) rfl (Mv.cs_one _) ?_))
      obtain ⟨r1, r2, r3, r4⟩ := (unhide FF).done
      refine bodyPost_ret (results_cell_row (P := Try.prog) rfl _ _ w.heap.size 28 (Mv.cs ({ y with m := ⟨some ⟨gm, 0, none⟩, k, cm⟩ } : Mv)) (0, 0) _ rfl r1 Try.underlying28 rfl (by kernel_rfl)) rfl ?_
      exact ⟨_, _, rfl, r2, r3, r4⟩
    · skip
      go_simp
      refine hK _ _ ?_
      clear hK K2
      refine wpAny_ready (rs := [1, 4]) (by kernel_rfl) (by simp) ?_
      refine AllReady.cons rfl (fun K2 hK => ?_) (AllReady.cons rfl (fun K2 hK => ?_) (AllReady.nil))
      · skip
        have o0 := row_cell5 (unhide D4).r5 (unhide EM) (unhide DD).ml
        go_simp
        clear o0
        refine hK _ _ ?_
        clear hK K2
        refine wpAny_ready (rs := [4]) (by kernel_rfl) (by simp) ?_
        refine AllReady.cons rfl (fun K2 hK => ?_) (AllReady.nil)
        go_simp
        refine (unhide I3).mono ?_
        rintro e w4 ⟨j, hj, rfl, hc3, hg3⟩
        have hjb := cuts_bd ⟨j, hj⟩
        simp only at hjb
        generalize nAt [0, 100, 255] j = kk at hjb ⊢
        obtain ⟨k0, k1⟩ := hjb
        obtain ⟨k, rfl⟩ := Int.eq_ofNat_of_zero_le k0
        have D5 := hide ((unhide D4).draw hc3 hg3)
        refine hK _ _ ?_
        clear hK K2 hc3 hg3 I3 hj
        have hkc : (k : Int) ≤ (cm : Int) := by have := (unhide DD).ml; have := unhide LM; omega
        have hkc2 : k ≤ cm := by omega
        refine wpAny_take (i := 5) (v := .slice (some ⟨gm, 0, none⟩) k cm) rfl (by kernel_rfl) (by kernel_rfl) (by kernel_rfl) (fun _ _ _ h => h) (Or.inl ⟨by rfl, fun w => ?_⟩) ?_
        · go_simp
        go_simp
        refine wpAny_take (i := 6) (v := .pointer (some ⟨w1.heap.size, 0, none⟩)) rfl (by kernel_rfl) (by kernel_rfl) (by kernel_rfl) (fun _ _ _ h => h) (Or.inl ⟨by rfl, fun w => ?_⟩) ?_
        · go_simp
        go_simp
        refine wpAny_ready (rs := [7]) (by kernel_rfl) (by simp) ?_
        refine AllReady.cons rfl (fun K2 hK => ?_) (AllReady.nil)
        have o0 := row_m (unhide D5).r5
        have f0 := row_fz (unhide D5).r5 0
        go_simp
        clear o0 f0
        refine hK _ _ ?_
        clear hK K2
        have FF := hide ((unhide D5).put5 0 (.slice (some ⟨gm, 0, none⟩) k cm) ({ y with m := ⟨some ⟨gm, 0, none⟩, k, cm⟩ } : Mv) ⟨d.m.take k, d.r, d.i, d.o⟩ rfl (Am.ofM ((unhide D5).own5 0 _) (unhide DD) (s := ⟨some ⟨gm, 0, none⟩, k, cm⟩) (by have h := ((unhide D5).own5 0 (.slice (some ⟨gm, 0, none⟩) k cm)).rd.m; rw [unhide EM] at h; exact rdN_take h k) (by have := (unhide DD).ml; simp; omega) (by have := (unhide DD).ml; simp; omega) (fun h => by cases h) (los_take (by have h := (unhide D5).own.m.los; rw [unhide EM] at h; exact h))))
        refine wpAny_done (by kernel_rfl) ?_ _
        go_wp2_with (first | (refine wpList_load_row rfl 28 _ rfl w1.heap.size rfl 28 (Mv.cs ({ y with m := ⟨some ⟨gm, 0, none⟩, k, cm⟩ } : Mv)) (0, 0) _ (unhide FF).r5 Try.underlying28 rfl (by kernel_rfl) ?_) | (refine wpList_store_row rfl 28 _ _ rfl w.heap.size (Mv.cs ({ y with m := ⟨some ⟨gm, 0, none⟩, k, cm⟩ } : Mv)) rfl rfl 28 zMv.cs (unhide FF).er.re (by kernel_rfl) rfl (Mv.cs_one _) ?_))
        obtain ⟨r1, r2, r3, r4⟩ := (unhide FF).done
        refine bodyPost_ret (results_cell_row (P := Try.prog) rfl _ _ w.heap.size 28 (Mv.cs ({ y with m := ⟨some ⟨gm, 0, none⟩, k, cm⟩ } : Mv)) (0, 0) _ rfl r1 Try.underlying28 rfl (by kernel_rfl)) rfl ?_
        exact ⟨_, _, rfl, r2, r3, r4⟩
      · skip
        go_simp
        refine (unhide I3).mono ?_
        rintro e w4 ⟨j, hj, rfl, hc3, hg3⟩
        have hjb := cuts_bd ⟨j, hj⟩
        simp only at hjb
        generalize nAt [0, 100, 255] j = kk at hjb ⊢
        obtain ⟨k0, k1⟩ := hjb
        obtain ⟨k, rfl⟩ := Int.eq_ofNat_of_zero_le k0
        have D5 := hide ((unhide D4).draw hc3 hg3)
        refine hK _ _ ?_
        clear hK K2 hc3 hg3 I3 hj
        have hkc : (k : Int) ≤ (cm : Int) := by have := (unhide DD).ml; have := unhide LM; omega
        have hkc2 : k ≤ cm := by omega
        refine wpAny_ready (rs := [1]) (by kernel_rfl) (by simp) ?_
        refine AllReady.cons rfl (fun K2 hK => ?_) (AllReady.nil)
        have o0 := row_cell5 (unhide D5).r5 (unhide EM) (unhide DD).ml
        go_simp
        clear o0
        refine hK _ _ ?_
        clear hK K2
        refine wpAny_take (i := 5) (v := .slice (some ⟨gm, 0, none⟩) k cm) rfl (by kernel_rfl) (by kernel_rfl) (by kernel_rfl) (fun _ _ _ h => h) (Or.inl ⟨by rfl, fun w => ?_⟩) ?_
        · go_simp
        go_simp
        refine wpAny_take (i := 6) (v := .pointer (some ⟨w1.heap.size, 0, none⟩)) rfl (by kernel_rfl) (by kernel_rfl) (by kernel_rfl) (fun _ _ _ h => h) (Or.inl ⟨by rfl, fun w => ?_⟩) ?_
        · go_simp
        go_simp
        refine wpAny_ready (rs := [7]) (by kernel_rfl) (by simp) ?_
        refine AllReady.cons rfl (fun K2 hK => ?_) (AllReady.nil)
        have o0 := row_m (unhide D5).r5
        have f0 := row_fz (unhide D5).r5 0
        go_simp
        clear o0 f0
        refine hK _ _ ?_
        clear hK K2
        have FF := hide ((unhide D5).put5 0 (.slice (some ⟨gm, 0, none⟩) k cm) ({ y with m := ⟨some ⟨gm, 0, none⟩, k, cm⟩ } : Mv) ⟨d.m.take k, d.r, d.i, d.o⟩ rfl (Am.ofM ((unhide D5).own5 0 _) (unhide DD) (s := ⟨some ⟨gm, 0, none⟩, k, cm⟩) (by have h := ((unhide D5).own5 0 (.slice (some ⟨gm, 0, none⟩) k cm)).rd.m; rw [unhide EM] at h; exact rdN_take h k) (by have := (unhide DD).ml; simp; omega) (by have := (unhide DD).ml; simp; omega) (fun h => by cases h) (los_take (by have h := (unhide D5).own.m.los; rw [unhide EM] at h; exact h))))
        refine wpAny_done (by kernel_rfl) ?_ _
        go_wp2_with (first | (refine wpList_load_row rfl 28 _ rfl w1.heap.size rfl 28 (Mv.cs ({ y with m := ⟨some ⟨gm, 0, none⟩, k, cm⟩ } : Mv)) (0, 0) _ (unhide FF).r5 Try.underlying28 rfl (by kernel_rfl) ?_) | (refine wpList_store_row rfl 28 _ _ rfl w.heap.size (Mv.cs ({ y with m := ⟨some ⟨gm, 0, none⟩, k, cm⟩ } : Mv)) rfl rfl 28 zMv.cs (unhide FF).er.re (by kernel_rfl) rfl (Mv.cs_one _) ?_))
        obtain ⟨r1, r2, r3, r4⟩ := (unhide FF).done
        refine bodyPost_ret (results_cell_row (P := Try.prog) rfl _ _ w.heap.size 28 (Mv.cs ({ y with m := ⟨some ⟨gm, 0, none⟩, k, cm⟩ } : Mv)) (0, 0) _ rfl r1 Try.underlying28 rfl (by kernel_rfl)) rfl ?_
        exact ⟨_, _, rfl, r2, r3, r4⟩
  by_cases q1 : v = 1
  · subst q1
    clear hv0 hv1
    have C0 := hide (row_cell6 (unhide D2).r5 (unhide ERR) (unhide DD).rl)
    have D3 := hide ((unhide D2).later below_drew)
    go_wp2_with fail
    refine wp_region_held_drew (S := fun v => v.cell? ⟨w1.heap.size, 1, none⟩ = some (.slice (some ⟨gr, 0, none⟩) 8 cr)) (by kernel_rfl) (unhide C0) (fun hS => ?_)
    have HS := hide hS
    clear hS D2 C0
    generalize w2.drew = wd at D3 HS ⊢
    refine wpAnyH_take (i := 0) (v := .pointer (some ⟨w1.heap.size, 1, none⟩)) rfl (by kernel_rfl) (by kernel_rfl) (by kernel_rfl) (fun _ _ _ h => h) (Or.inl ⟨by rfl, fun w hc => ?_⟩) (unhide HS) ?_
    · clear hc; go_simp
    go_simp
    refine wpAnyH_take (i := 1) (v := .slice (some ⟨gr, 0, none⟩) 8 cr) rfl (by kernel_rfl) (by kernel_rfl) (by kernel_rfl) (fun _ _ _ h => h) (Or.inl ⟨by rfl, fun w hc => ?_⟩) (unhide HS) ?_
    · go_simp
    go_simp
    refine wpAnyH_take (i := 2) (v := .pointer (some ⟨cb, 0, none⟩)) rfl (by kernel_rfl) (by kernel_rfl) (by kernel_rfl) (fun _ _ _ h => h) (Or.inl ⟨by rfl, fun w hc => ?_⟩) (unhide HS) ?_
    · clear hc; go_simp
    go_simp
    refine wpAnyH_take (i := 4) (v := .pointer (some ⟨cb, 0, none⟩)) rfl (by kernel_rfl) (by kernel_rfl) (by kernel_rfl) (fun _ _ _ h => h) (Or.inl ⟨by rfl, fun w hc => ?_⟩) (unhide HS) ?_
    · clear hc; go_simp
    go_simp
    refine wpAnyH_ready (rs := [3, 5]) (by kernel_rfl) (by simp) ?_
    refine AllReadyH.cons rfl (fun K2 hK => ?_) (AllReadyH.cons rfl (fun K2 hK => ?_) AllReadyH.nil)
    · skip
      have B3 := hide (below_any cb a len cap xs 8 wd (by omega) (unhide D3).cur)
      go_simp
      refine (unhide B3).mono ?_
      rintro e w4 ⟨z, hz0, hz1, rfl, hc3, hg3⟩
      obtain ⟨z0, z1⟩ := hz0 (by omega)
      obtain ⟨zn, rfl⟩ := Int.eq_ofNat_of_zero_le z0
      have D4 := hide ((unhide D3).draw hc3 hg3)
      refine hK.out _ _ (row_cell6 (unhide D4).r5 (unhide ERR) (unhide DD).rl) (fun hS => ?_)
      clear HS
      have HS := hide hS
      clear hS hK K2 D3 hc3 hg3 B3 hz0 hz1
      have I6 := hide (int_lit cb a len cap xs w4 (unhide D4).cur [-1, 65536, 65535] 3 rfl (by omega) (by omega) w4.heap.size rfl _ rfl)
      have D5 := hide ((unhide D4).later (below_new w4 (.cells #[.int .i64 (-1), .int .i64 65536, .int .i64 65535] 3)))
      refine wpAnyH_ready (rs := [5]) (by kernel_rfl) (by simp) ?_
      refine AllReadyH.cons rfl (fun K2 hK => ?_) AllReadyH.nil
      go_simp
      refine hK.out _ _ (row_cell6 (unhide D5).r5 (unhide ERR) (unhide DD).rl) (fun hS => ?_)
      clear HS
      have HS := hide hS
      clear hS hK K2 D4
      refine wpAnyH_ready (rs := [6]) (by kernel_rfl) (by simp) ?_
      refine AllReadyH.cons rfl (fun K2 hK => ?_) AllReadyH.nil
      go_simp
      refine (unhide I6).mono ?_
      rintro e w6 ⟨j, hj, rfl, hc3, hg3⟩
      generalize nAt [-1, 65536, 65535] j = x
      have D6 := hide ((unhide D5).draw hc3 hg3)
      refine hK.out _ _ (row_cell6 (unhide D6).r5 (unhide ERR) (unhide DD).rl) (fun hS => ?_)
      clear HS
      have HS := hide hS
      clear hS hK K2 D5 hc3 hg3 I6 hj
      have hzi : (zn : Int) < 8 := by omega
      have hzn : zn < 8 := by omega
      refine wpAnyH_take (i := 7) (v := .pointer (some ⟨gr, zn, none⟩)) rfl (by kernel_rfl) (by kernel_rfl) (by kernel_rfl) (fun _ _ _ h => h) (Or.inl ⟨by rfl, fun w hc => ?_⟩) (unhide HS) ?_
      · clear hc; go_simp
      go_simp
      obtain ⟨c1, c2⟩ := (unhide D6).cellR (unhide ERR) zn (by have := (unhide DD).rl; omega)
      have D7 := hide ((unhide D6).setR (unhide ERR) zn x (by have := (unhide DD).rl; omega))
      refine wpAnyH_ready (rs := [8]) (by kernel_rfl) (by simp) ?_
      refine AllReadyH.cons rfl (fun K2 hK => ?_) AllReadyH.nil
      go_simp
      clear c1 c2
      refine hK.out _ _ (row_cell6 (unhide D7).r5 (unhide ERR) (unhide DD).rl) (fun hS => ?_)
      clear HS
      have HS := hide hS
      clear hS hK K2 D6
      refine wpAnyH_done (by kernel_rfl) ?_ _
      clear HS
      have FF := hide ((unhide D7).fa ⟨(unhide DD).small.1, by have := (unhide DD).rl; simp; omega, (unhide DD).small.2.2⟩ (by have := (unhide DD).rl; simp; omega))
      go_wp2_with (first | (refine wpList_load_row rfl 28 _ rfl w1.heap.size rfl 28 (Mv.cs y) (0, 0) _ (unhide FF).r5 Try.underlying28 rfl (by kernel_rfl) ?_) | (refine wpList_store_row rfl 28 _ _ rfl w.heap.size (Mv.cs y) rfl rfl 28 zMv.cs (unhide FF).er.re (by kernel_rfl) rfl (Mv.cs_one _) ?_))
      obtain ⟨r1, r2, r3, r4⟩ := (unhide FF).done
      refine bodyPost_ret (results_cell_row (P := Try.prog) rfl _ _ w.heap.size 28 (Mv.cs y) (0, 0) _ rfl r1 Try.underlying28 rfl (by kernel_rfl)) rfl ?_
      exact ⟨_, _, rfl, r2, r3, r4⟩
    · skip
      have D4 := hide ((unhide D3).later (below_new wd (.cells #[.int .i64 (-1), .int .i64 65536, .int .i64 65535] 3)))
      have RL := hide (RdN_lit wd [-1, 65536, 65535])
      have NE := hide (show wd.heap.size ≠ cb by have := (unhide D3).cur.lt; omega)
      go_simp
      refine hK.out _ _ (row_cell6 (unhide D4).r5 (unhide ERR) (unhide DD).rl) (fun hS => ?_)
      clear HS
      have HS := hide hS
      clear hS hK K2 D3
      refine wpAnyH_ready (rs := [3]) (by kernel_rfl) (by simp) ?_
      refine AllReadyH.cons rfl (fun K2 hK => ?_) AllReadyH.nil
      have B3 := hide (below_any cb a len cap xs 8 _ (by omega) (unhide D4).cur)
      go_simp
      refine (unhide B3).mono ?_
      rintro e w5 ⟨z, hz0, hz1, rfl, hc3, hg3⟩
      obtain ⟨z0, z1⟩ := hz0 (by omega)
      obtain ⟨zn, rfl⟩ := Int.eq_ofNat_of_zero_le z0
      have D5 := hide ((unhide D4).draw hc3 hg3)
      have RM := hide ((unhide RL).past hg3 (fun ad e => by cases e; exact unhide NE))
      refine hK.out _ _ (row_cell6 (unhide D5).r5 (unhide ERR) (unhide DD).rl) (fun hS => ?_)
      clear HS
      have HS := hide hS
      clear hS hK K2 D4 hc3 hg3 B3 hz0 hz1
      have I6 := hide (int_any cb a len cap xs (some ⟨wd.heap.size, 0, none⟩) 3 3 [-1, 65536, 65535] w5 (unhide D5).cur (unhide RM) (fun ad e => by cases e; exact unhide NE) rfl (by omega) (by omega))
      refine wpAnyH_ready (rs := [6]) (by kernel_rfl) (by simp) ?_
      refine AllReadyH.cons rfl (fun K2 hK => ?_) AllReadyH.nil
      go_simp
      refine (unhide I6).mono ?_
      rintro e w6 ⟨j, hj, rfl, hc3, hg3⟩
      generalize nAt [-1, 65536, 65535] j = x
      have D6 := hide ((unhide D5).draw hc3 hg3)
      refine hK.out _ _ (row_cell6 (unhide D6).r5 (unhide ERR) (unhide DD).rl) (fun hS => ?_)
      clear HS
      have HS := hide hS
      clear hS hK K2 D5 hc3 hg3 I6 hj
      have hzi : (zn : Int) < 8 := by omega
      have hzn : zn < 8 := by omega
      refine wpAnyH_take (i := 7) (v := .pointer (some ⟨gr, zn, none⟩)) rfl (by kernel_rfl) (by kernel_rfl) (by kernel_rfl) (fun _ _ _ h => h) (Or.inl ⟨by rfl, fun w hc => ?_⟩) (unhide HS) ?_
      · clear hc; go_simp
      go_simp
      obtain ⟨c1, c2⟩ := (unhide D6).cellR (unhide ERR) zn (by have := (unhide DD).rl; omega)
      have D7 := hide ((unhide D6).setR (unhide ERR) zn x (by have := (unhide DD).rl; omega))
      refine wpAnyH_ready (rs := [8]) (by kernel_rfl) (by simp) ?_
      refine AllReadyH.cons rfl (fun K2 hK => ?_) AllReadyH.nil
      go_simp
      clear c1 c2
      refine hK.out _ _ (row_cell6 (unhide D7).r5 (unhide ERR) (unhide DD).rl) (fun hS => ?_)
      clear HS
      have HS := hide hS
      clear hS hK K2 D6
      refine wpAnyH_done (by kernel_rfl) ?_ _
      clear HS
      have FF := hide ((unhide D7).fa ⟨(unhide DD).small.1, by have := (unhide DD).rl; simp; omega, (unhide DD).small.2.2⟩ (by have := (unhide DD).rl; simp; omega))
      go_wp2_with (first | (refine wpList_load_row rfl 28 _ rfl w1.heap.size rfl 28 (Mv.cs y) (0, 0) _ (unhide FF).r5 Try.underlying28 rfl (by kernel_rfl) ?_) | (refine wpList_store_row rfl 28 _ _ rfl w.heap.size (Mv.cs y) rfl rfl 28 zMv.cs (unhide FF).er.re (by kernel_rfl) rfl (Mv.cs_one _) ?_))
      obtain ⟨r1, r2, r3, r4⟩ := (unhide FF).done
      refine bodyPost_ret (results_cell_row (P := Try.prog) rfl _ _ w.heap.size 28 (Mv.cs y) (0, 0) _ rfl r1 Try.underlying28 rfl (by kernel_rfl)) rfl ?_
      exact ⟨_, _, rfl, r2, r3, r4⟩
  by_cases q2 : v = 2
  · subst q2
    clear hv0 hv1
    have o1 := row_cell6 (unhide D2).r5 (unhide ERR) (unhide DD).rl
    have f1 := row_fz (unhide D2).r5 1
    have h7 : (7 : Int) ≤ (cr : Int) := by have := (unhide DD).rl; have := unhide LR; omega
    have h7n : 7 ≤ cr := by omega
    have FF := hide ((unhide D2).put5 1 (.slice (some ⟨gr, 0, none⟩) 7 cr) ({ y with r := ⟨some ⟨gr, 0, none⟩, 7, cr⟩ } : Mv) ⟨d.m, d.r.take 7, d.i, d.o⟩ rfl (Am.ofR ((unhide D2).own5 1 _) (unhide DD) (s := ⟨some ⟨gr, 0, none⟩, 7, cr⟩) (by have h := ((unhide D2).own5 1 (.slice (some ⟨gr, 0, none⟩) 7 cr)).rd.r; rw [unhide ERR] at h; exact rdN_take h 7) (by have := (unhide DD).rl; simp; omega) (by have := (unhide DD).rl; simp; omega) (fun h => by cases h) (los_take (by have h := (unhide D2).own.r.los; rw [unhide ERR] at h; exact h))))
    go_wp2_with (first | (refine wpList_load_row rfl 28 _ rfl w1.heap.size rfl 28 (Mv.cs ({ y with r := ⟨some ⟨gr, 0, none⟩, 7, cr⟩ } : Mv)) (0, 0) _ (unhide FF).r5 Try.underlying28 rfl (by kernel_rfl) ?_) | (refine wpList_store_row rfl 28 _ _ rfl w.heap.size (Mv.cs ({ y with r := ⟨some ⟨gr, 0, none⟩, 7, cr⟩ } : Mv)) rfl rfl 28 zMv.cs (unhide FF).er.re (by kernel_rfl) rfl (Mv.cs_one _) ?_))
    obtain ⟨r1, r2, r3, r4⟩ := (unhide FF).done
    refine bodyPost_ret (results_cell_row (P := Try.prog) rfl _ _ w.heap.size 28 (Mv.cs ({ y with r := ⟨some ⟨gr, 0, none⟩, 7, cr⟩ } : Mv)) (0, 0) _ rfl r1 Try.underlying28 rfl (by kernel_rfl)) rfl ?_
    exact ⟨_, _, rfl, r2, r3, r4⟩
  by_cases q3 : v = 3
  · subst q3
    clear hv0 hv1
    have I3 := hide (int_lit cb a len cap xs w2 (unhide D2).cur [-1, 1, 2, 3] 4 rfl (by omega) (by omega) w2.heap.size rfl _ rfl)
    go_wp2_with fail
    refine (unhide I3).mono ?_
    rintro e w4 ⟨j, hj, rfl, hc3, hg3⟩
    generalize nAt [-1, 1, 2, 3] j = x
    have D5 := hide (((unhide D2).later (below_new w2 _)).draw hc3 hg3)
    clear hc3 hg3 I3 hj D2
    have o8 := row_st (unhide D5).r5
    have f8 := row_fz (unhide D5).r5 8
    have FF := hide (((unhide D5).setF 8 (.int .i64 x) { y with st := x } rfl rfl rfl rfl rfl).fa (unhide DD).small (by have := (unhide DD).rl; omega))
    go_wp2_with (first | (refine wpList_load_row rfl 28 _ rfl w1.heap.size rfl 28 (Mv.cs { y with st := x }) (0, 0) _ (unhide FF).r5 Try.underlying28 rfl (by kernel_rfl) ?_) | (refine wpList_store_row rfl 28 _ _ rfl w.heap.size (Mv.cs { y with st := x }) rfl rfl 28 zMv.cs (unhide FF).er.re (by kernel_rfl) rfl (Mv.cs_one _) ?_))
    obtain ⟨r1, r2, r3, r4⟩ := (unhide FF).done
    refine bodyPost_ret (results_cell_row (P := Try.prog) rfl _ _ w.heap.size 28 (Mv.cs { y with st := x }) (0, 0) _ rfl r1 Try.underlying28 rfl (by kernel_rfl)) rfl ?_
    exact ⟨_, _, rfl, r2, r3, r4⟩
  by_cases q4 : v = 4
  · subst q4
    clear hv0 hv1
    have B3 := hide (below_any cb a len cap xs 2 w2 (by omega) (unhide D2).cur)
    go_wp2_with fail
    refine (unhide B3).mono ?_
    rintro e w4 ⟨z, hz0, hz1, rfl, hc3, hg3⟩
    obtain ⟨z0, z1⟩ := hz0 (by omega)
    obtain ⟨zn, rfl⟩ := Int.eq_ofNat_of_zero_le z0
    have D5 := hide (((unhide D2).draw hc3 hg3).later (below_new w4 (.cells (zA (50 + zn)) 3)))
    have NG := hide (row_lt ((unhide D2).draw hc3 hg3).r5)
    have s4 : w.heap.size < w4.heap.size := row_lt ((unhide D2).draw hc3 hg3).er.re
    clear hc3 hg3 B3 hz0 hz1 D2
    have hmk := run_make_row' (P := Try.prog) 24 3 (.int .i64 0) 8 Try.underlying24 info3 rfl .i64 .i64 (50 + zn) (by omega) (by omega)
    have hma : madeCells #[Value.int .i64 0] (50 + zn) = zA (50 + zn) := by
      obtain rfl | rfl : zn = 0 ∨ zn = 1 := by omega
      all_goals kernel_rfl
    rw [hma] at hmk
    rw [show ((50 + zn : Nat) : Int) = 50 + (zn : Int) by omega] at hmk
    have hw1 : IntKind.i64.wrap (50 + (zn : Int)) = 50 + (zn : Int) := by rw [IntKind.wrap_i64]; omega
    have OW := hide (own_made (B := w.heap.size + 1) (n := 50 + zn) (heap_alloc_last w4 (.cells (zA (50 + zn)) 3)) (by omega) (by omega))
    have o7 := row_o (unhide D5).r5
    have f7 := row_fz (unhide D5).r5 7
    have FF := hide ((unhide D5).put5 7 (.slice (some ⟨w4.heap.size, 0, none⟩) (50 + zn) (50 + zn)) { y with o := ⟨some ⟨w4.heap.size, 0, none⟩, 50 + zn, 50 + zn⟩ } ⟨d.m, d.r, d.i, List.replicate (50 + zn) 0⟩ rfl (Am.ofO ((unhide D5).own5 7 _) (unhide DD) (s := ⟨some ⟨w4.heap.size, 0, none⟩, 50 + zn, 50 + zn⟩) ((OwnN.rd1 (unhide OW)).put (.inr (fun ad e => by cases e; have := unhide NG; show w4.heap.size ≠ w1.heap.size; omega))) (by simp) (by simp; omega) (fun h => by cases h) (.inr (fun ad e => by cases e; show w.heap.size + 1 ≤ w4.heap.size; omega))))
    clear hma
    go_wp2_with (first | (refine wpList_load_row rfl 28 _ rfl w1.heap.size rfl 28 (Mv.cs { y with o := ⟨some ⟨w4.heap.size, 0, none⟩, 50 + zn, 50 + zn⟩ }) (0, 0) _ (unhide FF).r5 Try.underlying28 rfl (by kernel_rfl) ?_) | (refine wpList_store_row rfl 28 _ _ rfl w.heap.size (Mv.cs { y with o := ⟨some ⟨w4.heap.size, 0, none⟩, 50 + zn, 50 + zn⟩ }) rfl rfl 28 zMv.cs (unhide FF).er.re (by kernel_rfl) rfl (Mv.cs_one _) ?_))
    obtain ⟨r1, r2, r3, r4⟩ := (unhide FF).done
    refine bodyPost_ret (results_cell_row (P := Try.prog) rfl _ _ w.heap.size 28 (Mv.cs { y with o := ⟨some ⟨w4.heap.size, 0, none⟩, 50 + zn, 50 + zn⟩ }) (0, 0) _ rfl r1 Try.underlying28 rfl (by kernel_rfl)) rfl ?_
    exact ⟨_, _, rfl, r2, r3, r4⟩
  by_cases q5 : v = 5
  · subst q5
    clear hv0 hv1
    have D5 := hide ((unhide D2).later (below_new w2 (.cells #[.int .i64 (-1)] 3)))
    have NG := hide (row_lt (unhide D2).r5)
    have s4 : w.heap.size < w2.heap.size := row_lt (unhide D2).er.re
    have RL := hide (RdN_lit w2 [-1])
    have o6 := row_i (unhide D5).r5
    have f6 := row_fz (unhide D5).r5 6
    have FF := hide ((unhide D5).put5 6 (.slice (some ⟨w2.heap.size, 0, none⟩) 1 1) { y with i := ⟨some ⟨w2.heap.size, 0, none⟩, 1, 1⟩ } ⟨d.m, d.r, [-1], d.o⟩ rfl (Am.ofI ((unhide D5).own5 6 _) (unhide DD) (s := ⟨some ⟨w2.heap.size, 0, none⟩, 1, 1⟩) ((show RdN (w2.alloc (.cells #[.int .i64 (-1)] 3)) (some ⟨w2.heap.size, 0, none⟩) [-1] from unhide RL).put (.inr (fun ad e => by cases e; have := unhide NG; show w2.heap.size ≠ w1.heap.size; omega))) rfl (by simp) (fun h => by cases h) (.inr (fun ad e => by cases e; show w.heap.size + 1 ≤ w2.heap.size; omega))))
    go_wp2_with (first | (refine wpList_load_row rfl 28 _ rfl w1.heap.size rfl 28 (Mv.cs { y with i := ⟨some ⟨w2.heap.size, 0, none⟩, 1, 1⟩ }) (0, 0) _ (unhide FF).r5 Try.underlying28 rfl (by kernel_rfl) ?_) | (refine wpList_store_row rfl 28 _ _ rfl w.heap.size (Mv.cs { y with i := ⟨some ⟨w2.heap.size, 0, none⟩, 1, 1⟩ }) rfl rfl 28 zMv.cs (unhide FF).er.re (by kernel_rfl) rfl (Mv.cs_one _) ?_))
    obtain ⟨r1, r2, r3, r4⟩ := (unhide FF).done
    refine bodyPost_ret (results_cell_row (P := Try.prog) rfl _ _ w.heap.size 28 (Mv.cs { y with i := ⟨some ⟨w2.heap.size, 0, none⟩, 1, 1⟩ }) (0, 0) _ rfl r1 Try.underlying28 rfl (by kernel_rfl)) rfl ?_
    exact ⟨_, _, rfl, r2, r3, r4⟩
  have p0 := eqB_f _ _ q0
  have p1 := eqB_f _ _ q1
  have p2 := eqB_f _ _ q2
  have p3 := eqB_f _ _ q3
  have p4 := eqB_f _ _ q4
  have p5 := eqB_f _ _ q5
  have FF := hide ((unhide D2).fa (unhide DD).small (by have := (unhide DD).rl; omega))
  go_wp2_with (first | (refine wpList_load_row rfl 28 _ rfl w1.heap.size rfl 28 (Mv.cs y) (0, 0) _ (unhide FF).r5 Try.underlying28 rfl (by kernel_rfl) ?_) | (refine wpList_store_row rfl 28 _ _ rfl w.heap.size (Mv.cs y) rfl rfl 28 zMv.cs (unhide FF).er.re (by kernel_rfl) rfl (Mv.cs_one _) ?_))
  obtain ⟨r1, r2, r3, r4⟩ := (unhide FF).done
  refine bodyPost_ret (results_cell_row (P := Try.prog) rfl _ _ w.heap.size 28 (Mv.cs y) (0, 0) _ rfl r1 Try.underlying28 rfl (by kernel_rfl)) rfl ?_
  exact ⟨_, _, rfl, r2, r3, r4⟩
end Go.Proofs.Ytfkmibgamkignaa
