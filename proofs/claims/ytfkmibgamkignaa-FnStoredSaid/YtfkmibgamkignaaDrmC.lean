/- A drawn machine; over this seat's translation; conditions stand as hypotheses of each. -/
import Derived.Test.YtfkmibgamkignaaDrmB
namespace Go.Proofs.Ytfkmibgamkignaa
open Go.ChangeShapes Go.WideShapes Go.ChangeAt Go.RowKit
set_option linter.unusedVariables false
set_option maxRecDepth 8000
set_option linter.unusedSimpArgs false

theorem newB_i {im : List Int} {a st : Int} {ins : List Int} (h1 : inB a 0 510 = true) (h2 : a % 2 = 0) (h3 : (im.length : Int) ≤ 256 - a / 2) (h4 : wdB im = true) (h5 : inB st 0 65535 = true) (h6 : (ins.length : Int) ≤ 50) (h7 : wdB ins = true) : newB im a st ins = true := by
  unfold newB
  rw [h1, h4, h5, h7, decide_eq_true h3, decide_eq_true h6, h2]
  rfl
theorem lit_bd7 (b : Int) (h0 : 0 ≤ b) (h1 : b ≤ 255) (j : Nat) (hj : j < 7) : 0 ≤ nAt [0, 2, 100, 200, 510, 3, b * 2] j ∧ nAt [0, 2, 100, 200, 510, 3, b * 2] j ≤ 65535 := by
  obtain rfl | rfl | rfl | rfl | rfl | rfl | rfl : j = 0 ∨ j = 1 ∨ j = 2 ∨ j = 3 ∨ j = 4 ∨ j = 5 ∨ j = 6 := by omega
  all_goals simp [nAt]
  all_goals omega
theorem lit_bd3 (j : Nat) (hj : j < 3) : 0 ≤ nAt [512, 500, 400] j ∧ nAt [512, 500, 400] j ≤ 65535 := by
  obtain rfl | rfl | rfl : j = 0 ∨ j = 1 ∨ j = 2 := by omega
  all_goals simp [nAt]
theorem lit_bd5 (j : Nat) (hj : j < 5) : 0 ≤ nAt [0, 2, 100, 64, 65535] j ∧ nAt [0, 2, 100, 64, 65535] j ≤ 65535 := by
  obtain rfl | rfl | rfl | rfl | rfl : j = 0 ∨ j = 1 ∨ j = 2 ∨ j = 3 ∨ j = 4 := by omega
  all_goals simp [nAt]
/-- While the words that are to come are drawn. -/
structure Ei (w wr : World) (cb : Nat) (a : Option Addr) (len cap : Nat) (xs : List UInt8) (s : Sl) (ns : List Int) : Prop where
  cur : Cur wr cb a len cap xs
  gr : w.grownBy wr (some cb)
  re : wr.heap[w.heap.size]? = some (.cells zMv.cs 28 (0, 0))
  own : OwnN wr (w.heap.size + 1) s.v ns
  wd : Wd ns
section
variable {w wr w' : World} {cb : Nat} {a : Option Addr} {len cap : Nat} {xs : List UInt8} {s : Sl} {ns : List Int}
theorem Ei.draw (h : Ei w wr cb a len cap xs s ns) (hlt : cb < w.heap.size) (hc : Cur w' cb a len cap xs) (hg : wr.grownBy w' (some cb)) : Ei w w' cb a len cap xs s ns :=
  { h with cur := hc, gr := grownBy_trans h.gr hg, re := row_gb h.re hg (fun b e => by cases e; omega), own := h.own.gb hg (fun b e e2 => by cases e; have := (h.own.lt e2).1; omega) }
theorem Ei.later (h : Ei w wr cb a len cap xs s ns) (hlt : cb < w.heap.size) (hb : Below wr.heap.size wr w') : Ei w w' cb a len cap xs s ns := h.draw hlt (h.cur.later hb) (grownBy_below hb)
end

set_option maxHeartbeats 8000000 in
theorem draw5_any (cb : Nat) (a : Option Addr) (len cap : Nat) (xs : List UInt8) (w : World) (hc : Cur w cb a len cap xs) :
    Calls Try.prog 55 #[.pointer (some ⟨cb, 0, none⟩)] w fun e w' => ∃ (x : Mv) (d : Md), e = .returned (.agg x.cs) ∧ x.st = 0 ∧ Dk d ∧ OwnM w' (w.heap.size + 1) x d ∧ Cur w' cb a len cap xs ∧ w.grownBy w' (some cb) := by
  have hlt := hc.lt
  have CD := hide hc.code
  have b1 := (below_new w (.cells #[Value.slice none 0 0, Value.slice none 0 0, Value.bool false, Value.bool false, Value.bool false, Value.bool false, Value.slice none 0 0, Value.slice none 0 0, Value.int .i64 0] 28)).trans ((below_new (w.alloc (.cells #[Value.slice none 0 0, Value.slice none 0 0, Value.bool false, Value.bool false, Value.bool false, Value.bool false, Value.slice none 0 0, Value.slice none 0 0, Value.int .i64 0] 28)) (.cells #[] 3)).mono (below_new w (.cells #[Value.slice none 0 0, Value.slice none 0 0, Value.bool false, Value.bool false, Value.bool false, Value.bool false, Value.slice none 0 0, Value.slice none 0 0, Value.int .i64 0] 28)).size)
  have z1 : (w.alloc (.cells #[Value.slice none 0 0, Value.slice none 0 0, Value.bool false, Value.bool false, Value.bool false, Value.bool false, Value.slice none 0 0, Value.slice none 0 0, Value.int .i64 0] 28)).heap.size = w.heap.size + 1 := by simp
  have I0 := hide (show Ei w ((w.alloc (.cells #[Value.slice none 0 0, Value.slice none 0 0, Value.bool false, Value.bool false, Value.bool false, Value.bool false, Value.slice none 0 0, Value.slice none 0 0, Value.int .i64 0] 28)).alloc (.cells #[] 3)) cb a len cap xs ⟨some ⟨w.heap.size + 1, 0, none⟩, 0, 0⟩ [] from ⟨hc.later b1, grownBy_below b1, row_lat (heap_alloc_last w _) (below_new _ _), ownN_new _ _ _ z1 (by omega), fun x hx => by cases hx⟩)
  have P := hide (below_any cb a len cap xs 4 _ (by omega) (unhide I0).cur)
  clear hc b1 z1
  go_enter Try.func55, Try.ntmps55
  go_wp2_with fail
  refine (unhide P).mono ?_
  rintro e w1 ⟨y, hy0, hy1, rfl, hc1, hg1⟩
  obtain ⟨hy2, hy3⟩ := hy0 (by omega)
  obtain ⟨k0, rfl⟩ := Int.eq_ofNat_of_zero_le hy2
  have I1 := hide ((unhide I0).draw hlt hc1 hg1)
  clear hc1 hg1 I0 P hy0 hy1
  go_wp2_with fail
  go_loopw [3, 4] (fun v v4 wr => ∃ (k : Nat) (s : Sl) (ns : List Int), k ≤ k0 ∧ v4 = .int .i64 k ∧ v = .slice s.a s.n s.c ∧ ns.length + k ≤ 3 ∧ Hid (Ei w wr cb a len cap xs s ns)) (fun _ v4 _ => (intOf v4).toNat)
  case atStart => exact ⟨k0, ⟨some ⟨w.heap.size + 1, 0, none⟩, 0, 0⟩, [], Nat.le_refl _, rfl, rfl, by simp; omega, I1⟩
  case round =>
    clear I1
    obtain ⟨k, s, ns, hk, rfl, rfl, hln, hE⟩ := hrel
    have EI := hide (unhide hE)
    clear hE
    by_cases hk0 : k = 0
    · subst hk0
      have P := hide (wordsD_any cb a len cap xs 12 (by omega) wr (unhide EI).cur)
      have hln2 : ns.length ≤ 3 := by omega
      clear hln hk
      go_wp2_with fail
      refine (unhide P).mono ?_
      rintro e w2 ⟨v, ni, rfl, hne, own2, hwd, hil, hc2, hg2⟩
      obtain ⟨va, vn, vc, rfl⟩ : ∃ a n c, v = .slice a n c := by obtain ⟨a, c, e, _⟩ := own2.rd; exact ⟨_, _, _, e⟩
      have E2 := hide ((unhide EI).draw hlt hc2 hg2)
      have O2 := hide (show OwnN w2 wr.heap.size (Sl.mk va vn vc).v ni from own2)
      have NB := hide (newB_i (im := ni) (a := 64) (st := 64) (ins := ns) (by rfl) (by omega) (by omega) (wdB_of hwd) (by rfl) (by omega) (wdB_of (unhide E2).wd))
      have DK := hide (dk_new (k := 32) (st := 64) (by omega) hwd (unhide E2).wd (by omega) (by omega) (by omega))
      clear P
      have P := hide (newS_yes ⟨va, vn, vc⟩ s ni ns 64 64 w2 (unhide O2).rdS (unhide E2).own.rdS (unhide O2).len (unhide E2).own.len (unhide E2).own.nz (unhide NB))
      clear hc2 hg2 own2 EI hne hwd NB
      go_wp2_with fail
      refine (unhide P).mono ?_
      rintro e w3 ⟨y, rfl, fy, oy, hb⟩
      have hsz : w.heap.size < w2.heap.size := row_lt (unhide E2).re
      have e3 := ((unhide E2).later hlt hb).later hlt (below_new w3 (.cells y.cs 28))
      have ED := hide (show Ed w (w3.alloc (.cells y.cs 28)) cb a len cap xs y w3.heap.size ⟨over z256 32 ni, newR 64, ns, []⟩ from ⟨e3.cur, e3.gr, e3.re, heap_alloc_last w3 _, (oy.base (by omega)).later (below_new _ _), by have := hb.size; omega, fun b hb' => by have := (oy.lo hb').2; omega, hlt, unhide CD⟩)
      have Y0 := hide (show y.st = 0 from fl_st fy)
      have L256 : (over z256 (64 / 2 : Int).toNat ni).length = 256 := (unhide DK).ml
      obtain ⟨gm, mc, hgm⟩ := sl_form oy.m (by rw [show (Md.m ⟨over z256 (64 / 2 : Int).toNat ni, newR 64, ns, []⟩).length = 256 from L256]; omega)
      obtain ⟨gr, rc, hgr⟩ := sl_form oy.r (by simp [newR])
      rw [show (Md.m ⟨over z256 (64 / 2 : Int).toNat ni, newR 64, ns, []⟩).length = 256 from L256] at hgm
      rw [show (Md.r ⟨over z256 (64 / 2 : Int).toNat ni, newR 64, ns, []⟩).length = 8 from rfl] at hgr
      have GM := hide hgm
      have GR := hide hgr
      generalize hg5 : w3.heap.size = g5 at ED
      have HG5 := hide hg5
      clear hb oy fy e3 P O2 E2 hgm hgr hsz L256 hg5
      go_wp2_with (refine wpList_store_new rfl 28 _ _ rfl y.cs rfl rfl _ (by kernel_rfl) rfl (Mv.cs_one _) ?_)
      rw [unhide HG5]
      go_loopw [6] (fun v6 w4 => ∃ (i : Nat) (d : Md), i ≤ 6 ∧ v6 = .int .i64 i ∧ Hid (Dk d) ∧ Hid (Ed w w4 cb a len cap xs y g5 d)) (fun v6 _ => 6 - (intOf v6).toNat)
      case atStart => exact ⟨0, _, Nat.zero_le _, rfl, DK, ED⟩
      case round =>
        clear ED DK
        obtain ⟨i, d, hi, rfl, hD, hE⟩ := hrel
        have DK := hide (unhide hD)
        have ED := hide (unhide hE)
        clear hD hE
        by_cases hi6 : i < 6
        · have C1 := hide (show wr.cell? ⟨g5, 1, none⟩ = some (.slice (some ⟨gr, 0, none⟩) 8 rc) by rw [row_r (unhide ED).r5, unhide GR])
          have DR := hide ((unhide ED).later below_drew)
          go_wp2_with fail
          refine wp_region_held_drew (S := fun w' => w'.cell? ⟨g5, 1, none⟩ = some (.slice (some ⟨gr, 0, none⟩) 8 rc)) (by kernel_rfl) (unhide C1) (fun hS => ?_)
          have HS := hide hS
          clear hS C1
          refine wpAnyH_take (i := 0) (v := .pointer (some ⟨g5, 1, none⟩)) rfl (by kernel_rfl) (by kernel_rfl) (by kernel_rfl) (fun _ _ _ h => h) (Or.inl ⟨by rfl, fun w hc => ?_⟩) (unhide HS) ?_
          · clear hc; go_simp
          go_simp
          refine wpAnyH_take (i := 1) (v := (.slice (some ⟨gr, 0, none⟩) 8 rc)) rfl (by kernel_rfl) (by kernel_rfl) (by kernel_rfl) (fun _ _ _ h => h) (Or.inl ⟨by rfl, fun w hc => ?_⟩) (unhide HS) ?_
          · go_simp
          go_simp
          refine wpAnyH_take (i := 2) (v := .int .i64 (i : Int)) rfl (by kernel_rfl) (by kernel_rfl) (by kernel_rfl) (fun _ _ _ h => h) (Or.inl ⟨by rfl, fun w hc => ?_⟩) (unhide HS) ?_
          · clear hc; go_simp
          go_simp
          refine wpAnyH_take (i := 3) (v := .pointer (some ⟨cb, 0, none⟩)) rfl (by kernel_rfl) (by kernel_rfl) (by kernel_rfl) (fun _ _ _ h => h) (Or.inl ⟨by rfl, fun w hc => ?_⟩) (unhide HS) ?_
          · clear hc; go_simp
          go_simp
          refine wpAnyH_take (i := 4) (v := .pointer (some ⟨cb, 0, none⟩)) rfl (by kernel_rfl) (by kernel_rfl) (by kernel_rfl) (fun _ _ _ h => h) (Or.inl ⟨by rfl, fun w hc => ?_⟩) (unhide HS) ?_
          · clear hc; go_simp
          go_simp
          refine wpAnyH_ready (rs := [5]) (by kernel_rfl) (by simp) ?_
          refine AllReadyH.cons rfl (fun K2 hK => ?_) AllReadyH.nil
          have P := hide (below_any cb a len cap xs 256 wr.drew (by omega) (unhide DR).cur)
          go_simp
          refine (unhide P).mono ?_
          rintro e u1 ⟨b, hb0, _, rfl, hc1, hg1⟩
          obtain ⟨b0, b1⟩ := hb0 (by omega)
          have E1 := hide ((unhide DR).draw hc1 hg1)
          clear hc1 hg1 hb0 P DR
          refine hK.out _ _ ((row_r (unhide E1).r5).trans (by rw [unhide GR])) (fun hS => ?_)
          clear HS
          have HS := hide hS
          clear hS hK K2
          have HM := hide (show IntKind.i64.wrap (b * 2) = b * 2 by rw [IntKind.wrap_i64]; omega)
          refine wpAnyH_take (i := 6) (v := .int .i64 (b * 2)) rfl (by kernel_rfl) (by kernel_rfl) (by kernel_rfl) (fun _ _ _ h => h) (Or.inl ⟨by rfl, fun w hc => ?_⟩) (unhide HS) ?_
          · clear hc; have hm := unhide HM; go_simp
          go_simp
          refine wpAnyH_ready (rs := [7]) (by kernel_rfl) (by simp) ?_
          refine AllReadyH.cons rfl (fun K2 hK => ?_) AllReadyH.nil
          go_simp
          refine hK.out _ _ ((row_r ((unhide E1).alloc (.cells (([0, 2, 100, 200, 510, 3, b * 2] : List Int).map (Value.int .i64)).toArray 3)).r5).trans (by rw [unhide GR])) (fun hS => ?_)
          clear HS
          have HS := hide hS
          clear hS hK K2
          refine wpAnyH_ready (rs := [8]) (by kernel_rfl) (by simp) ?_
          refine AllReadyH.cons rfl (fun K2 hK => ?_) AllReadyH.nil
          have P := hide (int_lit cb a len cap xs u1 (unhide E1).cur [0, 2, 100, 200, 510, 3, b * 2] 7 rfl (by omega) (by omega) u1.heap.size rfl _ rfl)
          go_simp
          refine (unhide P).mono ?_
          rintro e u2 ⟨j, hj, rfl, hc2, hg2⟩
          have vb := lit_bd7 b b0 (by omega) j hj
          generalize nAt [0, 2, 100, 200, 510, 3, b * 2] j = v at vb ⊢
          have E2 := hide (((unhide E1).alloc (.cells (([0, 2, 100, 200, 510, 3, b * 2] : List Int).map (Value.int .i64)).toArray 3)).draw hc2 hg2)
          clear hc2 hg2 hj P E1 HM
          refine hK.out _ _ ((row_r (unhide E2).r5).trans (by rw [unhide GR])) (fun hS => ?_)
          clear HS
          have HS := hide hS
          clear hS hK K2
          have i8 : (i : Int) < 8 := by omega
          refine wpAnyH_take (i := 9) (v := .pointer (some ⟨gr, i, none⟩)) rfl (by kernel_rfl) (by kernel_rfl) (by kernel_rfl) (fun _ _ _ h => h) (Or.inl ⟨by rfl, fun w hc => ?_⟩) (unhide HS) ?_
          · clear hc; go_simp
          go_simp
          refine wpAnyH_ready (rs := [10]) (by kernel_rfl) (by simp) ?_
          refine AllReadyH.cons rfl (fun K2 hK => ?_) AllReadyH.nil
          obtain ⟨cm1, cm2⟩ := (unhide E2).cellR (unhide GR) i (by have := (unhide DK).rl; omega)
          have E3 := hide ((unhide E2).setR (unhide GR) i v (by have := (unhide DK).rl; omega))
          go_simp
          refine hK.out _ _ ((row_r (unhide E3).r5).trans (by rw [unhide GR])) (fun hS => ?_)
          clear HS
          have HS := hide hS
          clear hS hK K2
          clear cm1 cm2
          refine wpAnyH_done (by kernel_rfl) ?_ _
          go_wp2
          go_roundw
          case rel => exact ⟨i + 1, _, by omega, by go_num, (unhide DK).setR i v vb.1 vb.2, E3⟩
          case measure => simp [intOf]; omega
        · have C1 := hide (show wr.cell? ⟨g5, 1, none⟩ = some (.slice (some ⟨gr, 0, none⟩) 8 rc) by rw [row_r (unhide ED).r5, unhide GR])
          have DR := hide ((unhide ED).later below_drew)
          go_wp2_with fail
          refine wp_region_held_drew (S := fun w' => w'.cell? ⟨g5, 1, none⟩ = some (.slice (some ⟨gr, 0, none⟩) 8 rc)) (by kernel_rfl) (unhide C1) (fun hS => ?_)
          have HS := hide hS
          clear hS C1
          refine wpAnyH_take (i := 0) (v := .pointer (some ⟨g5, 1, none⟩)) rfl (by kernel_rfl) (by kernel_rfl) (by kernel_rfl) (fun _ _ _ h => h) (Or.inl ⟨by rfl, fun w hc => ?_⟩) (unhide HS) ?_
          · clear hc; go_simp
          go_simp
          refine wpAnyH_take (i := 1) (v := (.slice (some ⟨gr, 0, none⟩) 8 rc)) rfl (by kernel_rfl) (by kernel_rfl) (by kernel_rfl) (fun _ _ _ h => h) (Or.inl ⟨by rfl, fun w hc => ?_⟩) (unhide HS) ?_
          · go_simp
          go_simp
          refine wpAnyH_take (i := 2) (v := .pointer (some ⟨cb, 0, none⟩)) rfl (by kernel_rfl) (by kernel_rfl) (by kernel_rfl) (fun _ _ _ h => h) (Or.inl ⟨by rfl, fun w hc => ?_⟩) (unhide HS) ?_
          · clear hc; go_simp
          go_simp
          refine wpAnyH_ready (rs := [3]) (by kernel_rfl) (by simp) ?_
          refine AllReadyH.cons rfl (fun K2 hK => ?_) AllReadyH.nil
          go_simp
          refine hK.out _ _ ((row_r ((unhide DR).alloc (.cells (([512, 500, 400] : List Int).map (Value.int .i64)).toArray 3)).r5).trans (by rw [unhide GR])) (fun hS => ?_)
          clear HS
          have HS := hide hS
          clear hS hK K2
          refine wpAnyH_ready (rs := [4]) (by kernel_rfl) (by simp) ?_
          refine AllReadyH.cons rfl (fun K2 hK => ?_) AllReadyH.nil
          have P := hide (int_lit cb a len cap xs wr.drew (unhide DR).cur [512, 500, 400] 3 rfl (by omega) (by omega) wr.heap.size rfl _ rfl)
          go_simp
          refine (unhide P).mono ?_
          rintro e u2 ⟨j, hj, rfl, hc2, hg2⟩
          have vb := lit_bd3 j hj
          generalize nAt [512, 500, 400] j = v at vb ⊢
          have E2 := hide (((unhide DR).alloc (.cells (([512, 500, 400] : List Int).map (Value.int .i64)).toArray 3)).draw hc2 hg2)
          clear hc2 hg2 hj P DR
          refine hK.out _ _ ((row_r (unhide E2).r5).trans (by rw [unhide GR])) (fun hS => ?_)
          clear HS
          have HS := hide hS
          clear hS hK K2
          refine wpAnyH_take (i := 5) (v := .pointer (some ⟨gr, 6, none⟩)) rfl (by kernel_rfl) (by kernel_rfl) (by kernel_rfl) (fun _ _ _ h => h) (Or.inl ⟨by rfl, fun w hc => ?_⟩) (unhide HS) ?_
          · clear hc; go_simp
          go_simp
          refine wpAnyH_ready (rs := [6]) (by kernel_rfl) (by simp) ?_
          refine AllReadyH.cons rfl (fun K2 hK => ?_) AllReadyH.nil
          obtain ⟨cm1, cm2⟩ := (unhide E2).cellR (unhide GR) 6 (by have := (unhide DK).rl; omega)
          have E3 := hide ((unhide E2).setR (unhide GR) 6 v (by have := (unhide DK).rl; omega))
          have D3 := hide ((unhide DK).setR 6 v vb.1 vb.2)
          go_simp
          refine hK.out _ _ ((row_r (unhide E3).r5).trans (by rw [unhide GR])) (fun hS => ?_)
          clear HS
          have HS := hide hS
          clear hS hK K2
          clear cm1 cm2 HS DK E2 ED
          refine wpAnyH_done (by kernel_rfl) ?_ _
          have P := hide (once_any cb a len cap xs 2 _ (by omega) (unhide E3).cur)
          go_wp2_with fail
          refine (unhide P).mono ?_
          rintro e f0 ⟨bn, rfl, hc, hg⟩
          have EF := hide ((unhide E3).draw hc hg)
          have o2 := row_n (unhide EF).r5
          have z2 := row_fz (unhide EF).r5 2
          have EG := hide ((unhide EF).setF 2 (.bool bn) (⟨y.m, y.r, bn, y.z, y.v, y.c, y.i, y.o, y.st⟩ : Mv) rfl rfl rfl rfl rfl)
          clear hc hg P E3
          have E3 := hide (unhide EG)
          clear EG EF
          have P := hide (once_any cb a len cap xs 2 _ (by omega) (unhide E3).cur)
          go_wp2_with fail
          refine (unhide P).mono ?_
          rintro e f1 ⟨bz, rfl, hc, hg⟩
          have EF := hide ((unhide E3).draw hc hg)
          have o3 := row_z (unhide EF).r5
          have z3 := row_fz (unhide EF).r5 3
          have EG := hide ((unhide EF).setF 3 (.bool bz) (⟨y.m, y.r, bn, bz, y.v, y.c, y.i, y.o, y.st⟩ : Mv) rfl rfl rfl rfl rfl)
          clear hc hg P E3
          have E3 := hide (unhide EG)
          clear EG EF
          have P := hide (once_any cb a len cap xs 2 _ (by omega) (unhide E3).cur)
          go_wp2_with fail
          refine (unhide P).mono ?_
          rintro e f2 ⟨bc, rfl, hc, hg⟩
          have EF := hide ((unhide E3).draw hc hg)
          have o5 := row_c (unhide EF).r5
          have z5 := row_fz (unhide EF).r5 5
          have EG := hide ((unhide EF).setF 5 (.bool bc) (⟨y.m, y.r, bn, bz, y.v, bc, y.i, y.o, y.st⟩ : Mv) rfl rfl rfl rfl rfl)
          clear hc hg P E3
          have E3 := hide (unhide EG)
          clear EG EF
          go_wp2
          go_loopw [7] (fun v7 w4 => ∃ (i : Nat) (d : Md), i ≤ 8 ∧ v7 = .int .i64 i ∧ Hid (Dk d) ∧ Hid (Ed w w4 cb a len cap xs (⟨y.m, y.r, bn, bz, y.v, bc, y.i, y.o, y.st⟩ : Mv) g5 d)) (fun v7 _ => 8 - (intOf v7).toNat)
          case atStart => exact ⟨0, _, Nat.zero_le _, rfl, D3, E3⟩
          case round =>
            clear E3 D3 o2 z2 o3 z3 o5 z5
            obtain ⟨i2, d2, hi2, rfl, hD, hE⟩ := hrel
            have DK := hide (unhide hD)
            have ED := hide (unhide hE)
            have GM3 : Hid (((⟨y.m, y.r, bn, bz, y.v, bc, y.i, y.o, y.st⟩ : Mv)).m = ⟨some ⟨gm, 0, none⟩, 256, mc⟩) := GM
            clear hD hE
            by_cases hi8 : i2 < 8
            · have C1 := hide (show wr.cell? ⟨g5, 0, none⟩ = some (.slice (some ⟨gm, 0, none⟩) 256 mc) from (row_m (unhide ED).r5).trans (by rw [unhide GM3]))
              have DR := hide ((unhide ED).later below_drew)
              go_wp2_with fail
              refine wp_region_held_drew (S := fun w' => w'.cell? ⟨g5, 0, none⟩ = some (.slice (some ⟨gm, 0, none⟩) 256 mc)) (by kernel_rfl) (unhide C1) (fun hS => ?_)
              have HS := hide hS
              clear hS C1
              refine wpAnyH_take (i := 0) (v := .pointer (some ⟨g5, 0, none⟩)) rfl (by kernel_rfl) (by kernel_rfl) (by kernel_rfl) (fun _ _ _ h => h) (Or.inl ⟨by rfl, fun w hc => ?_⟩) (unhide HS) ?_
              · clear hc; go_simp
              go_simp
              refine wpAnyH_take (i := 1) (v := (.slice (some ⟨gm, 0, none⟩) 256 mc)) rfl (by kernel_rfl) (by kernel_rfl) (by kernel_rfl) (fun _ _ _ h => h) (Or.inl ⟨by rfl, fun w hc => ?_⟩) (unhide HS) ?_
              · go_simp
              go_simp
              refine wpAnyH_take (i := 2) (v := .pointer (some ⟨cb, 0, none⟩)) rfl (by kernel_rfl) (by kernel_rfl) (by kernel_rfl) (fun _ _ _ h => h) (Or.inl ⟨by rfl, fun w hc => ?_⟩) (unhide HS) ?_
              · clear hc; go_simp
              go_simp
              refine wpAnyH_take (i := 4) (v := .pointer (some ⟨cb, 0, none⟩)) rfl (by kernel_rfl) (by kernel_rfl) (by kernel_rfl) (fun _ _ _ h => h) (Or.inl ⟨by rfl, fun w hc => ?_⟩) (unhide HS) ?_
              · clear hc; go_simp
              go_simp
              refine wpAnyH_ready (rs := [3, 5]) (by kernel_rfl) (by simp) ?_
              refine AllReadyH.cons rfl (fun K2 hK => ?_) (AllReadyH.cons rfl (fun K2 hK => ?_) AllReadyH.nil)
              · have P := hide (below_any cb a len cap xs 32 wr.drew (by omega) (unhide DR).cur)
                go_simp
                refine (unhide P).mono ?_
                rintro e u1 ⟨bi, hb0, _, rfl, hc1, hg1⟩
                obtain ⟨b0, b1⟩ := hb0 (by omega)
                obtain ⟨b, rfl⟩ := Int.eq_ofNat_of_zero_le b0
                have E1 := hide ((unhide DR).draw hc1 hg1)
                clear hc1 hg1 hb0 P DR
                refine hK.out _ _ ((row_m (unhide E1).r5).trans (by rw [unhide GM3])) (fun hS => ?_)
                clear HS
                have HS := hide hS
                clear hS hK K2
                refine wpAnyH_ready (rs := [5]) (by kernel_rfl) (by simp) ?_
                refine AllReadyH.cons rfl (fun K2 hK => ?_) AllReadyH.nil
                go_simp
                refine hK.out _ _ ((row_m ((unhide E1).alloc (.cells (([0, 2, 100, 64, 65535] : List Int).map (Value.int .i64)).toArray 3)).r5).trans (by rw [unhide GM3])) (fun hS => ?_)
                clear HS
                have HS := hide hS
                clear hS hK K2
                refine wpAnyH_ready (rs := [6]) (by kernel_rfl) (by simp) ?_
                refine AllReadyH.cons rfl (fun K2 hK => ?_) AllReadyH.nil
                have P := hide (int_lit cb a len cap xs u1 (unhide E1).cur [0, 2, 100, 64, 65535] 5 rfl (by omega) (by omega) u1.heap.size rfl _ rfl)
                go_simp
                refine (unhide P).mono ?_
                rintro e u2 ⟨j, hj, rfl, hc2, hg2⟩
                have vb := lit_bd5 j hj
                generalize nAt [0, 2, 100, 64, 65535] j = v at vb ⊢
                have E2 := hide (((unhide E1).alloc (.cells (([0, 2, 100, 64, 65535] : List Int).map (Value.int .i64)).toArray 3)).draw hc2 hg2)
                clear hc2 hg2 hj P E1
                refine hK.out _ _ ((row_m (unhide E2).r5).trans (by rw [unhide GM3])) (fun hS => ?_)
                clear HS
                have HS := hide hS
                clear hS hK K2
                have b32 : (b : Int) < 256 := by omega
                refine wpAnyH_take (i := 7) (v := .pointer (some ⟨gm, b, none⟩)) rfl (by kernel_rfl) (by kernel_rfl) (by kernel_rfl) (fun _ _ _ h => h) (Or.inl ⟨by rfl, fun w hc => ?_⟩) (unhide HS) ?_
                · clear hc; go_simp
                go_simp
                refine wpAnyH_ready (rs := [8]) (by kernel_rfl) (by simp) ?_
                refine AllReadyH.cons rfl (fun K2 hK => ?_) AllReadyH.nil
                obtain ⟨cm1, cm2⟩ := (unhide E2).cellM (unhide GM3) b (by have := (unhide DK).ml; omega)
                have E3 := hide ((unhide E2).setM (unhide GM3) b v (by have := (unhide DK).ml; omega))
                have D3 := hide ((unhide DK).setM b v vb.1 vb.2)
                go_simp
                refine hK.out _ _ ((row_m (unhide E3).r5).trans (by rw [unhide GM3])) (fun hS => ?_)
                clear HS
                have HS := hide hS
                clear hS hK K2
                clear cm1 cm2 HS E2 b32
                refine wpAnyH_done (by kernel_rfl) ?_ _
                generalize (Md.mk (d2.m.set b v) d2.r d2.i d2.o) = d3 at E3 D3
                generalize u2.setCell ⟨gm, b, none⟩ (Value.int .i64 v) = wz at E3 ⊢
                have C1 := hide (show wz.cell? ⟨g5, 0, none⟩ = some (.slice (some ⟨gm, 0, none⟩) 256 mc) from (row_m (unhide E3).r5).trans (by rw [unhide GM3]))
                have DZ := hide ((unhide E3).later below_drew)
                clear vb
                go_wp2_with fail
                refine wp_region_held_drew (S := fun w' => w'.cell? ⟨g5, 0, none⟩ = some (.slice (some ⟨gm, 0, none⟩) 256 mc)) (by kernel_rfl) (unhide C1) (fun hS => ?_)
                have HS := hide hS
                clear hS C1 E3
                refine wpAnyH_take (i := 0) (v := .pointer (some ⟨g5, 0, none⟩)) rfl (by kernel_rfl) (by kernel_rfl) (by kernel_rfl) (fun _ _ _ h => h) (Or.inl ⟨by rfl, fun w hc => ?_⟩) (unhide HS) ?_
                · clear hc; go_simp
                go_simp
                refine wpAnyH_take (i := 1) (v := (.slice (some ⟨gm, 0, none⟩) 256 mc)) rfl (by kernel_rfl) (by kernel_rfl) (by kernel_rfl) (fun _ _ _ h => h) (Or.inl ⟨by rfl, fun w hc => ?_⟩) (unhide HS) ?_
                · go_simp
                go_simp
                refine wpAnyH_take (i := 2) (v := .pointer (some ⟨cb, 0, none⟩)) rfl (by kernel_rfl) (by kernel_rfl) (by kernel_rfl) (fun _ _ _ h => h) (Or.inl ⟨by rfl, fun w hc => ?_⟩) (unhide HS) ?_
                · clear hc; go_simp
                go_simp
                refine wpAnyH_take (i := 5) (v := .pointer (some ⟨cb, 0, none⟩)) rfl (by kernel_rfl) (by kernel_rfl) (by kernel_rfl) (fun _ _ _ h => h) (Or.inl ⟨by rfl, fun w hc => ?_⟩) (unhide HS) ?_
                · clear hc; go_simp
                go_simp
                refine wpAnyH_ready (rs := [3]) (by kernel_rfl) (by simp) ?_
                refine AllReadyH.cons rfl (fun K2 hK => ?_) AllReadyH.nil
                have P := hide (below_any cb a len cap xs 60 wz.drew (by omega) (unhide DZ).cur)
                go_simp
                refine (unhide P).mono ?_
                rintro e u3 ⟨ci, hb0, _, rfl, hc1, hg1⟩
                obtain ⟨c0, c1⟩ := hb0 (by omega)
                obtain ⟨bb, rfl⟩ := Int.eq_ofNat_of_zero_le c0
                have E1 := hide ((unhide DZ).draw hc1 hg1)
                clear hc1 hg1 hb0 P DZ
                refine hK.out _ _ ((row_m (unhide E1).r5).trans (by rw [unhide GM3])) (fun hS => ?_)
                clear HS
                have HS := hide hS
                clear hS hK K2
                have HM := hide (show IntKind.i64.wrap (80 + (bb : Int)) = 80 + (bb : Int) by rw [IntKind.wrap_i64]; omega)
                have HT := hide (show (80 + (bb : Int)).toNat = 80 + bb by omega)
                refine wpAnyH_take (i := 4) (v := .int .i64 (80 + (bb : Int))) rfl (by kernel_rfl) (by kernel_rfl) (by kernel_rfl) (fun _ _ _ h => h) (Or.inl ⟨by rfl, fun w hc => ?_⟩) (unhide HS) ?_
                · clear hc; have hm := unhide HM; go_simp
                go_simp
                refine wpAnyH_ready (rs := [6]) (by kernel_rfl) (by simp) ?_
                refine AllReadyH.cons rfl (fun K2 hK => ?_) AllReadyH.nil
                have P := hide (word_any cb a len cap xs u3 (unhide E1).cur)
                go_simp
                refine (unhide P).mono ?_
                rintro e u4 ⟨x, hx0, hx1, rfl, hc1, hg1⟩
                have E2 := hide ((unhide E1).draw hc1 hg1)
                clear hc1 hg1 P E1
                refine hK.out _ _ ((row_m (unhide E2).r5).trans (by rw [unhide GM3])) (fun hS => ?_)
                clear HS
                have HS := hide hS
                clear hS hK K2
                have b60 : 80 + (bb : Int) < 256 := by omega
                have b61 : ¬ 80 + (bb : Int) < 0 := by omega
                refine wpAnyH_take (i := 7) (v := .pointer (some ⟨gm, 80 + bb, none⟩)) rfl (by kernel_rfl) (by kernel_rfl) (by kernel_rfl) (fun _ _ _ h => h) (Or.inl ⟨by rfl, fun w hc => ?_⟩) (unhide HS) ?_
                · clear hc; have ht := unhide HT; go_simp
                go_simp
                refine wpAnyH_ready (rs := [8]) (by kernel_rfl) (by simp) ?_
                refine AllReadyH.cons rfl (fun K2 hK => ?_) AllReadyH.nil
                obtain ⟨cm1, cm2⟩ := (unhide E2).cellM (unhide GM3) (80 + bb) (by have := (unhide D3).ml; omega)
                have E3 := hide ((unhide E2).setM (unhide GM3) (80 + bb) x (by have := (unhide D3).ml; omega))
                have D4 := hide ((unhide D3).setM (80 + bb) x hx0 hx1)
                go_simp
                refine hK.out _ _ ((row_m (unhide E3).r5).trans (by rw [unhide GM3])) (fun hS => ?_)
                clear HS
                have HS := hide hS
                clear hS hK K2
                clear cm1 cm2 HS E2
                refine wpAnyH_done (by kernel_rfl) ?_ _
                go_wp2
                go_roundw
                case rel => exact ⟨i2 + 1, _, by omega, by go_num, D4, E3⟩
                case measure => simp [intOf]; omega
              · go_simp
                have LR := hide (RdN_lit wr.drew [0, 2, 100, 64, 65535])
                have DA := hide ((unhide DR).alloc (.cells (([0, 2, 100, 64, 65535] : List Int).map (Value.int .i64)).toArray 3))
                refine hK.out _ _ ((row_m (unhide DA).r5).trans (by rw [unhide GM3])) (fun hS => ?_)
                clear HS
                have HS := hide hS
                clear hS hK K2
                refine wpAnyH_ready (rs := [3]) (by kernel_rfl) (by simp) ?_
                refine AllReadyH.cons rfl (fun K2 hK => ?_) AllReadyH.nil
                have P := hide (below_any cb a len cap xs 32 (wr.drew.alloc (.cells (([0, 2, 100, 64, 65535] : List Int).map (Value.int .i64)).toArray 3)) (by omega) (unhide DA).cur)
                go_simp
                refine (unhide P).mono ?_
                rintro e u1 ⟨bi, hb0, _, rfl, hc1, hg1⟩
                obtain ⟨b0, b1⟩ := hb0 (by omega)
                obtain ⟨b, rfl⟩ := Int.eq_ofNat_of_zero_le b0
                have E1 := hide ((unhide DA).draw hc1 hg1)
                have LR1 := hide ((unhide LR).past hg1 (fun ad e => by cases e; have h1 := (unhide DR).lt; have h2 := (unhide DR).gr.size; show wr.drew.heap.size ≠ cb; omega))
                have NE := hide (show ∀ ad, (some (⟨wr.heap.size, 0, none⟩ : Addr)) = some ad → ad.block ≠ cb from fun ad e => by cases e; have h1 := (unhide DR).lt; have h2 := (unhide DR).gr.size; show wr.drew.heap.size ≠ cb; omega)
                clear hc1 hg1 hb0 P DA LR
                refine hK.out _ _ ((row_m (unhide E1).r5).trans (by rw [unhide GM3])) (fun hS => ?_)
                clear HS
                have HS := hide hS
                clear hS hK K2
                refine wpAnyH_ready (rs := [6]) (by kernel_rfl) (by simp) ?_
                refine AllReadyH.cons rfl (fun K2 hK => ?_) AllReadyH.nil
                have P := hide (int_any cb a len cap xs (some ⟨wr.heap.size, 0, none⟩) 5 5 [0, 2, 100, 64, 65535] u1 (unhide E1).cur (unhide LR1) (unhide NE) rfl (by omega) (by omega))
                go_simp
                refine (unhide P).mono ?_
                rintro e u2 ⟨j, hj, rfl, hc2, hg2⟩
                have vb := lit_bd5 j hj
                generalize nAt [0, 2, 100, 64, 65535] j = v at vb ⊢
                have E2 := hide ((unhide E1).draw hc2 hg2)
                clear hc2 hg2 hj P E1 LR1 NE DR
                refine hK.out _ _ ((row_m (unhide E2).r5).trans (by rw [unhide GM3])) (fun hS => ?_)
                clear HS
                have HS := hide hS
                clear hS hK K2
                have b32 : (b : Int) < 256 := by omega
                refine wpAnyH_take (i := 7) (v := .pointer (some ⟨gm, b, none⟩)) rfl (by kernel_rfl) (by kernel_rfl) (by kernel_rfl) (fun _ _ _ h => h) (Or.inl ⟨by rfl, fun w hc => ?_⟩) (unhide HS) ?_
                · clear hc; go_simp
                go_simp
                refine wpAnyH_ready (rs := [8]) (by kernel_rfl) (by simp) ?_
                refine AllReadyH.cons rfl (fun K2 hK => ?_) AllReadyH.nil
                obtain ⟨cm1, cm2⟩ := (unhide E2).cellM (unhide GM3) b (by have := (unhide DK).ml; omega)
                have E3 := hide ((unhide E2).setM (unhide GM3) b v (by have := (unhide DK).ml; omega))
                have D3 := hide ((unhide DK).setM b v vb.1 vb.2)
                go_simp
                refine hK.out _ _ ((row_m (unhide E3).r5).trans (by rw [unhide GM3])) (fun hS => ?_)
                clear HS
                have HS := hide hS
                clear hS hK K2
                clear cm1 cm2 HS E2 b32
                refine wpAnyH_done (by kernel_rfl) ?_ _
                generalize (Md.mk (d2.m.set b v) d2.r d2.i d2.o) = d3 at E3 D3
                generalize u2.setCell ⟨gm, b, none⟩ (Value.int .i64 v) = wz at E3 ⊢
                have C1 := hide (show wz.cell? ⟨g5, 0, none⟩ = some (.slice (some ⟨gm, 0, none⟩) 256 mc) from (row_m (unhide E3).r5).trans (by rw [unhide GM3]))
                have DZ := hide ((unhide E3).later below_drew)
                clear vb
                go_wp2_with fail
                refine wp_region_held_drew (S := fun w' => w'.cell? ⟨g5, 0, none⟩ = some (.slice (some ⟨gm, 0, none⟩) 256 mc)) (by kernel_rfl) (unhide C1) (fun hS => ?_)
                have HS := hide hS
                clear hS C1 E3
                refine wpAnyH_take (i := 0) (v := .pointer (some ⟨g5, 0, none⟩)) rfl (by kernel_rfl) (by kernel_rfl) (by kernel_rfl) (fun _ _ _ h => h) (Or.inl ⟨by rfl, fun w hc => ?_⟩) (unhide HS) ?_
                · clear hc; go_simp
                go_simp
                refine wpAnyH_take (i := 1) (v := (.slice (some ⟨gm, 0, none⟩) 256 mc)) rfl (by kernel_rfl) (by kernel_rfl) (by kernel_rfl) (fun _ _ _ h => h) (Or.inl ⟨by rfl, fun w hc => ?_⟩) (unhide HS) ?_
                · go_simp
                go_simp
                refine wpAnyH_take (i := 2) (v := .pointer (some ⟨cb, 0, none⟩)) rfl (by kernel_rfl) (by kernel_rfl) (by kernel_rfl) (fun _ _ _ h => h) (Or.inl ⟨by rfl, fun w hc => ?_⟩) (unhide HS) ?_
                · clear hc; go_simp
                go_simp
                refine wpAnyH_take (i := 5) (v := .pointer (some ⟨cb, 0, none⟩)) rfl (by kernel_rfl) (by kernel_rfl) (by kernel_rfl) (fun _ _ _ h => h) (Or.inl ⟨by rfl, fun w hc => ?_⟩) (unhide HS) ?_
                · clear hc; go_simp
                go_simp
                refine wpAnyH_ready (rs := [3]) (by kernel_rfl) (by simp) ?_
                refine AllReadyH.cons rfl (fun K2 hK => ?_) AllReadyH.nil
                have P := hide (below_any cb a len cap xs 60 wz.drew (by omega) (unhide DZ).cur)
                go_simp
                refine (unhide P).mono ?_
                rintro e u3 ⟨ci, hb0, _, rfl, hc1, hg1⟩
                obtain ⟨c0, c1⟩ := hb0 (by omega)
                obtain ⟨bb, rfl⟩ := Int.eq_ofNat_of_zero_le c0
                have E1 := hide ((unhide DZ).draw hc1 hg1)
                clear hc1 hg1 hb0 P DZ
                refine hK.out _ _ ((row_m (unhide E1).r5).trans (by rw [unhide GM3])) (fun hS => ?_)
                clear HS
                have HS := hide hS
                clear hS hK K2
                have HM := hide (show IntKind.i64.wrap (80 + (bb : Int)) = 80 + (bb : Int) by rw [IntKind.wrap_i64]; omega)
                have HT := hide (show (80 + (bb : Int)).toNat = 80 + bb by omega)
                refine wpAnyH_take (i := 4) (v := .int .i64 (80 + (bb : Int))) rfl (by kernel_rfl) (by kernel_rfl) (by kernel_rfl) (fun _ _ _ h => h) (Or.inl ⟨by rfl, fun w hc => ?_⟩) (unhide HS) ?_
                · clear hc; have hm := unhide HM; go_simp
                go_simp
                refine wpAnyH_ready (rs := [6]) (by kernel_rfl) (by simp) ?_
                refine AllReadyH.cons rfl (fun K2 hK => ?_) AllReadyH.nil
                have P := hide (word_any cb a len cap xs u3 (unhide E1).cur)
                go_simp
                refine (unhide P).mono ?_
                rintro e u4 ⟨x, hx0, hx1, rfl, hc1, hg1⟩
                have E2 := hide ((unhide E1).draw hc1 hg1)
                clear hc1 hg1 P E1
                refine hK.out _ _ ((row_m (unhide E2).r5).trans (by rw [unhide GM3])) (fun hS => ?_)
                clear HS
                have HS := hide hS
                clear hS hK K2
                have b60 : 80 + (bb : Int) < 256 := by omega
                have b61 : ¬ 80 + (bb : Int) < 0 := by omega
                refine wpAnyH_take (i := 7) (v := .pointer (some ⟨gm, 80 + bb, none⟩)) rfl (by kernel_rfl) (by kernel_rfl) (by kernel_rfl) (fun _ _ _ h => h) (Or.inl ⟨by rfl, fun w hc => ?_⟩) (unhide HS) ?_
                · clear hc; have ht := unhide HT; go_simp
                go_simp
                refine wpAnyH_ready (rs := [8]) (by kernel_rfl) (by simp) ?_
                refine AllReadyH.cons rfl (fun K2 hK => ?_) AllReadyH.nil
                obtain ⟨cm1, cm2⟩ := (unhide E2).cellM (unhide GM3) (80 + bb) (by have := (unhide D3).ml; omega)
                have E3 := hide ((unhide E2).setM (unhide GM3) (80 + bb) x (by have := (unhide D3).ml; omega))
                have D4 := hide ((unhide D3).setM (80 + bb) x hx0 hx1)
                go_simp
                refine hK.out _ _ ((row_m (unhide E3).r5).trans (by rw [unhide GM3])) (fun hS => ?_)
                clear HS
                have HS := hide hS
                clear hS hK K2
                clear cm1 cm2 HS E2
                refine wpAnyH_done (by kernel_rfl) ?_ _
                go_wp2
                go_roundw
                case rel => exact ⟨i2 + 1, _, by omega, by go_num, D4, E3⟩
                case measure => simp [intOf]; omega
            · go_wp2_with (first | (refine wpList_load_row rfl 28 _ rfl g5 rfl 28 (Mv.cs (⟨y.m, y.r, bn, bz, y.v, bc, y.i, y.o, y.st⟩ : Mv)) (0, 0) _ (unhide ED).r5 Try.underlying28 rfl (by kernel_rfl) ?_) | (refine wpList_store_row rfl 28 _ _ rfl w.heap.size (Mv.cs (⟨y.m, y.r, bn, bz, y.v, bc, y.i, y.o, y.st⟩ : Mv)) rfl rfl 28 zMv.cs (unhide ED).re (by kernel_rfl) rfl (Mv.cs_one _) ?_))
              refine bodyPost_ret (results_cell_row (P := Try.prog) rfl _ _ w.heap.size 28 (Mv.cs (⟨y.m, y.r, bn, bz, y.v, bc, y.i, y.o, y.st⟩ : Mv)) (0, 0) _ rfl (setRow_heap _ _ _ _ 28 _ (unhide ED).re) Try.underlying28 rfl (by kernel_rfl)) rfl ?_
              exact ⟨(⟨y.m, y.r, bn, bz, y.v, bc, y.i, y.o, y.st⟩ : Mv), rfl, unhide Y0, d2, unhide DK, (unhide ED).own.row (by omega) _, (unhide ED).cur.past (grownBy_setRow _) (unhide ED).lt (unhide ED).cd (fun g e => by cases e; omega), grownBy_own (unhide ED).gr (grownBy_setRow _) (fun g e => by cases e; omega)⟩
    · have hkp : (0 : Int) < (k : Int) := by omega
      have P := hide (word_any cb a len cap xs wr (unhide EI).cur)
      clear hk0
      go_wp2_with fail
      refine (unhide P).mono ?_
      rintro e w3 ⟨x, hx0, hx1, rfl, hc3, hg3⟩
      have E3 := hide ((unhide EI).draw hlt hc3 hg3)
      have A3 := hide (below_new w3 (Obj.cells #[.int .i64 x] 3))
      clear hc3 hg3 P EI
      go_wp2_with (at_builtin; go_must (refine wpList_app rfl _ _ rfl (w.heap.size + 1) (.slice s.a s.n s.c) ns rfl ((unhide E3).own.later (unhide A3)) ⟨some ⟨w3.heap.size, 0, none⟩, 1, 1⟩ [x] rfl (OwnN.rd1 (own_one w3 x)) rfl (fun e => by cases e) (by simp only; omega) (by have := (unhide E3).gr.size; have := row_lt (unhide E3).re; have := (unhide A3).size; omega) ?_; intro v8 w8 hown hgrow; obtain ⟨ta, tn, tc, rfl⟩ : ∃ a n c, v8 = .slice a n c := (by obtain ⟨a, c, e, _⟩ := hown.rd; exact ⟨_, _, _, e⟩); have HOWN := hide hown; have HGROW := hide hgrow; clear hown hgrow))
      have hgrow := unhide HGROW
      have e4 := (unhide E3).later hlt (unhide A3)
      have hgo : ∀ q, (Value.slice s.a s.n s.c).ownBlock = some q → w.heap.size < q := fun q e => by have := ((unhide E3).own.lt (g := q) e).1; omega
      have E8 := hide (show Ei w w8 cb a len cap xs ⟨ta, tn, tc⟩ (ns ++ [x]) from ⟨e4.cur.past hgrow hlt (unhide CD) (fun g e => by have := hgo g e; omega), grownBy_own e4.gr hgrow (fun g e => by have := hgo g e; omega), row_gb e4.re hgrow (fun b e => by have := hgo b e; omega), unhide HOWN, e4.wd.app (fun z hz => by simp at hz; omega)⟩)
      clear HOWN HGROW hgrow hgo e4 E3 A3
      go_wp2
      go_roundw
      case rel => exact ⟨k - 1, ⟨ta, tn, tc⟩, ns ++ [x], by omega, by go_num, rfl, by rw [List.length_append]; simp; omega, E8⟩
      case measure => simp [intOf]; omega
end Go.Proofs.Ytfkmibgamkignaa
