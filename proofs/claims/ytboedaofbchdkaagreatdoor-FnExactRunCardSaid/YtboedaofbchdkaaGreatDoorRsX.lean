/- Contracts over this seat's translation, laid together; conditions stand as hypotheses of each. -/
import Derived.Test.YtboedaofbchdkaaGreatDoorRsW
namespace Go.Proofs.YtboedaofbchdkaaGreatDoor
open Go.ChangeShapes Go.WideShapes Go.ChangeAt Go.RowKit
set_option maxHeartbeats 16000000
set_option linter.unusedVariables false
set_option maxRecDepth 8000
set_option linter.unusedSimpArgs false
section
section
variable {P : Program} {ops : Array Oper} {Q : Exit → Act → World → Prop} {md : Region.Mode} {S : World → Prop} {last : Nat}
theorem wpAnyL_two {i j : Nat} {oi oj : Oper} {fuel : Nat} {listed : Array Bool} {a : Act} {w : World} (hr : Region.ready md ops listed = [i, j]) (hoi : ops[i]? = some oi) (hoj : ops[j]? = some oj)
  (h1 : ∀ K' : Act → World → Prop, Shut (∀ a w, ((listed.setIfInBounds i true).getD last true = false → S w) → wpAnyL P md ops Q S last fuel (listed.setIfInBounds i true) a w → K' a w) → if Region.wanted oi (yielded ops a.tmps) = true then Oper.wp P oi a w K' Q else K' (a.put oi.dst undef) w)
  (h2 : ∀ K' : Act → World → Prop, Shut (∀ a w, ((listed.setIfInBounds j true).getD last true = false → S w) → wpAnyL P md ops Q S last fuel (listed.setIfInBounds j true) a w → K' a w) → if Region.wanted oj (yielded ops a.tmps) = true then Oper.wp P oj a w K' Q else K' (a.put oj.dst undef) w) :
  wpAnyL P md ops Q S last (fuel + 1) listed a w := by
 refine ⟨fun h0 => (by rw [hr] at h0; cases h0), fun k hk => ?_⟩
 rw [hr] at hk
 simp only [List.mem_cons, List.not_mem_nil, or_false] at hk
 rcases hk with rfl | rfl
 · exact wpOp_step hoi (fun K' hK => h1 K' (fun a w hS hW => hK a w ⟨hS, hW⟩))
 · exact wpOp_step hoj (fun K' hK => h2 K' (fun a w hS hW => hK a w ⟨hS, hW⟩))
end
theorem Sm.other {w w' : World} {B g g2 : Nat} {x y y' : Mv} {t : Ms} {st : Int} (h : Sm w B g x t st) (f : Fm w w' g2 y y') (hg : g ≠ g2) (hy : ¬ y.at g) (hx : ∀ b, x.at b → b ≠ g2 ∧ ¬ y.at b) : Sm w' B g x t st :=
 ⟨f.row h.row hg hy, h.own.keepH fun b hb hl => f.blk b hl (hx b hb).1 (hx b hb).2, h.fl, h.lo, h.ne⟩
theorem Sm.lay2 {w : World} {B g C : Nat} {x y : Mv} {t t2 : Ms} {st s2 : Int} (h : Sm w B g x t st) (o : OwnM w C y t2.d) (hf : y.fl = t2.fl s2) (hC : B ≤ C) (hg : g < C) : Sm (w.setRow g y.cs) B g y t2 s2 :=
 ⟨setRow_heap w g _ _ 26 _ h.row, (o.keepH fun k hk _ => setRow_other w g k y.cs (by have := (o.lo hk).1; omega)).base hC, hf, h.lo, fun b hb e => by have := (o.lo hb).1; omega⟩
theorem has_ad {d : Md} (h : d.m.length = 256) (a : Int) : d.has a = adB a := by
 unfold Md.has
 cases hb : adB a
 · rfl
 ·
  have := adB_t hb
  rw [decide_eq_true (by omega)]
  rfl
def LsIs (B g : Nat) (x : Mv) (t t2 : Ms) (s2 : Int) (w : World) : Prop :=
 Calls Tryz.prog 15 #[.pointer (some ⟨g, 0, none⟩)] w fun e w' => ∃ x', e = .returned (.tuple #[]) ∧ Sm w' B g x' t2 s2 ∧ Fm w w' g x x' 
theorem ls_odd (B g : Nat) (x : Mv) (t : Ms) (st : Int) (w : World) (h : Sm w B g x t st) (hk : Dk t.d) (hno : adB (nAt t.d.r 7) = false) : LsIs B g x t t 2 w := by
 have GL := hide (show g < w.heap.size from row_lt h.row)
 have CS := hide (copyS_any x t.d w (h.small hk) h.own.nz h.own.rd)
 have DK := hide hk
 obtain ⟨a0, a1⟩ := hk.rw _ (nAt_mem (show 7 < t.d.r.length by have := hk.rl; omega))
 have RW := hide (fun (y : Mv) v (hy : y.small) (r : RdM v y t.d) => readS_any y t.d (nAt t.d.r 7) v hy r)
 rw [has_ad hk.ml] at RW
 have H0 := hide h
 rw [hno] at RW
 obtain ⟨v7, hv7⟩ : ∃ q, nAt t.d.r 7 = q := ⟨_, rfl⟩
 have V7 := hide hv7
 rw [hv7] at RW a0 a1
 generalize t.d.get v7 = gv at RW
 clear hv7 h hk hno
 unfold LsIs
 go_enter Tryz.func15, Tryz.ntmps15
 go_wp2_with (refine wpList_load_row rfl 26 _ rfl g rfl 26 x.cs (0, 0) _ (uh H0).row Tryz.underlying26 rfl (by kernel_rfl) ?_)
 refine (uh CS).mono ?_
 rintro e w2 ⟨y, rfl, fy, oy, hb⟩
 have YN := hide (fun b (hb : y.at b) => oy.lo hb)
 have SZ := hide (show w.heap.size ≤ w2.heap.size from hb.size)
 have H2 := hide (((uh H0).later hb).later (below_new w2 (.cells y.cs 26)))
 have F2 := hide (hb.trans ((below_new w2 (.cells y.cs 26)).mono hb.size))
 have I2 := hide (show Sm (w2.alloc (.cells y.cs 26)) (w.heap.size + 3) w2.heap.size y t st from ⟨heap_alloc_last w2 _, oy.later (below_new w2 _), fy.trans (uh H0).fl, by by_cases hq : w.heap.size + 3 ≤ w2.heap.size; exact hq; exact absurd (oy.r.form) (fun _ => by
   obtain ⟨gr, rc, er⟩ := sl_formP oy.r (by rw [(uh DK).rl]; omega)
   have := oy.lo (show y.at gr from .inr (.inl (by rw [er]; rfl)))
   omega), fun b hb => by have := (oy.lo hb).2; omega⟩)
 have OX := hide (fun b (k : x.at b) => (show b ≠ w2.heap.size ∧ ¬ y.at b from ⟨by have := ((uh H0).own.lo k).2; have := hb.size; omega, fun q => by have := ((uh H0).own.lo k).2; have := (oy.lo q).1; omega⟩))
 have OG := hide (show g ≠ w2.heap.size ∧ ¬ y.at g from ⟨by have := uh GL; have := hb.size; omega, fun q => by have := uh GL; have := (oy.lo q).1; omega⟩)
 obtain ⟨gr, rc, er⟩ := (uh I2).regs (uh DK).rl
 have ER := hide er
 clear fy oy hb CS er
 go_wp2_with (refine wpList_store_new rfl 26 _ _ rfl y.cs rfl rfl _ (by kernel_rfl) rfl (Mv.cs_one _) ?_)
 have G2 := hide (show ∃ q, w2.heap.size = q ∧ w.heap.size ≤ q from ⟨_, rfl, uh SZ⟩)
 obtain ⟨g2, hg2, zg⟩ := uh G2
 rw [hg2] at I2 OX OG ⊢
 generalize w2.alloc (.cells y.cs 26) = w3 at H2 F2 I2 ⊢
 clear G2 hg2
 have I3 := hide ((uh I2).later (below_drew (w := w3)))
 have H3 := hide ((uh H2).later (below_drew (w := w3)))
 have F3 := hide ((uh F2).trans ((below_drew (w := w3)).mono (uh F2).size))
 have HS := hide (show w3.drew.heap[g2]? = some (.cells y.cs 26 (0, 0)) ∧ w3.drew.cell? ⟨g2, 1, none⟩ = some (.slice (some ⟨gr, 0, none⟩) 8 rc) ∧ w3.drew.cell? ⟨gr, 7, none⟩ = some (.int .i64 v7) from ⟨(uh I3).row, (uh I3).rcell (uh ER), by rw [((uh I3).setR (uh ER) 7 0 (by have := (uh DK).rl; omega)).2.2.1, uh V7]⟩)
 have RWC := hide (uh RW y _ ((uh I3).small (uh DK)) (uh I3).own.rd)
 clear H2 F2 I2 RW
 refine wp_region_last (fun v => v.heap[g2]? = some (.cells y.cs 26 (0, 0)) ∧ v.cell? ⟨g2, 1, none⟩ = some (.slice (some ⟨gr, 0, none⟩) 8 rc) ∧ v.cell? ⟨gr, 7, none⟩ = some (.int .i64 v7)) 10 (by kernel_rfl) ?_
 generalize w3.drew = wd at I3 H3 F3 HS RWC ⊢
 refine tsA 0 (.agg y.cs) rfl (yields_loadQ (by rfl) 26 _ rfl g2 rfl 26 y.cs _ (fun w h => h.1) Tryz.underlying26 rfl (by kernel_rfl)) (uh HS) ?_
 go_simp
 refine twB 1 (.pointer (some ⟨g2, 1, none⟩)) rfl (.inl (uh HS)) ?_
 go_simp
 refine tsA 2 (.slice (some ⟨gr, 0, none⟩) 8 rc) rfl (.inl ⟨by rfl, fun w hc => ?_⟩) (uh HS) ?_
 · obtain ⟨h1, h2, h3⟩ := hc; clear h1; go_simp
 go_simp
 refine twB 3 (.pointer (some ⟨gr, 7, none⟩)) rfl (.inl (uh HS)) ?_
 go_simp
 refine tsA 4 (.int .i64 v7) rfl (.inl ⟨by rfl, fun w hc => ?_⟩) (uh HS) ?_
 · obtain ⟨h1, h2, h3⟩ := hc; clear h1; go_simp
 go_simp
 refine wpAnyL_one (i := 5) (by kernel_rfl) rfl (fun K2 hK => ?_)
 go_simp
 refine (uh RWC).mono ?_
 rintro e w4 ⟨rfl, b4⟩
 have I4 := hide ((uh I3).later b4)
 have H4 := hide ((uh H3).later b4)
 have F4 := hide ((uh F3).trans (b4.mono (uh F3).size))
 have S4 := hide (show w4.heap[g2]? = some (.cells y.cs 26 (0, 0)) ∧ w4.cell? ⟨g2, 1, none⟩ = some (.slice (some ⟨gr, 0, none⟩) 8 rc) ∧ w4.cell? ⟨gr, 7, none⟩ = some (.int .i64 v7) from ⟨(uh I4).row, (uh I4).rcell (uh ER), by rw [((uh I4).setR (uh ER) 7 0 (by have := (uh DK).rl; omega)).2.2.1, uh V7]⟩)
 refine hK.out _ _ (fun _ => uh S4) ?_
 clear hK K2 b4 RWC HS I3 H3 F3
 have HS := hide (uh S4)
 refine twB 6 (.tuple #[.int .i64 gv, .bool false]) rfl (.inl (uh HS)) ?_
 go_simp
 refine twB 7 (.int .i64 gv) rfl (.inl (uh HS)) ?_
 go_simp
 refine twB 8 (.bool false) rfl (.inl (uh HS)) ?_
 go_simp
 refine twB 9 (.int .i64 gv) rfl (.inl (uh HS)) ?_
 go_simp
 refine wpAnyL_one (i := 10) (by kernel_rfl) rfl (fun K2 hK => ?_)
 go_simp
 refine hK.out _ _ (fun h => absurd h (by decide)) ?_
 clear hK K2 HS S4
 refine wpAnyL_done (by kernel_rfl) ?_ _
 have c8 := row_st (uh H4).row
 have e8 := row_fz (uh H4).row 8
 obtain ⟨h9, f9⟩ := (uh H4).setS 2
 have H9 := hide h9
 have F9 := hide ((Fm.of (g := g) (y := x) (uh F4)).trans f9)
 clear h9 f9
 go_wp2
 refine bodyPost_ret (results_none rfl _ _ _) rfl ?_
 first | exact ⟨_, rfl, uh H9, uh F9⟩ | exact ⟨rfl, _, uh H9, uh F9⟩
theorem ls_none (B g : Nat) (x : Mv) (t : Ms) (st : Int) (w : World) (h : Sm w B g x t st) (hk : Dk t.d) (hyes : adB (nAt t.d.r 7) = true) (hno : decOk t.d.m (nAt t.d.r 7 / 2) = false) : LsIs B g x t t 2 w := by
 have GL := hide (show g < w.heap.size from row_lt h.row)
 have CS := hide (copyS_any x t.d w (h.small hk) h.own.nz h.own.rd)
 have DK := hide hk
 obtain ⟨a0, a1⟩ := hk.rw _ (nAt_mem (show 7 < t.d.r.length by have := hk.rl; omega))
 have RW := hide (fun (y : Mv) v (hy : y.small) (r : RdM v y t.d) => readS_any y t.d (nAt t.d.r 7) v hy r)
 rw [has_ad hk.ml] at RW
 have H0 := hide h
 rw [hyes] at RW
 obtain ⟨k, hk2⟩ := Int.eq_ofNat_of_zero_le (show 0 ≤ nAt t.d.r 7 / 2 by omega)
 have HQ := hide (quo2 a0 (by omega) hk2)
 have DE := hide (fun ma mc v (r : RdN v ma t.d.m) => decS_any ma 256 mc t.d.m (k : Int) v hk.ml (by omega) r)
 unfold decV at DE
 rw [hk2] at hno
 rw [hno] at DE
 generalize decN t.d.m (k : Int) = dn at DE
 generalize decIs t.d.m (k : Int) = di at DE
 obtain ⟨op, ⟨sm, sr, sx⟩, ⟨dm, dr, dx⟩, n⟩ := di
 unfold Is.v at DE
 simp only at DE
 obtain ⟨v7, hv7⟩ : ∃ q, nAt t.d.r 7 = q := ⟨_, rfl⟩
 have V7 := hide hv7
 rw [hv7] at RW a0 a1 HQ
 generalize t.d.get v7 = gv at RW
 clear hv7 h hk hno hyes hk2
 unfold LsIs
 go_enter Tryz.func15, Tryz.ntmps15
 go_wp2_with (refine wpList_load_row rfl 26 _ rfl g rfl 26 x.cs (0, 0) _ (uh H0).row Tryz.underlying26 rfl (by kernel_rfl) ?_)
 refine (uh CS).mono ?_
 rintro e w2 ⟨y, rfl, fy, oy, hb⟩
 have YN := hide (fun b (hb : y.at b) => oy.lo hb)
 have SZ := hide (show w.heap.size ≤ w2.heap.size from hb.size)
 have H2 := hide (((uh H0).later hb).later (below_new w2 (.cells y.cs 26)))
 have F2 := hide (hb.trans ((below_new w2 (.cells y.cs 26)).mono hb.size))
 have I2 := hide (show Sm (w2.alloc (.cells y.cs 26)) (w.heap.size + 3) w2.heap.size y t st from ⟨heap_alloc_last w2 _, oy.later (below_new w2 _), fy.trans (uh H0).fl, by by_cases hq : w.heap.size + 3 ≤ w2.heap.size; exact hq; exact absurd (oy.r.form) (fun _ => by
   obtain ⟨gr, rc, er⟩ := sl_formP oy.r (by rw [(uh DK).rl]; omega)
   have := oy.lo (show y.at gr from .inr (.inl (by rw [er]; rfl)))
   omega), fun b hb => by have := (oy.lo hb).2; omega⟩)
 have OX := hide (fun b (k : x.at b) => (show b ≠ w2.heap.size ∧ ¬ y.at b from ⟨by have := ((uh H0).own.lo k).2; have := hb.size; omega, fun q => by have := ((uh H0).own.lo k).2; have := (oy.lo q).1; omega⟩))
 have OG := hide (show g ≠ w2.heap.size ∧ ¬ y.at g from ⟨by have := uh GL; have := hb.size; omega, fun q => by have := uh GL; have := (oy.lo q).1; omega⟩)
 obtain ⟨gr, rc, er⟩ := (uh I2).regs (uh DK).rl
 have ER := hide er
 clear fy oy hb CS er
 go_wp2_with (refine wpList_store_new rfl 26 _ _ rfl y.cs rfl rfl _ (by kernel_rfl) rfl (Mv.cs_one _) ?_)
 have G2 := hide (show ∃ q, w2.heap.size = q ∧ w.heap.size ≤ q from ⟨_, rfl, uh SZ⟩)
 obtain ⟨g2, hg2, zg⟩ := uh G2
 rw [hg2] at I2 OX OG ⊢
 generalize w2.alloc (.cells y.cs 26) = w3 at H2 F2 I2 ⊢
 clear G2 hg2
 have I3 := hide ((uh I2).later (below_drew (w := w3)))
 have H3 := hide ((uh H2).later (below_drew (w := w3)))
 have F3 := hide ((uh F2).trans ((below_drew (w := w3)).mono (uh F2).size))
 have HS := hide (show w3.drew.heap[g2]? = some (.cells y.cs 26 (0, 0)) ∧ w3.drew.cell? ⟨g2, 1, none⟩ = some (.slice (some ⟨gr, 0, none⟩) 8 rc) ∧ w3.drew.cell? ⟨gr, 7, none⟩ = some (.int .i64 v7) from ⟨(uh I3).row, (uh I3).rcell (uh ER), by rw [((uh I3).setR (uh ER) 7 0 (by have := (uh DK).rl; omega)).2.2.1, uh V7]⟩)
 have RWC := hide (uh RW y _ ((uh I3).small (uh DK)) (uh I3).own.rd)
 clear H2 F2 I2 RW
 refine wp_region_last (fun v => v.heap[g2]? = some (.cells y.cs 26 (0, 0)) ∧ v.cell? ⟨g2, 1, none⟩ = some (.slice (some ⟨gr, 0, none⟩) 8 rc) ∧ v.cell? ⟨gr, 7, none⟩ = some (.int .i64 v7)) 10 (by kernel_rfl) ?_
 generalize w3.drew = wd at I3 H3 F3 HS RWC ⊢
 refine tsA 0 (.agg y.cs) rfl (yields_loadQ (by rfl) 26 _ rfl g2 rfl 26 y.cs _ (fun w h => h.1) Tryz.underlying26 rfl (by kernel_rfl)) (uh HS) ?_
 go_simp
 refine twB 1 (.pointer (some ⟨g2, 1, none⟩)) rfl (.inl (uh HS)) ?_
 go_simp
 refine tsA 2 (.slice (some ⟨gr, 0, none⟩) 8 rc) rfl (.inl ⟨by rfl, fun w hc => ?_⟩) (uh HS) ?_
 · obtain ⟨h1, h2, h3⟩ := hc; clear h1; go_simp
 go_simp
 refine twB 3 (.pointer (some ⟨gr, 7, none⟩)) rfl (.inl (uh HS)) ?_
 go_simp
 refine tsA 4 (.int .i64 v7) rfl (.inl ⟨by rfl, fun w hc => ?_⟩) (uh HS) ?_
 · obtain ⟨h1, h2, h3⟩ := hc; clear h1; go_simp
 go_simp
 refine wpAnyL_one (i := 5) (by kernel_rfl) rfl (fun K2 hK => ?_)
 go_simp
 refine (uh RWC).mono ?_
 rintro e w4 ⟨rfl, b4⟩
 have I4 := hide ((uh I3).later b4)
 have H4 := hide ((uh H3).later b4)
 have F4 := hide ((uh F3).trans (b4.mono (uh F3).size))
 have S4 := hide (show w4.heap[g2]? = some (.cells y.cs 26 (0, 0)) ∧ w4.cell? ⟨g2, 1, none⟩ = some (.slice (some ⟨gr, 0, none⟩) 8 rc) ∧ w4.cell? ⟨gr, 7, none⟩ = some (.int .i64 v7) from ⟨(uh I4).row, (uh I4).rcell (uh ER), by rw [((uh I4).setR (uh ER) 7 0 (by have := (uh DK).rl; omega)).2.2.1, uh V7]⟩)
 refine hK.out _ _ (fun _ => uh S4) ?_
 clear hK K2 b4 RWC HS I3 H3 F3
 have HS := hide (uh S4)
 refine twB 6 (.tuple #[.int .i64 gv, .bool true]) rfl (.inl (uh HS)) ?_
 go_simp
 refine twB 7 (.int .i64 gv) rfl (.inl (uh HS)) ?_
 go_simp
 refine twB 8 (.bool true) rfl (.inl (uh HS)) ?_
 go_simp
 refine twB 9 (.int .i64 gv) rfl (.inl (uh HS)) ?_
 go_simp
 refine wpAnyL_one (i := 10) (by kernel_rfl) rfl (fun K2 hK => ?_)
 go_simp
 refine hK.out _ _ (fun h => absurd h (by decide)) ?_
 clear hK K2 HS S4
 refine wpAnyL_done (by kernel_rfl) ?_ _
 have MF := hide (show ∃ ma mc, y.m = ⟨ma, 256, mc⟩ from ⟨y.m.a, y.m.c, by have q := (uh I4).own.m.len; rw [(uh DK).ml] at q; rw [q]⟩)
 obtain ⟨ma, mc, em⟩ := uh MF
 have EM := hide em
 have LB := hide (show B ≤ w.heap.size from Nat.le_of_lt (Nat.lt_of_le_of_lt (uh H0).lo (uh GL)))
 have I5 := hide ((uh I4).later (below_drew (w := w4)))
 have H5 := hide ((uh H4).later (below_drew (w := w4)))
 have F5 := hide ((uh F4).trans ((below_drew (w := w4)).mono (uh F4).size))
 have SS := hide (show ∀ v, Sm v (w.heap.size + 3) g2 y t st → (v.cell? ⟨g2, 0, none⟩ = some (.slice ma 256 mc) ∧ v.cell? ⟨g2, 1, none⟩ = some (.slice (some ⟨gr, 0, none⟩) 8 rc) ∧ v.cell? ⟨gr, 7, none⟩ = some (.int .i64 v7)) from fun v i => ⟨by rw [row_m i.row, em], i.rcell (uh ER), by rw [(i.setR (uh ER) 7 0 (by have := (uh DK).rl; omega)).2.2.1, uh V7]⟩)
 have HS := hide (uh SS _ (uh I5))
 have DEC := hide (fun v (i : Sm v (w.heap.size + 3) g2 y t st) => uh DE ma mc v (by have q := i.own.rd.m; rw [em] at q; exact q))
 clear I4 H4 F4 em MF DE
 go_wp2_with fail
 refine wp_region_last (fun v => v.cell? ⟨g2, 0, none⟩ = some (.slice ma 256 mc) ∧ v.cell? ⟨g2, 1, none⟩ = some (.slice (some ⟨gr, 0, none⟩) 8 rc) ∧ v.cell? ⟨gr, 7, none⟩ = some (.int .i64 v7)) 15 (by kernel_rfl) ?_
 generalize w4.drew = wd at I5 H5 F5 HS ⊢
 refine twB 0 (.pointer (some ⟨g2, 0, none⟩)) rfl (.inl (uh HS)) ?_
 go_simp
 refine tsA 1 (.slice ma 256 mc) rfl (.inl ⟨by rfl, fun w hc => ?_⟩) (uh HS) ?_
 · obtain ⟨h1, h2, h3⟩ := hc; go_simp
 go_simp
 refine twB 2 (.pointer (some ⟨g2, 1, none⟩)) rfl (.inl (uh HS)) ?_
 go_simp
 refine tsA 3 (.slice (some ⟨gr, 0, none⟩) 8 rc) rfl (.inl ⟨by rfl, fun w hc => ?_⟩) (uh HS) ?_
 · obtain ⟨h1, h2, h3⟩ := hc; go_simp
 go_simp
 refine twB 4 (.pointer (some ⟨gr, 7, none⟩)) rfl (.inl (uh HS)) ?_
 go_simp
 refine tsA 5 (.int .i64 v7) rfl (.inl ⟨by rfl, fun w hc => ?_⟩) (uh HS) ?_
 · obtain ⟨h1, h2, h3⟩ := hc; go_simp
 go_simp
 refine twA 6 (.int .i64 (k : Int)) rfl (.inl ⟨by rfl, fun w hc => ?_⟩) (.inl (uh HS)) ?_
 · clear hc; have hq2 := uh HQ; go_simp
 go_simp
 refine wpAnyL_two (i := 7) (j := 12) (by kernel_rfl) rfl rfl (fun K2 hK => ?_) (fun K2 hK => ?_)
 ·
  go_simp
  refine (uh DEC _ (uh I5)).mono ?_
  rintro e w5 ⟨rfl, b5⟩
  have I6 := hide ((uh I5).later b5)
  have H6 := hide ((uh H5).later b5)
  have F6 := hide ((uh F5).trans (b5.mono (uh F5).size))
  refine hK.out _ _ (fun _ => uh SS _ (uh I6)) ?_
  clear hK K2 b5 HS I5 H5 F5 DEC
  have HS := hide (uh SS _ (uh I6))
  refine twB 8 (.tuple #[.agg #[.int .i64 op, .int .i64 sm, .int .i64 sr, .int .i64 sx, .int .i64 dm, .int .i64 dr, .int .i64 dx, .int .i64 n], .int .i64 dn, .bool false]) rfl (.inl (uh HS)) ?_
  go_simp
  refine twB 9 (.agg #[.int .i64 op, .int .i64 sm, .int .i64 sr, .int .i64 sx, .int .i64 dm, .int .i64 dr, .int .i64 dx, .int .i64 n]) rfl (.inl (uh HS)) ?_
  go_simp
  refine twB 10 (.int .i64 dn) rfl (.inl (uh HS)) ?_
  go_simp
  refine twB 11 (.bool false) rfl (.inl (uh HS)) ?_
  go_simp
  refine wpAnyL_one (i := 12) (by kernel_rfl) rfl (fun K2 hK => ?_)
  go_simp
  have I7 := hide ((uh I6).later (below_new w5 (Obj.cells #[.int .i64 0, .int .i64 0, .int .i64 0, .int .i64 0, .int .i64 0, .int .i64 0, .int .i64 0, .int .i64 0] 48)))
  have H7 := hide ((uh H6).later (below_new w5 (Obj.cells #[.int .i64 0, .int .i64 0, .int .i64 0, .int .i64 0, .int .i64 0, .int .i64 0, .int .i64 0, .int .i64 0] 48)))
  have F7 := hide ((uh F6).trans ((below_new w5 (Obj.cells #[.int .i64 0, .int .i64 0, .int .i64 0, .int .i64 0, .int .i64 0, .int .i64 0, .int .i64 0, .int .i64 0] 48)).mono (uh F6).size))
  have R7 := hide (heap_alloc_last w5 (Obj.cells #[.int .i64 0, .int .i64 0, .int .i64 0, .int .i64 0, .int .i64 0, .int .i64 0, .int .i64 0, .int .i64 0] 48))
  have BN := hide (show w5.heap.size ≠ g2 ∧ ¬ y.at w5.heap.size from ⟨by have := row_lt (uh I6).row; omega, fun q => by have := ((uh I6).own.lo q).2; omega⟩)
  have BG := hide (show w5.heap.size ≠ g ∧ ¬ x.at w5.heap.size ∧ w.heap.size ≤ w5.heap.size from ⟨by have := row_lt (uh H6).row; omega, fun q => by have := ((uh H6).own.lo q).2; omega, (uh F6).size⟩)
  refine hK.out _ _ (fun _ => uh SS _ (uh I7)) ?_
  clear hK K2 HS I6 H6 F6
  have HS := hide (uh SS _ (uh I7))
  generalize w5.alloc (Obj.cells #[.int .i64 0, .int .i64 0, .int .i64 0, .int .i64 0, .int .i64 0, .int .i64 0, .int .i64 0, .int .i64 0] 48) = w6 at I7 H7 F7 R7 HS ⊢
  generalize w5.heap.size = ib at R7 BN BG ⊢
  refine wpAnyL_one (i := 13) (by kernel_rfl) rfl (fun K2 hK => ?_)
  rw [if_pos (by rfl)]
  refine wp_store_row 48 _ _ rfl ib #[.int .i64 op, .int .i64 sm, .int .i64 sr, .int .i64 sx, .int .i64 dm, .int .i64 dr, .int .i64 dx, .int .i64 n] rfl rfl 48 _ (uh R7) (by kernel_rfl) rfl (by simp [Value.oneCell']) ?_
  have I8 := hide ((uh I7).lay ib #[.int .i64 op, .int .i64 sm, .int .i64 sr, .int .i64 sx, .int .i64 dm, .int .i64 dr, .int .i64 dx, .int .i64 n] (fun e => (uh BN).1 e.symm) (fun b hb e => (uh BN).2 (e ▸ hb)))
  have H8 := hide ((uh H7).lay ib #[.int .i64 op, .int .i64 sm, .int .i64 sr, .int .i64 sx, .int .i64 dm, .int .i64 dr, .int .i64 dx, .int .i64 n] (fun e => (uh BG).1 e.symm) (fun b hb e => (uh BG).2.1 (e ▸ hb)))
  have F8 := hide (below_setRow (g := ib) (uh F7) (uh BG).2.2 #[.int .i64 op, .int .i64 sm, .int .i64 sr, .int .i64 sx, .int .i64 dm, .int .i64 dr, .int .i64 dx, .int .i64 n])
  have R8 := hide (setRow_heap w6 ib _ #[.int .i64 op, .int .i64 sm, .int .i64 sr, .int .i64 sx, .int .i64 dm, .int .i64 dr, .int .i64 dx, .int .i64 n] 48 _ (uh R7))
  refine hK.out _ _ (fun _ => uh SS _ (uh I8)) ?_
  clear hK K2 HS I7 H7 F7 R7
  have HS := hide (uh SS _ (uh I8))
  generalize w6.setRow ib #[.int .i64 op, .int .i64 sm, .int .i64 sr, .int .i64 sx, .int .i64 dm, .int .i64 dr, .int .i64 dx, .int .i64 n] = w7 at I8 H8 F8 R8 HS ⊢
  refine twB 14 (.int .i64 dn) rfl (.inl (uh HS)) ?_
  go_simp
  refine wpAnyL_one (i := 15) (by kernel_rfl) rfl (fun K2 hK => ?_)
  go_simp
  refine hK.out _ _ (fun h => absurd h (by decide)) ?_
  clear hK K2 HS SS
  refine wpAnyL_done (by kernel_rfl) ?_ _
  have I7 := hide (uh I8)
  have H7 := hide (uh H8)
  have F7 := hide (uh F8)
  have R7 := hide (uh R8)
  clear I8 H8 F8 R8
  have c8 := row_st (uh H7).row
  have e8 := row_fz (uh H7).row 8
  obtain ⟨h9, f9⟩ := (uh H7).setS 2
  have H9 := hide h9
  have F9 := hide ((Fm.of (g := g) (y := x) (uh F7)).trans f9)
  clear h9 f9
  go_wp2
  refine bodyPost_ret (results_none rfl _ _ _) rfl ?_
  first | exact ⟨_, rfl, uh H9, uh F9⟩ | exact ⟨rfl, _, uh H9, uh F9⟩
 ·
  go_simp
  have I6 := hide ((uh I5).later (below_new wd (Obj.cells #[.int .i64 0, .int .i64 0, .int .i64 0, .int .i64 0, .int .i64 0, .int .i64 0, .int .i64 0, .int .i64 0] 48)))
  have H6 := hide ((uh H5).later (below_new wd (Obj.cells #[.int .i64 0, .int .i64 0, .int .i64 0, .int .i64 0, .int .i64 0, .int .i64 0, .int .i64 0, .int .i64 0] 48)))
  have F6 := hide ((uh F5).trans ((below_new wd (Obj.cells #[.int .i64 0, .int .i64 0, .int .i64 0, .int .i64 0, .int .i64 0, .int .i64 0, .int .i64 0, .int .i64 0] 48)).mono (uh F5).size))
  have R6 := hide (heap_alloc_last wd (Obj.cells #[.int .i64 0, .int .i64 0, .int .i64 0, .int .i64 0, .int .i64 0, .int .i64 0, .int .i64 0, .int .i64 0] 48))
  have BN := hide (show wd.heap.size ≠ g2 ∧ ¬ y.at wd.heap.size from ⟨by have := row_lt (uh I5).row; omega, fun q => by have := ((uh I5).own.lo q).2; omega⟩)
  have BG := hide (show wd.heap.size ≠ g ∧ ¬ x.at wd.heap.size ∧ w.heap.size ≤ wd.heap.size from ⟨by have := row_lt (uh H5).row; omega, fun q => by have := ((uh H5).own.lo q).2; omega, (uh F5).size⟩)
  refine hK.out _ _ (fun _ => uh SS _ (uh I6)) ?_
  clear hK K2 HS I5 H5 F5
  have HS := hide (uh SS _ (uh I6))
  generalize wd.alloc (Obj.cells #[.int .i64 0, .int .i64 0, .int .i64 0, .int .i64 0, .int .i64 0, .int .i64 0, .int .i64 0, .int .i64 0] 48) = we at I6 H6 F6 R6 HS ⊢
  generalize wd.heap.size = ib at R6 BN BG ⊢
  refine wpAnyL_one (i := 7) (by kernel_rfl) rfl (fun K2 hK => ?_)
  go_simp
  refine (uh DEC _ (uh I6)).mono ?_
  rintro e w6 ⟨rfl, b5⟩
  have I7 := hide ((uh I6).later b5)
  have H7 := hide ((uh H6).later b5)
  have F7 := hide ((uh F6).trans (b5.mono (uh F6).size))
  have R7 := hide (row_lat (uh R6) b5)
  refine hK.out _ _ (fun _ => uh SS _ (uh I7)) ?_
  clear hK K2 b5 HS I6 H6 F6 R6 DEC
  have HS := hide (uh SS _ (uh I7))
  refine twB 8 (.tuple #[.agg #[.int .i64 op, .int .i64 sm, .int .i64 sr, .int .i64 sx, .int .i64 dm, .int .i64 dr, .int .i64 dx, .int .i64 n], .int .i64 dn, .bool false]) rfl (.inl (uh HS)) ?_
  go_simp
  refine twB 9 (.agg #[.int .i64 op, .int .i64 sm, .int .i64 sr, .int .i64 sx, .int .i64 dm, .int .i64 dr, .int .i64 dx, .int .i64 n]) rfl (.inl (uh HS)) ?_
  go_simp
  refine twB 10 (.int .i64 dn) rfl (.inl (uh HS)) ?_
  go_simp
  refine twB 11 (.bool false) rfl (.inl (uh HS)) ?_
  go_simp
  refine wpAnyL_one (i := 13) (by kernel_rfl) rfl (fun K2 hK => ?_)
  rw [if_pos (by rfl)]
  refine wp_store_row 48 _ _ rfl ib #[.int .i64 op, .int .i64 sm, .int .i64 sr, .int .i64 sx, .int .i64 dm, .int .i64 dr, .int .i64 dx, .int .i64 n] rfl rfl 48 _ (uh R7) (by kernel_rfl) rfl (by simp [Value.oneCell']) ?_
  have I8 := hide ((uh I7).lay ib #[.int .i64 op, .int .i64 sm, .int .i64 sr, .int .i64 sx, .int .i64 dm, .int .i64 dr, .int .i64 dx, .int .i64 n] (fun e => (uh BN).1 e.symm) (fun b hb e => (uh BN).2 (e ▸ hb)))
  have H8 := hide ((uh H7).lay ib #[.int .i64 op, .int .i64 sm, .int .i64 sr, .int .i64 sx, .int .i64 dm, .int .i64 dr, .int .i64 dx, .int .i64 n] (fun e => (uh BG).1 e.symm) (fun b hb e => (uh BG).2.1 (e ▸ hb)))
  have F8 := hide (below_setRow (g := ib) (uh F7) (uh BG).2.2 #[.int .i64 op, .int .i64 sm, .int .i64 sr, .int .i64 sx, .int .i64 dm, .int .i64 dr, .int .i64 dx, .int .i64 n])
  have R8 := hide (setRow_heap w6 ib _ #[.int .i64 op, .int .i64 sm, .int .i64 sr, .int .i64 sx, .int .i64 dm, .int .i64 dr, .int .i64 dx, .int .i64 n] 48 _ (uh R7))
  refine hK.out _ _ (fun _ => uh SS _ (uh I8)) ?_
  clear hK K2 HS I7 H7 F7 R7
  have HS := hide (uh SS _ (uh I8))
  generalize w6.setRow ib #[.int .i64 op, .int .i64 sm, .int .i64 sr, .int .i64 sx, .int .i64 dm, .int .i64 dr, .int .i64 dx, .int .i64 n] = w7 at I8 H8 F8 R8 HS ⊢
  refine twB 14 (.int .i64 dn) rfl (.inl (uh HS)) ?_
  go_simp
  refine wpAnyL_one (i := 15) (by kernel_rfl) rfl (fun K2 hK => ?_)
  go_simp
  refine hK.out _ _ (fun h => absurd h (by decide)) ?_
  clear hK K2 HS SS
  refine wpAnyL_done (by kernel_rfl) ?_ _
  have I7 := hide (uh I8)
  have H7 := hide (uh H8)
  have F7 := hide (uh F8)
  have R7 := hide (uh R8)
  clear I8 H8 F8 R8
  have c8 := row_st (uh H7).row
  have e8 := row_fz (uh H7).row 8
  obtain ⟨h9, f9⟩ := (uh H7).setS 2
  have H9 := hide h9
  have F9 := hide ((Fm.of (g := g) (y := x) (uh F7)).trans f9)
  clear h9 f9
  go_wp2
  refine bodyPost_ret (results_none rfl _ _ _) rfl ?_
  first | exact ⟨_, rfl, uh H9, uh F9⟩ | exact ⟨rfl, _, uh H9, uh F9⟩
theorem ls_do (B g : Nat) (x : Mv) (t : Ms) (st : Int) (w : World) (h : Sm w B g x t st) (hk : Dk t.d) (hyes : adB (nAt t.d.r 7) = true) (hok : decOk t.d.m (nAt t.d.r 7 / 2) = true) (op sm sr dm dr : Nat) (sx dx n : Int) (hx : t.ins = ⟨op, ⟨sm, sr, sx⟩, ⟨dm, dr, dx⟩, n⟩) (hi : InsN op sm sr dm dr n) :
  LsIs B g x t (if t.nxt.doB op sm sr dm dr n = true then t.nxt.dos op sm sr dm dr n else t) (if t.nxt.doB op sm sr dm dr n = true then doS op st else 2) w := by
 have GL := hide (show g < w.heap.size from row_lt h.row)
 have CS := hide (copyS_any x t.d w (h.small hk) h.own.nz h.own.rd)
 have DK := hide hk
 obtain ⟨a0, a1⟩ := hk.rw _ (nAt_mem (show 7 < t.d.r.length by have := hk.rl; omega))
 have RW := hide (fun (y : Mv) v (hy : y.small) (r : RdM v y t.d) => readS_any y t.d (nAt t.d.r 7) v hy r)
 rw [has_ad hk.ml] at RW
 have H0 := hide h
 rw [hyes] at RW
 obtain ⟨k, hk2⟩ := Int.eq_ofNat_of_zero_le (show 0 ≤ nAt t.d.r 7 / 2 by omega)
 have HQ := hide (quo2 a0 (by omega) hk2)
 have DE := hide (fun ma mc v (r : RdN v ma t.d.m) => decS_any ma 256 mc t.d.m (k : Int) v hk.ml (by omega) r)
 unfold decV at DE
 unfold Ms.ins at hx
 rw [hk2] at hok hx
 have hdi : decIs t.d.m (k : Int) = ⟨op, ⟨sm, sr, sx⟩, ⟨dm, dr, dx⟩, n⟩ := by unfold decIs; rw [if_pos hok]; exact hx
 rw [hok, hdi] at DE
 generalize decN t.d.m (k : Int) = dn at DE
 unfold Is.v at DE
 simp only at DE
 have KN := hide (show Dk t.nxt.d from hk.regS _ _)
 have DO := hide (fun g2 (y : Mv) v (i : Sm v (w.heap.size + 3) g2 y t.nxt st) => ds_any (w.heap.size + 3) g2 op sm sr dm dr sx dx n y t.nxt st v i (uh KN) hi)
 unfold DsIs DsE at DO
 obtain ⟨v7, hv7⟩ : ∃ q, nAt t.d.r 7 = q := ⟨_, rfl⟩
 have V7 := hide hv7
 rw [hv7] at RW a0 a1 HQ
 generalize t.d.get v7 = gv at RW
 unfold LsIs
 generalize t.nxt.doB op sm sr dm dr n = okd at DO ⊢
 generalize t.nxt.dos op sm sr dm dr n = t2 at DO ⊢
 generalize doS op st = st2 at DO ⊢
 clear hv7 h hk hok hyes hk2 hdi hx KN
 go_enter Tryz.func15, Tryz.ntmps15
 go_wp2_with (refine wpList_load_row rfl 26 _ rfl g rfl 26 x.cs (0, 0) _ (uh H0).row Tryz.underlying26 rfl (by kernel_rfl) ?_)
 refine (uh CS).mono ?_
 rintro e w2 ⟨y, rfl, fy, oy, hb⟩
 have YN := hide (fun b (hb : y.at b) => oy.lo hb)
 have SZ := hide (show w.heap.size ≤ w2.heap.size from hb.size)
 have H2 := hide (((uh H0).later hb).later (below_new w2 (.cells y.cs 26)))
 have F2 := hide (hb.trans ((below_new w2 (.cells y.cs 26)).mono hb.size))
 have I2 := hide (show Sm (w2.alloc (.cells y.cs 26)) (w.heap.size + 3) w2.heap.size y t st from ⟨heap_alloc_last w2 _, oy.later (below_new w2 _), fy.trans (uh H0).fl, by by_cases hq : w.heap.size + 3 ≤ w2.heap.size; exact hq; exact absurd (oy.r.form) (fun _ => by
   obtain ⟨gr, rc, er⟩ := sl_formP oy.r (by rw [(uh DK).rl]; omega)
   have := oy.lo (show y.at gr from .inr (.inl (by rw [er]; rfl)))
   omega), fun b hb => by have := (oy.lo hb).2; omega⟩)
 have OX := hide (fun b (k : x.at b) => (show b ≠ w2.heap.size ∧ ¬ y.at b from ⟨by have := ((uh H0).own.lo k).2; have := hb.size; omega, fun q => by have := ((uh H0).own.lo k).2; have := (oy.lo q).1; omega⟩))
 have OG := hide (show g ≠ w2.heap.size ∧ ¬ y.at g from ⟨by have := uh GL; have := hb.size; omega, fun q => by have := uh GL; have := (oy.lo q).1; omega⟩)
 obtain ⟨gr, rc, er⟩ := (uh I2).regs (uh DK).rl
 have ER := hide er
 clear fy oy hb CS er
 go_wp2_with (refine wpList_store_new rfl 26 _ _ rfl y.cs rfl rfl _ (by kernel_rfl) rfl (Mv.cs_one _) ?_)
 have G2 := hide (show ∃ q, w2.heap.size = q ∧ w.heap.size ≤ q from ⟨_, rfl, uh SZ⟩)
 obtain ⟨g2, hg2, zg⟩ := uh G2
 rw [hg2] at I2 OX OG ⊢
 generalize w2.alloc (.cells y.cs 26) = w3 at H2 F2 I2 ⊢
 clear G2 hg2
 have I3 := hide ((uh I2).later (below_drew (w := w3)))
 have H3 := hide ((uh H2).later (below_drew (w := w3)))
 have F3 := hide ((uh F2).trans ((below_drew (w := w3)).mono (uh F2).size))
 have HS := hide (show w3.drew.heap[g2]? = some (.cells y.cs 26 (0, 0)) ∧ w3.drew.cell? ⟨g2, 1, none⟩ = some (.slice (some ⟨gr, 0, none⟩) 8 rc) ∧ w3.drew.cell? ⟨gr, 7, none⟩ = some (.int .i64 v7) from ⟨(uh I3).row, (uh I3).rcell (uh ER), by rw [((uh I3).setR (uh ER) 7 0 (by have := (uh DK).rl; omega)).2.2.1, uh V7]⟩)
 have RWC := hide (uh RW y _ ((uh I3).small (uh DK)) (uh I3).own.rd)
 clear H2 F2 I2 RW
 refine wp_region_last (fun v => v.heap[g2]? = some (.cells y.cs 26 (0, 0)) ∧ v.cell? ⟨g2, 1, none⟩ = some (.slice (some ⟨gr, 0, none⟩) 8 rc) ∧ v.cell? ⟨gr, 7, none⟩ = some (.int .i64 v7)) 10 (by kernel_rfl) ?_
 generalize w3.drew = wd at I3 H3 F3 HS RWC ⊢
 refine tsA 0 (.agg y.cs) rfl (yields_loadQ (by rfl) 26 _ rfl g2 rfl 26 y.cs _ (fun w h => h.1) Tryz.underlying26 rfl (by kernel_rfl)) (uh HS) ?_
 go_simp
 refine twB 1 (.pointer (some ⟨g2, 1, none⟩)) rfl (.inl (uh HS)) ?_
 go_simp
 refine tsA 2 (.slice (some ⟨gr, 0, none⟩) 8 rc) rfl (.inl ⟨by rfl, fun w hc => ?_⟩) (uh HS) ?_
 · obtain ⟨h1, h2, h3⟩ := hc; clear h1; go_simp
 go_simp
 refine twB 3 (.pointer (some ⟨gr, 7, none⟩)) rfl (.inl (uh HS)) ?_
 go_simp
 refine tsA 4 (.int .i64 v7) rfl (.inl ⟨by rfl, fun w hc => ?_⟩) (uh HS) ?_
 · obtain ⟨h1, h2, h3⟩ := hc; clear h1; go_simp
 go_simp
 refine wpAnyL_one (i := 5) (by kernel_rfl) rfl (fun K2 hK => ?_)
 go_simp
 refine (uh RWC).mono ?_
 rintro e w4 ⟨rfl, b4⟩
 have I4 := hide ((uh I3).later b4)
 have H4 := hide ((uh H3).later b4)
 have F4 := hide ((uh F3).trans (b4.mono (uh F3).size))
 have S4 := hide (show w4.heap[g2]? = some (.cells y.cs 26 (0, 0)) ∧ w4.cell? ⟨g2, 1, none⟩ = some (.slice (some ⟨gr, 0, none⟩) 8 rc) ∧ w4.cell? ⟨gr, 7, none⟩ = some (.int .i64 v7) from ⟨(uh I4).row, (uh I4).rcell (uh ER), by rw [((uh I4).setR (uh ER) 7 0 (by have := (uh DK).rl; omega)).2.2.1, uh V7]⟩)
 refine hK.out _ _ (fun _ => uh S4) ?_
 clear hK K2 b4 RWC HS I3 H3 F3
 have HS := hide (uh S4)
 refine twB 6 (.tuple #[.int .i64 gv, .bool true]) rfl (.inl (uh HS)) ?_
 go_simp
 refine twB 7 (.int .i64 gv) rfl (.inl (uh HS)) ?_
 go_simp
 refine twB 8 (.bool true) rfl (.inl (uh HS)) ?_
 go_simp
 refine twB 9 (.int .i64 gv) rfl (.inl (uh HS)) ?_
 go_simp
 refine wpAnyL_one (i := 10) (by kernel_rfl) rfl (fun K2 hK => ?_)
 go_simp
 refine hK.out _ _ (fun h => absurd h (by decide)) ?_
 clear hK K2 HS S4
 refine wpAnyL_done (by kernel_rfl) ?_ _
 have DO2 := hide (uh DO g2 y)
 clear DO
 have DO := hide (uh DO2)
 clear DO2
 have MF := hide (show ∃ ma mc, y.m = ⟨ma, 256, mc⟩ from ⟨y.m.a, y.m.c, by have q := (uh I4).own.m.len; rw [(uh DK).ml] at q; rw [q]⟩)
 obtain ⟨ma, mc, em⟩ := uh MF
 have EM := hide em
 have LB := hide (show B ≤ w.heap.size from Nat.le_of_lt (Nat.lt_of_le_of_lt (uh H0).lo (uh GL)))
 have I5 := hide ((uh I4).later (below_drew (w := w4)))
 have H5 := hide ((uh H4).later (below_drew (w := w4)))
 have F5 := hide ((uh F4).trans ((below_drew (w := w4)).mono (uh F4).size))
 have SS := hide (show ∀ v, Sm v (w.heap.size + 3) g2 y t st → (v.cell? ⟨g2, 0, none⟩ = some (.slice ma 256 mc) ∧ v.cell? ⟨g2, 1, none⟩ = some (.slice (some ⟨gr, 0, none⟩) 8 rc) ∧ v.cell? ⟨gr, 7, none⟩ = some (.int .i64 v7)) from fun v i => ⟨by rw [row_m i.row, em], i.rcell (uh ER), by rw [(i.setR (uh ER) 7 0 (by have := (uh DK).rl; omega)).2.2.1, uh V7]⟩)
 have HS := hide (uh SS _ (uh I5))
 have DEC := hide (fun v (i : Sm v (w.heap.size + 3) g2 y t st) => uh DE ma mc v (by have q := i.own.rd.m; rw [em] at q; exact q))
 clear I4 H4 F4 em MF DE
 go_wp2_with fail
 refine wp_region_last (fun v => v.cell? ⟨g2, 0, none⟩ = some (.slice ma 256 mc) ∧ v.cell? ⟨g2, 1, none⟩ = some (.slice (some ⟨gr, 0, none⟩) 8 rc) ∧ v.cell? ⟨gr, 7, none⟩ = some (.int .i64 v7)) 15 (by kernel_rfl) ?_
 generalize w4.drew = wd at I5 H5 F5 HS ⊢
 refine twB 0 (.pointer (some ⟨g2, 0, none⟩)) rfl (.inl (uh HS)) ?_
 go_simp
 refine tsA 1 (.slice ma 256 mc) rfl (.inl ⟨by rfl, fun w hc => ?_⟩) (uh HS) ?_
 · obtain ⟨h1, h2, h3⟩ := hc; go_simp
 go_simp
 refine twB 2 (.pointer (some ⟨g2, 1, none⟩)) rfl (.inl (uh HS)) ?_
 go_simp
 refine tsA 3 (.slice (some ⟨gr, 0, none⟩) 8 rc) rfl (.inl ⟨by rfl, fun w hc => ?_⟩) (uh HS) ?_
 · obtain ⟨h1, h2, h3⟩ := hc; go_simp
 go_simp
 refine twB 4 (.pointer (some ⟨gr, 7, none⟩)) rfl (.inl (uh HS)) ?_
 go_simp
 refine tsA 5 (.int .i64 v7) rfl (.inl ⟨by rfl, fun w hc => ?_⟩) (uh HS) ?_
 · obtain ⟨h1, h2, h3⟩ := hc; go_simp
 go_simp
 refine twA 6 (.int .i64 (k : Int)) rfl (.inl ⟨by rfl, fun w hc => ?_⟩) (.inl (uh HS)) ?_
 · clear hc; have hq2 := uh HQ; go_simp
 go_simp
 refine wpAnyL_two (i := 7) (j := 12) (by kernel_rfl) rfl rfl (fun K2 hK => ?_) (fun K2 hK => ?_)
 ·
  go_simp
  refine (uh DEC _ (uh I5)).mono ?_
  rintro e w5 ⟨rfl, b5⟩
  have I6 := hide ((uh I5).later b5)
  have H6 := hide ((uh H5).later b5)
  have F6 := hide ((uh F5).trans (b5.mono (uh F5).size))
  refine hK.out _ _ (fun _ => uh SS _ (uh I6)) ?_
  clear hK K2 b5 HS I5 H5 F5 DEC
  have HS := hide (uh SS _ (uh I6))
  refine twB 8 (.tuple #[.agg #[.int .i64 (op : Int), .int .i64 (sm : Int), .int .i64 (sr : Int), .int .i64 sx, .int .i64 (dm : Int), .int .i64 (dr : Int), .int .i64 dx, .int .i64 n], .int .i64 dn, .bool true]) rfl (.inl (uh HS)) ?_
  go_simp
  refine twB 9 (.agg #[.int .i64 (op : Int), .int .i64 (sm : Int), .int .i64 (sr : Int), .int .i64 sx, .int .i64 (dm : Int), .int .i64 (dr : Int), .int .i64 dx, .int .i64 n]) rfl (.inl (uh HS)) ?_
  go_simp
  refine twB 10 (.int .i64 dn) rfl (.inl (uh HS)) ?_
  go_simp
  refine twB 11 (.bool true) rfl (.inl (uh HS)) ?_
  go_simp
  refine wpAnyL_one (i := 12) (by kernel_rfl) rfl (fun K2 hK => ?_)
  go_simp
  have I7 := hide ((uh I6).later (below_new w5 (Obj.cells #[.int .i64 0, .int .i64 0, .int .i64 0, .int .i64 0, .int .i64 0, .int .i64 0, .int .i64 0, .int .i64 0] 48)))
  have H7 := hide ((uh H6).later (below_new w5 (Obj.cells #[.int .i64 0, .int .i64 0, .int .i64 0, .int .i64 0, .int .i64 0, .int .i64 0, .int .i64 0, .int .i64 0] 48)))
  have F7 := hide ((uh F6).trans ((below_new w5 (Obj.cells #[.int .i64 0, .int .i64 0, .int .i64 0, .int .i64 0, .int .i64 0, .int .i64 0, .int .i64 0, .int .i64 0] 48)).mono (uh F6).size))
  have R7 := hide (heap_alloc_last w5 (Obj.cells #[.int .i64 0, .int .i64 0, .int .i64 0, .int .i64 0, .int .i64 0, .int .i64 0, .int .i64 0, .int .i64 0] 48))
  have BN := hide (show w5.heap.size ≠ g2 ∧ ¬ y.at w5.heap.size from ⟨by have := row_lt (uh I6).row; omega, fun q => by have := ((uh I6).own.lo q).2; omega⟩)
  have BG := hide (show w5.heap.size ≠ g ∧ ¬ x.at w5.heap.size ∧ w.heap.size ≤ w5.heap.size from ⟨by have := row_lt (uh H6).row; omega, fun q => by have := ((uh H6).own.lo q).2; omega, (uh F6).size⟩)
  refine hK.out _ _ (fun _ => uh SS _ (uh I7)) ?_
  clear hK K2 HS I6 H6 F6
  have HS := hide (uh SS _ (uh I7))
  generalize w5.alloc (Obj.cells #[.int .i64 0, .int .i64 0, .int .i64 0, .int .i64 0, .int .i64 0, .int .i64 0, .int .i64 0, .int .i64 0] 48) = w6 at I7 H7 F7 R7 HS ⊢
  generalize w5.heap.size = ib at R7 BN BG ⊢
  refine wpAnyL_one (i := 13) (by kernel_rfl) rfl (fun K2 hK => ?_)
  rw [if_pos (by rfl)]
  refine wp_store_row 48 _ _ rfl ib #[.int .i64 (op : Int), .int .i64 (sm : Int), .int .i64 (sr : Int), .int .i64 sx, .int .i64 (dm : Int), .int .i64 (dr : Int), .int .i64 dx, .int .i64 n] rfl rfl 48 _ (uh R7) (by kernel_rfl) rfl (by simp [Value.oneCell']) ?_
  have I8 := hide ((uh I7).lay ib #[.int .i64 (op : Int), .int .i64 (sm : Int), .int .i64 (sr : Int), .int .i64 sx, .int .i64 (dm : Int), .int .i64 (dr : Int), .int .i64 dx, .int .i64 n] (fun e => (uh BN).1 e.symm) (fun b hb e => (uh BN).2 (e ▸ hb)))
  have H8 := hide ((uh H7).lay ib #[.int .i64 (op : Int), .int .i64 (sm : Int), .int .i64 (sr : Int), .int .i64 sx, .int .i64 (dm : Int), .int .i64 (dr : Int), .int .i64 dx, .int .i64 n] (fun e => (uh BG).1 e.symm) (fun b hb e => (uh BG).2.1 (e ▸ hb)))
  have F8 := hide (below_setRow (g := ib) (uh F7) (uh BG).2.2 #[.int .i64 (op : Int), .int .i64 (sm : Int), .int .i64 (sr : Int), .int .i64 sx, .int .i64 (dm : Int), .int .i64 (dr : Int), .int .i64 dx, .int .i64 n])
  have R8 := hide (setRow_heap w6 ib _ #[.int .i64 (op : Int), .int .i64 (sm : Int), .int .i64 (sr : Int), .int .i64 sx, .int .i64 (dm : Int), .int .i64 (dr : Int), .int .i64 dx, .int .i64 n] 48 _ (uh R7))
  refine hK.out _ _ (fun _ => uh SS _ (uh I8)) ?_
  clear hK K2 HS I7 H7 F7 R7
  have HS := hide (uh SS _ (uh I8))
  generalize w6.setRow ib #[.int .i64 (op : Int), .int .i64 (sm : Int), .int .i64 (sr : Int), .int .i64 sx, .int .i64 (dm : Int), .int .i64 (dr : Int), .int .i64 dx, .int .i64 n] = w7 at I8 H8 F8 R8 HS ⊢
  refine twB 14 (.int .i64 dn) rfl (.inl (uh HS)) ?_
  go_simp
  refine wpAnyL_one (i := 15) (by kernel_rfl) rfl (fun K2 hK => ?_)
  go_simp
  refine hK.out _ _ (fun h => absurd h (by decide)) ?_
  clear hK K2 HS SS
  refine wpAnyL_done (by kernel_rfl) ?_ _
  have I7 := hide (uh I8)
  have H7 := hide (uh H8)
  have F7 := hide (uh F8)
  have R7 := hide (uh R8)
  clear I8 H8 F8 R8
  have WR := hide (fun v => wrapS_any (v7 + 2) v)
  have HW := hide (show IntKind.i64.wrap (v7 + 2) = v7 + 2 by rw [IntKind.wrap_i64]; omega)
  have I8 := hide ((uh I7).later (below_drew (w := w7)))
  have H8 := hide ((uh H7).later (below_drew (w := w7)))
  have F8 := hide ((uh F7).trans ((below_drew (w := w7)).mono (uh F7).size))
  have R8 := hide (row_lat (uh R7) (below_drew (w := w7)))
  have c1 := (uh I8).rcell (uh ER)
  obtain ⟨i9, f9, c2, c3⟩ := (uh I8).setR (uh ER) 7 ((v7 + 2) % 65536) (by have := (uh DK).rl; omega)
  rw [uh V7] at c2
  have I9 := hide (show Sm (w7.drew.setCell ⟨gr, 7, none⟩ (.int .i64 ((v7 + 2) % 65536))) (w.heap.size + 3) g2 y t.nxt st from by unfold Ms.nxt; rw [uh V7]; exact i9)
  have H9 := hide ((uh H8).other f9 (uh OG).1 (uh OG).2 (uh OX))
  have F9 := hide ((uh F8).trans (f9.bel (uh F8).size zg (fun b k => by have := (uh YN b k).1; omega)))
  have R9 := hide (f9.row (uh R8) (uh BN).1 (uh BN).2)
  clear i9 f9 I7 H7 F7 R7
  generalize (v7 + 2) % 65536 = x7 at WR c2 c3 I9 H9 F9 R9
  go_wp2_with fail
  refine wp_region_last (fun v => v = w7.drew) 9 (by kernel_rfl) ?_
  generalize w7.drew = wf at I8 H8 F8 R8 c1 c2 c3 I9 H9 F9 R9 ⊢
  refine twB 0 (.pointer (some ⟨g2, 1, none⟩)) rfl (.inl rfl) ?_
  go_simp
  refine tsA 1 (.slice (some ⟨gr, 0, none⟩) 8 rc) rfl (.inl ⟨by rfl, fun w hc => ?_⟩) (rfl) ?_
  · rw [hc]; clear hc; go_simp
  go_simp
  refine twB 2 (.pointer (some ⟨g2, 1, none⟩)) rfl (.inl rfl) ?_
  go_simp
  refine tsA 3 (.slice (some ⟨gr, 0, none⟩) 8 rc) rfl (.inl ⟨by rfl, fun w hc => ?_⟩) (rfl) ?_
  · rw [hc]; clear hc; go_simp
  go_simp
  refine twB 4 (.pointer (some ⟨gr, 7, none⟩)) rfl (.inl rfl) ?_
  go_simp
  refine tsA 5 (.int .i64 v7) rfl (.inl ⟨by rfl, fun w hc => ?_⟩) (rfl) ?_
  · rw [hc]; clear hc; go_simp
  go_simp
  refine twA 6 (.int .i64 (v7 + 2)) rfl (.inl ⟨by rfl, fun w hc => ?_⟩) (.inl rfl) ?_
  · clear hc; have hw := uh HW; go_simp
  go_simp
  refine wpAnyL_one (i := 7) (by kernel_rfl) rfl (fun K2 hK => ?_)
  go_simp
  refine (uh WR _).mono ?_
  rintro e w9 ⟨rfl, hw9⟩
  rw [hw9]
  clear hw9 w9
  refine hK.out _ _ (fun _ => rfl) ?_
  clear hK K2
  refine twB 8 (.pointer (some ⟨gr, 7, none⟩)) rfl (.inl rfl) ?_
  go_simp
  refine wpAnyL_one (i := 9) (by kernel_rfl) rfl (fun K2 hK => ?_)
  go_simp
  refine hK.out _ _ (fun h => absurd h (by decide)) ?_
  clear hK K2
  refine wpAnyL_done (by kernel_rfl) ?_ _
  generalize wf.setCell ⟨gr, 7, none⟩ (.int .i64 x7) = wg at I9 H9 F9 R9 ⊢
  clear I8 H8 F8 R8 c1 c2 c3 WR HW
  have DD := hide (uh DO _ (uh I9))
  clear DO
  go_wp2_with (refine wpList_load_row rfl 48 _ rfl ib rfl 48 #[.int .i64 (op : Int), .int .i64 (sm : Int), .int .i64 (sr : Int), .int .i64 sx, .int .i64 (dm : Int), .int .i64 (dr : Int), .int .i64 dx, .int .i64 n] (0, 0) _ (uh R9) Tryz.underlying48 rfl (by kernel_rfl) ?_)
  refine (uh DD).mono ?_
  rintro e wh ⟨y2, rfl, ah⟩
  have H10 := hide ((uh H9).other ah.fm (uh OG).1 (uh OG).2 (uh OX))
  have F10 := hide ((uh F9).trans (ah.fm.bel (uh F9).size zg (fun b k => by have := (uh YN b k).1; omega)))
  cases okd
  ·
   clear ah DD I9 H9 F9 R9
   simp only [if_neg (show ¬ (false = true) by decide)]
   have c8 := row_st (uh H10).row
   have e8 := row_fz (uh H10).row 8
   obtain ⟨h9, f9⟩ := (uh H10).setS 2
   have H9 := hide h9
   have F9 := hide ((Fm.of (g := g) (y := x) (uh F10)).trans f9)
   clear h9 f9
   go_wp2
   refine bodyPost_ret (results_none rfl _ _ _) rfl ?_
   first | exact ⟨_, rfl, uh H9, uh F9⟩ | exact ⟨rfl, _, uh H9, uh F9⟩
  ·
   have I10 := hide (ah.yes (by trivial))
   have c2' := (uh I10).row
   have C2 := hide c2'
   have H11 := hide ((uh H10).lay2 (uh I10).own (uh I10).fl (by have := uh LB; omega) (by have := uh GL; omega))
   have F11 := hide (Fm.over (g := g) (y := x) (uh F10) (uh I10).own (by omega) y2.cs)
   have RG := hide (uh H10).row
   clear ah DD I9 H9 F9 R9 I10 H10 F10 c2'
   go_wp2_with (first | (refine wpList_load_row rfl 26 _ rfl g2 rfl 26 y2.cs (0, 0) _ (uh C2) Tryz.underlying26 rfl (by kernel_rfl) ?_) | (refine wpList_store_row rfl 26 _ _ rfl g y2.cs rfl rfl 26 x.cs (uh RG) (by kernel_rfl) rfl (Mv.cs_one _) ?_))
   go_end0
   first | exact ⟨y2, rfl, uh H11, uh F11⟩ | exact ⟨rfl, y2, uh H11, uh F11⟩
 ·
  go_simp
  have I6 := hide ((uh I5).later (below_new wd (Obj.cells #[.int .i64 0, .int .i64 0, .int .i64 0, .int .i64 0, .int .i64 0, .int .i64 0, .int .i64 0, .int .i64 0] 48)))
  have H6 := hide ((uh H5).later (below_new wd (Obj.cells #[.int .i64 0, .int .i64 0, .int .i64 0, .int .i64 0, .int .i64 0, .int .i64 0, .int .i64 0, .int .i64 0] 48)))
  have F6 := hide ((uh F5).trans ((below_new wd (Obj.cells #[.int .i64 0, .int .i64 0, .int .i64 0, .int .i64 0, .int .i64 0, .int .i64 0, .int .i64 0, .int .i64 0] 48)).mono (uh F5).size))
  have R6 := hide (heap_alloc_last wd (Obj.cells #[.int .i64 0, .int .i64 0, .int .i64 0, .int .i64 0, .int .i64 0, .int .i64 0, .int .i64 0, .int .i64 0] 48))
  have BN := hide (show wd.heap.size ≠ g2 ∧ ¬ y.at wd.heap.size from ⟨by have := row_lt (uh I5).row; omega, fun q => by have := ((uh I5).own.lo q).2; omega⟩)
  have BG := hide (show wd.heap.size ≠ g ∧ ¬ x.at wd.heap.size ∧ w.heap.size ≤ wd.heap.size from ⟨by have := row_lt (uh H5).row; omega, fun q => by have := ((uh H5).own.lo q).2; omega, (uh F5).size⟩)
  refine hK.out _ _ (fun _ => uh SS _ (uh I6)) ?_
  clear hK K2 HS I5 H5 F5
  have HS := hide (uh SS _ (uh I6))
  generalize wd.alloc (Obj.cells #[.int .i64 0, .int .i64 0, .int .i64 0, .int .i64 0, .int .i64 0, .int .i64 0, .int .i64 0, .int .i64 0] 48) = we at I6 H6 F6 R6 HS ⊢
  generalize wd.heap.size = ib at R6 BN BG ⊢
  refine wpAnyL_one (i := 7) (by kernel_rfl) rfl (fun K2 hK => ?_)
  go_simp
  refine (uh DEC _ (uh I6)).mono ?_
  rintro e w6 ⟨rfl, b5⟩
  have I7 := hide ((uh I6).later b5)
  have H7 := hide ((uh H6).later b5)
  have F7 := hide ((uh F6).trans (b5.mono (uh F6).size))
  have R7 := hide (row_lat (uh R6) b5)
  refine hK.out _ _ (fun _ => uh SS _ (uh I7)) ?_
  clear hK K2 b5 HS I6 H6 F6 R6 DEC
  have HS := hide (uh SS _ (uh I7))
  refine twB 8 (.tuple #[.agg #[.int .i64 (op : Int), .int .i64 (sm : Int), .int .i64 (sr : Int), .int .i64 sx, .int .i64 (dm : Int), .int .i64 (dr : Int), .int .i64 dx, .int .i64 n], .int .i64 dn, .bool true]) rfl (.inl (uh HS)) ?_
  go_simp
  refine twB 9 (.agg #[.int .i64 (op : Int), .int .i64 (sm : Int), .int .i64 (sr : Int), .int .i64 sx, .int .i64 (dm : Int), .int .i64 (dr : Int), .int .i64 dx, .int .i64 n]) rfl (.inl (uh HS)) ?_
  go_simp
  refine twB 10 (.int .i64 dn) rfl (.inl (uh HS)) ?_
  go_simp
  refine twB 11 (.bool true) rfl (.inl (uh HS)) ?_
  go_simp
  refine wpAnyL_one (i := 13) (by kernel_rfl) rfl (fun K2 hK => ?_)
  rw [if_pos (by rfl)]
  refine wp_store_row 48 _ _ rfl ib #[.int .i64 (op : Int), .int .i64 (sm : Int), .int .i64 (sr : Int), .int .i64 sx, .int .i64 (dm : Int), .int .i64 (dr : Int), .int .i64 dx, .int .i64 n] rfl rfl 48 _ (uh R7) (by kernel_rfl) rfl (by simp [Value.oneCell']) ?_
  have I8 := hide ((uh I7).lay ib #[.int .i64 (op : Int), .int .i64 (sm : Int), .int .i64 (sr : Int), .int .i64 sx, .int .i64 (dm : Int), .int .i64 (dr : Int), .int .i64 dx, .int .i64 n] (fun e => (uh BN).1 e.symm) (fun b hb e => (uh BN).2 (e ▸ hb)))
  have H8 := hide ((uh H7).lay ib #[.int .i64 (op : Int), .int .i64 (sm : Int), .int .i64 (sr : Int), .int .i64 sx, .int .i64 (dm : Int), .int .i64 (dr : Int), .int .i64 dx, .int .i64 n] (fun e => (uh BG).1 e.symm) (fun b hb e => (uh BG).2.1 (e ▸ hb)))
  have F8 := hide (below_setRow (g := ib) (uh F7) (uh BG).2.2 #[.int .i64 (op : Int), .int .i64 (sm : Int), .int .i64 (sr : Int), .int .i64 sx, .int .i64 (dm : Int), .int .i64 (dr : Int), .int .i64 dx, .int .i64 n])
  have R8 := hide (setRow_heap w6 ib _ #[.int .i64 (op : Int), .int .i64 (sm : Int), .int .i64 (sr : Int), .int .i64 sx, .int .i64 (dm : Int), .int .i64 (dr : Int), .int .i64 dx, .int .i64 n] 48 _ (uh R7))
  refine hK.out _ _ (fun _ => uh SS _ (uh I8)) ?_
  clear hK K2 HS I7 H7 F7 R7
  have HS := hide (uh SS _ (uh I8))
  generalize w6.setRow ib #[.int .i64 (op : Int), .int .i64 (sm : Int), .int .i64 (sr : Int), .int .i64 sx, .int .i64 (dm : Int), .int .i64 (dr : Int), .int .i64 dx, .int .i64 n] = w7 at I8 H8 F8 R8 HS ⊢
  refine twB 14 (.int .i64 dn) rfl (.inl (uh HS)) ?_
  go_simp
  refine wpAnyL_one (i := 15) (by kernel_rfl) rfl (fun K2 hK => ?_)
  go_simp
  refine hK.out _ _ (fun h => absurd h (by decide)) ?_
  clear hK K2 HS SS
  refine wpAnyL_done (by kernel_rfl) ?_ _
  have I7 := hide (uh I8)
  have H7 := hide (uh H8)
  have F7 := hide (uh F8)
  have R7 := hide (uh R8)
  clear I8 H8 F8 R8
  have WR := hide (fun v => wrapS_any (v7 + 2) v)
  have HW := hide (show IntKind.i64.wrap (v7 + 2) = v7 + 2 by rw [IntKind.wrap_i64]; omega)
  have I8 := hide ((uh I7).later (below_drew (w := w7)))
  have H8 := hide ((uh H7).later (below_drew (w := w7)))
  have F8 := hide ((uh F7).trans ((below_drew (w := w7)).mono (uh F7).size))
  have R8 := hide (row_lat (uh R7) (below_drew (w := w7)))
  have c1 := (uh I8).rcell (uh ER)
  obtain ⟨i9, f9, c2, c3⟩ := (uh I8).setR (uh ER) 7 ((v7 + 2) % 65536) (by have := (uh DK).rl; omega)
  rw [uh V7] at c2
  have I9 := hide (show Sm (w7.drew.setCell ⟨gr, 7, none⟩ (.int .i64 ((v7 + 2) % 65536))) (w.heap.size + 3) g2 y t.nxt st from by unfold Ms.nxt; rw [uh V7]; exact i9)
  have H9 := hide ((uh H8).other f9 (uh OG).1 (uh OG).2 (uh OX))
  have F9 := hide ((uh F8).trans (f9.bel (uh F8).size zg (fun b k => by have := (uh YN b k).1; omega)))
  have R9 := hide (f9.row (uh R8) (uh BN).1 (uh BN).2)
  clear i9 f9 I7 H7 F7 R7
  generalize (v7 + 2) % 65536 = x7 at WR c2 c3 I9 H9 F9 R9
  go_wp2_with fail
  refine wp_region_last (fun v => v = w7.drew) 9 (by kernel_rfl) ?_
  generalize w7.drew = wf at I8 H8 F8 R8 c1 c2 c3 I9 H9 F9 R9 ⊢
  refine twB 0 (.pointer (some ⟨g2, 1, none⟩)) rfl (.inl rfl) ?_
  go_simp
  refine tsA 1 (.slice (some ⟨gr, 0, none⟩) 8 rc) rfl (.inl ⟨by rfl, fun w hc => ?_⟩) (rfl) ?_
  · rw [hc]; clear hc; go_simp
  go_simp
  refine twB 2 (.pointer (some ⟨g2, 1, none⟩)) rfl (.inl rfl) ?_
  go_simp
  refine tsA 3 (.slice (some ⟨gr, 0, none⟩) 8 rc) rfl (.inl ⟨by rfl, fun w hc => ?_⟩) (rfl) ?_
  · rw [hc]; clear hc; go_simp
  go_simp
  refine twB 4 (.pointer (some ⟨gr, 7, none⟩)) rfl (.inl rfl) ?_
  go_simp
  refine tsA 5 (.int .i64 v7) rfl (.inl ⟨by rfl, fun w hc => ?_⟩) (rfl) ?_
  · rw [hc]; clear hc; go_simp
  go_simp
  refine twA 6 (.int .i64 (v7 + 2)) rfl (.inl ⟨by rfl, fun w hc => ?_⟩) (.inl rfl) ?_
  · clear hc; have hw := uh HW; go_simp
  go_simp
  refine wpAnyL_one (i := 7) (by kernel_rfl) rfl (fun K2 hK => ?_)
  go_simp
  refine (uh WR _).mono ?_
  rintro e w9 ⟨rfl, hw9⟩
  rw [hw9]
  clear hw9 w9
  refine hK.out _ _ (fun _ => rfl) ?_
  clear hK K2
  refine twB 8 (.pointer (some ⟨gr, 7, none⟩)) rfl (.inl rfl) ?_
  go_simp
  refine wpAnyL_one (i := 9) (by kernel_rfl) rfl (fun K2 hK => ?_)
  go_simp
  refine hK.out _ _ (fun h => absurd h (by decide)) ?_
  clear hK K2
  refine wpAnyL_done (by kernel_rfl) ?_ _
  generalize wf.setCell ⟨gr, 7, none⟩ (.int .i64 x7) = wg at I9 H9 F9 R9 ⊢
  clear I8 H8 F8 R8 c1 c2 c3 WR HW
  have DD := hide (uh DO _ (uh I9))
  clear DO
  go_wp2_with (refine wpList_load_row rfl 48 _ rfl ib rfl 48 #[.int .i64 (op : Int), .int .i64 (sm : Int), .int .i64 (sr : Int), .int .i64 sx, .int .i64 (dm : Int), .int .i64 (dr : Int), .int .i64 dx, .int .i64 n] (0, 0) _ (uh R9) Tryz.underlying48 rfl (by kernel_rfl) ?_)
  refine (uh DD).mono ?_
  rintro e wh ⟨y2, rfl, ah⟩
  have H10 := hide ((uh H9).other ah.fm (uh OG).1 (uh OG).2 (uh OX))
  have F10 := hide ((uh F9).trans (ah.fm.bel (uh F9).size zg (fun b k => by have := (uh YN b k).1; omega)))
  cases okd
  ·
   clear ah DD I9 H9 F9 R9
   simp only [if_neg (show ¬ (false = true) by decide)]
   have c8 := row_st (uh H10).row
   have e8 := row_fz (uh H10).row 8
   obtain ⟨h9, f9⟩ := (uh H10).setS 2
   have H9 := hide h9
   have F9 := hide ((Fm.of (g := g) (y := x) (uh F10)).trans f9)
   clear h9 f9
   go_wp2
   refine bodyPost_ret (results_none rfl _ _ _) rfl ?_
   first | exact ⟨_, rfl, uh H9, uh F9⟩ | exact ⟨rfl, _, uh H9, uh F9⟩
  ·
   have I10 := hide (ah.yes (by trivial))
   have c2' := (uh I10).row
   have C2 := hide c2'
   have H11 := hide ((uh H10).lay2 (uh I10).own (uh I10).fl (by have := uh LB; omega) (by have := uh GL; omega))
   have F11 := hide (Fm.over (g := g) (y := x) (uh F10) (uh I10).own (by omega) y2.cs)
   have RG := hide (uh H10).row
   clear ah DD I9 H9 F9 R9 I10 H10 F10 c2'
   go_wp2_with (first | (refine wpList_load_row rfl 26 _ rfl g2 rfl 26 y2.cs (0, 0) _ (uh C2) Tryz.underlying26 rfl (by kernel_rfl) ?_) | (refine wpList_store_row rfl 26 _ _ rfl g y2.cs rfl rfl 26 x.cs (uh RG) (by kernel_rfl) rfl (Mv.cs_one _) ?_))
   go_end0
   first | exact ⟨y2, rfl, uh H11, uh F11⟩ | exact ⟨rfl, y2, uh H11, uh F11⟩
end
theorem ls_any (B g : Nat) (x : Mv) (t : Ms) (st : Int) (w : World) (h : Sm w B g x t st) (hk : Dk t.d) : LsIs B g x t (if t.stpB = true then t.stp else t) (if t.stpB = true then t.stpS st else 2) w := by
 unfold Ms.stpB Ms.insB
 cases h1 : adB (nAt t.d.r 7)
 · exact ls_odd B g x t st w h hk h1
 ·
  cases h2 : decOk t.d.m (nAt t.d.r 7 / 2)
  · exact ls_none B g x t st w h hk h1 h2
  ·
   have hok : t.ins.ok = true := by unfold Ms.ins; unfold decOk at h2; simp only [Bool.and_eq_true] at h2; exact h2.2.2
   obtain ⟨op, sm, sr, dm, dr, e1, e2, e3, e4, e5, hi⟩ := is_nat hok
   have hx : t.ins = ⟨op, ⟨sm, sr, t.ins.s.x⟩, ⟨dm, dr, t.ins.d.x⟩, t.ins.n⟩ := by rw [← e1, ← e2, ← e3, ← e4, ← e5]
   have q := ls_do B g x t st w h hk h1 h2 op sm sr dm dr _ _ _ hx hi
   unfold Ms.stp Ms.stpS
   rw [show t.ins.op.toNat = op by omega, show t.ins.s.m.toNat = sm by omega, show t.ins.s.r.toNat = sr by omega, show t.ins.d.m.toNat = dm by omega, show t.ins.d.r.toNat = dr by omega]
   exact q
section
def Ms.rem (q : Bool) (k : Nat) (t : Ms) (st : Int) : Ms × Int := if q = true then Ms.it k t st else (t, st)
theorem rem_start (t : Ms) (st n : Int) : t.rn st n = Ms.rem (inB n 0 2000 && t.d.ok st) n.toNat t st := by
 unfold Ms.rn Ms.rem
 by_cases h : 0 ≤ n ∧ n ≤ 2000
 ·
  rw [if_pos h, inB_t n 0 2000 h, Bool.true_and]
  cases hk : t.d.ok st
  ·
   rw [it_off (by rw [hk]; rfl)]
   simp
  · simp
 ·
  rw [if_neg h]
  have : inB n 0 2000 = false := by
   cases hb : inB n 0 2000
   · rfl
   · exact absurd (inB_b hb) h
  rw [this]
  rfl
theorem rem_none (q : Bool) (t : Ms) (st : Int) : Ms.rem q 0 t st = (t, st) := by unfold Ms.rem; cases q <;> rfl
theorem rem_stand (q : Bool) (k : Nat) (t : Ms) (st : Int) (h : st ≠ 0) : Ms.rem q k t st = (t, st) := by unfold Ms.rem; rw [it_stand h]; cases q <;> rfl
structure Rk (w wr : World) (x : Mv) (d : Md) (g : Nat) (y : Mv) (t : Ms) (st : Int) : Prop where
 b : Bst w wr x
 rd : RdM wr x d
 s : Sm wr (w.heap.size + 2) g y t st
section
variable {w wr w' : World} {x y y2 : Mv} {d : Md} {g : Nat} {t t2 : Ms} {st s2 : Int}
theorem Rk.later (h : Rk w wr x d g y t st) (hb : Below wr.heap.size wr w') : Rk w w' x d g y t st := ⟨h.b.later hb, h.rd.later hb, h.s.later hb⟩
theorem Rk.step (h : Rk w wr x d g y t st) (hr : RdM w x d) (i : Sm w' (w.heap.size + 2) g y2 t2 s2) (f : Fm wr w' g y y2) : Rk w w' x d g y2 t2 s2 :=
 have b := h.b.bel2 (B := w.heap.size + 2) (f.bel h.b.sz h.s.lo (fun b k => (h.s.own.lo k).1)) (Nat.le_refl _)
 ⟨b, hr.later b.bel, i⟩
end
def RsIs (x : Mv) (n : Int) (d2 : Md) (f2 : Bool × Bool × Bool × Bool × Int) (w : World) : Prop := Calls Tryz.prog 5 #[.agg x.cs, .int .i64 n] w fun e w' => ∃ y : Mv, e = .returned (.agg y.cs) ∧ y.fl = f2 ∧ OwnM w' (w.heap.size + 2) y d2 ∧ Below w.heap.size w w'
theorem runS_any (x : Mv) (d : Md) (n : Int) (w : World) (hs : x.small) (hz : x.nz) (hr : RdM w x d) : RsIs x n ((x.ms d).rn x.st n).1.d (((x.ms d).rn x.st n).1.fl ((x.ms d).rn x.st n).2) w := by
 have B1 := hide (bst_new w x)
 have X1 := hide (hr.later (uh B1).bel)
 have CM := hide (copyS_any x d _ hs hz (uh X1))
 have MK := hide (fun v (h : RdM v x d) => okS_any x d v hs h)
 have HR := hide hr
 have DK0 := hide (show d.ok x.st = true → Dk (x.ms d).d from fun h => (dk_of h).1)
 unfold RsIs
 obtain ⟨T, hT⟩ : ∃ T, T = (x.ms d).rn x.st n := ⟨_, rfl⟩
 rw [← hT]
 rw [rem_start] at hT
 have ET := hide (show T = Ms.rem (inB n 0 2000 && d.ok x.st) (n.toNat - 0) (x.ms d) x.st from hT)
 have IN := hide (fun v => in_any n 0 2000 v)
 have QB := hide (show inB n 0 2000 = true → 0 ≤ n ∧ n ≤ 2000 from fun h => inB_b h)
 generalize inB n 0 2000 = qi at ET IN QB
 generalize d.ok x.st = qo at ET MK DK0
 clear hs hz hr hT
 go_enter Tryz.func5, Tryz.ntmps5
 go_wp2_with (refine wpList_load_row rfl 26 _ rfl w.heap.size rfl 26 x.cs (0, 0) _ (uh B1).bx Tryz.underlying26 rfl (by kernel_rfl) ?_)
 refine (uh CM).mono ?_
 rintro e w2 ⟨y0, rfl, fy, oy, hb⟩
 have S2 := hide (show w.heap.size + 2 ≤ w2.heap.size by have := (uh B1).sz; have := hb.size; omega)
 have oy := oy.base (C := w.heap.size + 2) (by have := (uh B1).sz; omega)
 have R2 := hide (show Rk w (w2.alloc (.cells y0.cs 26)) x d w2.heap.size y0 (x.ms d) x.st from
  ⟨((uh B1).later hb).later (below_new w2 _), ((uh X1).later hb).later (below_new w2 _), ⟨heap_alloc_last w2 _, oy.later (below_new w2 _), fy, uh S2, fun b k => by have := (oy.lo k).2; omega⟩⟩)
 clear fy oy hb CM B1 X1
 go_wp2_with (first | (refine wpList_store_new rfl 26 _ _ rfl y0.cs rfl rfl _ (by kernel_rfl) rfl (Mv.cs_one _) ?_))
 go_loopw [6] (fun i wr => ∃ (k : Nat) (y : Mv) (t : Ms) (st : Int), i = .int .i64 k ∧ Rk w wr x d w2.heap.size y t st ∧ Hid (qo = true → Dk t.d) ∧ Hid (T = Ms.rem (qi && qo) (n.toNat - k) t st) ∧ Hid ((k : Int) ≤ 2000 ∨ qi = false)) (fun i _ => n.toNat - (intOf i).toNat)
 case atStart => exact ⟨0, y0, x.ms d, x.st, rfl, uh R2, uh DK0, uh ET, hide (.inl (by omega))⟩
 case round =>
  clear R2 ET DK0
  obtain ⟨k, y, t, st, rfl, hk, hd, hT, hm⟩ := hrel
  have R1 := hide hk
  clear hk
  go_wp2_with fail
  refine (uh IN _).mono ?_
  rintro e w3 ⟨rfl, hw3⟩
  rw [hw3]
  clear hw3 w3
  cases qi
  ·
   have E1 := hide (show T = (t, st) from hT.out)
   clear hT hd hm
   go_wp2_with (first | (refine wpList_load_row rfl 26 _ rfl w2.heap.size rfl 26 y.cs (0, 0) _ (uh R1).s.row Tryz.underlying26 rfl (by kernel_rfl) ?_) | (refine wpList_store_row rfl 26 _ _ rfl (w.heap.size + 1) y.cs rfl rfl 26 zMv.cs (uh R1).b.re (by kernel_rfl) rfl (Mv.cs_one _) ?_))
   obtain ⟨r1, r2⟩ := (uh R1).b.done y.cs
   refine bodyPost_ret (results_cell_row (P := Tryz.prog) rfl _ _ (w.heap.size + 1) 26 y.cs (0, 0) _ rfl r1 Tryz.underlying26 rfl (by kernel_rfl)) rfl ?_
   have e := uh E1
   exact ⟨y, rfl, by rw [e]; exact (uh R1).s.fl, by rw [e]; exact (uh R1).s.own.row (by omega) _, r2⟩
  ·
   by_cases hlt : (k : Int) < n
   ·
    have MC := hide (uh MK wr (uh R1).rd)
    have k1 : (k : Int) ≤ 2000 := hm.out.elim id (fun h => by cases h)
    obtain ⟨n0, n1⟩ := uh QB rfl
    have gm := row_m (uh R1).b.bx
    have gr := row_r (uh R1).b.bx
    have gn := row_n (uh R1).b.bx
    have gz := row_z (uh R1).b.bx
    have gv := row_v (uh R1).b.bx
    have gc := row_c (uh R1).b.bx
    have gi := row_i (uh R1).b.bx
    have go := row_o (uh R1).b.bx
    have gst := row_st (uh R1).b.bx
    go_wp2_with fail
    refine (uh MC).mono ?_
    rintro e w4 ⟨rfl, hb⟩
    have R4 := hide ((uh R1).later hb)
    clear hb R1 MC gm gr gn gz gv gc gi go gst
    cases qo
    ·
     have E1 := hide (show T = (t, st) from hT.out)
     clear hT hd hm
     go_wp2_with (first | (refine wpList_load_row rfl 26 _ rfl w2.heap.size rfl 26 y.cs (0, 0) _ (uh R4).s.row Tryz.underlying26 rfl (by kernel_rfl) ?_) | (refine wpList_store_row rfl 26 _ _ rfl (w.heap.size + 1) y.cs rfl rfl 26 zMv.cs (uh R4).b.re (by kernel_rfl) rfl (Mv.cs_one _) ?_))
     obtain ⟨r1, r2⟩ := (uh R4).b.done y.cs
     refine bodyPost_ret (results_cell_row (P := Tryz.prog) rfl _ _ (w.heap.size + 1) 26 y.cs (0, 0) _ rfl r1 Tryz.underlying26 rfl (by kernel_rfl)) rfl ?_
     have e := uh E1
     exact ⟨y, rfl, by rw [e]; exact (uh R4).s.fl, by rw [e]; exact (uh R4).s.own.row (by omega) _, r2⟩
    ·
     have c8 := row_st (uh R4).s.row
     rw [show y.st = st from congrArg (·.2.2.2.2) (uh R4).s.fl] at c8
     by_cases h0 : st = 0
     ·
      subst h0
      have DK := hide (hd.out rfl)
      have LS := hide (ls_any (w.heap.size + 2) w2.heap.size y t 0 w4 (uh R4).s (uh DK))
      rw [← (stA_dk (uh DK)).1, ← (stA_dk (uh DK)).2] at LS
      unfold LsIs at LS
      have DN := hide (dk_stA (uh DK))
      have E2 := hide (show T = Ms.rem (true && true) (n.toNat - (k + 1)) (t.stA 0) (t.stN 0) by rw [hT.out, show n.toNat - k = (n.toNat - (k + 1)) + 1 by omega]; rfl)
      have K2 := hide (show ((k + 1 : Nat) : Int) ≤ 2000 ∨ true = false from .inl (by omega))
      generalize t.stN 0 = s2 at LS E2
      generalize t.stA 0 = t2 at LS E2 DN
      clear hT hd hm
      go_wp2_with fail
      refine (uh LS).mono ?_
      rintro e w5 ⟨y5, rfl, i5, f5⟩
      have R5 := hide ((uh R4).step (uh HR) i5 f5)
      clear i5 f5 LS R4 c8
      go_wp2
      go_roundw
      case rel => exact ⟨k + 1, y5, t2, s2, by go_num, uh R5, hide (fun _ => uh DN), uh E2, uh K2⟩
      case measure => simp [intOf]; omega
     ·
      have E1 := hide (show T = (t, st) from by rw [hT.out]; exact rem_stand _ _ _ _ h0)
      clear hT hd hm
      go_wp2_with (first | (refine wpList_load_row rfl 26 _ rfl w2.heap.size rfl 26 y.cs (0, 0) _ (uh R4).s.row Tryz.underlying26 rfl (by kernel_rfl) ?_) | (refine wpList_store_row rfl 26 _ _ rfl (w.heap.size + 1) y.cs rfl rfl 26 zMv.cs (uh R4).b.re (by kernel_rfl) rfl (Mv.cs_one _) ?_))
      obtain ⟨r1, r2⟩ := (uh R4).b.done y.cs
      refine bodyPost_ret (results_cell_row (P := Tryz.prog) rfl _ _ (w.heap.size + 1) 26 y.cs (0, 0) _ rfl r1 Tryz.underlying26 rfl (by kernel_rfl)) rfl ?_
      have e := uh E1
      exact ⟨y, rfl, by rw [e]; exact (uh R4).s.fl, by rw [e]; exact (uh R4).s.own.row (by omega) _, r2⟩
   ·
    have E1 := hide (show T = (t, st) from by rw [hT.out, show n.toNat - k = 0 by omega]; exact rem_none _ _ _)
    clear hT hd hm
    go_wp2_with (first | (refine wpList_load_row rfl 26 _ rfl w2.heap.size rfl 26 y.cs (0, 0) _ (uh R1).s.row Tryz.underlying26 rfl (by kernel_rfl) ?_) | (refine wpList_store_row rfl 26 _ _ rfl (w.heap.size + 1) y.cs rfl rfl 26 zMv.cs (uh R1).b.re (by kernel_rfl) rfl (Mv.cs_one _) ?_))
    obtain ⟨r1, r2⟩ := (uh R1).b.done y.cs
    refine bodyPost_ret (results_cell_row (P := Tryz.prog) rfl _ _ (w.heap.size + 1) 26 y.cs (0, 0) _ rfl r1 Tryz.underlying26 rfl (by kernel_rfl)) rfl ?_
    have e := uh E1
    exact ⟨y, rfl, by rw [e]; exact (uh R1).s.fl, by rw [e]; exact (uh R1).s.own.row (by omega) _, r2⟩
end
end Go.Proofs.YtboedaofbchdkaaGreatDoor
