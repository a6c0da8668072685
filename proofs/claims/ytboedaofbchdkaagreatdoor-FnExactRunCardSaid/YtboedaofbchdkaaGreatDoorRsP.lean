/- Contracts over this seat's translation, laid together; conditions stand as hypotheses of each. -/
import Derived.Test.YtboedaofbchdkaaGreatDoorRsO
namespace Go.Proofs.YtboedaofbchdkaaGreatDoor
open Go.ChangeShapes Go.WideShapes Go.ChangeAt Go.RowKit
set_option maxHeartbeats 16000000
set_option linter.unusedVariables false
set_option maxRecDepth 8000
set_option linter.unusedSimpArgs false
theorem OwnM.putO {w w' : World} {B : Nat} {x : Mv} {d : Md} {ns : List Int} (h : OwnM w B x d) (o' : Sl) (hg : w.grownBy w' x.o.v.ownBlock) (ho : OwnN w' B o'.v ns) (hb : ∀ b, o'.v.ownBlock = some b → x.o.v.ownBlock = some b ∨ w.heap.size ≤ b) : OwnM w' B { x with o := o' } ⟨d.m, d.r, d.i, ns⟩ :=
 { m := h.m.keep fun q hv hq => hg.block q hq (fun e => h.mo q hv e.symm)
   r := h.r.keep fun q hv hq => hg.block q hq (fun e => h.ro q hv e.symm)
   i := h.i.keep fun q hv hq => hg.block q hq (fun e => h.io q hv e.symm)
   o := ho
   mr := h.mr
   mi := h.mi
   ri := h.ri
   mo := fun b hm k => (hb b k).elim (fun e => h.mo b hm e) (fun l => by have := (h.m.lt hm).2; omega)
   ro := fun b hm k => (hb b k).elim (fun e => h.ro b hm e) (fun l => by have := (h.r.lt hm).2; omega)
   io := fun b hm k => (hb b k).elim (fun e => h.io b hm e) (fun l => by have := (h.i.lt hm).2; omega) }
def Ms.out (t : Ms) (ns : List Int) : Ms := { t with d := ⟨t.d.m, t.d.r, t.d.i, ns⟩ }
theorem Sm.mid {w w1 : World} {B g : Nat} {y : Mv} {t : Ms} {st : Int} (h : Sm w B g y t st) (hg : w.grownBy w1 y.o.v.ownBlock) : w1.heap[g]? = some (.cells y.cs 26 (0, 0)) :=
 (hg.block g (row_lt h.row) (fun e => h.ne g (.inr (.inr (.inr e.symm))) rfl)).trans h.row
theorem Sm.putO {w w1 : World} {B g : Nat} {y : Mv} {t : Ms} {st : Int} {ns : List Int} (h : Sm w B g y t st) (o' : Sl) (hg : w.grownBy w1 y.o.v.ownBlock) (ho : OwnN w1 B o'.v ns) (hb : ∀ b, o'.v.ownBlock = some b → y.o.v.ownBlock = some b ∨ w.heap.size ≤ b) :
  Sm (w1.setCell ⟨g, 7, none⟩ o'.v) B g { y with o := o' } (t.out ns) st ∧ Fm w (w1.setCell ⟨g, 7, none⟩ o'.v) g y { y with o := o' } := by
 have hat : ∀ b, Mv.at { y with o := o' } b → y.at b ∨ w.heap.size ≤ b := fun b k => by
  rcases k with k | k | k | k
  · exact .inl (.inl k)
  · exact .inl (.inr (.inl k))
  · exact .inl (.inr (.inr (.inl k)))
  · exact (hb b k).elim (fun e => .inl (.inr (.inr (.inr e)))) .inr
 have hne : ∀ b, Mv.at { y with o := o' } b → b ≠ g := fun b k e => (hat b k).elim (fun a => h.ne b a e) (fun l => by have := row_lt h.row; omega)
 have F1 : Fm w w1 g y { y with o := o' } := ⟨hg.os, hg.tape, hg.output, hg.size, fun k hk _ hy => hg.block k hk (fun e => hy (.inr (.inr (.inr e.symm)))), hat⟩
 refine ⟨⟨row_put (h.mid hg) 7 o'.v { y with o := o' } rfl, (h.own.putO o' hg ho hb).keepH fun b k _ => Below.heap_setCell w1 ⟨g, 7, none⟩ o'.v b (hne b k), h.fl, h.lo, hne⟩, F1.trans (Fm.grown (grownBy_set (b := g) (o := 7) o'.v) (.inl rfl) (fun k hk => hk))⟩
theorem rdN_one {w : World} {g : Nat} {x : Int} {τ : TypeId} (h : w.heap[g]? = some (.cells #[.int .i64 x] τ (0, 0))) : RdN w (some ⟨g, 0, none⟩) [x] :=
 .inr ⟨g, 0, rfl, row_lt h, fun j hj => by
  have : j = 0 := by simpa using hj
  subst this
  exact (cell_of_row w g 0 _ τ _ h).trans rfl⟩
theorem emt_1 (B g : Nat) (y : Mv) (t : Ms) (st : Int) (w : World) (h : Sm w B g y t st) (hk : Dk t.d) (hl : t.d.o.length < 50) : EmIs B g y t (t.out (t.d.o ++ [nAt t.d.r 0])) st 1 true w := by
 have GL := hide (show g < w.heap.size from row_lt h.row)
 obtain ⟨gr, rc, er⟩ := h.regs hk.rl
 have ER := hide er
 have co := row_o h.row
 have HD := hide (h.later (below_drew (w := w)))
 have C0 := hide (show w.drew.cell? ⟨g, 1, none⟩ = some (.slice (some ⟨gr, 0, none⟩) 8 rc) ∧ w.drew.cell? ⟨gr, 0, none⟩ = some (.int .i64 (nAt t.d.r 0)) from ⟨(uh HD).rcell er, ((uh HD).setR er 0 0 (by have := hk.rl; omega)).2.2.1⟩)
 have CO := hide (row_o (uh HD).row)
 have F0 := hide (Fm.of (g := g) (y := y) (below_drew (w := w)))
 have hl2 := h.own.o.len
 have hn : (y.o.n : Int) < 50 := by omega
 have HL := hide hl
 have T8 := hide hk.rl
 unfold EmIs
 obtain ⟨r0, hr0⟩ : ∃ q, nAt t.d.r 0 = q := ⟨_, rfl⟩
 have ER0 := hide hr0
 rw [hr0] at C0 ⊢
 clear hr0
 have AO := hide (fun v (hv : Sm v B g y t st) => hv.own.o)
 obtain ⟨oa, hoa⟩ : ∃ q, y.o.a = q := ⟨_, rfl⟩
 obtain ⟨on, hon⟩ : ∃ q, y.o.n = q := ⟨_, rfl⟩
 obtain ⟨oc, hoc⟩ : ∃ q, y.o.c = q := ⟨_, rfl⟩
 have HO := hide (show y.o.v = .slice oa on oc by unfold Sl.v; rw [hoa, hon, hoc])
 rw [hoa, hon, hoc] at co CO
 rw [hon] at hn
 have hn0 : (0 : Int) ≤ (on : Int) := by omega
 clear hoa hon hoc h hk er hl hl2
 go_enter Tryz.func38, Tryz.ntmps38
 go_wp2_with fail
 refine wp_region_held_drew (S := fun v => v.cell? ⟨g, 1, none⟩ = some (.slice (some ⟨gr, 0, none⟩) 8 rc) ∧ v.cell? ⟨gr, 0, none⟩ = some (.int .i64 r0)) (by kernel_rfl) (uh C0) (fun hS => ?_)
 have HS := hide hS
 clear hS
 generalize w.drew = wd at HD C0 CO F0 HS ⊢
 refine tkB 0 (.pointer (some ⟨g, 0, none⟩)) rfl (uh HS) ?_
 go_simp
 refine tkB 1 (.pointer (some ⟨g, 0, none⟩)) rfl (uh HS) ?_
 go_simp
 refine tkB 2 (.pointer (some ⟨g, 0, none⟩)) rfl (uh HS) ?_
 go_simp
 refine tkB 3 (.pointer (some ⟨g, 7, none⟩)) rfl (uh HS) ?_
 go_simp
 refine tkB 5 (.pointer (some ⟨g, 0, none⟩)) rfl (uh HS) ?_
 go_simp
 refine tkB 6 (.pointer (some ⟨g, 0, none⟩)) rfl (uh HS) ?_
 go_simp
 refine tkB 7 (.pointer (some ⟨g, 1, none⟩)) rfl (uh HS) ?_
 go_simp
 refine tkA 8 (.slice (some ⟨gr, 0, none⟩) 8 rc) rfl (.inl ⟨by rfl, fun w hc => ?_⟩) (uh HS) ?_
 · obtain ⟨h1, h2⟩ := hc; go_simp
 go_simp
 refine tkB 9 (.pointer (some ⟨gr, 0, none⟩)) rfl (uh HS) ?_
 go_simp
 refine tkA 10 (.int .i64 r0) rfl (.inl ⟨by rfl, fun w hc => ?_⟩) (uh HS) ?_
 · obtain ⟨h1, h2⟩ := hc; go_simp
 go_simp
 refine wpAnyH_ready (rs := [4, 11]) (by kernel_rfl) (by simp) ?_
 refine AllReadyH.cons rfl (fun K2 hK => ?_) (AllReadyH.cons rfl (fun K2 hK => ?_) (AllReadyH.nil))
 ·
  skip
  have c2 := uh CO
  go_simp
  clear c2
  refine hK.out _ _ (uh C0) (fun hS => ?_)
  clear HS
  have HS := hide hS
  clear hS hK K2
  refine wpAnyH_ready (rs := [11]) (by kernel_rfl) (by simp) ?_
  refine AllReadyH.cons rfl (fun K2 hK => ?_) (AllReadyH.nil)
  go_simp
  have HA := hide ((uh HD).later (below_new wd (Obj.cells #[.int .i64 r0] 3)))
  have FA := hide ((uh F0).trans (Fm.of (below_new wd (Obj.cells #[.int .i64 r0] 3))))
  have C1 := hide (show (wd.alloc (Obj.cells #[.int .i64 r0] 3)).cell? ⟨g, 1, none⟩ = some (.slice (some ⟨gr, 0, none⟩) 8 rc) ∧ (wd.alloc (Obj.cells #[.int .i64 r0] 3)).cell? ⟨gr, 0, none⟩ = some (.int .i64 r0) from ⟨(uh HA).rcell (uh ER), ((below_new wd (Obj.cells #[.int .i64 r0] 3)).cell (p := ⟨gr, 0, none⟩) ((uh HD).own.lo (at_r (uh ER))).2).trans (uh C0).2⟩)
  have CA := hide (show (wd.alloc (Obj.cells #[.int .i64 r0] 3)).cell? ⟨g, 7, none⟩ = some (.slice oa on oc) from ((below_new wd (Obj.cells #[.int .i64 r0] 3)).cell (p := ⟨g, 7, none⟩) (row_lt (uh HD).row)).trans (uh CO))
  have RA := hide (heap_alloc_last wd (Obj.cells #[.int .i64 r0] 3))
  refine hK.out _ _ (uh C1) (fun hS => ?_)
  clear HS
  have HS := hide hS
  clear hS hK K2
  refine wpAnyH_ready (rs := [12]) (by kernel_rfl) (by simp) ?_
  refine AllReadyH.cons rfl (fun K2 hK => ?_) (AllReadyH.nil)
  rw [if_pos (by rfl)]
  refine wp_app _ _ rfl B (.slice oa on oc) t.d.o rfl (by rw [← uh HO]; exact uh AO _ (uh HA)) ⟨some ⟨wd.heap.size, 0, none⟩, 1, 1⟩ [r0] rfl (rdN_one (uh RA)) rfl (fun e => by cases e) (by have := uh HL; simp; omega) (by have := (uh HA).lo; have := row_lt (uh HA).row; omega) (fun v' w2 o2 g2 b2 => ?_)
  have G2 := hide (show (wd.alloc (Obj.cells #[.int .i64 r0] 3)).grownBy w2 y.o.v.ownBlock by rw [uh HO]; exact g2)
  have RK := hide (show OwnN w2 B (.slice (some ⟨gr, 0, none⟩) 8 rc) t.d.r by
   have k := (uh HA).own.r.keep fun q hv hq => (uh G2).block q hq (fun e => (uh HA).own.ro q hv e.symm)
   rw [uh ER] at k
   exact k)
  have C2 := hide (show w2.cell? ⟨g, 1, none⟩ = some (.slice (some ⟨gr, 0, none⟩) 8 rc) ∧ w2.cell? ⟨gr, 0, none⟩ = some (.int .i64 r0) from ⟨by rw [row_r ((uh HA).mid (uh G2)), uh ER], by rw [((uh RK).cellAt 0 (by have := uh T8; omega)).1, uh ER0]⟩)
  have C3 := hide (And.intro (row_o ((uh HA).mid (uh G2))) (row_fz ((uh HA).mid (uh G2)) 7))
  rcases o2.form with ⟨_, e0⟩ | ⟨gb, cap, rfl, _⟩
  · exact absurd e0 (by simp)
  have PO := hide ((uh HA).putO ⟨some ⟨gb, 0, none⟩, (t.d.o ++ [r0]).length, cap⟩ (uh G2) o2 (fun b hb => b2.elim (fun k => .inl (by rw [uh HO, ← k]; exact hb)) (fun k => .inr (by have k2 := hb.symm.trans k; cases k2; exact Nat.le_refl _))))
  have H9 := hide (uh PO).1
  have F9 := hide ((uh FA).trans (uh PO).2)
  have C9 := hide (show (w2.setCell ⟨g, 7, none⟩ (.slice (some ⟨gb, 0, none⟩) (t.d.o ++ [r0]).length cap)).cell? ⟨g, 1, none⟩ = some (.slice (some ⟨gr, 0, none⟩) 8 rc) ∧ (w2.setCell ⟨g, 7, none⟩ (.slice (some ⟨gb, 0, none⟩) (t.d.o ++ [r0]).length cap)).cell? ⟨gr, 0, none⟩ = some (.int .i64 r0) from
   ⟨(uh H9).rcell (uh ER), (((uh H9).setR (uh ER) 0 0 (by show 0 < t.d.r.length; have := uh T8; omega)).2.2.1).trans (congrArg (fun q : Int => some (Value.int .i64 q)) (uh ER0))⟩)
  generalize hN : (t.d.o ++ [r0]).length = oN at C9 H9 F9 ⊢
  clear o2 g2 b2 PO G2 RK RA CA C1 HA FA hN
  refine hK.out _ _ (uh C2) (fun hS => ?_)
  clear HS
  have HS := hide hS
  clear hS hK K2
  refine tkB 13 (.pointer (some ⟨g, 0, none⟩)) rfl (uh HS) ?_
  go_simp
  refine tkB 14 (.pointer (some ⟨g, 7, none⟩)) rfl (uh HS) ?_
  go_simp
  refine wpAnyH_ready (rs := [15]) (by kernel_rfl) (by simp) ?_
  refine AllReadyH.cons rfl (fun K2 hK => ?_) (AllReadyH.nil)
  obtain ⟨c2, c3⟩ := uh C3
  go_simp
  clear c2 c3
  refine hK.out _ _ (uh C9) (fun hS => ?_)
  clear HS
  have HS := hide hS
  clear hS hK K2
  refine wpAnyH_done (by kernel_rfl) ?_ _
  clear HS
  go_wp2_with fail
  go_ret
  exact ⟨rfl, _, fun _ => uh H9, uh F9⟩
 ·
  skip
  go_simp
  have HA := hide ((uh HD).later (below_new wd (Obj.cells #[.int .i64 r0] 3)))
  have FA := hide ((uh F0).trans (Fm.of (below_new wd (Obj.cells #[.int .i64 r0] 3))))
  have C1 := hide (show (wd.alloc (Obj.cells #[.int .i64 r0] 3)).cell? ⟨g, 1, none⟩ = some (.slice (some ⟨gr, 0, none⟩) 8 rc) ∧ (wd.alloc (Obj.cells #[.int .i64 r0] 3)).cell? ⟨gr, 0, none⟩ = some (.int .i64 r0) from ⟨(uh HA).rcell (uh ER), ((below_new wd (Obj.cells #[.int .i64 r0] 3)).cell (p := ⟨gr, 0, none⟩) ((uh HD).own.lo (at_r (uh ER))).2).trans (uh C0).2⟩)
  have CA := hide (show (wd.alloc (Obj.cells #[.int .i64 r0] 3)).cell? ⟨g, 7, none⟩ = some (.slice oa on oc) from ((below_new wd (Obj.cells #[.int .i64 r0] 3)).cell (p := ⟨g, 7, none⟩) (row_lt (uh HD).row)).trans (uh CO))
  have RA := hide (heap_alloc_last wd (Obj.cells #[.int .i64 r0] 3))
  refine hK.out _ _ (uh C1) (fun hS => ?_)
  clear HS
  have HS := hide hS
  clear hS hK K2
  refine wpAnyH_ready (rs := [4]) (by kernel_rfl) (by simp) ?_
  refine AllReadyH.cons rfl (fun K2 hK => ?_) (AllReadyH.nil)
  have c2 := uh CA
  go_simp
  clear c2
  refine hK.out _ _ (uh C1) (fun hS => ?_)
  clear HS
  have HS := hide hS
  clear hS hK K2
  refine wpAnyH_ready (rs := [12]) (by kernel_rfl) (by simp) ?_
  refine AllReadyH.cons rfl (fun K2 hK => ?_) (AllReadyH.nil)
  rw [if_pos (by rfl)]
  refine wp_app _ _ rfl B (.slice oa on oc) t.d.o rfl (by rw [← uh HO]; exact uh AO _ (uh HA)) ⟨some ⟨wd.heap.size, 0, none⟩, 1, 1⟩ [r0] rfl (rdN_one (uh RA)) rfl (fun e => by cases e) (by have := uh HL; simp; omega) (by have := (uh HA).lo; have := row_lt (uh HA).row; omega) (fun v' w2 o2 g2 b2 => ?_)
  have G2 := hide (show (wd.alloc (Obj.cells #[.int .i64 r0] 3)).grownBy w2 y.o.v.ownBlock by rw [uh HO]; exact g2)
  have RK := hide (show OwnN w2 B (.slice (some ⟨gr, 0, none⟩) 8 rc) t.d.r by
   have k := (uh HA).own.r.keep fun q hv hq => (uh G2).block q hq (fun e => (uh HA).own.ro q hv e.symm)
   rw [uh ER] at k
   exact k)
  have C2 := hide (show w2.cell? ⟨g, 1, none⟩ = some (.slice (some ⟨gr, 0, none⟩) 8 rc) ∧ w2.cell? ⟨gr, 0, none⟩ = some (.int .i64 r0) from ⟨by rw [row_r ((uh HA).mid (uh G2)), uh ER], by rw [((uh RK).cellAt 0 (by have := uh T8; omega)).1, uh ER0]⟩)
  have C3 := hide (And.intro (row_o ((uh HA).mid (uh G2))) (row_fz ((uh HA).mid (uh G2)) 7))
  rcases o2.form with ⟨_, e0⟩ | ⟨gb, cap, rfl, _⟩
  · exact absurd e0 (by simp)
  have PO := hide ((uh HA).putO ⟨some ⟨gb, 0, none⟩, (t.d.o ++ [r0]).length, cap⟩ (uh G2) o2 (fun b hb => b2.elim (fun k => .inl (by rw [uh HO, ← k]; exact hb)) (fun k => .inr (by have k2 := hb.symm.trans k; cases k2; exact Nat.le_refl _))))
  have H9 := hide (uh PO).1
  have F9 := hide ((uh FA).trans (uh PO).2)
  have C9 := hide (show (w2.setCell ⟨g, 7, none⟩ (.slice (some ⟨gb, 0, none⟩) (t.d.o ++ [r0]).length cap)).cell? ⟨g, 1, none⟩ = some (.slice (some ⟨gr, 0, none⟩) 8 rc) ∧ (w2.setCell ⟨g, 7, none⟩ (.slice (some ⟨gb, 0, none⟩) (t.d.o ++ [r0]).length cap)).cell? ⟨gr, 0, none⟩ = some (.int .i64 r0) from
   ⟨(uh H9).rcell (uh ER), (((uh H9).setR (uh ER) 0 0 (by show 0 < t.d.r.length; have := uh T8; omega)).2.2.1).trans (congrArg (fun q : Int => some (Value.int .i64 q)) (uh ER0))⟩)
  generalize hN : (t.d.o ++ [r0]).length = oN at C9 H9 F9 ⊢
  clear o2 g2 b2 PO G2 RK RA CA C1 HA FA hN
  refine hK.out _ _ (uh C2) (fun hS => ?_)
  clear HS
  have HS := hide hS
  clear hS hK K2
  refine tkB 13 (.pointer (some ⟨g, 0, none⟩)) rfl (uh HS) ?_
  go_simp
  refine tkB 14 (.pointer (some ⟨g, 7, none⟩)) rfl (uh HS) ?_
  go_simp
  refine wpAnyH_ready (rs := [15]) (by kernel_rfl) (by simp) ?_
  refine AllReadyH.cons rfl (fun K2 hK => ?_) (AllReadyH.nil)
  obtain ⟨c2, c3⟩ := uh C3
  go_simp
  clear c2 c3
  refine hK.out _ _ (uh C9) (fun hS => ?_)
  clear HS
  have HS := hide hS
  clear hS hK K2
  refine wpAnyH_done (by kernel_rfl) ?_ _
  clear HS
  go_wp2_with fail
  go_ret
  exact ⟨rfl, _, fun _ => uh H9, uh F9⟩
theorem own_formL {w : World} {B : Nat} {s : Sl} {ns : List Int} (h : OwnN w B s.v ns) (h0 : 0 < ns.length) : ∃ g c, s = ⟨some ⟨g, 0, none⟩, ns.length, c⟩ ∧ ns.length ≤ c := by
 obtain ⟨sa, sn, sc⟩ := s
 rcases h.form with ⟨_, e⟩ | ⟨g, c, e, _, _, hc, _⟩
 · rw [e] at h0; simp at h0
 ·
  unfold Sl.v at e
  simp at e
  obtain ⟨rfl, rfl, rfl⟩ := e
  exact ⟨g, sc, rfl, hc⟩
theorem rdN_tl {w : World} {b : Nat} {x : Int} {xs : List Int} (h : RdN w (some ⟨b, 0, none⟩) (x :: xs)) : RdN w (some ⟨b, 1, none⟩) xs := by
 rcases h with h | ⟨b', off, ha, hlt, hc⟩
 · cases h
 ·
  cases ha
  exact .inr ⟨b, 1, rfl, hlt, fun i hi => by
   have k := hc (i + 1) (by simp; omega)
   rw [show 0 + (i + 1) = 1 + i by omega] at k
   exact k⟩
theorem OwnM.putI {w w' : World} {B : Nat} {x : Mv} {d : Md} {ns : List Int} (h : OwnM w B x d) (i' : Sl) (hg : Below w.heap.size w w') (ho : OwnN w' B i'.v ns) (hb : ∀ b, i'.v.ownBlock = some b → w.heap.size ≤ b) : OwnM w' B { x with i := i' } ⟨d.m, d.r, ns, d.o⟩ :=
 { m := h.m.later hg
   r := h.r.later hg
   i := ho
   o := h.o.later hg
   mr := h.mr
   mo := h.mo
   ro := h.ro
   mi := fun b hm k => by have := (h.m.lt hm).2; have := hb b k; omega
   ri := fun b hm k => by have := (h.r.lt hm).2; have := hb b k; omega
   io := fun b k hm => by have := (h.o.lt hm).2; have := hb b k; omega }
def Ms.inp (t : Ms) (ns : List Int) : Ms := { t with d := ⟨t.d.m, t.d.r, ns, t.d.o⟩ }
theorem Sm.putI {w w1 : World} {B g : Nat} {y : Mv} {t : Ms} {st : Int} {ns : List Int} (h : Sm w B g y t st) (i' : Sl) (hg : Below w.heap.size w w1) (ho : OwnN w1 B i'.v ns) (hb : ∀ b, i'.v.ownBlock = some b → w.heap.size ≤ b) :
  Sm (w1.setCell ⟨g, 6, none⟩ i'.v) B g { y with i := i' } (t.inp ns) st ∧ Fm w (w1.setCell ⟨g, 6, none⟩ i'.v) g y { y with i := i' } := by
 have hat : ∀ b, Mv.at { y with i := i' } b → y.at b ∨ w.heap.size ≤ b := fun b k => by
  rcases k with k | k | k | k
  · exact .inl (.inl k)
  · exact .inl (.inr (.inl k))
  · exact .inr (hb b k)
  · exact .inl (.inr (.inr (.inr k)))
 have hne : ∀ b, Mv.at { y with i := i' } b → b ≠ g := fun b k e => (hat b k).elim (fun a => h.ne b a e) (fun l => by have := row_lt h.row; omega)
 have F1 : Fm w w1 g y { y with i := i' } := ⟨hg.os, hg.tape, hg.output, hg.size, fun k hk _ hy => hg.block k hk, hat⟩
 refine ⟨⟨row_put (row_lat h.row hg) 6 i'.v { y with i := i' } rfl, (h.own.putI i' hg ho hb).keepH fun b k _ => Below.heap_setCell w1 ⟨g, 6, none⟩ i'.v b (hne b k), h.fl, h.lo, hne⟩, F1.trans (Fm.grown (grownBy_set (b := g) (o := 6) i'.v) (.inl rfl) (fun k hk => hk))⟩
theorem emt_2 (B g : Nat) (y : Mv) (t : Ms) (st x : Int) (xs : List Int) (w : World) (h : Sm w B g y t st) (hk : Dk t.d) (hi : t.d.i = x :: xs) : EmIs B g y t (((t.rg 0 x).inp xs).cs false) st 2 true w := by
 obtain ⟨gr, rc, er⟩ := h.regs hk.rl
 have ER := hide er
 obtain ⟨gi, ic, ei, hic⟩ : ∃ g c, y.i = ⟨some ⟨g, 0, none⟩, xs.length + 1, c⟩ ∧ xs.length + 1 ≤ c := by
  obtain ⟨a, b, q1, q2⟩ := own_formL h.own.i (by rw [hi]; simp)
  rw [hi] at q1 q2
  exact ⟨a, b, q1, q2⟩
 have EI := hide ei
 have HD := hide (h.later (below_drew (w := w)))
 have HSI := hide (fun (v : World) (t' : Ms) (hv : Sm v B g y t' st) (hx : t'.d.i = x :: xs) => (show v.cell? ⟨g, 6, none⟩ = some (.slice (some ⟨gi, 0, none⟩) (xs.length + 1) ic) ∧ v.cell? ⟨gi, 0, none⟩ = some (.int .i64 x) from ⟨by rw [row_i hv.row, ei], by
  have k := hv.own.i
  rw [ei, hx] at k
  exact (k.cellAt 0 (by simp)).1⟩))
 have SC := hide ((uh HD).setR er 0 x (by have := hk.rl; omega))
 have C0 := hide (show w.drew.cell? ⟨g, 1, none⟩ = some (.slice (some ⟨gr, 0, none⟩) 8 rc) ∧ w.drew.cell? ⟨g, 6, none⟩ = some (.slice (some ⟨gi, 0, none⟩) (xs.length + 1) ic) ∧ w.drew.cell? ⟨gi, 0, none⟩ = some (.int .i64 x) from ⟨(uh HD).rcell er, uh HSI _ t (uh HD) hi⟩)
 have CK := hide (uh SC).2.2
 have H1 := hide (uh SC).1
 have F1 := hide ((Fm.of (g := g) (y := y) (below_drew (w := w))).trans (uh SC).2.1)
 have C4 := hide (show (w.drew.setCell ⟨gr, 0, none⟩ (.int .i64 x)).cell? ⟨g, 1, none⟩ = some (.slice (some ⟨gr, 0, none⟩) 8 rc) ∧ (w.drew.setCell ⟨gr, 0, none⟩ (.int .i64 x)).cell? ⟨g, 6, none⟩ = some (.slice (some ⟨gi, 0, none⟩) (xs.length + 1) ic) ∧ (w.drew.setCell ⟨gr, 0, none⟩ (.int .i64 x)).cell? ⟨gi, 0, none⟩ = some (.int .i64 x) from ⟨(uh H1).rcell er, uh HSI _ (t.rg 0 x) (uh H1) hi⟩)
 have ci := (uh HSI w t h hi).1
 have HI := hide (show (t.rg 0 x).d.i = x :: xs from hi)
 have hlt : xs.length + 1 ≤ 50 := by
  have := hk.il
  rw [hi] at this
  simpa using this
 have il0 : ¬ ((xs.length + 1 : Nat) : Int) ≤ 0 := by omega
 have il1 : (0 : Int) < ((xs.length + 1 : Nat) : Int) := by omega
 have HC1 := hide hic
 unfold EmIs
 clear h hk hi er ei SC HD
 generalize t.rg 0 x = t1 at H1 HI ⊢
 go_enter Tryz.func38, Tryz.ntmps38
 go_wp2_with fail
 refine wp_region_held_drew (S := fun v => v.cell? ⟨g, 1, none⟩ = some (.slice (some ⟨gr, 0, none⟩) 8 rc) ∧ v.cell? ⟨g, 6, none⟩ = some (.slice (some ⟨gi, 0, none⟩) (xs.length + 1) ic) ∧ v.cell? ⟨gi, 0, none⟩ = some (.int .i64 x)) (by kernel_rfl) (uh C0) (fun hS => ?_)
 have HS := hide hS
 clear hS
 refine tkB 0 (.pointer (some ⟨g, 0, none⟩)) rfl (uh HS) ?_
 go_simp
 refine tkB 1 (.pointer (some ⟨g, 0, none⟩)) rfl (uh HS) ?_
 go_simp
 refine tkB 2 (.pointer (some ⟨g, 1, none⟩)) rfl (uh HS) ?_
 go_simp
 refine tkA 3 (.slice (some ⟨gr, 0, none⟩) 8 rc) rfl (.inl ⟨by rfl, fun w hc => ?_⟩) (uh HS) ?_
 · obtain ⟨h1, h2, h3⟩ := hc; go_simp
 go_simp
 refine tkB 4 (.pointer (some ⟨g, 0, none⟩)) rfl (uh HS) ?_
 go_simp
 refine tkB 5 (.pointer (some ⟨g, 0, none⟩)) rfl (uh HS) ?_
 go_simp
 refine tkB 6 (.pointer (some ⟨g, 6, none⟩)) rfl (uh HS) ?_
 go_simp
 refine tkA 7 (.slice (some ⟨gi, 0, none⟩) (xs.length + 1) ic) rfl (.inl ⟨by rfl, fun w hc => ?_⟩) (uh HS) ?_
 · obtain ⟨h1, h2, h3⟩ := hc; go_simp
 go_simp
 refine tkB 8 (.pointer (some ⟨gi, 0, none⟩)) rfl (uh HS) ?_
 go_simp
 refine tkA 9 (.int .i64 x) rfl (.inl ⟨by rfl, fun w hc => ?_⟩) (uh HS) ?_
 · obtain ⟨h1, h2, h3⟩ := hc; go_simp
 go_simp
 refine tkB 10 (.pointer (some ⟨gr, 0, none⟩)) rfl (uh HS) ?_
 go_simp
 refine wpAnyH_ready (rs := [11]) (by kernel_rfl) (by simp) ?_
 refine AllReadyH.cons rfl (fun K2 hK => ?_) (AllReadyH.nil)
 obtain ⟨c2, c3⟩ := uh CK
 go_simp
 clear c2 c3
 refine hK.out _ _ (uh C4) (fun hS => ?_)
 clear HS
 have HS := hide hS
 clear hS hK K2
 refine wpAnyH_done (by kernel_rfl) ?_ _
 clear HS
 generalize hwd : w.drew.setCell ⟨gr, 0, none⟩ (.int .i64 x) = w1 at H1 F1 C4
 rw [show (w.setCell ⟨gr, 0, none⟩ (.int .i64 x)).drew = w1 from hwd]
 clear hwd C0 CK ci
 have c6 := ((below_new w1 (Obj.cells #[] 3)).cell (p := ⟨g, 6, none⟩) (row_lt (uh H1).row)).trans (uh C4).2.1
 have OE := hide (show OwnN (w1.alloc (Obj.cells #[] 3)) w1.heap.size (.slice (some ⟨w1.heap.size, 0, none⟩) 0 0) [] from own_made (n := 0) (heap_alloc_last w1 (Obj.cells #[] 3)) (Nat.le_refl _) (by omega))
 have RT := hide (show RdN (w1.alloc (Obj.cells #[] 3)) (some ⟨gi, 0, none⟩) (x :: xs) by
  have k := (uh H1).own.i.rdS
  rw [uh HI, uh EI] at k
  exact k.later (below_new w1 (Obj.cells #[] 3)))
 have HB := hide (show w1.heap.size ≤ (w1.alloc (Obj.cells #[] 3)).heap.size by simp)
 have BG := hide (show B ≤ w1.heap.size from Nat.le_of_lt (Nat.lt_of_le_of_lt (uh H1).lo (row_lt (uh H1).row)))
 by_cases hc1 : ic = 1
 ·
  skip
  obtain rfl : xs = [] := List.eq_nil_of_length_eq_zero (by have := uh HC1; omega)
  subst hc1
  go_wp2_with (at_builtin; refine wpList_app rfl _ _ rfl w1.heap.size (.slice (some ⟨w1.heap.size, 0, none⟩) 0 0) [] rfl (uh OE) ⟨some ⟨gi, 0, none⟩, 0, 0⟩ [] rfl (.inl rfl) rfl (fun e => by cases e) (by first | (simp; omega) | simp) (uh HB) ?_; intro v' w2 ho hg; obtain ⟨a0, n0, c0, rfl⟩ : ∃ a n c, v' = Value.slice a n c := (by obtain ⟨a, c, e, _⟩ := ho.rd; exact ⟨_, _, _, e⟩); have BL := hide ((below_new w1 (Obj.cells #[] 3)).trans (show Below w1.heap.size (w1.alloc (Obj.cells #[] 3)) w2 from ⟨hg.os, hg.tape, hg.output, hg.size, fun k hk => hg.block k (by simp; omega) (fun e => Nat.lt_irrefl w1.heap.size (by cases e; exact hk))⟩)); have PI := hide ((uh H1).putI ⟨a0, n0, c0⟩ (uh BL) (show OwnN w2 B (.slice a0 n0 c0) ([] : List Int) from ho.base (uh BG)) (fun b hb => (ho.lt hb).1)); have ca := row_i (row_lat (uh H1).row (uh BL)); have cb := row_fz (row_lat (uh H1).row (uh BL)) 6; have H5 := hide (uh PI).1; have F5 := hide ((uh F1).trans (uh PI).2); clear PI BL ho hg; have c5 := row_c (uh H5).row; change (w2.setCell ⟨g, 6, none⟩ (Value.slice a0 n0 c0)).cell? ⟨g, 5, none⟩ = some (.bool y.c) at c5; have f5 := row_fz (uh H5).row 5; change (w2.setCell ⟨g, 6, none⟩ (Value.slice a0 n0 c0)).frozen? ⟨g, 5, none⟩ = false at f5; have S6 := hide ((uh H5).setC false); have H6 := hide (uh S6).1; have F6 := hide ((uh F5).trans (uh S6).2); clear S6 H5 F5)
  go_ret
  first | exact ⟨rfl, _, fun _ => uh H6, uh F6⟩ | exact ⟨rfl, _, uh H6, uh F6⟩
 ·
  skip
  have hc2 : 1 < ic := by have := uh HC1; omega
  go_wp2_with (at_builtin; refine wpList_app rfl _ _ rfl w1.heap.size (.slice (some ⟨w1.heap.size, 0, none⟩) 0 0) [] rfl (uh OE) ⟨some ⟨gi, 1, none⟩, xs.length, ic - 1⟩ xs rfl (rdN_tl (uh RT)) rfl (fun e => by cases e) (by first | (simp; omega) | simp) (uh HB) ?_; intro v' w2 ho hg; obtain ⟨a0, n0, c0, rfl⟩ : ∃ a n c, v' = Value.slice a n c := (by obtain ⟨a, c, e, _⟩ := ho.rd; exact ⟨_, _, _, e⟩); have BL := hide ((below_new w1 (Obj.cells #[] 3)).trans (show Below w1.heap.size (w1.alloc (Obj.cells #[] 3)) w2 from ⟨hg.os, hg.tape, hg.output, hg.size, fun k hk => hg.block k (by simp; omega) (fun e => Nat.lt_irrefl w1.heap.size (by cases e; exact hk))⟩)); have PI := hide ((uh H1).putI ⟨a0, n0, c0⟩ (uh BL) (show OwnN w2 B (.slice a0 n0 c0) xs from ho.base (uh BG)) (fun b hb => (ho.lt hb).1)); have ca := row_i (row_lat (uh H1).row (uh BL)); have cb := row_fz (row_lat (uh H1).row (uh BL)) 6; have H5 := hide (uh PI).1; have F5 := hide ((uh F1).trans (uh PI).2); clear PI BL ho hg; have c5 := row_c (uh H5).row; change (w2.setCell ⟨g, 6, none⟩ (Value.slice a0 n0 c0)).cell? ⟨g, 5, none⟩ = some (.bool y.c) at c5; have f5 := row_fz (uh H5).row 5; change (w2.setCell ⟨g, 6, none⟩ (Value.slice a0 n0 c0)).frozen? ⟨g, 5, none⟩ = false at f5; have S6 := hide ((uh H5).setC false); have H6 := hide (uh S6).1; have F6 := hide ((uh F5).trans (uh S6).2); clear S6 H5 F5)
  go_ret
  first | exact ⟨rfl, _, fun _ => uh H6, uh F6⟩ | exact ⟨rfl, _, uh H6, uh F6⟩
def Ms.emt (t : Ms) (n : Int) : Ms := if n = 1 then t.out (t.d.o ++ [nAt t.d.r 0]) else match t.d.i with
 | [] => (t.rg 0 65535).cs true
 | x :: xs => ((t.rg 0 x).inp xs).cs false
def Ms.emtB (t : Ms) (n : Int) : Bool := if n = 1 then decide (t.d.o.length < 50) else decide (n = 2)
theorem emt_any (B g : Nat) (y : Mv) (t : Ms) (st n : Int) (w : World) (h : Sm w B g y t st) (hk : Dk t.d) : EmIs B g y t (t.emt n) st n (t.emtB n) w := by
 unfold Ms.emt Ms.emtB
 by_cases h1 : n = 1
 ·
  subst h1
  rw [if_pos rfl, if_pos rfl]
  by_cases hl : t.d.o.length < 50
  ·
   rw [decide_eq_true hl]
   exact emt_1 B g y t st w h hk hl
  ·
   rw [decide_eq_false hl]
   exact emt_f B g y t _ st w h hk (by omega)
 ·
  rw [if_neg h1, if_neg h1]
  by_cases h2 : n = 2
  ·
   subst h2
   rw [decide_eq_true rfl]
   cases hi : t.d.i with
   | nil => exact emt_2e B g y t st w h hk hi
   | cons x xs => exact emt_2 B g y t st x xs w h hk hi
  ·
   rw [decide_eq_false h2]
   exact emt_x B g y t _ st n w h h1 h2
section
def OwnO (w : World) (B : Nat) (s : Sl) (ns : List Int) : Prop :=
 (s = ⟨none, 0, 0⟩ ∧ ns = []) ∨ ∃ g off cap, s = ⟨some ⟨g, off, none⟩, ns.length, cap⟩ ∧ B ≤ g ∧ ns.length ≤ cap ∧ cap ≤ maxLen ∧ (∃ cur, w.heap[g]? = some (.cells cur 3 (0, 0)) ∧ off + ns.length ≤ cur.size) ∧ ∀ i, i < ns.length → w.cell? ⟨g, off + i, none⟩ = some (.int .i64 (nAt ns i))
section
variable {w w' : World} {B C : Nat} {s : Sl} {ns : List Int}
theorem OwnO.lt (h : OwnO w B s ns) {g : Nat} (hg : s.v.ownBlock = some g) : B ≤ g ∧ g < w.heap.size := by
 rcases h with ⟨rfl, _⟩ | ⟨b, off, cap, rfl, hB, _, _, ⟨cur, hc, _⟩, _⟩
 · cases hg
 · cases hg; exact ⟨hB, row_lt hc⟩
theorem OwnO.keep (h : OwnO w B s ns) (hs : ∀ g, s.v.ownBlock = some g → g < w.heap.size → w'.heap[g]? = w.heap[g]?) : OwnO w' B s ns := by
 rcases h with h | ⟨b, off, cap, rfl, hB, h1, h2, ⟨cur, hc, h3⟩, h4⟩
 · exact .inl h
 ·
  have e := hs b rfl (row_lt hc)
  exact .inr ⟨b, off, cap, rfl, hB, h1, h2, ⟨cur, e.trans hc, h3⟩, fun i hi => by rw [cell_of_row w' b (off + i) cur 3 (0, 0) (e.trans hc), ← cell_of_row w b (off + i) cur 3 (0, 0) hc]; exact h4 i hi⟩
theorem OwnO.base (h : OwnO w B s ns) (hB : C ≤ B) : OwnO w C s ns := by
 rcases h with h | ⟨b, off, cap, e, h0, h⟩
 · exact .inl h
 · exact .inr ⟨b, off, cap, e, Nat.le_trans hB h0, h⟩
theorem OwnO.rdS (h : OwnO w B s ns) : RdN w s.a ns := by
 rcases h with ⟨_, h⟩ | ⟨b, off, cap, rfl, _, _, _, ⟨cur, hc, _⟩, h4⟩
 · exact .inl h
 · exact .inr ⟨b, off, rfl, row_lt hc, h4⟩
theorem OwnO.len (h : OwnO w B s ns) : ns.length = s.n := by
 rcases h with ⟨rfl, rfl⟩ | ⟨b, off, cap, rfl, _⟩ <;> rfl
theorem OwnN.toO (h : OwnN w B s.v ns) : OwnO w B s ns := by
 obtain ⟨sa, sn, sc⟩ := s
 obtain ⟨hl, ⟨e, h0⟩ | ⟨g, cap, cur, e, hB, hh, hn, hm, hs, ht⟩⟩ := id h
 ·
  unfold Sl.v at e
  simp at e
  obtain ⟨rfl, rfl, rfl⟩ := e
  exact .inl ⟨rfl, List.eq_nil_of_length_eq_zero h0⟩
 ·
  unfold Sl.v at e h
  simp at e
  obtain ⟨rfl, rfl, rfl⟩ := e
  exact .inr ⟨g, 0, sc, rfl, hB, hn, hm, ⟨cur, hh, by simp at hs; omega⟩, fun i hi => by rw [Nat.zero_add]; exact (h.cellAt i hi).1⟩
theorem OwnO.tl {g c : Nat} {x : Int} {xs : List Int} (h : OwnN w B (Sl.v ⟨some ⟨g, 0, none⟩, xs.length + 1, c⟩) (x :: xs)) : OwnO w B ⟨some ⟨g, 1, none⟩, xs.length, c - 1⟩ xs := by
 obtain ⟨hl, ⟨e, h0⟩ | ⟨g2, cap, cur, e, hB, hh, hn, hm, hs, ht⟩⟩ := id h
 · simp at h0
 ·
  unfold Sl.v at e h
  simp at e
  obtain ⟨rfl, rfl⟩ := e
  refine .inr ⟨g, 1, c - 1, rfl, hB, by simp at hn; omega, by omega, ⟨cur, hh, by simp at hs hn; omega⟩, fun i hi => ?_⟩
  have k := (h.cellAt (i + 1) (by simp; omega)).1
  rw [Nat.add_comm 1 i]
  exact k
theorem OwnO.nil {g c : Nat} {xs : List Int} (h : OwnN w B (Sl.v ⟨some ⟨g, 0, none⟩, xs.length, c⟩) xs) : OwnO w B ⟨some ⟨g, 0, none⟩, 0, 0⟩ [] := by
 obtain ⟨hl, ⟨e, h0⟩ | ⟨g2, cap, cur, e, hB, hh, hn, hm, hs, ht⟩⟩ := id h
 ·
  unfold Sl.v at e
  cases e
 ·
  unfold Sl.v at e
  simp at e
  obtain ⟨rfl, rfl⟩ := e
  exact .inr ⟨g, 0, 0, rfl, hB, by simp, by omega, ⟨cur, hh, by simp⟩, fun i hi => by simp at hi⟩
end
structure OwnE (w : World) (B : Nat) (x : Mv) (d : Md) : Prop where
 m : OwnN w B x.m.v d.m
 r : OwnN w B x.r.v d.r
 i : OwnO w B x.i d.i
 o : OwnN w B x.o.v d.o
 mr : Ap x.m x.r
 mi : Ap x.m x.i
 mo : Ap x.m x.o
 ri : Ap x.r x.i
 ro : Ap x.r x.o
 io : Ap x.i x.o
section
variable {w w' : World} {B C : Nat} {x : Mv} {d : Md}
theorem OwnM.toE (h : OwnM w B x d) : OwnE w B x d := ⟨h.m, h.r, h.i.toO, h.o, h.mr, h.mi, h.mo, h.ri, h.ro, h.io⟩
theorem OwnE.lo (h : OwnE w B x d) {b : Nat} (hb : x.at b) : B ≤ b ∧ b < w.heap.size := by
 rcases hb with h1 | h1 | h1 | h1
 · exact h.m.lt h1
 · exact h.r.lt h1
 · exact h.i.lt h1
 · exact h.o.lt h1
theorem OwnE.keepH (h : OwnE w B x d) (hs : ∀ g, x.at g → g < w.heap.size → w'.heap[g]? = w.heap[g]?) : OwnE w' B x d :=
 { h with m := h.m.keep fun g hv hg => hs g (.inl hv) hg, r := h.r.keep fun g hv hg => hs g (.inr (.inl hv)) hg, i := h.i.keep fun g hv hg => hs g (.inr (.inr (.inl hv))) hg, o := h.o.keep fun g hv hg => hs g (.inr (.inr (.inr hv))) hg }
theorem OwnE.later (h : OwnE w B x d) (hb : Below w.heap.size w w') : OwnE w' B x d := h.keepH fun g _ hg => hb.block g hg
theorem OwnE.base (h : OwnE w B x d) (hB : C ≤ B) : OwnE w C x d := { h with m := h.m.base hB, r := h.r.base hB, i := h.i.base hB, o := h.o.base hB }
theorem OwnE.rd (h : OwnE w B x d) : RdM w x d := ⟨h.m.rdS, h.r.rdS, h.i.rdS, h.o.rdS, h.m.len, h.r.len, h.i.len, h.o.len⟩
end
structure Pe (w : World) (g B : Nat) (y : Mv) (t : Ms) (st : Int) : Prop where
 row : w.heap[g]? = some (.cells (bigA t.d.m y) 69 (0, 0))
 len : t.d.m.length = 256
 own : ∃ m0, m0.length = 256 ∧ OwnE w B y ⟨m0, t.d.r, t.d.i, t.d.o⟩
 fl : y.fl = t.fl st
 ne : ∀ b, y.at b → b ≠ g
theorem Pz.pe {w : World} {g B gr rc : Nat} {y : Mv} {t : Ms} {st : Int} {m0 : List Int} (h : Pz w g B gr rc y t st m0) (hm : m0.length = 256) : Pe w g B y t st := ⟨h.row, h.len, ⟨m0, hm, h.own.toE⟩, h.fl, h.ne⟩
theorem Pz.putO {w w1 : World} {g B gr rc : Nat} {y : Mv} {t : Ms} {st : Int} {m0 ns : List Int} (h : Pz w g B gr rc y t st m0) (o' : Sl) (hg : w.grownBy w1 y.o.v.ownBlock) (ho : OwnN w1 B o'.v ns) (hb : ∀ b, o'.v.ownBlock = some b → y.o.v.ownBlock = some b ∨ w.heap.size ≤ b) :
  Pz (w1.setCell ⟨g, 263, none⟩ o'.v) g B gr rc { y with o := o' } (t.out ns) st m0 ∧ Fm w (w1.setCell ⟨g, 263, none⟩ o'.v) g y { y with o := o' } := by
 have hat : ∀ b, Mv.at { y with o := o' } b → y.at b ∨ w.heap.size ≤ b := fun b k => by
  rcases k with k | k | k | k
  · exact .inl (.inl k)
  · exact .inl (.inr (.inl k))
  · exact .inl (.inr (.inr (.inl k)))
  · exact (hb b k).elim (fun e => .inl (.inr (.inr (.inr e)))) .inr
 have hne : ∀ b, Mv.at { y with o := o' } b → b ≠ g := fun b k e => (hat b k).elim (fun a => h.ne b a e) (fun l => by have := row_lt h.row; omega)
 have hrow : w1.heap[g]? = some (.cells (bigA t.d.m y) 69 (0, 0)) := (hg.block g (row_lt h.row) (fun e => h.ne g (.inr (.inr (.inr e.symm))) rfl)).trans h.row
 have F1 : Fm w w1 g y { y with o := o' } := ⟨hg.os, hg.tape, hg.output, hg.size, fun k hk _ hy => hg.block k hk (fun e => hy (.inr (.inr (.inr e.symm)))), hat⟩
 refine ⟨⟨?_, h.len, (h.own.putO o' hg ho hb).keepH fun b k _ => Below.heap_setCell w1 ⟨g, 263, none⟩ o'.v b (hne b k), h.er, h.r8, h.fl, h.lo, hne⟩, F1.trans (Fm.grown (grownBy_set (b := g) (o := 263) o'.v) (.inl rfl) (fun k hk => hk))⟩
 rw [setCell_eq_setRow w1 g _ _ 69 (0, 0) _ hrow, show (263 : Nat) = 256 + 7 from rfl, bigA_setF y { y with o := o' } 7 o'.v h.len rfl]
 exact setRow_heap w1 g _ _ 69 _ hrow
theorem Pz.putI {w : World} {g B gr rc : Nat} {y : Mv} {t : Ms} {st : Int} {m0 ns : List Int} (h : Pz w g B gr rc y t st m0) (i' : Sl) (hm : m0.length = 256) (ho : OwnO w B i' ns) (hb : ∀ b, i'.v.ownBlock = some b → y.i.v.ownBlock = some b) :
  Pe (w.setCell ⟨g, 262, none⟩ i'.v) g B { y with i := i' } (t.inp ns) st ∧ Fm w (w.setCell ⟨g, 262, none⟩ i'.v) g y { y with i := i' } := by
 have hat : ∀ b, Mv.at { y with i := i' } b → y.at b := fun b k => by
  rcases k with k | k | k | k
  · exact .inl k
  · exact .inr (.inl k)
  · exact .inr (.inr (.inl (hb b k)))
  · exact .inr (.inr (.inr k))
 have hne : ∀ b, Mv.at { y with i := i' } b → b ≠ g := fun b k e => h.ne b (hat b k) e
 have ow : OwnE w B { y with i := i' } ⟨m0, t.d.r, ns, t.d.o⟩ := ⟨h.own.m, h.own.r, ho, h.own.o, h.own.mr, (fun b a c => h.own.mi b a (hb b c)), h.own.mo, (fun b a c => h.own.ri b a (hb b c)), h.own.ro, (fun b a c => h.own.io b (hb b a) c)⟩
 refine ⟨⟨?_, h.len, ⟨m0, hm, ow.keepH fun b k _ => Below.heap_setCell w ⟨g, 262, none⟩ i'.v b (hne b k)⟩, h.fl, hne⟩, Fm.grown (grownBy_set (b := g) (o := 262) i'.v) (.inl rfl) hat⟩
 rw [setCell_eq_setRow w g _ _ 69 (0, 0) _ h.row, show (262 : Nat) = 256 + 6 from rfl, bigA_setF y { y with i := i' } 6 i'.v h.len rfl]
 exact setRow_heap w g _ _ 69 _ h.row
def SoIs (g B : Nat) (y : Mv) (t t2 : Ms) (st : Int) (ok : Bool) (w : World) : Prop :=
 Calls Tryz.prog 112 #[.pointer (some ⟨g, 0, none⟩)] w fun e w' => ∃ y', e = .returned (.bool ok) ∧ AcE ok (Pe w' g B y' t2 st) (Fm w w' g y y')
theorem send_no (g B gr rc : Nat) (y : Mv) (t : Ms) (st : Int) (w : World) (h : Pz w g B gr rc y t st t.d.m) (hk : Dk t.d) (hl : t.d.o.length = 50) : SoIs g B y t t st false w := by
 have F0 := hide (Fm.of (g := g) (y := y) (Below.refl w.heap.size w))
 have co : w.cell? ⟨g, 263, none⟩ = some (.slice y.o.a y.o.n y.o.c) := h.cell 7 _ rfl
 have hn : y.o.n = 50 := by have := h.own.o.len; simp at this; omega
 rw [hn] at co
 unfold SoIs
 clear h hk
 go_enter Tryz.func112, Tryz.ntmps112
 go_wp2
 go_ret
 exact ⟨y, rfl, ⟨fun h => by simp at h, uh F0⟩⟩
theorem send_yes (g B gr rc : Nat) (y : Mv) (t : Ms) (st : Int) (w : World) (h : Pz w g B gr rc y t st t.d.m) (hk : Dk t.d) (hl : t.d.o.length < 50) : SoIs g B y t (t.out (t.d.o ++ [nAt t.d.r 0])) st true w := by
 have co : w.cell? ⟨g, 263, none⟩ = some (.slice y.o.a y.o.n y.o.c) := h.cell 7 _ rfl
 have hl2 := h.own.o.len
 simp at hl2
 have hne : (y.o.n : Int) ≠ 50 := by omega
 have hn : (y.o.n : Int) < 50 := by omega
 have HD := hide (h.later (below_drew (w := w)))
 have F0 := hide (Fm.of (g := g) (y := y) (below_drew (w := w)))
 have CO := hide (show w.drew.cell? ⟨g, 263, none⟩ = some (.slice y.o.a y.o.n y.o.c) from (uh HD).cell 7 _ rfl)
 have C1 := hide (uh HD).cr
 have C2 := hide ((uh HD).atR 0 (by omega))
 have SH := hide (fun v (p : Pz v g B gr rc y t st t.d.m) => And.intro (show v.cell? ⟨g, 263, none⟩ = some (.slice y.o.a y.o.n y.o.c) from p.cell 7 _ rfl) (And.intro p.cr (p.atR 0 (by omega))))
 have ML := hide hk.ml
 have HL := hide hl
 unfold SoIs
 obtain ⟨r0, hr0⟩ : ∃ q, nAt t.d.r 0 = q := ⟨_, rfl⟩
 obtain ⟨oa, hoa⟩ : ∃ q, y.o.a = q := ⟨_, rfl⟩
 obtain ⟨on, hon⟩ : ∃ q, y.o.n = q := ⟨_, rfl⟩
 obtain ⟨oc, hoc⟩ : ∃ q, y.o.c = q := ⟨_, rfl⟩
 have HO := hide (show y.o.v = .slice oa on oc by unfold Sl.v; rw [hoa, hon, hoc])
 rw [hoa, hon, hoc] at co CO SH
 rw [hon] at hn hne
 rw [hr0] at C2 SH ⊢
 have hn0 : (0 : Int) ≤ (on : Int) := by omega
 clear hoa hon hoc h hk hl hl2 hr0
 go_enter Tryz.func112, Tryz.ntmps112
 go_wp2_with fail
 have HS := hide (show w.drew.cell? ⟨g, 263, none⟩ = some (.slice oa on oc) ∧ w.drew.cell? ⟨g, 257, none⟩ = some (.slice (some ⟨gr, 0, none⟩) 8 rc) ∧ w.drew.cell? ⟨gr, 0, none⟩ = some (.int .i64 r0) from ⟨uh CO, uh C1, uh C2⟩)
 refine wp_region_last (fun v => v.cell? ⟨g, 263, none⟩ = some (.slice oa on oc) ∧ v.cell? ⟨g, 257, none⟩ = some (.slice (some ⟨gr, 0, none⟩) 8 rc) ∧ v.cell? ⟨gr, 0, none⟩ = some (.int .i64 r0)) 18 (by kernel_rfl) ?_
 generalize w.drew = wd at HD F0 CO C1 C2 HS ⊢
 refine twB 0 (.pointer (some ⟨g, 0, none⟩)) rfl (.inl (uh HS)) ?_
 go_simp
 refine twB 1 (.pointer (some ⟨g, 0, none⟩)) rfl (.inl (uh HS)) ?_
 go_simp
 refine twB 2 (.pointer (some ⟨g, 0, none⟩)) rfl (.inl (uh HS)) ?_
 go_simp
 refine twB 3 (.pointer (some ⟨g, 256, none⟩)) rfl (.inl (uh HS)) ?_
 go_simp
 refine twB 4 (.pointer (some ⟨g, 263, none⟩)) rfl (.inl (uh HS)) ?_
 go_simp
 refine tsA 5 (.slice oa on oc) rfl (.inl ⟨by rfl, fun w hc => ?_⟩) (uh HS) ?_
 · obtain ⟨h1, h2, h3⟩ := hc; go_simp
 go_simp
 refine twB 6 (.pointer (some ⟨g, 0, none⟩)) rfl (.inl (uh HS)) ?_
 go_simp
 refine twB 7 (.pointer (some ⟨g, 0, none⟩)) rfl (.inl (uh HS)) ?_
 go_simp
 refine twB 8 (.pointer (some ⟨g, 256, none⟩)) rfl (.inl (uh HS)) ?_
 go_simp
 refine twB 9 (.pointer (some ⟨g, 257, none⟩)) rfl (.inl (uh HS)) ?_
 go_simp
 refine tsA 10 (.slice (some ⟨gr, 0, none⟩) 8 rc) rfl (.inl ⟨by rfl, fun w hc => ?_⟩) (uh HS) ?_
 · obtain ⟨h1, h2, h3⟩ := hc; go_simp
 go_simp
 refine twB 11 (.pointer (some ⟨gr, 0, none⟩)) rfl (.inl (uh HS)) ?_
 go_simp
 refine tsA 12 (.int .i64 r0) rfl (.inl ⟨by rfl, fun w hc => ?_⟩) (uh HS) ?_
 · obtain ⟨h1, h2, h3⟩ := hc; go_simp
 go_simp
 refine wpAnyL_one (i := 13) (by kernel_rfl) rfl (fun K2 hK => ?_)
 go_simp
 have HA := hide ((uh HD).later (below_new wd (Obj.cells #[.int .i64 r0] 3)))
 have FA := hide ((uh F0).trans (Fm.of (below_new wd (Obj.cells #[.int .i64 r0] 3))))
 have RA := hide (heap_alloc_last wd (Obj.cells #[.int .i64 r0] 3))
 refine hK.out _ _ (fun _ => uh SH _ (uh HA)) ?_
 clear hK K2
 refine wpAnyL_one (i := 14) (by kernel_rfl) rfl (fun K2 hK => ?_)
 rw [if_pos (by rfl)]
 refine wp_app _ _ rfl B (.slice oa on oc) t.d.o rfl (by rw [← uh HO]; exact (uh HA).own.o) ⟨some ⟨wd.heap.size, 0, none⟩, 1, 1⟩ [r0] rfl (rdN_one (uh RA)) rfl (fun e => by cases e) (by have := uh HL; simp; omega) (by have := (uh HA).lo; have := row_lt (uh HA).row; omega) (fun v' w2 o2 g2 b2 => ?_)
 have G2 := hide (show (wd.alloc (Obj.cells #[.int .i64 r0] 3)).grownBy w2 y.o.v.ownBlock by rw [uh HO]; exact g2)
 have F2 := hide (show Fm (wd.alloc (Obj.cells #[.int .i64 r0] 3)) w2 g y y from ⟨(uh G2).os, (uh G2).tape, (uh G2).output, (uh G2).size, fun k hk _ hy => (uh G2).block k hk (fun e => hy (.inr (.inr (.inr e.symm)))), fun b hb => .inl hb⟩)
 have G3 := hide (show w2.heap[g]? = (wd.alloc (Obj.cells #[.int .i64 r0] 3)).heap[g]? from (uh G2).block g (row_lt (uh HA).row) (fun e => (uh HA).ne g (.inr (.inr (.inr e.symm))) rfl))
 have G4 := hide (show w2.heap[gr]? = (wd.alloc (Obj.cells #[.int .i64 r0] 3)).heap[gr]? from (uh G2).block gr ((uh HA).yl (uh HA).atr) (fun e => (uh HA).own.ro gr (by rw [(uh HA).er]; rfl) e.symm))
 have C3 := hide (show w2.cell? ⟨g, 263, none⟩ = some (.slice oa on oc) ∧ w2.cell? ⟨g, 257, none⟩ = some (.slice (some ⟨gr, 0, none⟩) 8 rc) ∧ w2.cell? ⟨gr, 0, none⟩ = some (.int .i64 r0) from by
  have k := uh SH _ (uh HA)
  unfold World.cell? at k ⊢
  simp only [uh G3, uh G4]
  exact k)
 have C4 := hide (show w2.frozen? ⟨g, 263, none⟩ = false from by
  have k := (uh HA).fz 263
  unfold World.frozen? at k ⊢
  simp only [uh G3]
  exact k)
 rcases o2.form with ⟨_, e0⟩ | ⟨gb, cap, rfl, _⟩
 · exact absurd e0 (by simp)
 have PO := hide ((uh HA).putO ⟨some ⟨gb, 0, none⟩, (t.d.o ++ [r0]).length, cap⟩ (uh G2) o2 (fun b hb => b2.elim (fun k => .inl (by rw [uh HO, ← k]; exact hb)) (fun k => .inr (by have k2 := hb.symm.trans k; cases k2; exact Nat.le_refl _))))
 have H9 := hide ((uh PO).1.pe (uh ML))
 have F9 := hide ((uh FA).trans (uh PO).2)
 generalize hN : (t.d.o ++ [r0]).length = oN at H9 F9 ⊢
 refine hK.out _ _ (fun _ => uh C3) ?_
 clear hK K2 HS o2 g2 b2 PO G2 RA HA FA hN
 have HS := hide (uh C3)
 refine twB 15 (.pointer (some ⟨g, 0, none⟩)) rfl (.inl (uh HS)) ?_
 go_simp
 refine twB 16 (.pointer (some ⟨g, 256, none⟩)) rfl (.inl (uh HS)) ?_
 go_simp
 refine twB 17 (.pointer (some ⟨g, 263, none⟩)) rfl (.inl (uh HS)) ?_
 go_simp
 have c1 := (uh C3).1
 have c2 := uh C4
 refine wpAnyL_one (i := 18) (by kernel_rfl) rfl (fun K2 hK => ?_)
 go_simp
 refine hK.out _ _ (fun h => absurd h (by decide)) ?_
 clear hK K2
 refine wpAnyL_done (by kernel_rfl) ?_ _
 clear c1 c2
 unfold Sl.v at H9 F9
 generalize w2.setCell ⟨g, 263, none⟩ (.slice (some ⟨gb, 0, none⟩) oN cap) = w3 at H9 F9 ⊢
 go_wp2
 go_ret
 exact ⟨_, rfl, ⟨fun _ => uh H9, uh F9⟩⟩
end
def TiIs (g B : Nat) (y : Mv) (t2 : Ms) (st : Int) (w : World) : Prop :=
 Calls Tryz.prog 113 #[.pointer (some ⟨g, 0, none⟩)] w fun e w' => ∃ y', e = .returned (.tuple #[]) ∧ Pe w' g B y' t2 st ∧ Fm w w' g y y'
theorem take_e (g B gr rc : Nat) (y : Mv) (t : Ms) (st : Int) (w : World) (h : Pz w g B gr rc y t st t.d.m) (hk : Dk t.d) (hl : t.d.i = []) : TiIs g B y ((t.rg 0 65535).cs true) st w := by
 have ci : w.cell? ⟨g, 262, none⟩ = some (.slice y.i.a y.i.n y.i.c) := h.cell 6 _ rfl
 have hn : y.i.n = 0 := by have := h.own.i.len; simp [hl] at this; omega
 rw [hn] at ci
 have c5 : w.cell? ⟨g, 261, none⟩ = some (.bool y.c) := h.cell 5 _ rfl
 have f5 := h.fz 261
 obtain ⟨h2, f2⟩ := h.setC true
 have d5 : (w.setCell ⟨g, 261, none⟩ (.bool true)).cell? ⟨g, 261, none⟩ = some (.bool true) := h2.cell 5 _ rfl
 have d1 := h2.cr
 obtain ⟨h3, f3, d2, d3⟩ := h2.setR 0 65535 (by omega)
 have H3 := hide (h3.pe hk.ml)
 have F3 := hide (f2.trans f3)
 unfold TiIs
 clear h hk h2 f2 h3 f3 hn
 go_enter Tryz.func113, Tryz.ntmps113
 go_wp2
 refine bodyPost_ret (results_none rfl _ _ _) rfl ?_
 first | exact ⟨rfl, _, uh H3, uh F3⟩ | exact ⟨_, rfl, uh H3, uh F3⟩
theorem take_x (g B gr rc : Nat) (y : Mv) (t : Ms) (st : Int) (w : World) (h : Pz w g B gr rc y t st t.d.m) (hk : Dk t.d) (x : Int) (xs : List Int) (hi : t.d.i = x :: xs) : TiIs g B y (((t.rg 0 x).inp xs).cs false) st w := by
 obtain ⟨gi, ic, ei, hic⟩ : ∃ g c, y.i = ⟨some ⟨g, 0, none⟩, xs.length + 1, c⟩ ∧ xs.length + 1 ≤ c := by
  obtain ⟨a, b, q1, q2⟩ := own_formL h.own.i (by simp [hi])
  simp only [hi] at q1 q2
  exact ⟨a, b, q1, q2⟩
 have HSI := hide (fun (v : World) (y' : Mv) (t' : Ms) (ey : y'.i = y.i) (hv : Pz v g B gr rc y' t' st t.d.m) (hx : t'.d.i = x :: xs) => (show v.cell? ⟨g, 257, none⟩ = some (.slice (some ⟨gr, 0, none⟩) 8 rc) ∧ v.cell? ⟨g, 262, none⟩ = some (.slice (some ⟨gi, 0, none⟩) (xs.length + 1) ic) ∧ v.cell? ⟨gi, 0, none⟩ = some (.int .i64 x) from ⟨hv.cr, by have k := hv.cell 6 (.slice y'.i.a y'.i.n y'.i.c) rfl; rw [ey, ei] at k; exact k, by
  have k := hv.own.i
  rw [ey, ei] at k
  simp only [hx] at k
  exact (k.cellAt 0 (by simp)).1⟩))
 have ci := (uh HSI w y t rfl h hi).2.1
 have hlt : xs.length + 1 ≤ 50 := by
  have := hk.il
  rw [hi] at this
  simpa using this
 have il0 : ¬ ((xs.length + 1 : Nat) : Int) = 0 := by omega
 have il2 : ¬ ((xs.length + 1 : Nat) : Int) ≤ 0 := by omega
 have il1 : (0 : Int) < ((xs.length + 1 : Nat) : Int) := by omega
 have il3 : (1 : Int) ≤ ((xs.length + 1 : Nat) : Int) := by omega
 have c5 : w.cell? ⟨g, 261, none⟩ = some (.bool y.c) := h.cell 5 _ rfl
 have f5 := h.fz 261
 obtain ⟨h2, f2⟩ := h.setC false
 have d5 : (w.setCell ⟨g, 261, none⟩ (.bool false)).cell? ⟨g, 261, none⟩ = some (.bool false) := h2.cell 5 _ rfl
 have HD := hide (h2.later (below_drew (w := w.setCell ⟨g, 261, none⟩ (.bool false))))
 have FD := hide (f2.trans (Fm.of (below_drew (w := w.setCell ⟨g, 261, none⟩ (.bool false)))))
 have HS := hide (uh HSI _ _ _ (show ({ y with c := false } : Mv).i = y.i from rfl) (uh HD) hi)
 have SC := hide ((uh HD).setR 0 x (by omega))
 have CK := hide (uh SC).2.2
 have C4 := hide (uh HSI _ _ _ (show ({ y with c := false } : Mv).i = y.i from rfl) (uh SC).1 hi)
 have C6 := hide ((uh SC).1.fz 262)
 have OI := hide (show OwnN _ B (Sl.v ⟨some ⟨gi, 0, none⟩, xs.length + 1, ic⟩) (x :: xs) from by
  have k := (uh SC).1.own.i
  rw [show ({ y with c := false } : Mv).i = y.i from rfl, ei] at k
  rw [← hi]
  exact k)
 have EB := hide (show y.i.v.ownBlock = some gi by rw [ei]; rfl)
 have hic2 : xs.length + 1 ≤ ic := hic
 unfold TiIs
 by_cases hc1 : ic = 1
 ·
  obtain rfl : xs = [] := List.eq_nil_of_length_eq_zero (by omega)
  subst hc1
  have PI := hide ((uh SC).1.putI ⟨some ⟨gi, 0, none⟩, 0, 0⟩ hk.ml (OwnO.nil (uh OI)) (fun b hb => by rw [show ({ y with c := false } : Mv).i = y.i from rfl, uh EB]; exact hb))
  have H5 := hide (uh PI).1
  have F5 := hide (((uh FD).trans (uh SC).2.1).trans (uh PI).2)
  clear h hk h2 f2 SC PI HSI ei hic hi OI EB HD FD hic2
  clear il0 il1 il2 il3 hlt
  simp only [List.length_nil, Nat.zero_add] at ci HS C4 H5 F5
  go_enter Tryz.func113, Tryz.ntmps113
  go_wp2_with fail
  refine wp_region_last (fun v => v.cell? ⟨g, 257, none⟩ = some (.slice (some ⟨gr, 0, none⟩) 8 rc) ∧ v.cell? ⟨g, 262, none⟩ = some (.slice (some ⟨gi, 0, none⟩) 1 1) ∧ v.cell? ⟨gi, 0, none⟩ = some (.int .i64 x)) 24 (by kernel_rfl) ?_
  generalize (w.setCell ⟨g, 261, none⟩ (.bool false)).drew = wd at HS CK C4 C6 H5 F5 ⊢
  refine twB 0 (.pointer (some ⟨g, 0, none⟩)) rfl (.inl (uh HS)) ?_
  go_simp
  refine twB 1 (.pointer (some ⟨g, 0, none⟩)) rfl (.inl (uh HS)) ?_
  go_simp
  refine twB 2 (.pointer (some ⟨g, 256, none⟩)) rfl (.inl (uh HS)) ?_
  go_simp
  refine twB 3 (.pointer (some ⟨g, 257, none⟩)) rfl (.inl (uh HS)) ?_
  go_simp
  refine tsA 4 (.slice (some ⟨gr, 0, none⟩) 8 rc) rfl (.inl ⟨by rfl, fun w hc => ?_⟩) (uh HS) ?_
  · obtain ⟨h1, h2, h3⟩ := hc; go_simp
  go_simp
  refine twB 5 (.pointer (some ⟨g, 0, none⟩)) rfl (.inl (uh HS)) ?_
  go_simp
  refine twB 6 (.pointer (some ⟨g, 0, none⟩)) rfl (.inl (uh HS)) ?_
  go_simp
  refine twB 7 (.pointer (some ⟨g, 0, none⟩)) rfl (.inl (uh HS)) ?_
  go_simp
  refine twB 8 (.pointer (some ⟨g, 256, none⟩)) rfl (.inl (uh HS)) ?_
  go_simp
  refine twB 9 (.pointer (some ⟨g, 262, none⟩)) rfl (.inl (uh HS)) ?_
  go_simp
  refine tsA 10 (.slice (some ⟨gi, 0, none⟩) 1 1) rfl (.inl ⟨by rfl, fun w hc => ?_⟩) (uh HS) ?_
  · obtain ⟨h1, h2, h3⟩ := hc; go_simp
  go_simp
  refine twB 11 (.pointer (some ⟨gi, 0, none⟩)) rfl (.inl (uh HS)) ?_
  go_simp
  refine tsA 12 (.int .i64 x) rfl (.inl ⟨by rfl, fun w hc => ?_⟩) (uh HS) ?_
  · obtain ⟨h1, h2, h3⟩ := hc; go_simp
  go_simp
  refine twB 13 (.pointer (some ⟨g, 0, none⟩)) rfl (.inl (uh HS)) ?_
  go_simp
  refine twB 14 (.pointer (some ⟨g, 0, none⟩)) rfl (.inl (uh HS)) ?_
  go_simp
  refine twB 15 (.pointer (some ⟨g, 256, none⟩)) rfl (.inl (uh HS)) ?_
  go_simp
  refine twB 16 (.pointer (some ⟨g, 262, none⟩)) rfl (.inl (uh HS)) ?_
  go_simp
  refine tsA 17 (.slice (some ⟨gi, 0, none⟩) 1 1) rfl (.inl ⟨by rfl, fun w hc => ?_⟩) (uh HS) ?_
  · obtain ⟨h1, h2, h3⟩ := hc; go_simp
  go_simp
  refine twB 18 (.slice (some ⟨gi, 0, none⟩) 0 0) rfl (.inl (uh HS)) ?_
  go_simp
  refine twB 19 (.pointer (some ⟨gr, 0, none⟩)) rfl (.inl (uh HS)) ?_
  go_simp
  have c2 := (uh CK).1
  have c3 := (uh CK).2
  refine wpAnyL_one (i := 20) (by kernel_rfl) rfl (fun K2 hK => ?_)
  go_simp
  refine hK.out _ _ (fun _ => uh C4) ?_
  clear hK K2 HS c2 c3
  have HS := hide (uh C4)
  refine twB 21 (.pointer (some ⟨g, 0, none⟩)) rfl (.inl (uh HS)) ?_
  go_simp
  refine twB 22 (.pointer (some ⟨g, 256, none⟩)) rfl (.inl (uh HS)) ?_
  go_simp
  refine twB 23 (.pointer (some ⟨g, 262, none⟩)) rfl (.inl (uh HS)) ?_
  go_simp
  have c1 := (uh C4).2.1
  have c2 := uh C6
  refine wpAnyL_one (i := 24) (by kernel_rfl) rfl (fun K2 hK => ?_)
  go_simp
  refine hK.out _ _ (fun h => absurd h (by decide)) ?_
  clear hK K2
  refine wpAnyL_done (by kernel_rfl) ?_ _
  clear c1 c2
  unfold Sl.v at H5 F5
  generalize (wd.setCell ⟨gr, 0, none⟩ (.int .i64 x)).setCell ⟨g, 262, none⟩ (.slice (some ⟨gi, 0, none⟩) 0 0) = w5 at H5 F5 ⊢
  go_wp2
  go_end0
  first | exact ⟨_, rfl, uh H5, uh F5⟩ | exact ⟨rfl, _, uh H5, uh F5⟩
 ·
  have hc2 : 1 < ic := by omega
  have PI := hide ((uh SC).1.putI ⟨some ⟨gi, 1, none⟩, xs.length, ic - 1⟩ hk.ml (OwnO.tl (uh OI)) (fun b hb => by rw [show ({ y with c := false } : Mv).i = y.i from rfl, uh EB]; exact hb))
  have H5 := hide (uh PI).1
  have F5 := hide (((uh FD).trans (uh SC).2.1).trans (uh PI).2)
  clear h hk h2 f2 SC PI HSI ei hic hi OI EB HD FD
  go_enter Tryz.func113, Tryz.ntmps113
  go_wp2_with fail
  refine wp_region_last (fun v => v.cell? ⟨g, 257, none⟩ = some (.slice (some ⟨gr, 0, none⟩) 8 rc) ∧ v.cell? ⟨g, 262, none⟩ = some (.slice (some ⟨gi, 0, none⟩) (xs.length + 1) ic) ∧ v.cell? ⟨gi, 0, none⟩ = some (.int .i64 x)) 24 (by kernel_rfl) ?_
  generalize (w.setCell ⟨g, 261, none⟩ (.bool false)).drew = wd at HS CK C4 C6 H5 F5 ⊢
  refine twB 0 (.pointer (some ⟨g, 0, none⟩)) rfl (.inl (uh HS)) ?_
  go_simp
  refine twB 1 (.pointer (some ⟨g, 0, none⟩)) rfl (.inl (uh HS)) ?_
  go_simp
  refine twB 2 (.pointer (some ⟨g, 256, none⟩)) rfl (.inl (uh HS)) ?_
  go_simp
  refine twB 3 (.pointer (some ⟨g, 257, none⟩)) rfl (.inl (uh HS)) ?_
  go_simp
  refine tsA 4 (.slice (some ⟨gr, 0, none⟩) 8 rc) rfl (.inl ⟨by rfl, fun w hc => ?_⟩) (uh HS) ?_
  · obtain ⟨h1, h2, h3⟩ := hc; go_simp
  go_simp
  refine twB 5 (.pointer (some ⟨g, 0, none⟩)) rfl (.inl (uh HS)) ?_
  go_simp
  refine twB 6 (.pointer (some ⟨g, 0, none⟩)) rfl (.inl (uh HS)) ?_
  go_simp
  refine twB 7 (.pointer (some ⟨g, 0, none⟩)) rfl (.inl (uh HS)) ?_
  go_simp
  refine twB 8 (.pointer (some ⟨g, 256, none⟩)) rfl (.inl (uh HS)) ?_
  go_simp
  refine twB 9 (.pointer (some ⟨g, 262, none⟩)) rfl (.inl (uh HS)) ?_
  go_simp
  refine tsA 10 (.slice (some ⟨gi, 0, none⟩) (xs.length + 1) ic) rfl (.inl ⟨by rfl, fun w hc => ?_⟩) (uh HS) ?_
  · obtain ⟨h1, h2, h3⟩ := hc; go_simp
  go_simp
  refine twB 11 (.pointer (some ⟨gi, 0, none⟩)) rfl (.inl (uh HS)) ?_
  go_simp
  refine tsA 12 (.int .i64 x) rfl (.inl ⟨by rfl, fun w hc => ?_⟩) (uh HS) ?_
  · obtain ⟨h1, h2, h3⟩ := hc; go_simp
  go_simp
  refine twB 13 (.pointer (some ⟨g, 0, none⟩)) rfl (.inl (uh HS)) ?_
  go_simp
  refine twB 14 (.pointer (some ⟨g, 0, none⟩)) rfl (.inl (uh HS)) ?_
  go_simp
  refine twB 15 (.pointer (some ⟨g, 256, none⟩)) rfl (.inl (uh HS)) ?_
  go_simp
  refine twB 16 (.pointer (some ⟨g, 262, none⟩)) rfl (.inl (uh HS)) ?_
  go_simp
  refine tsA 17 (.slice (some ⟨gi, 0, none⟩) (xs.length + 1) ic) rfl (.inl ⟨by rfl, fun w hc => ?_⟩) (uh HS) ?_
  · obtain ⟨h1, h2, h3⟩ := hc; go_simp
  go_simp
  refine twA 18 (.slice (some ⟨gi, 1, none⟩) xs.length (ic - 1)) rfl (.inl ⟨by rfl, fun w hc => ?_⟩) (.inl (uh HS)) ?_
  ·
   clear hc; go_simp
   intro hh
   omega
  go_simp
  refine twB 19 (.pointer (some ⟨gr, 0, none⟩)) rfl (.inl (uh HS)) ?_
  go_simp
  have c2 := (uh CK).1
  have c3 := (uh CK).2
  refine wpAnyL_one (i := 20) (by kernel_rfl) rfl (fun K2 hK => ?_)
  go_simp
  refine hK.out _ _ (fun _ => uh C4) ?_
  clear hK K2 HS c2 c3
  have HS := hide (uh C4)
  refine twB 21 (.pointer (some ⟨g, 0, none⟩)) rfl (.inl (uh HS)) ?_
  go_simp
  refine twB 22 (.pointer (some ⟨g, 256, none⟩)) rfl (.inl (uh HS)) ?_
  go_simp
  refine twB 23 (.pointer (some ⟨g, 262, none⟩)) rfl (.inl (uh HS)) ?_
  go_simp
  have c1 := (uh C4).2.1
  have c2 := uh C6
  refine wpAnyL_one (i := 24) (by kernel_rfl) rfl (fun K2 hK => ?_)
  go_simp
  refine hK.out _ _ (fun h => absurd h (by decide)) ?_
  clear hK K2
  refine wpAnyL_done (by kernel_rfl) ?_ _
  clear c1 c2
  unfold Sl.v at H5 F5
  generalize (wd.setCell ⟨gr, 0, none⟩ (.int .i64 x)).setCell ⟨g, 262, none⟩ (.slice (some ⟨gi, 1, none⟩) xs.length (ic - 1)) = w5 at H5 F5 ⊢
  go_wp2
  go_end0
  first | exact ⟨_, rfl, uh H5, uh F5⟩ | exact ⟨rfl, _, uh H5, uh F5⟩
end Go.Proofs.YtboedaofbchdkaaGreatDoor
