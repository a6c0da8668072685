/- Contracts over this seat's translation, laid together; conditions stand as hypotheses of each. -/
import Derived.Test.YtkolflcjkofleaaDoorTxC
import Derived.Test.YtkolflcjkofleaaDoorTxD
import Derived.OrdersHeld
import Derived.Deep.RegionHeld
import Derived.Deep.RegionWith

namespace Go.Proofs.YtkolflcjkofleaaDoor
open Go.ChangeShapes Go.WideShapes Go.ChangeAt Go.RowKit
set_option linter.unusedVariables false
set_option maxRecDepth 8000
set_option linter.unusedSimpArgs false

theorem two_new2 (w : World) (o1 o2 : Obj) : ((w.alloc o1).alloc o2).heap[w.heap.size + 1]? = some o2 ∧ Below w.heap.size w ((w.alloc o1).alloc o2) := by
  have h1 : (w.alloc o1).heap.size = w.heap.size + 1 := by simp
  refine ⟨?_, ((Below.refl _ _).alloc (Nat.le_refl _) _).alloc (by simp) _⟩
  rw [← h1]
  exact Array.getElem?_push_size
def PrR (e : Ex) (P : Nat → Prop) (w : World) (r : Ending) (w' : World) : Prop := ∃ (c : Option Addr) (cp : Nat), r = .returned (.tuple #[.agg ((prtX e).1.cs c cp), .int .i64 (prtX e).2]) ∧ PX w' P (prtX e).1 c ∧ Below w.heap.size w w'
theorem Bx.pend {w wr : World} {pr : Array Value} {P : Nat → Prop} {e x : Ex} {m : Int} {c : Option Addr} {cp : Nat} (h : Bx w wr pr) (hp : prtX e = (x, m)) (hx : PX wr (Ow w P) x c) (row : Array Value) : PrR e P w (.returned (.tuple #[.agg #[.int .i64 x.k, .int .i64 x.n, .string x.s, .slice c x.l.length cp], .int .i64 m])) (wr.setRow (w.heap.size + 1) row) := by
  unfold PrR
  rw [hp]
  exact ⟨c, cp, rfl, (hx.row _ (ow_no w P)).mono (fun b hb => hb.1), h.bel.grown (grownBy_row _) h.bel.size (fun k e => by cases e; omega)⟩
set_option maxHeartbeats 4000000 in
theorem prtS_no (e : Ex) (c : Option Addr) (cp : Nat) (P : Nat → Prop) (w : World) (h : PX w P e c) (hp : prtX e = (e, 0)) (h5 : e.k ≠ 5) : Calls Tryd.prog 92 #[.agg (e.cs c cp)] w (PrR e P w) := by
  have X1 := hide (two_new2 w (.cells #[.int .i64 e.k, .int .i64 e.n, .string e.s, .slice c e.l.length cp] 26) (.cells #[.int .i64 e.k, .int .i64 e.n, .string e.s, .slice c e.l.length cp] 26)).symm
  have A1 := hide (h.later (unhide X1).1)
  have g5 : (e.k == 5) = false := beq_eq_false_iff_ne.2 h5
  have PP := hide hp
  generalize hX : PrR e P w = X
  have HX := hide hX
  unfold Ex.cs
  clear h hX hp
  go_enter Tryd.func92, Tryd.ntmps92
  go_wp2
  refine bodyPost_ret (results_row2 (P := Tryd.prog) rfl _ _ (w.heap.size + 1) 26 #[.int .i64 e.k, .int .i64 e.n, .string e.s, .slice c e.l.length cp] (0, 0) _ rfl (unhide X1).2 Tryd.underlying26 rfl szE) rfl ?_
  rw [← unhide HX]
  unfold PrR
  rw [unhide PP]
  exact ⟨c, cp, rfl, unhide A1, (unhide X1).1⟩
set_option maxHeartbeats 4000000 in
theorem prtS_no2 (e x y : Ex) (c : Option Addr) (cp : Nat) (P : Nat → Prop) (w : World) (h : PX w P e c) (hp : prtX e = (e, 0)) (hk : e.k = 5) (hl : e.l = [x, y]) (h1 : y.k ≠ 1) : Calls Tryd.prog 92 #[.agg (e.cs c cp)] w (PrR e P w) := by
  obtain ⟨k, n, s, l⟩ := e
  obtain rfl : k = 5 := hk
  obtain rfl : l = [x, y] := hl
  have g1 : (y.k == 1) = false := beq_eq_false_iff_ne.2 h1
  have X1 := hide (two_new2 w (.cells #[.int .i64 5, .int .i64 n, .string s, .slice c 2 cp] 26) (.cells #[.int .i64 5, .int .i64 n, .string s, .slice c 2 cp] 26)).symm
  have A1 := hide (h.later (unhide X1).1)
  have PP := hide hp
  have BZ := hide (two_new2 w (.cells #[.int .i64 5, .int .i64 n, .string s, .slice c 2 cp] 26) (.cells #[.int .i64 0, .int .i64 0, .string ⟨#[]⟩, .slice none 0 0] 26)).2
  have A2 := h.later (unhide BZ)
  obtain ⟨blk, d, dp, f, fp, rfl, hlt, ⟨a0, a1, a2, a3⟩, ⟨b0, b1, b2, b3⟩, _, _⟩ := A2.parts
  generalize hX : PrR ⟨5, n, s, [x, y]⟩ P w = X
  have HX := hide hX
  unfold Ex.cs
  clear h hX hp A2 h1
  go_enter Tryd.func92, Tryd.ntmps92
  go_wp2
  refine bodyPost_ret (results_row2 (P := Tryd.prog) rfl _ _ (w.heap.size + 1) 26 #[.int .i64 5, .int .i64 n, .string s, .slice (some ⟨blk, 0, none⟩) 2 cp] (0, 0) _ rfl (unhide X1).2 Tryd.underlying26 rfl szE) rfl ?_
  rw [← unhide HX]
  unfold PrR
  rw [unhide PP]
  exact ⟨_, cp, rfl, unhide A1, (unhide X1).1⟩
set_option maxHeartbeats 4000000 in
theorem prtS_yes (x : Ex) (m : Int) (c : Option Addr) (cp : Nat) (P : Nat → Prop) (w : World) (h : PX w P ⟨5, 0, E0, [x, ⟨1, m, E0, []⟩]⟩ c) : Calls Tryd.prog 92 #[.agg ((Ex.mk 5 0 E0 [x, ⟨1, m, E0, []⟩]).cs c cp)] w (PrR ⟨5, 0, E0, [x, ⟨1, m, E0, []⟩]⟩ P w) := by
  obtain ⟨blk, d, dp, f, fp, rfl, hlt0, _, _, _, _⟩ := h.parts
  have X0 := hide (Bx.new w #[.int .i64 5, .int .i64 0, .string ⟨#[]⟩, .slice (some ⟨blk, 0, none⟩) 2 cp])
  have A0 := h.ow (unhide X0).bel
  obtain ⟨blk', d, dp, f, fp, e', hlt, ⟨a0, a1, a2, a3⟩, ⟨b0, b1, b2, b3⟩, hx, _⟩ := A0.parts
  cases e'
  have HA := hide hx
  have PP := hide (show prtX ⟨5, 0, E0, [x, ⟨1, m, E0, []⟩]⟩ = (x, m) from rfl)
  generalize hX : PrR ⟨5, 0, E0, [x, ⟨1, m, E0, []⟩]⟩ P w = X
  have HX := hide hX
  show Calls Tryd.prog 92 #[.agg #[.int .i64 5, .int .i64 0, .string ⟨#[]⟩, .slice (some ⟨blk, 0, none⟩) 2 cp]] w X
  clear h hX A0 hx
  go_enter Tryd.func92, Tryd.ntmps92
  go_wp2
  generalize (w.alloc (.cells #[.int .i64 5, .int .i64 0, .string ⟨#[]⟩, .slice (some ⟨blk, 0, none⟩) 2 cp] 26)).alloc (.cells #[.int .i64 0, .int .i64 0, .string ⟨#[]⟩, .slice none 0 0] 26) = W at *
  have X1 := hide ((unhide X0).later (below_drew (w := W)))
  have A1 := hide ((unhide HA).later (below_drew (w := W)))
  have D1 := hide (show (fun v => v.heap[w.heap.size]? = some (.cells #[.int .i64 5, .int .i64 0, .string ⟨#[]⟩, .slice (some ⟨blk, 0, none⟩) 2 cp] 26 (0, 0)) ∧ (v.cell? ⟨blk, 0, none⟩ = some (.int .i64 x.k) ∧ v.cell? ⟨blk, 1, none⟩ = some (.int .i64 x.n) ∧ v.cell? ⟨blk, 2, none⟩ = some (.string x.s) ∧ v.cell? ⟨blk, 3, none⟩ = some (.slice d x.l.length dp)) ∧ v.cell? ⟨blk, 5, none⟩ = some (.int .i64 m)) W.drew from ⟨(unhide X1).box, ⟨a0, a1, a2, a3⟩, b1⟩)
  clear X0 HA a0 a1 a2 a3 b0 b1 b2 b3
  refine wp_region_held_drew (S := fun v => v.heap[w.heap.size]? = some (.cells #[.int .i64 5, .int .i64 0, .string ⟨#[]⟩, .slice (some ⟨blk, 0, none⟩) 2 cp] 26 (0, 0)) ∧ (v.cell? ⟨blk, 0, none⟩ = some (.int .i64 x.k) ∧ v.cell? ⟨blk, 1, none⟩ = some (.int .i64 x.n) ∧ v.cell? ⟨blk, 2, none⟩ = some (.string x.s) ∧ v.cell? ⟨blk, 3, none⟩ = some (.slice d x.l.length dp)) ∧ v.cell? ⟨blk, 5, none⟩ = some (.int .i64 m)) (by kernel_rfl) (unhide D1) (fun hS => ?_)
  have HS := hide hS
  clear hS
  generalize W.drew = W1 at *
  refine wpAnyH_take (i := 0) (v := .pointer (some ⟨w.heap.size, 3, none⟩)) rfl (by kernel_rfl) (by kernel_rfl) (by kernel_rfl) (fun _ _ _ h => h) (Or.inl ⟨by rfl, fun w hc => ?_⟩) (unhide HS) ?_
  · clear hc; go_simp
  go_simp
  refine wpAnyH_take (i := 1) (v := .slice (some ⟨blk, 0, none⟩) 2 cp) rfl (by kernel_rfl) (by kernel_rfl) (by kernel_rfl) (fun _ _ _ h => h) (Or.inl ⟨by rfl, fun w hc => ?_⟩) (unhide HS) ?_
  · have q := Lib.cell_of_heap hc.1 3; clear hc; go_simp
  go_simp
  refine wpAnyH_take (i := 2) (v := .pointer (some ⟨blk, 0, none⟩)) rfl (by kernel_rfl) (by kernel_rfl) (by kernel_rfl) (fun _ _ _ h => h) (Or.inl ⟨by rfl, fun w hc => ?_⟩) (unhide HS) ?_
  · clear hc; go_simp
  go_simp
  refine wpAnyH_take (i := 3) (v := .agg #[.int .i64 x.k, .int .i64 x.n, .string x.s, .slice d x.l.length dp]) rfl (by kernel_rfl) (by kernel_rfl) (by kernel_rfl) (fun _ _ _ h => h) (Or.inl ⟨by rfl, fun w hc => ?_⟩) (unhide HS) ?_
  · obtain ⟨_, ⟨h0, h1, h2, h3⟩, _⟩ := hc; go_simp
  go_simp
  refine wpAnyH_take (i := 4) (v := .pointer (some ⟨w.heap.size, 3, none⟩)) rfl (by kernel_rfl) (by kernel_rfl) (by kernel_rfl) (fun _ _ _ h => h) (Or.inl ⟨by rfl, fun w hc => ?_⟩) (unhide HS) ?_
  · clear hc; go_simp
  go_simp
  refine wpAnyH_take (i := 5) (v := .slice (some ⟨blk, 0, none⟩) 2 cp) rfl (by kernel_rfl) (by kernel_rfl) (by kernel_rfl) (fun _ _ _ h => h) (Or.inl ⟨by rfl, fun w hc => ?_⟩) (unhide HS) ?_
  · have q := Lib.cell_of_heap hc.1 3; clear hc; go_simp
  go_simp
  refine wpAnyH_take (i := 6) (v := .pointer (some ⟨blk, 4, none⟩)) rfl (by kernel_rfl) (by kernel_rfl) (by kernel_rfl) (fun _ _ _ h => h) (Or.inl ⟨by rfl, fun w hc => ?_⟩) (unhide HS) ?_
  · clear hc; go_simp
  go_simp
  refine wpAnyH_take (i := 7) (v := .pointer (some ⟨blk, 5, none⟩)) rfl (by kernel_rfl) (by kernel_rfl) (by kernel_rfl) (fun _ _ _ h => h) (Or.inl ⟨by rfl, fun w hc => ?_⟩) (unhide HS) ?_
  · clear hc; go_simp
  go_simp
  refine wpAnyH_take (i := 8) (v := .int .i64 m) rfl (by kernel_rfl) (by kernel_rfl) (by kernel_rfl) (fun _ _ _ h => h) (Or.inl ⟨by rfl, fun w hc => ?_⟩) (unhide HS) ?_
  · obtain ⟨_, _, h0⟩ := hc; go_simp
  go_simp
  refine wpAnyH_ready (rs := [9]) (by kernel_rfl) (by simp) ?_
  refine AllReadyH.cons rfl (fun K2 hK => ?_) AllReadyH.nil
  rw [if_pos (by rfl)]
  refine wp_store_row 26 _ _ rfl (w.heap.size + 1) #[.int .i64 x.k, .int .i64 x.n, .string x.s, .slice d x.l.length dp] rfl rfl 26 _ (unhide X1).res szE rfl (ex_one _ _ _ _ _ _) ?_
  have KE := fun (i : Nat) => (World.cell?_of_block (a := ⟨blk, i, none⟩) (setRow_other W1 (w.heap.size + 1) blk #[.int .i64 x.k, .int .i64 x.n, .string x.s, .slice d x.l.length dp] (by omega)))
  refine hK.out _ _ (⟨(setRow_other _ _ _ _ (by omega)).trans (unhide D1).1, ⟨(KE 0).trans (unhide D1).2.1.1, (KE 1).trans (unhide D1).2.1.2.1, (KE 2).trans (unhide D1).2.1.2.2.1, (KE 3).trans (unhide D1).2.1.2.2.2⟩, (KE 5).trans (unhide D1).2.2⟩) (fun hS => ?_)
  clear HS
  have HS := hide hS
  clear hS hK K2
  clear KE
  refine wpAnyH_take (i := 10) (v := .int .i64 m) rfl (by kernel_rfl) (by kernel_rfl) (by kernel_rfl) (fun _ _ _ h => h) (Or.inl ⟨by rfl, fun w hc => ?_⟩) (unhide HS) ?_
  · clear hc; go_simp
  go_simp
  refine wpAnyH_done (by kernel_rfl) ?_ _
  clear HS D1
  go_wp2
  refine bodyPost_ret (results_row2 (P := Tryd.prog) rfl _ _ (w.heap.size + 1) 26 #[.int .i64 x.k, .int .i64 x.n, .string x.s, .slice d x.l.length dp] (0, 0) _ rfl (setRow_heap _ _ _ _ _ _ (unhide X1).res) Tryd.underlying26 rfl szE) rfl ?_
  rw [← unhide HX]
  exact (unhide X1).pend (unhide PP) (unhide A1) _
theorem prtS_any {d : Nat} (e : Ex) (ho : okF (d + 1) false e = true) (c : Option Addr) (cp : Nat) (P : Nat → Prop) (w : World) (h : PX w P e c) : Calls Tryd.prog 92 #[.agg (e.cs c cp)] w (PrR e P w) := by
  rcases prt_cases ho with ⟨hp, hn⟩ | ⟨b, m, hm, rfl, _, _⟩
  · by_cases h5 : e.k = 5
    · rcases ok_sev ho with ⟨n, hn, rfl⟩ | ⟨s, hs, rfl⟩ | rfl | ⟨n, hn, rfl⟩ | ⟨s, hs, rfl⟩ | ⟨a, ha, rfl⟩ | ⟨k, a, b, hk, ha, hb, rfl⟩
      · exact absurd (show (1 : Int) = 5 from h5) (by decide)
      · exact absurd (show (2 : Int) = 5 from h5) (by decide)
      · exact absurd (show (3 : Int) = 5 from h5) (by decide)
      · exact absurd (show (11 : Int) = 5 from h5) (by decide)
      · exact absurd (show (12 : Int) = 5 from h5) (by decide)
      · exact absurd (show (4 : Int) = 5 from h5) (by decide)
      · exact prtS_no2 _ a b c cp P w h hp h5 rfl (fun e1 => hn ⟨h5, e1⟩)
    · exact prtS_no e c cp P w h hp h5
  · exact prtS_yes b m c cp P w h
end Go.Proofs.YtkolflcjkofleaaDoor

namespace Go.Proofs.YtkolflcjkofleaaDoor
open Go.ChangeShapes Go.WideShapes Go.ChangeAt Go.RowKit
set_option linter.unusedVariables false
set_option maxRecDepth 8000
set_option linter.unusedSimpArgs false

theorem prt_in {d : Nat} {a : Ex} (h : okF (d + 1) false a = true) : 0 ≤ (prtX a).2 ∧ (prtX a).2 ≤ 65535 := by
  rcases prt_cases h with ⟨e, _⟩ | ⟨b, m, hm, rfl, e, hb⟩
  · rw [e]; exact ⟨Int.le_refl _, show (0 : Int) ≤ 65535 by decide⟩
  · rw [e]; exact hm
set_option maxHeartbeats 4000000 in
theorem sumS_any {d : Nat} (a : Ex) (ho : okF (d + 1) false a = true) (c : Option Addr) (cp : Nat) (n : Int) (hn : -65535 ≤ n ∧ n ≤ 65535) (P : Nat → Prop) (w : World) (h : PX w P a c) (hP : ∀ b, w.heap.size ≤ b → P b) : Calls Tryd.prog 80 #[.agg (a.cs c cp), .int .i64 n] w (GiR (sumX a n) P w) := by
  have X0 := hide (Bx.new w #[.int .i64 a.k, .int .i64 a.n, .string a.s, .slice c a.l.length cp])
  have PR := hide (prtS_any a ho c cp (Ow w P) _ (h.ow (unhide X0).bel))
  have HP := hide hP
  have hpi := prt_in ho
  have EQ := hide (show sumX a n = addX (prtX a).1 ((prtX a).2 + n) from rfl)
  generalize hX : GiR (sumX a n) P w = X
  have HX := hide hX
  unfold PrR at PR
  generalize prtX a = pa at *
  obtain ⟨x, m⟩ := pa
  simp only at PR hpi EQ
  rw [unhide EQ] at HX
  unfold Ex.cs at PR ⊢
  clear h hP hX EQ ho
  go_enter Tryd.func80, Tryd.ntmps80
  go_wp2_with fail
  generalize (w.alloc (.cells #[.int .i64 a.k, .int .i64 a.n, .string a.s, .slice c a.l.length cp] 26)).alloc (.cells #[.int .i64 0, .int .i64 0, .string ⟨#[]⟩, .slice none 0 0] 26) = W at *
  refine (unhide PR).mono ?_
  rintro r w1 ⟨c1, cp1, rfl, hx1, hb1⟩
  have X1 := (unhide X0).later hb1
  have hb2 := below_new w1 (.cells #[.int .i64 x.k, .int .i64 x.n, .string x.s, .slice c1 x.l.length cp1] 26)
  have X2 := hide (X1.later hb2)
  have G2 := hide (show (w1.alloc (.cells #[.int .i64 x.k, .int .i64 x.n, .string x.s, .slice c1 x.l.length cp1] 26)).heap[w1.heap.size]? = some (.cells #[.int .i64 x.k, .int .i64 x.n, .string x.s, .slice c1 x.l.length cp1] 26 (0, 0)) from Array.getElem?_push_size)
  have AD := hide (addS_any x c1 cp1 (m + n) (Ow w P) _ (hx1.later hb2) (fun b hb => ow_in (unhide HP) (Nat.le_trans (unhide X2).lt hb)))
  unfold GiR Ex.cs at AD
  clear hx1 hb1 hb2 X1 X0 PR
  go_wp2_with (refine wpList_load_row rfl 26 _ rfl w1.heap.size rfl 26 #[.int .i64 x.k, .int .i64 x.n, .string x.s, .slice c1 x.l.length cp1] (0, 0) _ (unhide G2) Tryd.underlying26 rfl (by kernel_rfl) ?_)
  generalize w1.alloc (.cells #[.int .i64 x.k, .int .i64 x.n, .string x.s, .slice c1 x.l.length cp1] 26) = w2 at *
  generalize w1.heap.size = g1 at *
  refine (unhide AD).mono ?_
  rintro r w3 ⟨c3, cp3, rfl, hx3, hb3⟩
  have X3 := hide ((unhide X2).later hb3)
  have A3 := hide hx3
  clear hx3 hb3 X2 G2 AD
  generalize addX x (m + n) = y at *
  go_wp2_with (refine wpList_store_row rfl 26 _ _ rfl (w.heap.size + 1) #[.int .i64 y.k, .int .i64 y.n, .string y.s, .slice c3 y.l.length cp3] rfl rfl 26 _ ((unhide X3).res) szE rfl (ex_one _ _ _ _ _ _) ?_)
  refine bodyPost_ret (results_cell_row (P := Tryd.prog) rfl _ _ (w.heap.size + 1) 26 #[.int .i64 y.k, .int .i64 y.n, .string y.s, .slice c3 y.l.length cp3] (0, 0) _ rfl (setRow_heap _ _ _ _ _ _ ((unhide X3).res)) Tryd.underlying26 rfl szE) rfl ?_
  rw [← unhide HX]
  exact (unhide X3).end (unhide A3) _
/-- The rows of a function of two terms: the arguments, and what is answered. -/
structure By (w wr : World) (pa pb : Array Value) : Prop where
  bel : Below w.heap.size w wr
  lt : w.heap.size + 3 ≤ wr.heap.size
  boxa : wr.heap[w.heap.size]? = some (.cells pa 26 (0, 0))
  boxb : wr.heap[w.heap.size + 1]? = some (.cells pb 26 (0, 0))
  res : wr.heap[w.heap.size + 2]? = some (.cells #[.int .i64 0, .int .i64 0, .string ⟨#[]⟩, .slice none 0 0] 26 (0, 0))
theorem By.later {w wr w' : World} {pa pb : Array Value} (h : By w wr pa pb) (hb : Below wr.heap.size wr w') : By w w' pa pb := ⟨h.bel.trans (hb.mono h.bel.size), Nat.le_trans h.lt hb.size, row_keep h.boxa hb, row_keep h.boxb hb, row_keep h.res hb⟩
theorem By.new (w : World) (pa pb : Array Value) : By w (((w.alloc (.cells pa 26)).alloc (.cells pb 26)).alloc (.cells #[.int .i64 0, .int .i64 0, .string ⟨#[]⟩, .slice none 0 0] 26)) pa pb := by
  have hb := (((Below.refl w.heap.size w).alloc (Nat.le_refl _) (.cells pa 26)).alloc (by simp) (.cells pb 26)).alloc (by simp; omega) (.cells #[.int .i64 0, .int .i64 0, .string ⟨#[]⟩, .slice none 0 0] 26)
  have h1 : (w.alloc (.cells pa 26)).heap.size = w.heap.size + 1 := by simp
  have h2 : ((w.alloc (.cells pa 26)).alloc (.cells pb 26)).heap.size = w.heap.size + 2 := by simp
  refine ⟨hb, by simp, ?_, ?_, ?_⟩
  · exact row_keep (row_keep (heap_alloc_new w _) (below_new _ _)) (below_new _ _)
  · refine row_keep ?_ (below_new _ _)
    rw [← h1]; exact Array.getElem?_push_size
  · rw [← h2]; exact Array.getElem?_push_size
def Oy (w : World) (P : Nat → Prop) (b : Nat) : Prop := P b ∧ (b < w.heap.size ∨ w.heap.size + 3 ≤ b)
theorem oy_no (w : World) (P : Nat → Prop) : ¬ Oy w P (w.heap.size + 2) := fun h => by have := h.2; omega
theorem oy_in {w : World} {P : Nat → Prop} (hP : ∀ b, w.heap.size ≤ b → P b) {b : Nat} (h : w.heap.size + 3 ≤ b) : Oy w P b := ⟨hP b (by omega), .inr h⟩
theorem PX.oy {w w' : World} {P : Nat → Prop} {e : Ex} {c : Option Addr} (h : PX w P e c) (hb : Below w.heap.size w w') : PX w' (Oy w P) e c := (h.low.mono (fun b hb => ⟨hb.1, .inl hb.2⟩)).later hb
theorem By.end {w wr : World} {pa pb : Array Value} {P : Nat → Prop} {x : Ex} {c : Option Addr} {cp : Nat} (h : By w wr pa pb) (hx : PX wr (Oy w P) x c) (row : Array Value) : GiR x P w (.returned (.agg #[.int .i64 x.k, .int .i64 x.n, .string x.s, .slice c x.l.length cp])) (wr.setRow (w.heap.size + 2) row) :=
  ⟨c, cp, rfl, (hx.row _ (oy_no w P)).mono (fun b hb => hb.1), h.bel.grown (grownBy_row _) h.bel.size (fun k e => by cases e; omega)⟩
set_option maxHeartbeats 4000000 in
theorem subS_num {d : Nat} (a b : Ex) (oa : okF (d + 1) false a = true) (ob : okF (d + 1) false b = true) (c e : Option Addr) (cp ep : Nat) (P Q R : Nat → Prop) (w : World) (ha : PX w P a c) (hb : PX w Q b e) (hPQ : ∀ b, P b → ¬ Q b) (hPR : ∀ b, P b → R b) (hQR : ∀ b, Q b → R b) (hR : ∀ b, w.heap.size ≤ b → R b) (h1 : b.k = 1) : Calls Tryd.prog 79 #[.agg (a.cs c cp), .agg (b.cs e ep)] w (GiR (subX a b) R w) := by
  obtain ⟨m, hm, rfl⟩ := ok_k1 ob h1
  have X0 := hide (By.new w #[.int .i64 a.k, .int .i64 a.n, .string a.s, .slice c a.l.length cp] #[.int .i64 1, .int .i64 m, .string E0, .slice e 0 ep])
  have SU := hide (sumS_any a oa c cp (-m) (by omega) (Oy w R) _ ((ha.oy (unhide X0).bel).mono (fun b h => ⟨hPR b h.1, h.2⟩)) (fun b h => oy_in hR (Nat.le_trans (unhide X0).lt h)))
  have EQ := hide (show subX a ⟨1, m, E0, []⟩ = sumX a (-m) by unfold subX; rw [if_pos rfl])
  rw [unhide EQ]
  generalize hX : GiR (sumX a (-m)) R w = X
  have HX := hide hX
  unfold GiR Ex.cs at SU
  show Calls Tryd.prog 79 #[.agg #[.int .i64 a.k, .int .i64 a.n, .string a.s, .slice c a.l.length cp], .agg #[.int .i64 1, .int .i64 m, .string E0, .slice e 0 ep]] w X
  clear hX EQ oa ob ha hb hPQ hPR hQR hR h1
  go_enter Tryd.func79, Tryd.ntmps79
  go_wp2_with fail
  generalize ((w.alloc (.cells #[.int .i64 a.k, .int .i64 a.n, .string a.s, .slice c a.l.length cp] 26)).alloc (.cells #[.int .i64 1, .int .i64 m, .string E0, .slice e 0 ep] 26)).alloc (.cells #[.int .i64 0, .int .i64 0, .string ⟨#[]⟩, .slice none 0 0] 26) = W at *
  refine (unhide SU).mono ?_
  rintro r w3 ⟨c3, cp3, rfl, hx3, hb3⟩
  have X3 := hide ((unhide X0).later hb3)
  have A3 := hide hx3
  clear hx3 hb3 X0 SU
  generalize sumX a (-m) = y at *
  go_wp2_with (refine wpList_store_row rfl 26 _ _ rfl (w.heap.size + 2) #[.int .i64 y.k, .int .i64 y.n, .string y.s, .slice c3 y.l.length cp3] rfl rfl 26 _ ((unhide X3).res) szE rfl (ex_one _ _ _ _ _ _) ?_)
  refine bodyPost_ret (results_cell_row (P := Tryd.prog) rfl _ _ (w.heap.size + 2) 26 #[.int .i64 y.k, .int .i64 y.n, .string y.s, .slice c3 y.l.length cp3] (0, 0) _ rfl (setRow_heap _ _ _ _ _ _ ((unhide X3).res)) Tryd.underlying26 rfl szE) rfl ?_
  rw [← unhide HX]
  exact (unhide X3).end (unhide A3) _
set_option maxHeartbeats 8000000 in
theorem subS_sect {d : Nat} (a b : Ex) (oa : okF (d + 1) false a = true) (ob : okF (d + 1) false b = true) (c e : Option Addr) (cp ep : Nat) (P Q R : Nat → Prop) (w : World) (ha : PX w P a c) (hb : PX w Q b e) (hPQ : ∀ b, P b → ¬ Q b) (hPR : ∀ b, P b → R b) (hQR : ∀ b, Q b → R b) (hR : ∀ b, w.heap.size ≤ b → R b) (h1 : b.k ≠ 1) (f0 : ((prtX a).1.k == 11) = true) (f1 : ((prtX b).1.k == 11) = true) (f2 : ((prtX a).1.n == (prtX b).1.n) = true) : Calls Tryd.prog 79 #[.agg (a.cs c cp), .agg (b.cs e ep)] w (GiR (subX a b) R w) := by
  have X0 := hide (By.new w #[.int .i64 a.k, .int .i64 a.n, .string a.s, .slice c a.l.length cp] #[.int .i64 b.k, .int .i64 b.n, .string b.s, .slice e b.l.length ep])
  have A0 := hide (ha.oy (unhide X0).bel)
  have C0 := hide (hb.oy (unhide X0).bel)
  have PA := hide (prtS_any a oa c cp (Oy w P) _ (unhide A0))
  have PB := hide (fun wr (h : PX wr (Oy w Q) b e) => prtS_any b ob e ep (Oy w Q) wr h)
  have HR := hide hR
  have DJ := hide (show ∀ b, Oy w P b → ¬ Oy w Q b from fun b h k => hPQ b h.1 k.1)
  have PR := hide (show ∀ b, Oy w P b → Oy w R b from fun b h => ⟨hPR b h.1, h.2⟩)
  have QR := hide (show ∀ b, Oy w Q b → Oy w R b from fun b h => ⟨hQR b h.1, h.2⟩)
  have ia := prt_in oa
  have ib := prt_in ob
  have g1 : (b.k == 1) = false := beq_eq_false_iff_ne.2 h1
  have EQ := hide (show subX a b = numX ((prtX a).2 - (prtX b).2) by unfold subX; rw [if_neg h1, if_pos ⟨beq_iff_eq.1 f0, beq_iff_eq.1 f1, beq_iff_eq.1 f2⟩])
  unfold PrR at PA PB
  generalize prtX a = pa at *
  generalize prtX b = pb at *
  obtain ⟨x, n⟩ := pa
  obtain ⟨y, k⟩ := pb
  simp only at PA PB ia ib EQ f0 f1 f2
  rw [unhide EQ]
  generalize hX : GiR _ R w = X
  have HX := hide hX
  unfold Ex.cs at PA PB ⊢
  clear hX EQ oa ob ha hb hPQ hPR hQR hR h1
  go_enter Tryd.func79, Tryd.ntmps79
  go_wp2_with fail
  generalize ((w.alloc (.cells #[.int .i64 a.k, .int .i64 a.n, .string a.s, .slice c a.l.length cp] 26)).alloc (.cells #[.int .i64 b.k, .int .i64 b.n, .string b.s, .slice e b.l.length ep] 26)).alloc (.cells #[.int .i64 0, .int .i64 0, .string ⟨#[]⟩, .slice none 0 0] 26) = W at *
  refine (unhide PA).mono ?_
  rintro r w1 ⟨c1, cp1, rfl, hx1, hb1⟩
  clear hx1
  have X1 := (unhide X0).later hb1
  have A1 := (unhide A0).later hb1
  have C1 := (unhide C0).later hb1
  have hb2 := below_new w1 (.cells #[.int .i64 x.k, .int .i64 x.n, .string x.s, .slice c1 x.l.length cp1] 26)
  have X2 := hide (X1.later hb2)
  have A2 := hide (A1.later hb2)
  have C2 := hide (C1.later hb2)
  have G2 := hide (show (w1.alloc (.cells #[.int .i64 x.k, .int .i64 x.n, .string x.s, .slice c1 x.l.length cp1] 26)).heap[w1.heap.size]? = some (.cells #[.int .i64 x.k, .int .i64 x.n, .string x.s, .slice c1 x.l.length cp1] 26 (0, 0)) from Array.getElem?_push_size)
  have PB2 := hide (unhide PB _ (unhide C2))
  clear hb1 hb2 X1 A1 C1 X0 A0 C0 PA PB
  go_wp2_with (refine wpList_load_row rfl 26 _ rfl (w.heap.size + 1) rfl 26 #[.int .i64 b.k, .int .i64 b.n, .string b.s, .slice e b.l.length ep] (0, 0) _ ((unhide X2).boxb) Tryd.underlying26 rfl (by kernel_rfl) ?_)
  generalize w1.alloc (.cells #[.int .i64 x.k, .int .i64 x.n, .string x.s, .slice c1 x.l.length cp1] 26) = w2 at *
  generalize w1.heap.size = g1' at *
  refine (unhide PB2).mono ?_
  rintro r w3 ⟨c3, cp3, rfl, hx3, hb3⟩
  clear hx3
  have X3 := (unhide X2).later hb3
  have A3 := (unhide A2).later hb3
  have C3 := (unhide C2).later hb3
  have G3 := row_keep (unhide G2) hb3
  have hb4 := below_new w3 (.cells #[.int .i64 y.k, .int .i64 y.n, .string y.s, .slice c3 y.l.length cp3] 26)
  have X4 := hide (X3.later hb4)
  have A4 := hide (A3.later hb4)
  have C4 := hide (C3.later hb4)
  have G4 := row_keep G3 hb4
  have K4 := (show (w3.alloc (.cells #[.int .i64 y.k, .int .i64 y.n, .string y.s, .slice c3 y.l.length cp3] 26)).heap[w3.heap.size]? = some (.cells #[.int .i64 y.k, .int .i64 y.n, .string y.s, .slice c3 y.l.length cp3] 26 (0, 0)) from Array.getElem?_push_size)
  have x0 := Lib.cell_of_heap G4 0
  have x1 := Lib.cell_of_heap G4 1
  have y0 := Lib.cell_of_heap K4 0
  have y1 := Lib.cell_of_heap K4 1
  clear hb3 hb4 X3 A3 C3 G3 X2 A2 C2 G2 PB2 G4 K4
  go_wp2_with fail
  generalize w3.alloc (.cells #[.int .i64 y.k, .int .i64 y.n, .string y.s, .slice c3 y.l.length cp3] 26) = w4 at *
  generalize w3.heap.size = g3 at *
  clear x0 x1 y0 y1
  have NU := hide (numD (n - k) w4)
  refine (unhide NU).mono ?_
  rintro r w5 ⟨rfl, hb5⟩
  have X5 := hide ((unhide X4).later hb5)
  have N5 := hide (PX.leaf w5 (Oy w R) 1 ((n - k) % 65536) (⟨#[]⟩ : ByteArray) none)
  clear hb5 X4 A4 C4 NU
  go_wp2_with (refine wpList_store_row rfl 26 _ _ rfl (w.heap.size + 2) #[.int .i64 1, .int .i64 ((n - k) % 65536), .string ⟨#[]⟩, .slice none 0 0] rfl rfl 26 _ ((unhide X5).res) szE rfl (ex_one _ _ _ _ _ _) ?_)
  refine bodyPost_ret (results_cell_row (P := Tryd.prog) rfl _ _ (w.heap.size + 2) 26 #[.int .i64 1, .int .i64 ((n - k) % 65536), .string ⟨#[]⟩, .slice none 0 0] (0, 0) _ rfl (setRow_heap _ _ _ _ _ _ ((unhide X5).res)) Tryd.underlying26 rfl szE) rfl ?_
  rw [← unhide HX]
  exact By.end (x := numX (n - k)) (unhide X5) (unhide N5) _
set_option maxHeartbeats 8000000 in
theorem subS_n0 {d : Nat} (a b : Ex) (oa : okF (d + 1) false a = true) (ob : okF (d + 1) false b = true) (c e : Option Addr) (cp ep : Nat) (P Q R : Nat → Prop) (w : World) (ha : PX w P a c) (hb : PX w Q b e) (hPQ : ∀ b, P b → ¬ Q b) (hPR : ∀ b, P b → R b) (hQR : ∀ b, Q b → R b) (hR : ∀ b, w.heap.size ≤ b → R b) (h1 : b.k ≠ 1) (f0 : ((prtX a).1.k == 11) = false) : Calls Tryd.prog 79 #[.agg (a.cs c cp), .agg (b.cs e ep)] w (GiR (subX a b) R w) := by
  have X0 := hide (By.new w #[.int .i64 a.k, .int .i64 a.n, .string a.s, .slice c a.l.length cp] #[.int .i64 b.k, .int .i64 b.n, .string b.s, .slice e b.l.length ep])
  have A0 := hide (ha.oy (unhide X0).bel)
  have C0 := hide (hb.oy (unhide X0).bel)
  have PA := hide (prtS_any a oa c cp (Oy w P) _ (unhide A0))
  have PB := hide (fun wr (h : PX wr (Oy w Q) b e) => prtS_any b ob e ep (Oy w Q) wr h)
  have HR := hide hR
  have DJ := hide (show ∀ b, Oy w P b → ¬ Oy w Q b from fun b h k => hPQ b h.1 k.1)
  have PR := hide (show ∀ b, Oy w P b → Oy w R b from fun b h => ⟨hPR b h.1, h.2⟩)
  have QR := hide (show ∀ b, Oy w Q b → Oy w R b from fun b h => ⟨hQR b h.1, h.2⟩)
  have ia := prt_in oa
  have ib := prt_in ob
  have g1 : (b.k == 1) = false := beq_eq_false_iff_ne.2 h1
  have EQ := hide (show subX a b = ⟨6, 0, ⟨#[]⟩, [a, b]⟩ by unfold subX; rw [if_neg h1, if_neg (fun h => by have := beq_eq_false_iff_ne.1 f0; exact this h.1)]; rfl)
  unfold PrR at PA PB
  generalize prtX a = pa at *
  generalize prtX b = pb at *
  obtain ⟨x, n⟩ := pa
  obtain ⟨y, k⟩ := pb
  simp only at PA PB ia ib EQ f0
  rw [unhide EQ]
  generalize hX : GiR _ R w = X
  have HX := hide hX
  unfold Ex.cs at PA PB ⊢
  clear hX EQ oa ob ha hb hPQ hPR hQR hR h1
  go_enter Tryd.func79, Tryd.ntmps79
  go_wp2_with fail
  generalize ((w.alloc (.cells #[.int .i64 a.k, .int .i64 a.n, .string a.s, .slice c a.l.length cp] 26)).alloc (.cells #[.int .i64 b.k, .int .i64 b.n, .string b.s, .slice e b.l.length ep] 26)).alloc (.cells #[.int .i64 0, .int .i64 0, .string ⟨#[]⟩, .slice none 0 0] 26) = W at *
  refine (unhide PA).mono ?_
  rintro r w1 ⟨c1, cp1, rfl, hx1, hb1⟩
  clear hx1
  have X1 := (unhide X0).later hb1
  have A1 := (unhide A0).later hb1
  have C1 := (unhide C0).later hb1
  have hb2 := below_new w1 (.cells #[.int .i64 x.k, .int .i64 x.n, .string x.s, .slice c1 x.l.length cp1] 26)
  have X2 := hide (X1.later hb2)
  have A2 := hide (A1.later hb2)
  have C2 := hide (C1.later hb2)
  have G2 := hide (show (w1.alloc (.cells #[.int .i64 x.k, .int .i64 x.n, .string x.s, .slice c1 x.l.length cp1] 26)).heap[w1.heap.size]? = some (.cells #[.int .i64 x.k, .int .i64 x.n, .string x.s, .slice c1 x.l.length cp1] 26 (0, 0)) from Array.getElem?_push_size)
  have PB2 := hide (unhide PB _ (unhide C2))
  clear hb1 hb2 X1 A1 C1 X0 A0 C0 PA PB
  go_wp2_with (refine wpList_load_row rfl 26 _ rfl (w.heap.size + 1) rfl 26 #[.int .i64 b.k, .int .i64 b.n, .string b.s, .slice e b.l.length ep] (0, 0) _ ((unhide X2).boxb) Tryd.underlying26 rfl (by kernel_rfl) ?_)
  generalize w1.alloc (.cells #[.int .i64 x.k, .int .i64 x.n, .string x.s, .slice c1 x.l.length cp1] 26) = w2 at *
  generalize w1.heap.size = g1' at *
  refine (unhide PB2).mono ?_
  rintro r w3 ⟨c3, cp3, rfl, hx3, hb3⟩
  clear hx3
  have X3 := (unhide X2).later hb3
  have A3 := (unhide A2).later hb3
  have C3 := (unhide C2).later hb3
  have G3 := row_keep (unhide G2) hb3
  have hb4 := below_new w3 (.cells #[.int .i64 y.k, .int .i64 y.n, .string y.s, .slice c3 y.l.length cp3] 26)
  have X4 := hide (X3.later hb4)
  have A4 := hide (A3.later hb4)
  have C4 := hide (C3.later hb4)
  have G4 := row_keep G3 hb4
  have K4 := (show (w3.alloc (.cells #[.int .i64 y.k, .int .i64 y.n, .string y.s, .slice c3 y.l.length cp3] 26)).heap[w3.heap.size]? = some (.cells #[.int .i64 y.k, .int .i64 y.n, .string y.s, .slice c3 y.l.length cp3] 26 (0, 0)) from Array.getElem?_push_size)
  have x0 := Lib.cell_of_heap G4 0
  have x1 := Lib.cell_of_heap G4 1
  have y0 := Lib.cell_of_heap K4 0
  have y1 := Lib.cell_of_heap K4 1
  clear hb3 hb4 X3 A3 C3 G3 X2 A2 C2 G2 PB2 G4 K4
  have hb5 := below_new (w3.alloc (.cells #[.int .i64 y.k, .int .i64 y.n, .string y.s, .slice c3 y.l.length cp3] 26)) (.cells #[.int .i64 a.k, .int .i64 a.n, .string a.s, .slice c a.l.length cp, .int .i64 b.k, .int .i64 b.n, .string b.s, .slice e b.l.length ep] 26)
  have X5 := hide ((unhide X4).later hb5)
  have hz5 : (w3.alloc (.cells #[.int .i64 y.k, .int .i64 y.n, .string y.s, .slice c3 y.l.length cp3] 26)).heap.size = w3.heap.size + 1 := by simp
  have N5' := (show PX ((w3.alloc (.cells #[.int .i64 y.k, .int .i64 y.n, .string y.s, .slice c3 y.l.length cp3] 26)).alloc (.cells #[.int .i64 a.k, .int .i64 a.n, .string a.s, .slice c a.l.length cp, .int .i64 b.k, .int .i64 b.n, .string b.s, .slice e b.l.length ep] 26)) (Oy w R) ⟨6, 0, ⟨#[]⟩, [a, b]⟩ (some ⟨(w3.alloc (.cells #[.int .i64 y.k, .int .i64 y.n, .string y.s, .slice c3 y.l.length cp3] 26)).heap.size, 0, none⟩) from (unhide A4).two (unhide C4) (unhide DJ) (unhide PR) (unhide QR) (oy_in (unhide HR) (unhide X4).lt) 6 0 ⟨#[]⟩ 26)
  rw [hz5] at N5'
  have N5 := hide N5'
  clear N5' hz5
  clear hb5
  go_wp2_with (first | (refine wpList_load_row rfl 26 _ rfl w.heap.size rfl 26 #[.int .i64 a.k, .int .i64 a.n, .string a.s, .slice c a.l.length cp] (0, 0) _ ((unhide X4).boxa) Tryd.underlying26 rfl (by kernel_rfl) ?_) | (refine wpList_load_row rfl 26 _ rfl (w.heap.size + 1) rfl 26 #[.int .i64 b.k, .int .i64 b.n, .string b.s, .slice e b.l.length ep] (0, 0) _ ((unhide X4).boxb) Tryd.underlying26 rfl (by kernel_rfl) ?_) | (refine wpList_store_row rfl 26 _ _ rfl (w.heap.size + 2) #[.int .i64 6, .int .i64 0, .string ⟨#[]⟩, .slice (some ⟨w3.heap.size + 1, 0, none⟩) 2 2] rfl rfl 26 _ (unhide X5).res szE rfl (ex_one _ _ _ _ _ _) ?_))
  refine bodyPost_ret (results_cell_row (P := Tryd.prog) rfl _ _ (w.heap.size + 2) 26 #[.int .i64 6, .int .i64 0, .string ⟨#[]⟩, .slice (some ⟨w3.heap.size + 1, 0, none⟩) 2 2] (0, 0) _ rfl (setRow_heap _ _ _ _ _ _ (unhide X5).res) Tryd.underlying26 rfl szE) rfl ?_
  rw [← unhide HX]
  exact By.end (x := ⟨6, 0, ⟨#[]⟩, [a, b]⟩) (unhide X5) (unhide N5) _
set_option maxHeartbeats 8000000 in
theorem subS_n1 {d : Nat} (a b : Ex) (oa : okF (d + 1) false a = true) (ob : okF (d + 1) false b = true) (c e : Option Addr) (cp ep : Nat) (P Q R : Nat → Prop) (w : World) (ha : PX w P a c) (hb : PX w Q b e) (hPQ : ∀ b, P b → ¬ Q b) (hPR : ∀ b, P b → R b) (hQR : ∀ b, Q b → R b) (hR : ∀ b, w.heap.size ≤ b → R b) (h1 : b.k ≠ 1) (f0 : ((prtX a).1.k == 11) = true) (f1 : ((prtX b).1.k == 11) = false) : Calls Tryd.prog 79 #[.agg (a.cs c cp), .agg (b.cs e ep)] w (GiR (subX a b) R w) := by
  have X0 := hide (By.new w #[.int .i64 a.k, .int .i64 a.n, .string a.s, .slice c a.l.length cp] #[.int .i64 b.k, .int .i64 b.n, .string b.s, .slice e b.l.length ep])
  have A0 := hide (ha.oy (unhide X0).bel)
  have C0 := hide (hb.oy (unhide X0).bel)
  have PA := hide (prtS_any a oa c cp (Oy w P) _ (unhide A0))
  have PB := hide (fun wr (h : PX wr (Oy w Q) b e) => prtS_any b ob e ep (Oy w Q) wr h)
  have HR := hide hR
  have DJ := hide (show ∀ b, Oy w P b → ¬ Oy w Q b from fun b h k => hPQ b h.1 k.1)
  have PR := hide (show ∀ b, Oy w P b → Oy w R b from fun b h => ⟨hPR b h.1, h.2⟩)
  have QR := hide (show ∀ b, Oy w Q b → Oy w R b from fun b h => ⟨hQR b h.1, h.2⟩)
  have ia := prt_in oa
  have ib := prt_in ob
  have g1 : (b.k == 1) = false := beq_eq_false_iff_ne.2 h1
  have EQ := hide (show subX a b = ⟨6, 0, ⟨#[]⟩, [a, b]⟩ by unfold subX; rw [if_neg h1, if_neg (fun h => by have := beq_eq_false_iff_ne.1 f1; exact this h.2.1)]; rfl)
  unfold PrR at PA PB
  generalize prtX a = pa at *
  generalize prtX b = pb at *
  obtain ⟨x, n⟩ := pa
  obtain ⟨y, k⟩ := pb
  simp only at PA PB ia ib EQ f0 f1
  rw [unhide EQ]
  generalize hX : GiR _ R w = X
  have HX := hide hX
  unfold Ex.cs at PA PB ⊢
  clear hX EQ oa ob ha hb hPQ hPR hQR hR h1
  go_enter Tryd.func79, Tryd.ntmps79
  go_wp2_with fail
  generalize ((w.alloc (.cells #[.int .i64 a.k, .int .i64 a.n, .string a.s, .slice c a.l.length cp] 26)).alloc (.cells #[.int .i64 b.k, .int .i64 b.n, .string b.s, .slice e b.l.length ep] 26)).alloc (.cells #[.int .i64 0, .int .i64 0, .string ⟨#[]⟩, .slice none 0 0] 26) = W at *
  refine (unhide PA).mono ?_
  rintro r w1 ⟨c1, cp1, rfl, hx1, hb1⟩
  clear hx1
  have X1 := (unhide X0).later hb1
  have A1 := (unhide A0).later hb1
  have C1 := (unhide C0).later hb1
  have hb2 := below_new w1 (.cells #[.int .i64 x.k, .int .i64 x.n, .string x.s, .slice c1 x.l.length cp1] 26)
  have X2 := hide (X1.later hb2)
  have A2 := hide (A1.later hb2)
  have C2 := hide (C1.later hb2)
  have G2 := hide (show (w1.alloc (.cells #[.int .i64 x.k, .int .i64 x.n, .string x.s, .slice c1 x.l.length cp1] 26)).heap[w1.heap.size]? = some (.cells #[.int .i64 x.k, .int .i64 x.n, .string x.s, .slice c1 x.l.length cp1] 26 (0, 0)) from Array.getElem?_push_size)
  have PB2 := hide (unhide PB _ (unhide C2))
  clear hb1 hb2 X1 A1 C1 X0 A0 C0 PA PB
  go_wp2_with (refine wpList_load_row rfl 26 _ rfl (w.heap.size + 1) rfl 26 #[.int .i64 b.k, .int .i64 b.n, .string b.s, .slice e b.l.length ep] (0, 0) _ ((unhide X2).boxb) Tryd.underlying26 rfl (by kernel_rfl) ?_)
  generalize w1.alloc (.cells #[.int .i64 x.k, .int .i64 x.n, .string x.s, .slice c1 x.l.length cp1] 26) = w2 at *
  generalize w1.heap.size = g1' at *
  refine (unhide PB2).mono ?_
  rintro r w3 ⟨c3, cp3, rfl, hx3, hb3⟩
  clear hx3
  have X3 := (unhide X2).later hb3
  have A3 := (unhide A2).later hb3
  have C3 := (unhide C2).later hb3
  have G3 := row_keep (unhide G2) hb3
  have hb4 := below_new w3 (.cells #[.int .i64 y.k, .int .i64 y.n, .string y.s, .slice c3 y.l.length cp3] 26)
  have X4 := hide (X3.later hb4)
  have A4 := hide (A3.later hb4)
  have C4 := hide (C3.later hb4)
  have G4 := row_keep G3 hb4
  have K4 := (show (w3.alloc (.cells #[.int .i64 y.k, .int .i64 y.n, .string y.s, .slice c3 y.l.length cp3] 26)).heap[w3.heap.size]? = some (.cells #[.int .i64 y.k, .int .i64 y.n, .string y.s, .slice c3 y.l.length cp3] 26 (0, 0)) from Array.getElem?_push_size)
  have x0 := Lib.cell_of_heap G4 0
  have x1 := Lib.cell_of_heap G4 1
  have y0 := Lib.cell_of_heap K4 0
  have y1 := Lib.cell_of_heap K4 1
  clear hb3 hb4 X3 A3 C3 G3 X2 A2 C2 G2 PB2 G4 K4
  have hb5 := below_new (w3.alloc (.cells #[.int .i64 y.k, .int .i64 y.n, .string y.s, .slice c3 y.l.length cp3] 26)) (.cells #[.int .i64 a.k, .int .i64 a.n, .string a.s, .slice c a.l.length cp, .int .i64 b.k, .int .i64 b.n, .string b.s, .slice e b.l.length ep] 26)
  have X5 := hide ((unhide X4).later hb5)
  have hz5 : (w3.alloc (.cells #[.int .i64 y.k, .int .i64 y.n, .string y.s, .slice c3 y.l.length cp3] 26)).heap.size = w3.heap.size + 1 := by simp
  have N5' := (show PX ((w3.alloc (.cells #[.int .i64 y.k, .int .i64 y.n, .string y.s, .slice c3 y.l.length cp3] 26)).alloc (.cells #[.int .i64 a.k, .int .i64 a.n, .string a.s, .slice c a.l.length cp, .int .i64 b.k, .int .i64 b.n, .string b.s, .slice e b.l.length ep] 26)) (Oy w R) ⟨6, 0, ⟨#[]⟩, [a, b]⟩ (some ⟨(w3.alloc (.cells #[.int .i64 y.k, .int .i64 y.n, .string y.s, .slice c3 y.l.length cp3] 26)).heap.size, 0, none⟩) from (unhide A4).two (unhide C4) (unhide DJ) (unhide PR) (unhide QR) (oy_in (unhide HR) (unhide X4).lt) 6 0 ⟨#[]⟩ 26)
  rw [hz5] at N5'
  have N5 := hide N5'
  clear N5' hz5
  clear hb5
  go_wp2_with (first | (refine wpList_load_row rfl 26 _ rfl w.heap.size rfl 26 #[.int .i64 a.k, .int .i64 a.n, .string a.s, .slice c a.l.length cp] (0, 0) _ ((unhide X4).boxa) Tryd.underlying26 rfl (by kernel_rfl) ?_) | (refine wpList_load_row rfl 26 _ rfl (w.heap.size + 1) rfl 26 #[.int .i64 b.k, .int .i64 b.n, .string b.s, .slice e b.l.length ep] (0, 0) _ ((unhide X4).boxb) Tryd.underlying26 rfl (by kernel_rfl) ?_) | (refine wpList_store_row rfl 26 _ _ rfl (w.heap.size + 2) #[.int .i64 6, .int .i64 0, .string ⟨#[]⟩, .slice (some ⟨w3.heap.size + 1, 0, none⟩) 2 2] rfl rfl 26 _ (unhide X5).res szE rfl (ex_one _ _ _ _ _ _) ?_))
  refine bodyPost_ret (results_cell_row (P := Tryd.prog) rfl _ _ (w.heap.size + 2) 26 #[.int .i64 6, .int .i64 0, .string ⟨#[]⟩, .slice (some ⟨w3.heap.size + 1, 0, none⟩) 2 2] (0, 0) _ rfl (setRow_heap _ _ _ _ _ _ (unhide X5).res) Tryd.underlying26 rfl szE) rfl ?_
  rw [← unhide HX]
  exact By.end (x := ⟨6, 0, ⟨#[]⟩, [a, b]⟩) (unhide X5) (unhide N5) _
set_option maxHeartbeats 8000000 in
theorem subS_n2 {d : Nat} (a b : Ex) (oa : okF (d + 1) false a = true) (ob : okF (d + 1) false b = true) (c e : Option Addr) (cp ep : Nat) (P Q R : Nat → Prop) (w : World) (ha : PX w P a c) (hb : PX w Q b e) (hPQ : ∀ b, P b → ¬ Q b) (hPR : ∀ b, P b → R b) (hQR : ∀ b, Q b → R b) (hR : ∀ b, w.heap.size ≤ b → R b) (h1 : b.k ≠ 1) (f0 : ((prtX a).1.k == 11) = true) (f1 : ((prtX b).1.k == 11) = true) (f2 : ((prtX a).1.n == (prtX b).1.n) = false) : Calls Tryd.prog 79 #[.agg (a.cs c cp), .agg (b.cs e ep)] w (GiR (subX a b) R w) := by
  have X0 := hide (By.new w #[.int .i64 a.k, .int .i64 a.n, .string a.s, .slice c a.l.length cp] #[.int .i64 b.k, .int .i64 b.n, .string b.s, .slice e b.l.length ep])
  have A0 := hide (ha.oy (unhide X0).bel)
  have C0 := hide (hb.oy (unhide X0).bel)
  have PA := hide (prtS_any a oa c cp (Oy w P) _ (unhide A0))
  have PB := hide (fun wr (h : PX wr (Oy w Q) b e) => prtS_any b ob e ep (Oy w Q) wr h)
  have HR := hide hR
  have DJ := hide (show ∀ b, Oy w P b → ¬ Oy w Q b from fun b h k => hPQ b h.1 k.1)
  have PR := hide (show ∀ b, Oy w P b → Oy w R b from fun b h => ⟨hPR b h.1, h.2⟩)
  have QR := hide (show ∀ b, Oy w Q b → Oy w R b from fun b h => ⟨hQR b h.1, h.2⟩)
  have ia := prt_in oa
  have ib := prt_in ob
  have g1 : (b.k == 1) = false := beq_eq_false_iff_ne.2 h1
  have EQ := hide (show subX a b = ⟨6, 0, ⟨#[]⟩, [a, b]⟩ by unfold subX; rw [if_neg h1, if_neg (fun h => by have := beq_eq_false_iff_ne.1 f2; exact this h.2.2)]; rfl)
  unfold PrR at PA PB
  generalize prtX a = pa at *
  generalize prtX b = pb at *
  obtain ⟨x, n⟩ := pa
  obtain ⟨y, k⟩ := pb
  simp only at PA PB ia ib EQ f0 f1 f2
  rw [unhide EQ]
  generalize hX : GiR _ R w = X
  have HX := hide hX
  unfold Ex.cs at PA PB ⊢
  clear hX EQ oa ob ha hb hPQ hPR hQR hR h1
  go_enter Tryd.func79, Tryd.ntmps79
  go_wp2_with fail
  generalize ((w.alloc (.cells #[.int .i64 a.k, .int .i64 a.n, .string a.s, .slice c a.l.length cp] 26)).alloc (.cells #[.int .i64 b.k, .int .i64 b.n, .string b.s, .slice e b.l.length ep] 26)).alloc (.cells #[.int .i64 0, .int .i64 0, .string ⟨#[]⟩, .slice none 0 0] 26) = W at *
  refine (unhide PA).mono ?_
  rintro r w1 ⟨c1, cp1, rfl, hx1, hb1⟩
  clear hx1
  have X1 := (unhide X0).later hb1
  have A1 := (unhide A0).later hb1
  have C1 := (unhide C0).later hb1
  have hb2 := below_new w1 (.cells #[.int .i64 x.k, .int .i64 x.n, .string x.s, .slice c1 x.l.length cp1] 26)
  have X2 := hide (X1.later hb2)
  have A2 := hide (A1.later hb2)
  have C2 := hide (C1.later hb2)
  have G2 := hide (show (w1.alloc (.cells #[.int .i64 x.k, .int .i64 x.n, .string x.s, .slice c1 x.l.length cp1] 26)).heap[w1.heap.size]? = some (.cells #[.int .i64 x.k, .int .i64 x.n, .string x.s, .slice c1 x.l.length cp1] 26 (0, 0)) from Array.getElem?_push_size)
  have PB2 := hide (unhide PB _ (unhide C2))
  clear hb1 hb2 X1 A1 C1 X0 A0 C0 PA PB
  go_wp2_with (refine wpList_load_row rfl 26 _ rfl (w.heap.size + 1) rfl 26 #[.int .i64 b.k, .int .i64 b.n, .string b.s, .slice e b.l.length ep] (0, 0) _ ((unhide X2).boxb) Tryd.underlying26 rfl (by kernel_rfl) ?_)
  generalize w1.alloc (.cells #[.int .i64 x.k, .int .i64 x.n, .string x.s, .slice c1 x.l.length cp1] 26) = w2 at *
  generalize w1.heap.size = g1' at *
  refine (unhide PB2).mono ?_
  rintro r w3 ⟨c3, cp3, rfl, hx3, hb3⟩
  clear hx3
  have X3 := (unhide X2).later hb3
  have A3 := (unhide A2).later hb3
  have C3 := (unhide C2).later hb3
  have G3 := row_keep (unhide G2) hb3
  have hb4 := below_new w3 (.cells #[.int .i64 y.k, .int .i64 y.n, .string y.s, .slice c3 y.l.length cp3] 26)
  have X4 := hide (X3.later hb4)
  have A4 := hide (A3.later hb4)
  have C4 := hide (C3.later hb4)
  have G4 := row_keep G3 hb4
  have K4 := (show (w3.alloc (.cells #[.int .i64 y.k, .int .i64 y.n, .string y.s, .slice c3 y.l.length cp3] 26)).heap[w3.heap.size]? = some (.cells #[.int .i64 y.k, .int .i64 y.n, .string y.s, .slice c3 y.l.length cp3] 26 (0, 0)) from Array.getElem?_push_size)
  have x0 := Lib.cell_of_heap G4 0
  have x1 := Lib.cell_of_heap G4 1
  have y0 := Lib.cell_of_heap K4 0
  have y1 := Lib.cell_of_heap K4 1
  clear hb3 hb4 X3 A3 C3 G3 X2 A2 C2 G2 PB2 G4 K4
  have hb5 := below_new (w3.alloc (.cells #[.int .i64 y.k, .int .i64 y.n, .string y.s, .slice c3 y.l.length cp3] 26)) (.cells #[.int .i64 a.k, .int .i64 a.n, .string a.s, .slice c a.l.length cp, .int .i64 b.k, .int .i64 b.n, .string b.s, .slice e b.l.length ep] 26)
  have X5 := hide ((unhide X4).later hb5)
  have hz5 : (w3.alloc (.cells #[.int .i64 y.k, .int .i64 y.n, .string y.s, .slice c3 y.l.length cp3] 26)).heap.size = w3.heap.size + 1 := by simp
  have N5' := (show PX ((w3.alloc (.cells #[.int .i64 y.k, .int .i64 y.n, .string y.s, .slice c3 y.l.length cp3] 26)).alloc (.cells #[.int .i64 a.k, .int .i64 a.n, .string a.s, .slice c a.l.length cp, .int .i64 b.k, .int .i64 b.n, .string b.s, .slice e b.l.length ep] 26)) (Oy w R) ⟨6, 0, ⟨#[]⟩, [a, b]⟩ (some ⟨(w3.alloc (.cells #[.int .i64 y.k, .int .i64 y.n, .string y.s, .slice c3 y.l.length cp3] 26)).heap.size, 0, none⟩) from (unhide A4).two (unhide C4) (unhide DJ) (unhide PR) (unhide QR) (oy_in (unhide HR) (unhide X4).lt) 6 0 ⟨#[]⟩ 26)
  rw [hz5] at N5'
  have N5 := hide N5'
  clear N5' hz5
  clear hb5
  go_wp2_with (first | (refine wpList_load_row rfl 26 _ rfl w.heap.size rfl 26 #[.int .i64 a.k, .int .i64 a.n, .string a.s, .slice c a.l.length cp] (0, 0) _ ((unhide X4).boxa) Tryd.underlying26 rfl (by kernel_rfl) ?_) | (refine wpList_load_row rfl 26 _ rfl (w.heap.size + 1) rfl 26 #[.int .i64 b.k, .int .i64 b.n, .string b.s, .slice e b.l.length ep] (0, 0) _ ((unhide X4).boxb) Tryd.underlying26 rfl (by kernel_rfl) ?_) | (refine wpList_store_row rfl 26 _ _ rfl (w.heap.size + 2) #[.int .i64 6, .int .i64 0, .string ⟨#[]⟩, .slice (some ⟨w3.heap.size + 1, 0, none⟩) 2 2] rfl rfl 26 _ (unhide X5).res szE rfl (ex_one _ _ _ _ _ _) ?_))
  refine bodyPost_ret (results_cell_row (P := Tryd.prog) rfl _ _ (w.heap.size + 2) 26 #[.int .i64 6, .int .i64 0, .string ⟨#[]⟩, .slice (some ⟨w3.heap.size + 1, 0, none⟩) 2 2] (0, 0) _ rfl (setRow_heap _ _ _ _ _ _ (unhide X5).res) Tryd.underlying26 rfl szE) rfl ?_
  rw [← unhide HX]
  exact By.end (x := ⟨6, 0, ⟨#[]⟩, [a, b]⟩) (unhide X5) (unhide N5) _
theorem subS_any {d : Nat} (a b : Ex) (oa : okF (d + 1) false a = true) (ob : okF (d + 1) false b = true) (c e : Option Addr) (cp ep : Nat) (P Q R : Nat → Prop) (w : World) (ha : PX w P a c) (hb : PX w Q b e) (hPQ : ∀ b, P b → ¬ Q b) (hPR : ∀ b, P b → R b) (hQR : ∀ b, Q b → R b) (hR : ∀ b, w.heap.size ≤ b → R b) : Calls Tryd.prog 79 #[.agg (a.cs c cp), .agg (b.cs e ep)] w (GiR (subX a b) R w) := by
  by_cases h1 : b.k = 1
  · exact subS_num a b oa ob c e cp ep P Q R w ha hb hPQ hPR hQR hR h1
  · cases f0 : ((prtX a).1.k == 11) with
    | false => exact subS_n0 a b oa ob c e cp ep P Q R w ha hb hPQ hPR hQR hR h1 f0
    | true =>
      cases f1 : ((prtX b).1.k == 11) with
      | false => exact subS_n1 a b oa ob c e cp ep P Q R w ha hb hPQ hPR hQR hR h1 f0 f1
      | true =>
        cases f2 : ((prtX a).1.n == (prtX b).1.n) with
        | false => exact subS_n2 a b oa ob c e cp ep P Q R w ha hb hPQ hPR hQR hR h1 f0 f1 f2
        | true => exact subS_sect a b oa ob c e cp ep P Q R w ha hb hPQ hPR hQR hR h1 f0 f1 f2
end Go.Proofs.YtkolflcjkofleaaDoor

namespace Go.Proofs.YtkolflcjkofleaaDoor
open Go.ChangeShapes Go.WideShapes Go.ChangeAt Go.RowKit
set_option linter.unusedVariables false
set_option maxRecDepth 8000
set_option linter.unusedSimpArgs false

/-- So many parts of a list are appended: the row is v, all blocks from B on and below M. -/
def ApX (w : World) (B : Nat) (l : List Ex) (k : Nat) (v : Value) (M : Nat) : Prop := ∃ (cs : List Value) (Fs : List (List Nat)), w.ownsRow B 26 4 v k cs ∧ (∀ g, v.ownBlock = some g → g < M) ∧ Fs.length = k ∧ Fs.flatten.Nodup ∧ (∀ b ∈ Fs.flatten, B ≤ b ∧ b < M ∧ v.ownBlock ≠ some b) ∧ ∀ i, i < k → OwIn w cs i (xAt l i) (Fs.getD i [])
theorem ownsRow_keepF {w w' : World} {B n m : Nat} {t : TypeId} {v : Value} {cs : List Value} (h : w.ownsRow B t m v n cs) (hk : ∀ g, v.ownBlock = some g → w'.heap[g]? = w.heap[g]?) : w'.ownsRow B t m v n cs := by
  obtain ⟨h1, h2 | ⟨g, cap, cur, rfl, hg, hh, r⟩⟩ := h
  · exact ⟨h1, .inl h2⟩
  · exact ⟨h1, .inr ⟨g, cap, cur, rfl, hg, (hk g rfl).trans hh, r⟩⟩
theorem ApX.keep {w w' : World} {B k M : Nat} {l : List Ex} {v : Value} (h : ApX w B l k v M) (hk : ∀ b, B ≤ b → b < M → w'.heap[b]? = w.heap[b]?) : ApX w' B l k v M := by
  obtain ⟨cs, Fs, h1, h2, h3, h4, h5, h6⟩ := h
  refine ⟨cs, Fs, ownsRow_keepF h1 (fun g hg => hk g (World.ownsRow.lt h1 g hg).1 (h2 g hg)), h2, h3, h4, h5, fun i hi => (h6 i hi).keep (fun b hb => ?_)⟩
  obtain ⟨q1, q2, _⟩ := h5 b (getD_flat hb)
  exact hk b q1 q2
theorem ApX.later {w w' : World} {B k M : Nat} {l : List Ex} {v : Value} (h : ApX w B l k v M) (hb : Below w.heap.size w w') (hM : M ≤ w.heap.size) : ApX w' B l k v M := h.keep (fun b _ h2 => hb.block b (by omega))
theorem ApX.far {w : World} {B k M : Nat} {l : List Ex} {v : Value} (h : ApX w B l k v M) (p : Addr) (u : Value) (hp : p.block < B) : ApX (w.setCell p u) B l k v M := h.keep (fun b h1 _ => heap_setCell_other w p b u (by omega))
theorem ApX.nil (w : World) (B : Nat) (l : List Ex) (M : Nat) : ApX w B l 0 (.slice none 0 0) M := ⟨[], [], World.ownsRow_nil _ _ _ _, (fun g h => by simp [Value.ownBlock] at h), rfl, List.nodup_nil, (fun b hb => by simp at hb), fun i hi => by omega⟩
theorem ApX.step {w w' : World} {B k M M' : Nat} {l : List Ex} {v : Value} {cs : List Value} {Fs : List (List Nat)} {q : Option Addr} {cp g cap : Nat} (h1 : w.ownsRow B 26 4 v k cs) (h2 : ∀ g, v.ownBlock = some g → g < M) (h3 : Fs.length = k) (h4 : Fs.flatten.Nodup) (h5 : ∀ b ∈ Fs.flatten, B ≤ b ∧ b < M ∧ v.ownBlock ≠ some b) (h6 : ∀ i, i < k → OwIn w cs i (xAt l i) (Fs.getD i []))
    (hx : HalfX w M M' (xAt l k) q) (hBM : B ≤ M) (hM : M ≤ M') (hM' : M' ≤ w.heap.size) (ho : w'.ownsRow B 26 4 (.slice (some ⟨g, 0, none⟩) (k + 1) cap) (k + 1) (cs ++ exL (xAt l k) q cp)) (hg : w.grownBy w' v.ownBlock) (hw : v.ownBlock = some g ∨ g = w.heap.size) : ApX w' B l (k + 1) (.slice (some ⟨g, 0, none⟩) (k + 1 : Nat) cap) w'.heap.size := by
  obtain ⟨F, x1, x2, x3⟩ := hx
  have hl := h1.1
  refine ⟨_, Fs ++ [F], ho, (fun g' e => by
    have := World.ownsRow.lt ho g' e
    exact this.2), by simp [h3], ?_, ?_, ?_⟩
  · rw [flat_snoc]
    exact nodup_snoc h4 x2 (fun b hb => (h5 b hb).2.1) (fun b hb => (x3 b hb).1)
  · intro b hb
    rw [flat_snoc] at hb
    have hs := hg.size
    rcases List.mem_append.1 hb with hb | hb
    · obtain ⟨q1, q2, q3⟩ := h5 b hb
      refine ⟨q1, by omega, fun e => ?_⟩
      have e : g = b := by simpa [Value.ownBlock] using e
      rcases hw with hw | hw
      · exact q3 (by rw [hw, e])
      · omega
    · obtain ⟨q1, q2⟩ := x3 b hb
      refine ⟨by omega, by omega, fun e => ?_⟩
      have e : g = b := by simpa [Value.ownBlock] using e
      rcases hw with hw | hw
      · have := h2 g hw
        omega
      · omega
  · intro i hi
    by_cases hik : i < k
    · rw [getD_snoc_lt (by omega)]
      obtain ⟨c0, c1, c2, c, cp', c3, c4⟩ := h6 i hik
      refine ⟨by rw [List.getElem?_append_left (by omega)]; exact c0, by rw [List.getElem?_append_left (by omega)]; exact c1, by rw [List.getElem?_append_left (by omega)]; exact c2, c, cp', by rw [List.getElem?_append_left (by omega)]; exact c3, ?_⟩
      refine OwX.keep _ _ _ (fun b hb => ?_) c4
      obtain ⟨q1, q2, q3⟩ := h5 b (getD_flat hb)
      exact hg.block b (by omega) (fun e => q3 e.symm)
    · obtain rfl : i = k := by omega
      rw [getD_snoc_eq (by omega)]
      have hj : ∀ j, j < 4 → (cs ++ exL (xAt l i) q cp)[i * 4 + j]? = (exL (xAt l i) q cp)[j]? := fun j hj => by
        rw [List.getElem?_append_right (by omega), hl]
        congr 1
        omega
      refine ⟨(hj 0 (by omega)).trans rfl, (hj 1 (by omega)).trans rfl, (hj 2 (by omega)).trans rfl, q, cp, (hj 3 (by omega)).trans rfl, ?_⟩
      refine OwX.keep _ _ _ (fun b hb => ?_) x1
      obtain ⟨q1, q2⟩ := x3 b hb
      exact hg.block b (by omega) (fun e => by have := h2 b e.symm; omega)
/-- All are appended. -/
theorem ApX.done {w : World} {B M n cap : Nat} {l : List Ex} {a : Option Addr} (h : ApX w B l l.length (.slice a n cap) M) (k m : Int) (s : ByteArray) : PX w (B ≤ ·) ⟨k, m, s, l⟩ a ∧ n = l.length := by
  obtain ⟨cs, Fs, h1, h2, h3, h4, h5, h6⟩ := h
  have h1' := h1
  obtain ⟨hl, ⟨e, h0⟩ | ⟨g, cap', cur, e, hg, hh, hn, hm, hz, ht⟩⟩ := h1
  · cases e
    have : l = [] := List.length_eq_zero_iff.1 h0
    subst this
    exact ⟨PX.leaf _ _ _ _ _ _, rfl⟩
  · cases e
    obtain ⟨cur, hh, hz, hg, hc⟩ := row_take h1'
    refine ⟨⟨g :: Fs.flatten, (OwX_eq _ _ _ _).2 (.inr ⟨g, cur, _, Fs, rfl, hh, hz, h3, rfl, fun i hi => ?_⟩), List.nodup_cons.2 ⟨fun hb => (h5 g hb).2.2 rfl, h4⟩, fun b hb => ?_⟩, rfl⟩
    · obtain ⟨c0, c1, c2, c, cp', c3, c4⟩ := h6 i hi
      have hi : i < l.length := hi
      exact ⟨(hc _ (by omega)).trans c0, (hc _ (by omega)).trans c1, (hc _ (by omega)).trans c2, c, cp', (hc _ (by omega)).trans c3, c4⟩
    · rcases List.mem_cons.1 hb with rfl | hb
      · exact hg
      · exact (h5 b hb).1
end Go.Proofs.YtkolflcjkofleaaDoor

namespace Go.Proofs.YtkolflcjkofleaaDoor
open Go.ChangeShapes Go.WideShapes Go.ChangeAt Go.RowKit
set_option linter.unusedVariables false
set_option maxRecDepth 8000
set_option linter.unusedSimpArgs false

theorem cell_newF (W : World) (cs : Array Value) (t : TypeId) : ∀ j u, cs.toList[j]? = some u → (W.alloc (.cells cs t)).cell? ((⟨W.heap.size, 0, none⟩ : Addr).add j) = some u := by
  intro j u hu
  have h : (W.alloc (.cells cs t)).cell? ⟨W.heap.size, j, none⟩ = some u := by rw [World.cell?_alloc_at _ _ _ _ rfl]; simpa using hu
  unfold Addr.add
  by_cases h0 : j = 0
  · subst h0; simpa using h
  · simpa [h0] using h
/-- The rows of a function that fills a term: the argument, what is answered, the term. -/
structure Cz (w wr : World) (pr : Array Value) (k n : Int) (s : ByteArray) (v : Value) : Prop where
  bel : Below w.heap.size w wr
  lt : w.heap.size + 3 ≤ wr.heap.size
  box : wr.heap[w.heap.size]? = some (.cells pr 26 (0, 0))
  res : wr.heap[w.heap.size + 1]? = some (.cells #[.int .i64 0, .int .i64 0, .string ⟨#[]⟩, .slice none 0 0] 26 (0, 0))
  out : wr.heap[w.heap.size + 2]? = some (.cells #[.int .i64 k, .int .i64 n, .string s, v] 26 (0, 0))
section
variable {w wr w' : World} {pr : Array Value} {k n : Int} {s : ByteArray} {v : Value}
theorem Cz.later (h : Cz w wr pr k n s v) (hb : Below wr.heap.size wr w') : Cz w w' pr k n s v := ⟨h.bel.trans (hb.mono h.bel.size), Nat.le_trans h.lt hb.size, row_keep h.box hb, row_keep h.res hb, row_keep h.out hb⟩
theorem Cz.grown {o : Option Nat} (h : Cz w wr pr k n s v) (hg : wr.grownBy w' o) (ho : ∀ g, o = some g → w.heap.size + 3 ≤ g) : Cz w w' pr k n s v := by
  have ne : ∀ b, b < w.heap.size + 3 → some b ≠ o := fun b hb e => by have := ho b e.symm; omega
  exact ⟨h.bel.grown hg h.bel.size (fun q e => by have := ho q e; omega), Nat.le_trans h.lt hg.size, (hg.block _ (Array.getElem?_eq_some_iff.1 h.box).1 (ne _ (by omega))).trans h.box, (hg.block _ (Array.getElem?_eq_some_iff.1 h.res).1 (ne _ (by omega))).trans h.res, (hg.block _ (Array.getElem?_eq_some_iff.1 h.out).1 (ne _ (by omega))).trans h.out⟩
theorem Cz.set3 (h : Cz w wr pr k n s v) (x : Value) : Cz w (wr.setCell ⟨w.heap.size + 2, 3, none⟩ x) pr k n s x := by
  have ne : ∀ b, b < w.heap.size + 2 → (wr.setCell ⟨w.heap.size + 2, 3, none⟩ x).heap[b]? = wr.heap[b]? := fun b hb => heap_setCell_other wr ⟨w.heap.size + 2, 3, none⟩ b _ (fun e => by have e' : b = w.heap.size + 2 := e; omega)
  refine ⟨h.bel.setCell (p := ⟨w.heap.size + 2, 3, none⟩) (by show w.heap.size ≤ w.heap.size + 2; omega) _, by simp; exact h.lt, (ne _ (by omega)).trans h.box, (ne _ (by omega)).trans h.res, ?_⟩
  rw [heap_setCell_same wr (w.heap.size + 2) 3 _ 26 x h.out]
  rfl
theorem Cz.new (w : World) (pr : Array Value) : Cz w (((w.alloc (.cells pr 26)).alloc (.cells #[.int .i64 0, .int .i64 0, .string ⟨#[]⟩, .slice none 0 0] 26)).alloc (.cells #[.int .i64 k, .int .i64 n, .string s, v] 26)) pr k n s v := by
  have hb := (((Below.refl w.heap.size w).alloc (Nat.le_refl _) (.cells pr 26)).alloc (by simp) (.cells #[.int .i64 0, .int .i64 0, .string ⟨#[]⟩, .slice none 0 0] 26)).alloc (by simp; omega) (.cells #[.int .i64 k, .int .i64 n, .string s, v] 26)
  have h1 : (w.alloc (.cells pr 26)).heap.size = w.heap.size + 1 := by simp
  have h2 : ((w.alloc (.cells pr 26)).alloc (.cells #[.int .i64 0, .int .i64 0, .string ⟨#[]⟩, .slice none 0 0] 26)).heap.size = w.heap.size + 2 := by simp
  refine ⟨hb, by simp, ?_, ?_, ?_⟩
  · exact row_keep (row_keep (heap_alloc_new w _) (below_new _ _)) (below_new _ _)
  · refine row_keep ?_ (below_new _ _)
    rw [← h1]; exact Array.getElem?_push_size
  · rw [← h2]; exact Array.getElem?_push_size
end
theorem copy_fin {e : Ex} {w w' : World} {a : Option Addr} {n cp M : Nat} {pr : Array Value} (row : Array Value) (hc : Cz w w' pr e.k e.n e.s (.slice a n cp)) (h : ApX w' (w.heap.size + 3) e.l e.l.length (.slice a n cp) M) : GiR e (w.heap.size ≤ ·) w (.returned (.agg #[.int .i64 e.k, .int .i64 e.n, .string e.s, .slice a n cp])) (w'.setRow (w.heap.size + 1) row) := by
  obtain ⟨k, m, s, l⟩ := e
  obtain ⟨hd, rfl⟩ := h.done k m s
  exact ⟨a, cp, rfl, (PX.row (g := w.heap.size + 1) hd row (by show ¬ (w.heap.size + 3 ≤ w.heap.size + 1); omega)).mono (Q := fun x => w.heap.size ≤ x) (fun b (hb : w.heap.size + 3 ≤ b) => by show w.heap.size ≤ b; omega), hc.bel.grown (grownBy_row _) hc.bel.size (fun k e => by cases e; omega)⟩
def CoP (e : Ex) : Prop := ∀ (b : Option Addr) (cap : Nat) (w : World), RdX w 0 e b → e.sz ≤ 1048576 → Calls Tryd.prog 52 #[.agg (e.cs b cap)] w (GiR e (w.heap.size ≤ ·) w)
set_option maxHeartbeats 8000000 in
theorem copyS_of (e : Ex) (ih : ∀ i, i < e.l.length → CoP (xAt e.l i)) : CoP e := by
  intro b cap w hr hz
  have hsz := sz_is e
  rw [RdX_eq] at hr
  have hp : ∀ i, i < e.l.length → (xAt e.l i).sz ≤ 1048576 := fun i hi => by have := sz_part hi; omega
  have hm : e.l.length ≤ 1048576 := by omega
  have FN := hide (fun (w' : World) (a : Option Addr) (n cp : Nat) (pr : Array Value) (row : Array Value) (M : Nat) => copy_fin (e := e) (w := w) (w' := w') (a := a) (n := n) (cp := cp) (pr := pr) (M := M) row)
  clear hsz hz
  unfold Ex.cs
  generalize GiR e (w.heap.size ≤ ·) w = X at *
  generalize e.k = ek at *
  generalize e.n = en at *
  generalize e.s = es at *
  generalize e.l = l at *
  obtain ⟨len, hl⟩ : ∃ len, l.length = len := ⟨_, rfl⟩
  rw [hl] at hm ih hr hp FN ⊢
  obtain ⟨i0, hi, hz0, hz1, hz2⟩ := info_parts infoX
  have C0 := hide (Cz.new (k := ek) (n := en) (s := es) (v := .slice none 0 0) w #[.int .i64 ek, .int .i64 en, .string es, .slice b len cap])
  go_enter Tryd.func52, Tryd.ntmps52
  go_wp2
  generalize ((w.alloc (.cells #[.int .i64 ek, .int .i64 en, .string es, .slice b len cap] 26)).alloc (.cells #[.int .i64 0, .int .i64 0, .string ⟨#[]⟩, .slice none 0 0] 26)).alloc (.cells #[.int .i64 ek, .int .i64 en, .string es, .slice none 0 0] 26) = W at *
  go_loopw [4] (fun i wr => ∃ (k : Nat) (v : Value), k ≤ len ∧ i = .int .i64 k ∧ Cz w wr #[.int .i64 ek, .int .i64 en, .string es, .slice b len cap] ek en es v ∧ ApX wr (w.heap.size + 3) l k v wr.heap.size) (fun i _ => len - (intOf i).toNat)
  case atStart => exact ⟨0, _, Nat.zero_le _, rfl, unhide C0, ApX.nil _ _ _ _⟩
  case round =>
    clear C0
    obtain ⟨k, v, hk, rfl, hcz, hap⟩ := hrel
    have B1 := hcz.bel
    by_cases hlt : k < len
    · rcases hr with h0 | ⟨p, off, rfl, _, hbl, hc⟩
      · rw [h0] at hl; simp at hl; omega
      obtain ⟨c0, c1, c2, c, cap', c3, c4⟩ := hc k (by omega)
      have d0 : wr.cell? ⟨p, off + k * 4, none⟩ = _ := (B1.cell (p := ⟨p, _, none⟩) hbl).trans c0
      have d1 : wr.cell? ⟨p, off + k * 4 + 1, none⟩ = _ := (B1.cell (p := ⟨p, _, none⟩) hbl).trans c1
      have d2 : wr.cell? ⟨p, off + k * 4 + 2, none⟩ = _ := (B1.cell (p := ⟨p, _, none⟩) hbl).trans c2
      have d3 : wr.cell? ⟨p, off + k * 4 + 3, none⟩ = _ := (B1.cell (p := ⟨p, _, none⟩) hbl).trans c3
      have b3 := Lib.cell_of_heap hcz.box 3
      have HT := hide (ih k hlt c cap' wr (c4.later B1) (hp k hlt))
      unfold GiR Ex.cs at HT
      have CZ := hide hcz
      have AP := hide hap
      have AS := hide (fun (w1 w2 : World) (g cp M' : Nat) (q : Option Addr) (cq : Nat) cs Fs h1 h2 h3 h4 h5 h6 hx hBM hM hM' ho hg hw => ApX.step (w := w1) (w' := w2) (B := w.heap.size + 3) (k := k) (M := wr.heap.size) (M' := M') (l := l) (v := v) (cs := cs) (Fs := Fs) (q := q) (cp := cq) (g := g) (cap := cp) h1 h2 h3 h4 h5 h6 hx hBM hM hM' ho hg hw)
      clear c0 c1 c2 c3 c4 hc hcz hap B1
      unfold exL at AS
      generalize (xAt l k).s = ss at d2 HT AS
      generalize (xAt l k).k = kk at d0 HT AS
      generalize (xAt l k).n = nn at d1 HT AS
      generalize (xAt l k).l.length = ll at d3 HT AS
      go_wp2_with fail
      refine (unhide HT).mono ?_
      rintro e w1 ⟨q, cq, rfl, hq, hb1⟩
      have hb2 := below_new w1 (.cells #[.int .i64 kk, .int .i64 nn, .string ss, .slice q ll cq] 26)
      have hb3 := below_new (w1.alloc (.cells #[.int .i64 kk, .int .i64 nn, .string ss, .slice q ll cq] 26)) (.cells #[.int .i64 kk, .int .i64 nn, .string ss, .slice q ll cq] 26)
      have hb12 := hb1.trans (hb2.mono hb1.size)
      have hb13 := hb12.trans (hb3.mono hb12.size)
      have hb23 := hb2.trans (hb3.mono hb2.size)
      have hz2' : (w1.alloc (.cells #[.int .i64 kk, .int .i64 nn, .string ss, .slice q ll cq] 26)).heap.size = w1.heap.size + 1 := by simp
      have hz3' : ((w1.alloc (.cells #[.int .i64 kk, .int .i64 nn, .string ss, .slice q ll cq] 26)).alloc (.cells #[.int .i64 kk, .int .i64 nn, .string ss, .slice q ll cq] 26)).heap.size = w1.heap.size + 2 := by simp
      have C2 := (unhide CZ).later hb12
      have C3 := hide ((unhide CZ).later hb13)
      have G2 := hide (show (w1.alloc (.cells #[.int .i64 kk, .int .i64 nn, .string ss, .slice q ll cq] 26)).heap[w1.heap.size]? = some (.cells #[.int .i64 kk, .int .i64 nn, .string ss, .slice q ll cq] 26 (0, 0)) from Array.getElem?_push_size)
      have o3 := Lib.cell_of_heap C2.out 3
      have A3 := hide ((unhide AP).later hb13 (Nat.le_refl _))
      have CN' := cell_newF (w1.alloc (.cells #[.int .i64 kk, .int .i64 nn, .string ss, .slice q ll cq] 26)) #[.int .i64 kk, .int .i64 nn, .string ss, .slice q ll cq] 26
      rw [hz2'] at CN'
      have CN := hide CN'
      have HX := hide ((show NewX w1 wr.heap.size (xAt l k) q from hq).half.later hb23)
      have SZ := hide hz3'
      have S1 := hide hb1.size
      clear hq hb1 hb2 hb3 hb12 hb13 hb23 hz2' hz3' CN' C2 HT
      obtain ⟨cs, Fs, a1, a2, a3, a4, a5, a6⟩ := unhide A3
      have OW := hide a1
      have SP := hide (fun w2 g cp => unhide AS ((w1.alloc (.cells #[.int .i64 kk, .int .i64 nn, .string ss, .slice q ll cq] 26)).alloc (.cells #[.int .i64 kk, .int .i64 nn, .string ss, .slice q ll cq] 26)) w2 g cp w1.heap.size q cq cs Fs a1 a2 a3 a4 a5 a6 (unhide HX) (by have := (unhide CZ).lt; omega) (unhide S1) (by have := unhide SZ; omega))
      have BA := hide (show w.heap.size + 3 ≤ ((w1.alloc (.cells #[.int .i64 kk, .int .i64 nn, .string ss, .slice q ll cq] 26)).alloc (.cells #[.int .i64 kk, .int .i64 nn, .string ss, .slice q ll cq] 26)).heap.size from (unhide C3).lt)
      have WB := hide (show ∀ g, v.ownBlock = some g → w.heap.size + 3 ≤ g from fun g hg => (World.ownsRow.lt a1 g hg).1)
      have ON := hide (show ∀ u ∈ ([.int .i64 kk, .int .i64 nn, .string ss, .slice q ll cq] : List Value), u.oneCell' = true by intro u hu; simp only [List.mem_cons, List.not_mem_nil, or_false] at hu; rcases hu with rfl | rfl | rfl | rfl <;> rfl)
      clear a1 a2 a3 a4 a5 a6 A3 AS HX
      go_wp2_with (first | (refine wpList_load_row rfl 26 _ rfl w1.heap.size rfl 26 #[.int .i64 kk, .int .i64 nn, .string ss, .slice q ll cq] (0, 0) _ (unhide G2) Tryd.underlying26 rfl (by kernel_rfl) ?_) | (at_builtin; go_must (refine wpList_append_to rfl (.tmp 27) (.tmp 29) 24 rfl (w.heap.size + 3) 26 i0 (.agg #[.int .i64 0, .int .i64 0, .string ⟨#[]⟩, .slice none 0 0]) 4 56 Tryd.underlying24 hi hz0 hz1 hz2 rfl (by decide) v k cs rfl (unhide OW) ⟨w1.heap.size + 1, 0, none⟩ 1 1 [.int .i64 kk, .int .i64 nn, .string ss, .slice q ll cq] rfl rfl (unhide CN) (unhide ON) (by unfold maxLen; omega) (by omega) (unhide BA) (by omega) ?_; intro g4 cap4 w4 hown4 hgrow4 hwh4; have A4 := hide (unhide SP w4 g4 cap4 hown4 hgrow4 hwh4); have C4 := (unhide C3).grown hgrow4 (unhide WB); have f4 : w4.frozen? ⟨w.heap.size + 2, 3, none⟩ = false := (by simp [World.frozen?, C4.out]); have o4 := Lib.cell_of_heap C4.out 3; have C5 := hide (C4.set3 (.slice (some ⟨g4, 0, none⟩) (k + 1 : Nat) cap4)); clear hown4 hgrow4 hwh4 C4)))
      go_roundw
      case rel => exact ⟨k + 1, _, by omega, by go_num, unhide C5, by
        rw [show (w4.setCell ⟨w.heap.size + 2, 3, none⟩ (.slice (some ⟨g4, 0, none⟩) (k + 1 : Nat) cap4)).heap.size = w4.heap.size by simp]
        exact (unhide A4).far ⟨w.heap.size + 2, 3, none⟩ _ (by show w.heap.size + 2 < w.heap.size + 3; omega)⟩
      case measure => simp [intOf]; omega
    · obtain rfl : k = len := by omega
      have b3 := Lib.cell_of_heap hcz.box 3
      obtain ⟨a5, n5, c5, rfl⟩ : ∃ a n c, v = .slice a n c := by
        obtain ⟨_, _, ⟨_, ⟨e, _⟩ | ⟨g, cap', cur, e, _⟩⟩, _⟩ := hap
        · exact ⟨_, _, _, e⟩
        · exact ⟨_, _, _, e⟩
      have CZ := hide hcz
      have AP := hide hap
      clear hcz hap
      go_wp2_with (first | (refine wpList_load_row rfl 26 _ rfl (w.heap.size + 2) rfl 26 #[.int .i64 ek, .int .i64 en, .string es, .slice a5 n5 c5] (0, 0) _ ((unhide CZ).out) Tryd.underlying26 rfl (by kernel_rfl) ?_) | (refine wpList_store_row rfl 26 _ _ rfl (w.heap.size + 1) #[.int .i64 ek, .int .i64 en, .string es, .slice a5 n5 c5] rfl rfl 26 _ (unhide CZ).res szE rfl (ex_one _ _ _ _ _ _) ?_))
      refine bodyPost_ret (results_cell_row (P := Tryd.prog) rfl _ _ (w.heap.size + 1) 26 #[.int .i64 ek, .int .i64 en, .string es, .slice a5 n5 c5] (0, 0) _ rfl (setRow_heap _ _ _ _ _ _ (unhide CZ).res) Tryd.underlying26 rfl szE) rfl ?_
      exact unhide FN _ _ _ _ _ _ _ (unhide CZ) (unhide AP)
theorem copyS_any (e : Ex) : CoP e := by
  induction e using Ex.ind with
  | h k n s l ih => exact copyS_of _ (fun i hi => ih _ (xAt_mem hi))
end Go.Proofs.YtkolflcjkofleaaDoor

namespace Go.Proofs.YtkolflcjkofleaaDoor

section
variable {P : Program} {ops : Array Oper} {Q : Exit → Act → World → Prop} {md : Region.Mode} {S : World → Prop} {last : Nat}
/-- Whatever order is picked from here on; S holds behind each operation, as long as 'last' has not come up. -/
def wpAnyL (P : Program) (md : Region.Mode) (ops : Array Oper) (Q : Exit → Act → World → Prop) (S : World → Prop) (last : Nat) : Nat → Array Bool → Act → World → Prop
  | 0, listed, a, w => Region.ready md ops listed = [] ∧ Q .normal a w
  | fuel + 1, listed, a, w =>
    (Region.ready md ops listed = [] → Q .normal a w) ∧
    ∀ i ∈ Region.ready md ops listed, wpOp P ops Q i (fun a' w' => ((listed.setIfInBounds i true).getD last true = false → S w') ∧ wpAnyL P md ops Q S last fuel (listed.setIfInBounds i true) a' w') a w
theorem wpAny_of_last : ∀ (fuel : Nat) (listed : Array Bool) (a : Act) (w : World), wpAnyL P md ops Q S last fuel listed a w → wpAny P md ops Q fuel listed a w
  | 0, _, _, _, h => h
  | fuel + 1, _, _, _, h => ⟨h.1, fun i hi => wpOp_mono (fun a' w' h' => wpAny_of_last fuel _ a' w' h'.2) (h.2 i hi)⟩
/-- Whether 'last' waits for i. -/
def lastB (md : Region.Mode) (ops : Array Oper) (last i : Nat) : Bool := ((ops[last]?).map fun o => o.after.any fun e => Region.binds md e && e.on == i).getD false
theorem lastB_spec {i : Nat} (h : lastB md ops last i = true) : ∀ ol, ops[last]? = some ol → ∃ e ∈ ol.after, Region.binds md e = true ∧ e.on = i := by
  intro ol ho
  unfold lastB at h
  rw [ho] at h
  simp only [Option.map_some, Option.getD_some] at h
  obtain ⟨e, he, hb⟩ := Array.any_eq_true'.1 h
  simp only [Bool.and_eq_true, beq_iff_eq] at hb
  exact ⟨e, he, hb.1, hb.2⟩
theorem wpAnyL_firstS {i : Nat} {oi : Oper} {v : Value} (hi : ops[i]? = some oi) (hsel : ∀ (j : Nat) (o : Oper) cs b, ops[j]? = some o → o.op ≠ .select cs b)
    (hQ : ∀ c a w, Q (.panic c) (a.put oi.dst v) w → Q (.panic c) a w) (hil : i ≠ last) (hl : ∀ ol, ops[last]? = some ol → ∃ e ∈ ol.after, Region.binds md e = true ∧ e.on = i) :
    ∀ (fuel : Nat) (listed : Array Bool) (a : Act) (w : World),
      (∀ j oj, ops[j]? = some oj → j ≠ i → listed.getD j true = false → (∀ e ∈ oj.after, Region.binds md e = true → e.on ≠ i) → oi.apart ops oj = true) →
      i ∈ Region.ready md ops listed → YieldsIf P ops S oi v a → S w → listed.getD last true = false →
      wpAnyL P md ops Q S last fuel (listed.setIfInBounds i true) (a.put oi.dst v) w → wpAnyL P md ops Q S last (fuel + 1) listed a w := by
  intro fuel
  induction fuel with
  | zero =>
    intro listed a w _ hr hy hS hp H
    refine ⟨fun h => (by rw [h] at hr; cases hr), fun j hj => ?_⟩
    by_cases hji : j = i
    · subst hji; exact hy.wpOp hi hS ⟨fun _ => hS, H⟩
    · have := ready_mono hj hji
      rw [H.1] at this
      cases this
  | succ fuel ih =>
    intro listed a w hfree hr hy hS hp H
    refine ⟨fun h => (by rw [h] at hr; cases hr), fun j hj => ?_⟩
    by_cases hji : j = i
    · subst hji; exact hy.wpOp hi hS ⟨fun _ => hS, H⟩
    · have h1 := H.2 j (ready_mono hj hji)
      obtain ⟨hjun, oj, hoj, hall⟩ := mem_ready.1 hj
      have hnot : ∀ e ∈ oj.after, Region.binds md e = true → e.on ≠ i := fun e he hb heq => by
        have h1 := hall e he hb
        have h0 := (mem_ready.1 hr).1
        rw [heq] at h1
        rcases Nat.lt_or_ge i listed.size with h' | h'
        · simp [h'] at h0 h1; rw [h0] at h1; cases h1
        · simp [Array.getElem?_eq_none h'] at h1
      have hjl : j ≠ last := fun e => by
        subst e
        obtain ⟨e, he, hb, ho⟩ := hl oj hoj
        exact hnot e he hb ho
      have h2 := wpOp_putIf hoj (hfree j oj hoj hji hjun hnot) (fun cs b => hsel i oi cs b hi) (fun cs b => hsel j oj cs b hoj) hQ hy h1
      have hfree' : ∀ k ok, ops[k]? = some ok → k ≠ i → (listed.setIfInBounds j true).getD k true = false →
          (∀ e ∈ ok.after, Region.binds md e = true → e.on ≠ i) → oi.apart ops ok = true := fun k ok hk hki hun hno => by
        refine hfree k ok hk hki ?_ hno
        by_cases hjk : j = k
        · subst hjk; exact hjun
        · rw [getD_set_ne true hjk] at hun; exact hun
      have hp' : (listed.setIfInBounds j true).getD last true = false := by rw [getD_set_ne true hjl]; exact hp
      have hp2 : ((listed.setIfInBounds i true).setIfInBounds j true).getD last true = false := by rw [getD_set_ne true hjl, getD_set_ne true hil]; exact hp
      refine wpOp_mono (fun a' w' h3 => ⟨fun _ => h3.2.1 hp2, ih (listed.setIfInBounds j true) a' w' hfree' (ready_mono hr (Ne.symm hji)) h3.1 (h3.2.1 hp2) hp' ?_⟩) h2
      rw [Array.setIfInBounds_comm _ _ hji]
      exact h3.2.2
theorem wpAnyL_firstW {i : Nat} {oi : Oper} {v : Value} (hi : ops[i]? = some oi) (hsel : ∀ (j : Nat) (o : Oper) cs b, ops[j]? = some o → o.op ≠ .select cs b)
    (hQ : ∀ c a w, Q (.panic c) (a.put oi.dst v) w → Q (.panic c) a w) (hil : i ≠ last) :
    ∀ (fuel : Nat) (listed : Array Bool) (a : Act) (w : World),
      (∀ j oj, ops[j]? = some oj → j ≠ i → listed.getD j true = false → (∀ e ∈ oj.after, Region.binds md e = true → e.on ≠ i) → oi.apart ops oj = true) →
      i ∈ Region.ready md ops listed → YieldsIf P ops (fun _ => True) oi v a → (listed.getD last true = false → S w) →
      wpAnyL P md ops Q S last fuel (listed.setIfInBounds i true) (a.put oi.dst v) w → wpAnyL P md ops Q S last (fuel + 1) listed a w := by
  intro fuel
  induction fuel with
  | zero =>
    intro listed a w _ hr hy hS H
    refine ⟨fun h => (by rw [h] at hr; cases hr), fun j hj => ?_⟩
    by_cases hji : j = i
    · subst hji; exact hy.wpOp hi trivial ⟨fun h => hS (by rw [getD_set_ne true hil] at h; exact h), H⟩
    · have := ready_mono hj hji
      rw [H.1] at this
      cases this
  | succ fuel ih =>
    intro listed a w hfree hr hy hS H
    refine ⟨fun h => (by rw [h] at hr; cases hr), fun j hj => ?_⟩
    by_cases hji : j = i
    · subst hji; exact hy.wpOp hi trivial ⟨fun h => hS (by rw [getD_set_ne true hil] at h; exact h), H⟩
    · have h1 := H.2 j (ready_mono hj hji)
      obtain ⟨hjun, oj, hoj, hall⟩ := mem_ready.1 hj
      have hnot : ∀ e ∈ oj.after, Region.binds md e = true → e.on ≠ i := fun e he hb heq => by
        have h1 := hall e he hb
        have h0 := (mem_ready.1 hr).1
        rw [heq] at h1
        rcases Nat.lt_or_ge i listed.size with h' | h'
        · simp [h'] at h0 h1; rw [h0] at h1; cases h1
        · simp [Array.getElem?_eq_none h'] at h1
      have h2 := wpOp_putIf hoj (hfree j oj hoj hji hjun hnot) (fun cs b => hsel i oi cs b hi) (fun cs b => hsel j oj cs b hoj) hQ hy h1
      have hfree' : ∀ k ok, ops[k]? = some ok → k ≠ i → (listed.setIfInBounds j true).getD k true = false →
          (∀ e ∈ ok.after, Region.binds md e = true → e.on ≠ i) → oi.apart ops ok = true := fun k ok hk hki hun hno => by
        refine hfree k ok hk hki ?_ hno
        by_cases hjk : j = k
        · subst hjk; exact hjun
        · rw [getD_set_ne true hjk] at hun; exact hun
      have hs2 : ∀ w', ((((listed.setIfInBounds i true).setIfInBounds j true).getD last true = false) → S w') → ((listed.setIfInBounds j true).getD last true = false → S w') := fun w' h hp => h (by
        rw [Array.setIfInBounds_comm _ _ (Ne.symm hji), getD_set_ne true hil]; exact hp)
      refine wpOp_mono (fun a' w' h3 => ⟨hs2 w' h3.2.1, ih (listed.setIfInBounds j true) a' w' hfree' (ready_mono hr (Ne.symm hji)) h3.1 (hs2 w' h3.2.1) ?_⟩) h2
      rw [Array.setIfInBounds_comm _ _ hji]
      exact h3.2.2
/-- Take number i first: it reads what S says, and 'last' waits for it. -/
theorem wpAnyL_takeS {i : Nat} {oi : Oper} {v : Value} {fuel : Nat} {listed : Array Bool} {a : Act} {w : World} (hi : ops[i]? = some oi)
    (hs : Region.noSelect ops = true) (hf : Region.free md ops listed i = true) (hr : (Region.ready md ops listed).contains i = true) (hb : lastB md ops last i = true) (hl : (decide (i ≠ last) && !listed.getD last true) = true)
    (hQ : ∀ c a w, Q (.panic c) (a.put oi.dst v) w → Q (.panic c) a w) (hy : YieldsIf P ops S oi v a) (hS : S w)
    (h : wpAnyL P md ops Q S last fuel (listed.setIfInBounds i true) (a.put oi.dst v) w) : wpAnyL P md ops Q S last (fuel + 1) listed a w := by
  simp only [Bool.and_eq_true, decide_eq_true_eq, Bool.not_eq_true'] at hl
  exact wpAnyL_firstS hi (Region.noSelect_spec hs) hQ hl.1 (lastB_spec hb) fuel listed a w (Region.free_spec hi hf) (by simpa using hr) hy hS hl.2 h
/-- Take number i first: it yields its value in whatever world. -/
theorem wpAnyL_takeW {i : Nat} {oi : Oper} {v : Value} {fuel : Nat} {listed : Array Bool} {a : Act} {w : World} (hi : ops[i]? = some oi)
    (hs : Region.noSelect ops = true) (hf : Region.free md ops listed i = true) (hr : (Region.ready md ops listed).contains i = true) (hl : decide (i ≠ last) = true)
    (hQ : ∀ c a w, Q (.panic c) (a.put oi.dst v) w → Q (.panic c) a w) (hy : YieldsIf P ops (fun _ => True) oi v a) (hS : S w ∨ listed.getD last true = true)
    (h : wpAnyL P md ops Q S last fuel (listed.setIfInBounds i true) (a.put oi.dst v) w) : wpAnyL P md ops Q S last (fuel + 1) listed a w :=
  wpAnyL_firstW hi (Region.noSelect_spec hs) hQ (by simpa using hl) fuel listed a w (Region.free_spec hi hf) (by simpa using hr) hy (fun hp => hS.elim id (fun e => by rw [e] at hp; cases hp)) h
/-- Whether a waits for i, by whatever way. -/
def waitB (md : Region.Mode) (ops : Array Oper) (i : Nat) : Nat → Nat → Bool
  | 0, _ => false
  | n + 1, a => ((ops[a]?).map fun o => o.after.any fun e => Region.binds md e && (e.on == i || waitB md ops i n e.on)).getD false
/-- What has come up has all that it waits for. -/
def closedB (md : Region.Mode) (ops : Array Oper) (listed : Array Bool) : Bool := (List.range ops.size).all fun j => !listed.getD j false || ((ops[j]?).map fun o => o.after.all fun e => !Region.binds md e || listed.getD e.on false).getD true
def Closed (md : Region.Mode) (ops : Array Oper) (listed : Array Bool) : Prop := ∀ j o, ops[j]? = some o → listed.getD j false = true → ∀ e ∈ o.after, Region.binds md e = true → listed.getD e.on false = true
theorem closed_of {listed : Array Bool} (h : closedB md ops listed = true) : Closed md ops listed := by
  intro j o ho hj e he hb
  unfold closedB at h
  rw [List.all_eq_true] at h
  have q := h j (List.mem_range.2 (Array.getElem?_eq_some_iff.1 ho).1)
  rw [hj, ho] at q
  simp only [Bool.not_true, Bool.false_or, Option.map_some, Option.getD_some] at q
  have r := Array.all_eq_true_iff_forall_mem.1 q e he
  rw [hb] at r
  simpa using r
theorem wait_listed {listed : Array Bool} (hc : Closed md ops listed) {i : Nat} : ∀ (n a : Nat) (o : Oper), waitB md ops i n a = true → ops[a]? = some o → (∀ e ∈ o.after, Region.binds md e = true → listed.getD e.on false = true) → listed.getD i false = true
  | 0, _, _, h, _, _ => by simp [waitB] at h
  | n + 1, a, o, h, ho, hd => by
    unfold waitB at h
    rw [ho] at h
    simp only [Option.map_some, Option.getD_some] at h
    obtain ⟨e, he, hb⟩ := Array.any_eq_true'.1 h
    simp only [Bool.and_eq_true, Bool.or_eq_true, beq_iff_eq] at hb
    have l := hd e he hb.1
    rcases hb.2 with h1 | h1
    · rw [← h1]; exact l
    · cases ho2 : ops[e.on]? with
      | none => cases n <;> simp [waitB, ho2] at h1
      | some o2 => exact wait_listed hc n e.on o2 h1 ho2 (hc e.on o2 ho2 l)
theorem Closed.step {listed : Array Bool} (h : Closed md ops listed) {j : Nat} (hj : j ∈ Region.ready md ops listed) : Closed md ops (listed.setIfInBounds j true) := by
  intro k o ho hk e he hb
  obtain ⟨hjun, oj, hoj, hall⟩ := mem_ready.1 hj
  have key : listed.getD e.on false = true := by
    by_cases hkj : k = j
    · subst hkj
      rw [hoj] at ho
      cases ho
      exact hall e he hb
    · refine h k o ho ?_ e he hb
      simp only [Array.getD_eq_getD_getElem?] at hk ⊢
      rw [Array.getElem?_setIfInBounds_ne (fun c => hkj c.symm)] at hk
      exact hk
  by_cases hej : e.on = j
  · rw [hej]
    have hlt : j < listed.size := by
      rcases Nat.lt_or_ge j listed.size with h' | h'
      · exact h'
      · rw [← hej] at h'
        simp [Array.getElem?_eq_none h'] at key
    simp [hlt]
  · simp only [Array.getD_eq_getD_getElem?] at key ⊢
    rw [Array.getElem?_setIfInBounds_ne (fun c => hej c.symm)]
    exact key
theorem wpAnyL_firstT {i : Nat} {oi : Oper} {v : Value} (hi : ops[i]? = some oi) (hsel : ∀ (j : Nat) (o : Oper) cs b, ops[j]? = some o → o.op ≠ .select cs b)
    (hQ : ∀ c a w, Q (.panic c) (a.put oi.dst v) w → Q (.panic c) a w) (hil : i ≠ last) (n : Nat) (hl : waitB md ops i n last = true) :
    ∀ (fuel : Nat) (listed : Array Bool) (a : Act) (w : World),
      (∀ j oj, ops[j]? = some oj → j ≠ i → listed.getD j true = false → (∀ e ∈ oj.after, Region.binds md e = true → e.on ≠ i) → oi.apart ops oj = true) →
      i ∈ Region.ready md ops listed → YieldsIf P ops S oi v a → S w → listed.getD last true = false → Closed md ops listed →
      wpAnyL P md ops Q S last fuel (listed.setIfInBounds i true) (a.put oi.dst v) w → wpAnyL P md ops Q S last (fuel + 1) listed a w := by
  intro fuel
  induction fuel with
  | zero =>
    intro listed a w _ hr hy hS hp hcl H
    refine ⟨fun h => (by rw [h] at hr; cases hr), fun j hj => ?_⟩
    by_cases hji : j = i
    · subst hji; exact hy.wpOp hi hS ⟨fun _ => hS, H⟩
    · have := ready_mono hj hji
      rw [H.1] at this
      cases this
  | succ fuel ih =>
    intro listed a w hfree hr hy hS hp hcl H
    refine ⟨fun h => (by rw [h] at hr; cases hr), fun j hj => ?_⟩
    by_cases hji : j = i
    · subst hji; exact hy.wpOp hi hS ⟨fun _ => hS, H⟩
    · have h1 := H.2 j (ready_mono hj hji)
      obtain ⟨hjun, oj, hoj, hall⟩ := mem_ready.1 hj
      have hiu : listed.getD i false ≠ true := fun c => by
        have h0 := (mem_ready.1 hr).1
        rcases Nat.lt_or_ge i listed.size with h' | h'
        · simp [h'] at h0 c; rw [h0] at c; cases c
        · simp [Array.getElem?_eq_none h'] at c
      have hnot : ∀ e ∈ oj.after, Region.binds md e = true → e.on ≠ i := fun e he hb heq => hiu (by rw [← heq]; exact hall e he hb)
      have hjl : j ≠ last := fun e => by
        subst e
        exact hiu (wait_listed hcl n j oj hl hoj hall)
      have h2 := wpOp_putIf hoj (hfree j oj hoj hji hjun hnot) (fun cs b => hsel i oi cs b hi) (fun cs b => hsel j oj cs b hoj) hQ hy h1
      have hfree' : ∀ k ok, ops[k]? = some ok → k ≠ i → (listed.setIfInBounds j true).getD k true = false →
          (∀ e ∈ ok.after, Region.binds md e = true → e.on ≠ i) → oi.apart ops ok = true := fun k ok hk hki hun hno => by
        refine hfree k ok hk hki ?_ hno
        by_cases hjk : j = k
        · subst hjk; exact hjun
        · rw [getD_set_ne true hjk] at hun; exact hun
      have hp' : (listed.setIfInBounds j true).getD last true = false := by rw [getD_set_ne true hjl]; exact hp
      have hp2 : ((listed.setIfInBounds i true).setIfInBounds j true).getD last true = false := by rw [getD_set_ne true hjl, getD_set_ne true hil]; exact hp
      refine wpOp_mono (fun a' w' h3 => ⟨fun _ => h3.2.1 hp2, ih (listed.setIfInBounds j true) a' w' hfree' (ready_mono hr (Ne.symm hji)) h3.1 (h3.2.1 hp2) hp' (hcl.step hj) ?_⟩) h2
      rw [Array.setIfInBounds_comm _ _ hji]
      exact h3.2.2
/-- Take number i first: it reads what S says, and 'last' waits for it by whatever way. (One closed fact for all that is to be reckoned.) -/
def chkT (md : Region.Mode) (ops : Array Oper) (last i : Nat) (listed : Array Bool) : Bool := Region.noSelect ops && (Region.free md ops listed i && ((Region.ready md ops listed).contains i && (waitB md ops i ops.size last && (decide (i ≠ last) && (!listed.getD last true && closedB md ops listed)))))
theorem tkT {i : Nat} {oi : Oper} {v : Value} {fuel : Nat} {listed : Array Bool} {a : Act} {w : World} (hi : ops[i]? = some oi) (hc : chkT md ops last i listed = true)
    (hQ : ∀ c a w, Q (.panic c) (a.put oi.dst v) w → Q (.panic c) a w) (hy : YieldsIf P ops S oi v a) (hS : S w)
    (h : wpAnyL P md ops Q S last fuel (listed.setIfInBounds i true) (a.put oi.dst v) w) : wpAnyL P md ops Q S last (fuel + 1) listed a w := by
  unfold chkT at hc
  simp only [Bool.and_eq_true, decide_eq_true_eq, Bool.not_eq_true'] at hc
  obtain ⟨hs, hf, hr, hb, hl, hp, hcl⟩ := hc
  exact wpAnyL_firstT hi (Region.noSelect_spec hs) hQ hl ops.size hb fuel listed a w (Region.free_spec hi hf) (by simpa using hr) hy hS hp (closed_of hcl) h
def chkW (md : Region.Mode) (ops : Array Oper) (last i : Nat) (listed : Array Bool) : Bool := Region.noSelect ops && (Region.free md ops listed i && ((Region.ready md ops listed).contains i && decide (i ≠ last)))
theorem tkW {i : Nat} {oi : Oper} {v : Value} {fuel : Nat} {listed : Array Bool} {a : Act} {w : World} (hi : ops[i]? = some oi) (hc : chkW md ops last i listed = true)
    (hQ : ∀ c a w, Q (.panic c) (a.put oi.dst v) w → Q (.panic c) a w) (hy : YieldsIf P ops (fun _ => True) oi v a) (hS : S w ∨ listed.getD last true = true)
    (h : wpAnyL P md ops Q S last fuel (listed.setIfInBounds i true) (a.put oi.dst v) w) : wpAnyL P md ops Q S last (fuel + 1) listed a w := by
  unfold chkW at hc
  simp only [Bool.and_eq_true, decide_eq_true_eq] at hc
  exact wpAnyL_takeW hi hc.1 hc.2.1 hc.2.2.1 (by simpa using hc.2.2.2) hQ hy hS h
/-- One operation alone may come up. -/
theorem wpAnyL_one {i : Nat} {o : Oper} {fuel : Nat} {listed : Array Bool} {a : Act} {w : World} (hr : Region.ready md ops listed = [i]) (ho : ops[i]? = some o)
    (h : ∀ K' : Act → World → Prop, Shut (∀ a w, ((listed.setIfInBounds i true).getD last true = false → S w) → wpAnyL P md ops Q S last fuel (listed.setIfInBounds i true) a w → K' a w) → if Region.wanted o (yielded ops a.tmps) = true then Oper.wp P o a w K' Q else K' (a.put o.dst undef) w) :
    wpAnyL P md ops Q S last (fuel + 1) listed a w := by
  refine ⟨fun h0 => (by rw [hr] at h0; cases h0), fun j hj => ?_⟩
  rw [hr] at hj
  obtain rfl : j = i := by simpa using hj
  exact wpOp_step ho (fun K' hK => h K' (fun a w hS hW => hK a w ⟨hS, hW⟩))
theorem wpAnyL_done {listed : Array Bool} {a : Act} {w : World} (hr : Region.ready md ops listed = []) (h : Q .normal a w) : ∀ fuel, wpAnyL P md ops Q S last fuel listed a w
  | 0 => ⟨hr, h⟩
  | _ + 1 => ⟨fun _ => h, by rw [hr]; simp⟩
theorem wp_region_last {id : Nat} {a : Act} {w : World} (S : World → Prop) (last : Nat) (hm : P.follows .mixedOrders = true) (h : wpAnyL P .any ops Q S last ops.size (Array.replicate ops.size false) a w.drew) : (Code.region id ops true).wp P Q a w :=
  wp_region_any hm (wpAny_of_last _ _ _ _ h)
end
end Go.Proofs.YtkolflcjkofleaaDoor

namespace Go.Proofs.YtkolflcjkofleaaDoor
open Go.ChangeShapes Go.WideShapes Go.ChangeAt Go.RowKit
set_option linter.unusedVariables false
set_option maxRecDepth 8000
set_option linter.unusedSimpArgs false

theorem grownBy_cell {W : World} {g i : Nat} (v : Value) : W.grownBy (W.setCell ⟨g, i, none⟩ v) (some g) := ⟨rfl, rfl, rfl, by simp [World.setCell], fun k _ hk => heap_setCell_other W ⟨g, i, none⟩ k v (fun e => hk (by rw [show k = g from e]))⟩
theorem below_none {w w' : World} (h : w.grownBy w' none) : Below w.heap.size w w' := (Below.refl _ _).grown h (Nat.le_refl _) (fun k e => by cases e)
theorem exL_one (x : Ex) (c : Option Addr) (cp : Nat) : ∀ u ∈ exL x c cp, u.oneCell' = true := by
  intro u hu
  simp only [exL, List.mem_cons, List.not_mem_nil, or_false] at hu
  rcases hu with rfl | rfl | rfl | rfl <;> rfl
set_option maxHeartbeats 8000000 in
theorem xo_neg (t : TypeId) (x : Value) (e : Ex) (h1 : ∀ w, Calls Tryd.prog 47 #[.iface t x] w (XoR e w)) (w : World) : Calls Tryd.prog 47 #[.iface 104 (.agg #[.iface t x])] w (XoR ⟨4, 0, E0, [e]⟩ w) := by
  obtain ⟨i0, hi, hz0, hz1, hz2⟩ := info_parts infoX
  have KD := hide (fun w => kind_neg 0 E0 t 0 x .nilIface w)
  have t0 := taN_num 104 (.agg #[.iface t x]) (by decide)
  have t1 := taN_sect 104 (.agg #[.iface t x]) (by decide)
  have t2 := taN_sym 104 (.agg #[.iface t x]) (by decide)
  have t3 := taN_glob 104 (.agg #[.iface t x]) (by decide)
  have m := me_neg (.iface t x)
  have X0 := hide (Xb.new2 (n := 0) (s := ⟨#[]⟩) (v := .slice none 0 0) w 4)
  have H1 := hide h1
  unfold XoR at H1
  generalize hX : XoR ⟨4, 0, E0, [e]⟩ w = X
  have HX := hide hX
  clear hX h1
  go_enter Tryd.func47, Tryd.ntmps47
  go_wp2_with (first | (go_at_call 71; refine (unhide KD _).mono ?_; rintro r w' ⟨rfl, hw'⟩; rw [hw']; clear hw' w'))
  generalize (w.alloc (.cells #[.int .i64 0, .int .i64 0, .string ⟨#[]⟩, .slice none 0 0] 26)).alloc (.cells #[.int .i64 4, .int .i64 0, .string ⟨#[]⟩, .slice none 0 0] 26) = W at *
  refine (parts1 t x W).mono ?_
  rintro r w1 ⟨gp, rfl, hgp, hb1⟩
  have X1 := hide ((unhide X0).later hb1)
  have G1 := hide hgp
  have c0 := Lib.cell_of_heap hgp 0
  clear hb1 X0 hgp t0 t1 t2 t3 m KD
  go_wp2
  refine wp_loop_rounds 2 ?_
  rw [rounds_succ]
  go_wp2_with fail
  clear c0
  have XD0 := hide ((unhide X1).later (below_drew (w := w1)))
  have GD0 := hide (row_keep (unhide G1) (below_drew (w := w1)))
  have SD0 : w1.drew.cell? ⟨w.heap.size + 1, 3, none⟩ = some (.slice none 0 0) := Lib.cell_of_heap (unhide XD0).box 3
  have HSD0 := hide SD0
  clear X1 G1 SD0
  refine wp_region_last (fun v => v.cell? ⟨w.heap.size + 1, 3, none⟩ = some (.slice none 0 0)) 7 (by kernel_rfl) ?_
  generalize w1.drew = v0 at *
  refine wpAnyL_takeW (i := 0) (v := .pointer (some ⟨w.heap.size + 1, 3, none⟩)) rfl (by kernel_rfl) (by kernel_rfl) (by kernel_rfl) (by kernel_rfl) (fun _ _ _ h => h) (Or.inl ⟨by rfl, fun w hc => ?_⟩) (.inl (unhide HSD0)) ?_
  · clear hc; go_simp
  go_simp
  refine wpAnyL_takeS (i := 1) (v := .slice none 0 0) rfl (by kernel_rfl) (by kernel_rfl) (by kernel_rfl) (by kernel_rfl) (by kernel_rfl) (fun _ _ _ h => h) (Or.inl ⟨by rfl, fun w hc => ?_⟩) (unhide HSD0) ?_
  · go_simp
  go_simp
  refine wpAnyL_takeW (i := 2) (v := .iface t x) rfl (by kernel_rfl) (by kernel_rfl) (by kernel_rfl) (by kernel_rfl) (fun _ _ _ h => h) (Or.inl ⟨by rfl, fun w hc => ?_⟩) (.inl (unhide HSD0)) ?_
  · clear hc; go_simp
  go_simp
  refine wpAnyL_one (i := 3) (by kernel_rfl) rfl (fun K2 hK => ?_)
  go_simp
  refine (unhide H1 v0).mono ?_
  rintro r wa0 ⟨c0, cp0, rfl, hn0, hb0⟩
  unfold Ex.cs
  have XA0 := hide ((unhide XD0).later hb0)
  have GA0 := hide (row_keep (unhide GD0) hb0)
  have NA0 := hide hn0.half
  have hl0 := (unhide XD0).lt
  have hs0 := hb0.size
  have SA0 := hide (show wa0.cell? ⟨w.heap.size + 1, 3, none⟩ = some (.slice none 0 0) from Lib.cell_of_heap (unhide XA0).box 3)
  refine hK.out _ _ (fun _ => unhide SA0) ?_
  clear hK K2
  clear hn0 hb0 XD0 GD0 HSD0
  refine wpAnyL_one (i := 4) (by kernel_rfl) rfl (fun K2 hK => ?_)
  go_simp
  have hb0 := below_new wa0 (.cells #[.int .i64 e.k, .int .i64 e.n, .string e.s, .slice c0 e.l.length cp0] 26)
  have XB0 := hide ((unhide XA0).later hb0)
  have GB0 := hide (row_keep (unhide GA0) hb0)
  have NB0 := hide ((unhide NA0).later hb0)
  have CN0 := hide (cell_newF wa0 #[.int .i64 e.k, .int .i64 e.n, .string e.s, .slice c0 e.l.length cp0] 26)
  have SB0 := hide (show (wa0.alloc (.cells #[.int .i64 e.k, .int .i64 e.n, .string e.s, .slice c0 e.l.length cp0] 26)).cell? ⟨w.heap.size + 1, 3, none⟩ = some (.slice none 0 0) from Lib.cell_of_heap (unhide XB0).box 3)
  have hz0 : (wa0.alloc (.cells #[.int .i64 e.k, .int .i64 e.n, .string e.s, .slice c0 e.l.length cp0] 26)).heap.size = wa0.heap.size + 1 := by simp
  have HZ0 := hide hz0
  refine hK.out _ _ (fun _ => unhide SB0) ?_
  clear hK K2
  clear hb0 hz0 XA0 GA0 NA0 SA0
  generalize hM0 : wa0.heap.size = M0 at *
  have HM0 := hide hM0
  clear hM0
  generalize wa0.alloc (.cells #[.int .i64 e.k, .int .i64 e.n, .string e.s, .slice c0 e.l.length cp0] 26) = wb0 at *
  refine wpAnyL_one (i := 5) (by kernel_rfl) rfl (fun K2 hK => ?_)
  rw [if_pos (by rfl)]
  refine wp_append_to (.tmp 48) (.tmp 51) 24 rfl M0 26 i0 (.agg #[.int .i64 0, .int .i64 0, .string ⟨#[]⟩, .slice none 0 0]) 4 56 Tryd.underlying24 hi hz0 hz1 hz2 rfl (by decide) (.slice none 0 0) 0 ([]) rfl (World.ownsRow_nil _ _ _ _) ⟨M0, 0, none⟩ 1 1 (exL e c0 cp0) rfl rfl (unhide CN0) (exL_one _ _ _) (by unfold maxLen; omega) (by omega) (by have := unhide HZ0; omega) (by omega) ?_
  intro g0 cap0 wc0 hown0 hgrow0 hwh0
  have hbc := below_none hgrow0
  have XC := hide ((unhide XB0).later hbc)
  have NC := hide ((unhide NB0).later hbc)
  have OC := hide (show wc0.ownsRow M0 26 4 (.slice (some ⟨g0, 0, none⟩) 1 cap0) 1 (exL e c0 cp0) from hown0)
  have hgM : M0 ≤ g0 := (World.ownsRow.lt hown0 g0 rfl).1
  have SC := hide (show wc0.cell? ⟨w.heap.size + 1, 3, none⟩ = some (.slice none 0 0) from Lib.cell_of_heap (unhide XC).box 3)
  have fz : wc0.frozen? ⟨w.heap.size + 1, 3, none⟩ = false := by simp [World.frozen?, (unhide XC).box]
  have c3 := Lib.cell_of_heap (unhide XC).box 3
  refine hK.out _ _ (fun _ => unhide SC) ?_
  clear hK K2
  clear hbc hown0 hgrow0 hwh0 XB0 GB0 NB0 SB0 CN0
  refine wpAnyL_takeW (i := 6) (v := .pointer (some ⟨w.heap.size + 1, 3, none⟩)) rfl (by kernel_rfl) (by kernel_rfl) (by kernel_rfl) (by kernel_rfl) (fun _ _ _ h => h) (Or.inl ⟨by rfl, fun w hc => ?_⟩) (.inl (unhide SC)) ?_
  · clear hc; go_simp
  go_simp
  refine wpAnyL_one (i := 7) (by kernel_rfl) rfl (fun K2 hK => ?_)
  go_simp
  refine hK.out _ _ (fun h => absurd h (by decide)) ?_
  clear hK K2
  refine wpAnyL_done (by kernel_rfl) ?_ _
  have XE := hide ((unhide XC).set3 (.slice (some ⟨g0, 0, none⟩) 1 cap0))
  have hgc := grownBy_cell (W := wc0) (g := w.heap.size + 1) (i := 3) (.slice (some ⟨g0, 0, none⟩) 1 cap0)
  have NE := (unhide NC).drawn hgc (by omega)
  have OE := World.ownsRow.kept (unhide OC) hgc (.inr (by simp [Value.ownBlock]; omega))
  have NW := hide ((NE.row1 OE hs0 4 0 E0).lower (show w.heap.size + 1 ≤ v0.heap.size by omega))
  clear hgc NE OE XC NC OC SC fz c3 HZ0 HM0
  generalize wc0.setCell ⟨w.heap.size + 1, 3, none⟩ (.slice (some ⟨g0, 0, none⟩) 1 cap0) = we0 at *
  go_wp2
  rw [rounds_succ]
  go_wp2_with (first | (refine wpList_load_row rfl 26 _ rfl (w.heap.size + 1) rfl 26 #[.int .i64 4, .int .i64 0, .string ⟨#[]⟩, .slice (some ⟨g0, 0, none⟩) 1 cap0] (0, 0) _ (unhide XE).box Tryd.underlying26 rfl (by kernel_rfl) ?_) | (refine wpList_store_row rfl 26 _ _ rfl w.heap.size #[.int .i64 4, .int .i64 0, .string ⟨#[]⟩, .slice (some ⟨g0, 0, none⟩) 1 cap0] rfl rfl 26 _ (unhide XE).res szE rfl (ex_one _ _ _ _ _ _) ?_))
  refine bodyPost_ret (results_cell_row (P := Tryd.prog) rfl _ _ w.heap.size 26 #[.int .i64 4, .int .i64 0, .string ⟨#[]⟩, .slice (some ⟨g0, 0, none⟩) 1 cap0] (0, 0) _ rfl (setRow_heap _ _ _ _ _ _ (unhide XE).res) Tryd.underlying26 rfl szE) rfl ?_
  rw [← unhide HX]
  exact Xb.end (l := [e]) (unhide XE) (unhide NW) _
set_option maxHeartbeats 16000000 in
theorem xo_two (T : TypeId) (k : Int) (t u : TypeId) (x y : Value) (e f : Ex) (n0 : T ≠ 88) (n1 : T ≠ 115) (n2 : T ≠ 117) (n3 : T ≠ 118) (m : ∀ w, (method 271 T (.agg #[.iface t x, .iface u y]) "loop.example/g00329/impl.parts").run Tryd.prog w = .ok (123, .agg #[.iface t x, .iface u y]) w) (kd : ∀ w, Calls Tryd.prog 71 #[.iface T (.agg #[.iface t x, .iface u y])] w fun r w' => r = .returned (.int .i64 k) ∧ w' = w) (h1 : ∀ w, Calls Tryd.prog 47 #[.iface t x] w (XoR e w)) (h2 : ∀ w, Calls Tryd.prog 47 #[.iface u y] w (XoR f w)) (w : World) : Calls Tryd.prog 47 #[.iface T (.agg #[.iface t x, .iface u y])] w (XoR ⟨k, 0, E0, [e, f]⟩ w) := by
  obtain ⟨i0, hi, hz0, hz1, hz2⟩ := info_parts infoX
  have KD := hide kd
  have t0 := taN_num T (.agg #[.iface t x, .iface u y]) n0
  have t1 := taN_sect T (.agg #[.iface t x, .iface u y]) n1
  have t2 := taN_sym T (.agg #[.iface t x, .iface u y]) n2
  have t3 := taN_glob T (.agg #[.iface t x, .iface u y]) n3
  have X0 := hide (Xb.new2 (n := 0) (s := ⟨#[]⟩) (v := .slice none 0 0) w k)
  have H1 := hide h1
  have H2 := hide h2
  unfold XoR at H1 H2
  generalize hX : XoR ⟨k, 0, E0, [e, f]⟩ w = X
  have HX := hide hX
  clear hX h1 h2 kd n0 n1 n2 n3
  go_enter Tryd.func47, Tryd.ntmps47
  go_wp2_with (first | (go_at_call 71; refine (unhide KD _).mono ?_; rintro r w' ⟨rfl, hw'⟩; rw [hw']; clear hw' w'))
  generalize (w.alloc (.cells #[.int .i64 0, .int .i64 0, .string ⟨#[]⟩, .slice none 0 0] 26)).alloc (.cells #[.int .i64 k, .int .i64 0, .string ⟨#[]⟩, .slice none 0 0] 26) = W at *
  refine (parts2 t u x y W).mono ?_
  rintro r w1 ⟨gp, rfl, hgp, hb1⟩
  have X1 := hide ((unhide X0).later hb1)
  have G1 := hide hgp
  have c0 := Lib.cell_of_heap hgp 0
  have hgn : gp ≠ w.heap.size + 1 := fun e => by have h := (unhide X1).box; rw [← e, hgp] at h; cases h
  clear hb1 X0 hgp t0 t1 t2 t3 m KD
  go_wp2
  refine wp_loop_rounds 3 ?_
  rw [rounds_succ]
  go_wp2_with fail
  clear c0
  have XD0 := hide ((unhide X1).later (below_drew (w := w1)))
  have GD0 := hide (row_keep (unhide G1) (below_drew (w := w1)))
  have SD0 : w1.drew.cell? ⟨w.heap.size + 1, 3, none⟩ = some (.slice none 0 0) := Lib.cell_of_heap (unhide XD0).box 3
  have HSD0 := hide SD0
  clear X1 G1 SD0
  refine wp_region_last (fun v => v.cell? ⟨w.heap.size + 1, 3, none⟩ = some (.slice none 0 0)) 7 (by kernel_rfl) ?_
  generalize w1.drew = v0 at *
  refine wpAnyL_takeW (i := 0) (v := .pointer (some ⟨w.heap.size + 1, 3, none⟩)) rfl (by kernel_rfl) (by kernel_rfl) (by kernel_rfl) (by kernel_rfl) (fun _ _ _ h => h) (Or.inl ⟨by rfl, fun w hc => ?_⟩) (.inl (unhide HSD0)) ?_
  · clear hc; go_simp
  go_simp
  refine wpAnyL_takeS (i := 1) (v := .slice none 0 0) rfl (by kernel_rfl) (by kernel_rfl) (by kernel_rfl) (by kernel_rfl) (by kernel_rfl) (fun _ _ _ h => h) (Or.inl ⟨by rfl, fun w hc => ?_⟩) (unhide HSD0) ?_
  · go_simp
  go_simp
  refine wpAnyL_takeW (i := 2) (v := .iface t x) rfl (by kernel_rfl) (by kernel_rfl) (by kernel_rfl) (by kernel_rfl) (fun _ _ _ h => h) (Or.inl ⟨by rfl, fun w hc => ?_⟩) (.inl (unhide HSD0)) ?_
  · clear hc; go_simp
  go_simp
  refine wpAnyL_one (i := 3) (by kernel_rfl) rfl (fun K2 hK => ?_)
  go_simp
  refine (unhide H1 v0).mono ?_
  rintro r wa0 ⟨c0, cp0, rfl, hn0, hb0⟩
  unfold Ex.cs
  have XA0 := hide ((unhide XD0).later hb0)
  have GA0 := hide (row_keep (unhide GD0) hb0)
  have NA0 := hide hn0.half
  have hl0 := (unhide XD0).lt
  have hs0 := hb0.size
  have SA0 := hide (show wa0.cell? ⟨w.heap.size + 1, 3, none⟩ = some (.slice none 0 0) from Lib.cell_of_heap (unhide XA0).box 3)
  refine hK.out _ _ (fun _ => unhide SA0) ?_
  clear hK K2
  clear hn0 hb0 XD0 GD0 HSD0
  refine wpAnyL_one (i := 4) (by kernel_rfl) rfl (fun K2 hK => ?_)
  go_simp
  have hb0 := below_new wa0 (.cells #[.int .i64 e.k, .int .i64 e.n, .string e.s, .slice c0 e.l.length cp0] 26)
  have XB0 := hide ((unhide XA0).later hb0)
  have GB0 := hide (row_keep (unhide GA0) hb0)
  have NB0 := hide ((unhide NA0).later hb0)
  have CN0 := hide (cell_newF wa0 #[.int .i64 e.k, .int .i64 e.n, .string e.s, .slice c0 e.l.length cp0] 26)
  have SB0 := hide (show (wa0.alloc (.cells #[.int .i64 e.k, .int .i64 e.n, .string e.s, .slice c0 e.l.length cp0] 26)).cell? ⟨w.heap.size + 1, 3, none⟩ = some (.slice none 0 0) from Lib.cell_of_heap (unhide XB0).box 3)
  have hz0 : (wa0.alloc (.cells #[.int .i64 e.k, .int .i64 e.n, .string e.s, .slice c0 e.l.length cp0] 26)).heap.size = wa0.heap.size + 1 := by simp
  have HZ0 := hide hz0
  refine hK.out _ _ (fun _ => unhide SB0) ?_
  clear hK K2
  clear hb0 hz0 XA0 GA0 NA0 SA0
  generalize hM0 : wa0.heap.size = M0 at *
  have HM0 := hide hM0
  clear hM0
  generalize wa0.alloc (.cells #[.int .i64 e.k, .int .i64 e.n, .string e.s, .slice c0 e.l.length cp0] 26) = wb0 at *
  refine wpAnyL_one (i := 5) (by kernel_rfl) rfl (fun K2 hK => ?_)
  rw [if_pos (by rfl)]
  refine wp_append_to (.tmp 48) (.tmp 51) 24 rfl M0 26 i0 (.agg #[.int .i64 0, .int .i64 0, .string ⟨#[]⟩, .slice none 0 0]) 4 56 Tryd.underlying24 hi hz0 hz1 hz2 rfl (by decide) (.slice none 0 0) 0 ([]) rfl (World.ownsRow_nil _ _ _ _) ⟨M0, 0, none⟩ 1 1 (exL e c0 cp0) rfl rfl (unhide CN0) (exL_one _ _ _) (by unfold maxLen; omega) (by omega) (by have := unhide HZ0; omega) (by omega) ?_
  intro g0 cap0 wc0 hown0 hgrow0 hwh0
  have hbc := below_none hgrow0
  have XC := hide ((unhide XB0).later hbc)
  have GC := hide (row_keep (unhide GB0) hbc)
  have NC := hide ((unhide NB0).later hbc)
  have OC := hide (show wc0.ownsRow M0 26 4 (.slice (some ⟨g0, 0, none⟩) 1 cap0) 1 (exL e c0 cp0) from hown0)
  have hgM : M0 ≤ g0 := (World.ownsRow.lt hown0 g0 rfl).1
  have hgL : g0 < wc0.heap.size := (World.ownsRow.lt hown0 g0 rfl).2
  have SC := hide (show wc0.cell? ⟨w.heap.size + 1, 3, none⟩ = some (.slice none 0 0) from Lib.cell_of_heap (unhide XC).box 3)
  have fz : wc0.frozen? ⟨w.heap.size + 1, 3, none⟩ = false := by simp [World.frozen?, (unhide XC).box]
  have c3 := Lib.cell_of_heap (unhide XC).box 3
  refine hK.out _ _ (fun _ => unhide SC) ?_
  clear hK K2
  clear hbc hown0 hgrow0 hwh0 XB0 GB0 NB0 SB0 CN0
  refine wpAnyL_takeW (i := 6) (v := .pointer (some ⟨w.heap.size + 1, 3, none⟩)) rfl (by kernel_rfl) (by kernel_rfl) (by kernel_rfl) (by kernel_rfl) (fun _ _ _ h => h) (Or.inl ⟨by rfl, fun w hc => ?_⟩) (.inl (unhide SC)) ?_
  · clear hc; go_simp
  go_simp
  refine wpAnyL_one (i := 7) (by kernel_rfl) rfl (fun K2 hK => ?_)
  go_simp
  refine hK.out _ _ (fun h => absurd h (by decide)) ?_
  clear hK K2
  refine wpAnyL_done (by kernel_rfl) ?_ _
  have XE := hide ((unhide XC).set3 (.slice (some ⟨g0, 0, none⟩) 1 cap0))
  have hgc := grownBy_cell (W := wc0) (g := w.heap.size + 1) (i := 3) (.slice (some ⟨g0, 0, none⟩) 1 cap0)
  have RN0 := hide ((unhide NC).drawn hgc (by omega))
  have RO0 := hide (World.ownsRow.kept (unhide OC) hgc (.inr (by simp [Value.ownBlock]; omega)))
  have GE := hide ((hgc.block _ (Array.getElem?_eq_some_iff.1 (unhide GC)).1 (fun e => by simp at e; omega)).trans (unhide GC))
  have hgE : g0 < (wc0.setCell ⟨w.heap.size + 1, 3, none⟩ (.slice (some ⟨g0, 0, none⟩) 1 cap0)).heap.size := Nat.lt_of_lt_of_le hgL hgc.size
  have c1 := Lib.cell_of_heap (unhide GE) 1
  clear hgc XC NC OC GC SC fz c3 HZ0 HM0 hgL
  generalize wc0.setCell ⟨w.heap.size + 1, 3, none⟩ (.slice (some ⟨g0, 0, none⟩) 1 cap0) = we0 at *
  go_wp2
  rw [rounds_succ]
  go_wp2_with fail
  clear c1
  have hgD : g0 < we0.drew.heap.size := hgE
  have XD1 := hide ((unhide XE).later (below_drew (w := we0)))
  have GD1 := hide (row_keep (unhide GE) (below_drew (w := we0)))
  have RND := hide ((unhide RN0).later (below_drew (w := we0)))
  have ROD := hide (ownsRow_later (unhide RO0) (below_drew (w := we0)))
  have SD1 : we0.drew.cell? ⟨w.heap.size + 1, 3, none⟩ = some (.slice (some ⟨g0, 0, none⟩) 1 cap0) := Lib.cell_of_heap (unhide XD1).box 3
  have HSD1 := hide SD1
  clear XE GE SD1
  refine wp_region_last (fun v => v.cell? ⟨w.heap.size + 1, 3, none⟩ = some (.slice (some ⟨g0, 0, none⟩) 1 cap0)) 7 (by kernel_rfl) ?_
  generalize we0.drew = v1 at *
  refine wpAnyL_takeW (i := 0) (v := .pointer (some ⟨w.heap.size + 1, 3, none⟩)) rfl (by kernel_rfl) (by kernel_rfl) (by kernel_rfl) (by kernel_rfl) (fun _ _ _ h => h) (Or.inl ⟨by rfl, fun w hc => ?_⟩) (.inl (unhide HSD1)) ?_
  · clear hc; go_simp
  go_simp
  refine wpAnyL_takeS (i := 1) (v := .slice (some ⟨g0, 0, none⟩) 1 cap0) rfl (by kernel_rfl) (by kernel_rfl) (by kernel_rfl) (by kernel_rfl) (by kernel_rfl) (fun _ _ _ h => h) (Or.inl ⟨by rfl, fun w hc => ?_⟩) (unhide HSD1) ?_
  · go_simp
  go_simp
  refine wpAnyL_takeW (i := 2) (v := .iface u y) rfl (by kernel_rfl) (by kernel_rfl) (by kernel_rfl) (by kernel_rfl) (fun _ _ _ h => h) (Or.inl ⟨by rfl, fun w hc => ?_⟩) (.inl (unhide HSD1)) ?_
  · clear hc; go_simp
  go_simp
  refine wpAnyL_one (i := 3) (by kernel_rfl) rfl (fun K2 hK => ?_)
  go_simp
  refine (unhide H2 v1).mono ?_
  rintro r wa1 ⟨c1, cp1, rfl, hn1, hb1⟩
  unfold Ex.cs
  have XA1 := hide ((unhide XD1).later hb1)
  have GA1 := hide (row_keep (unhide GD1) hb1)
  have RNA := hide ((unhide RND).later (hb1))
  have ROA := hide (ownsRow_later (unhide ROD) (hb1))
  have NA1 := hide hn1.half
  have hl1 := (unhide XD1).lt
  have hs1 := hb1.size
  have SA1 := hide (show wa1.cell? ⟨w.heap.size + 1, 3, none⟩ = some (.slice (some ⟨g0, 0, none⟩) 1 cap0) from Lib.cell_of_heap (unhide XA1).box 3)
  refine hK.out _ _ (fun _ => unhide SA1) ?_
  clear hK K2
  clear hn1 hb1 XD1 GD1 HSD1
  refine wpAnyL_one (i := 4) (by kernel_rfl) rfl (fun K2 hK => ?_)
  go_simp
  have hb1 := below_new wa1 (.cells #[.int .i64 f.k, .int .i64 f.n, .string f.s, .slice c1 f.l.length cp1] 26)
  have XB1 := hide ((unhide XA1).later hb1)
  have GB1 := hide (row_keep (unhide GA1) hb1)
  have RNB := hide ((unhide RNA).later (hb1))
  have ROB := hide (ownsRow_later (unhide ROA) (hb1))
  have NB1 := hide ((unhide NA1).later hb1)
  have CN1 := hide (cell_newF wa1 #[.int .i64 f.k, .int .i64 f.n, .string f.s, .slice c1 f.l.length cp1] 26)
  have SB1 := hide (show (wa1.alloc (.cells #[.int .i64 f.k, .int .i64 f.n, .string f.s, .slice c1 f.l.length cp1] 26)).cell? ⟨w.heap.size + 1, 3, none⟩ = some (.slice (some ⟨g0, 0, none⟩) 1 cap0) from Lib.cell_of_heap (unhide XB1).box 3)
  have hz1 : (wa1.alloc (.cells #[.int .i64 f.k, .int .i64 f.n, .string f.s, .slice c1 f.l.length cp1] 26)).heap.size = wa1.heap.size + 1 := by simp
  have HZ1 := hide hz1
  refine hK.out _ _ (fun _ => unhide SB1) ?_
  clear hK K2
  clear hb1 hz1 XA1 GA1 NA1 SA1
  generalize hM1 : wa1.heap.size = M1 at *
  have HM1 := hide hM1
  clear hM1
  generalize wa1.alloc (.cells #[.int .i64 f.k, .int .i64 f.n, .string f.s, .slice c1 f.l.length cp1] 26) = wb1 at *
  refine wpAnyL_one (i := 5) (by kernel_rfl) rfl (fun K2 hK => ?_)
  rw [if_pos (by rfl)]
  refine wp_append_to (.tmp 48) (.tmp 51) 24 rfl M0 26 i0 (.agg #[.int .i64 0, .int .i64 0, .string ⟨#[]⟩, .slice none 0 0]) 4 56 Tryd.underlying24 hi hz0 hz1 hz2 rfl (by decide) (.slice (some ⟨g0, 0, none⟩) 1 cap0) 1 (exL e c0 cp0) rfl (unhide ROB) ⟨M1, 0, none⟩ 1 1 (exL f c1 cp1) rfl rfl (unhide CN1) (exL_one _ _ _) (by unfold maxLen; omega) (by omega) (by have := unhide HZ1; omega) (by omega) ?_
  intro g1 cap1 wc1 hown1 hgrow1 hwh1
  have hgr : wb1.grownBy wc1 (some g0) := hgrow1
  have XC := hide ((unhide XB1).grown hgr (by omega))
  have NC := hide ((unhide NB1).drawn hgr hgD)
  have RC := hide ((unhide RNB).beyond hgr hgM)
  have OC := hide (show wc1.ownsRow M0 26 4 (.slice (some ⟨g1, 0, none⟩) 2 cap1) 2 (exL e c0 cp0 ++ exL f c1 cp1) from hown1)
  have hgw : g1 < v1.heap.size ∨ M1 ≤ g1 := by
    rcases hwh1 with h | h
    · left
      have : g0 = g1 := by simpa [Value.ownBlock] using h
      omega
    · right
      have := unhide HZ1
      omega
  have hgN : M0 ≤ g1 := (World.ownsRow.lt hown1 g1 rfl).1
  have SC := hide (show wc1.cell? ⟨w.heap.size + 1, 3, none⟩ = some (.slice (some ⟨g0, 0, none⟩) 1 cap0) from Lib.cell_of_heap (unhide XC).box 3)
  have fz : wc1.frozen? ⟨w.heap.size + 1, 3, none⟩ = false := by simp [World.frozen?, (unhide XC).box]
  have c3 := Lib.cell_of_heap (unhide XC).box 3
  refine hK.out _ _ (fun _ => unhide SC) ?_
  clear hK K2
  clear hgr hown1 hgrow1 hwh1 XB1 GB1 NB1 SB1 CN1 RNB ROB RNA ROA RND ROD RN0 RO0
  refine wpAnyL_takeW (i := 6) (v := .pointer (some ⟨w.heap.size + 1, 3, none⟩)) rfl (by kernel_rfl) (by kernel_rfl) (by kernel_rfl) (by kernel_rfl) (fun _ _ _ h => h) (Or.inl ⟨by rfl, fun w hc => ?_⟩) (.inl (unhide SC)) ?_
  · clear hc; go_simp
  go_simp
  refine wpAnyL_one (i := 7) (by kernel_rfl) rfl (fun K2 hK => ?_)
  go_simp
  refine hK.out _ _ (fun h => absurd h (by decide)) ?_
  clear hK K2
  refine wpAnyL_done (by kernel_rfl) ?_ _
  have XE := hide ((unhide XC).set3 (.slice (some ⟨g1, 0, none⟩) 2 cap1))
  have hgc := grownBy_cell (W := wc1) (g := w.heap.size + 1) (i := 3) (.slice (some ⟨g1, 0, none⟩) 2 cap1)
  have NE := (unhide NC).drawn hgc (by omega)
  have RE := (unhide RC).drawn hgc (by omega)
  have OE := World.ownsRow.kept (unhide OC) hgc (.inr (by simp [Value.ownBlock]; omega))
  have NW := hide ((RE.row2 NE OE hs0 (by omega) hgw k 0 E0).lower (show w.heap.size + 1 ≤ v0.heap.size by omega))
  clear hgc NE RE OE XC NC RC OC SC fz c3 HZ1 HM1
  generalize wc1.setCell ⟨w.heap.size + 1, 3, none⟩ (.slice (some ⟨g1, 0, none⟩) 2 cap1) = we1 at *
  go_wp2
  rw [rounds_succ]
  go_wp2_with (first | (refine wpList_load_row rfl 26 _ rfl (w.heap.size + 1) rfl 26 #[.int .i64 k, .int .i64 0, .string ⟨#[]⟩, .slice (some ⟨g1, 0, none⟩) 2 cap1] (0, 0) _ (unhide XE).box Tryd.underlying26 rfl (by kernel_rfl) ?_) | (refine wpList_store_row rfl 26 _ _ rfl w.heap.size #[.int .i64 k, .int .i64 0, .string ⟨#[]⟩, .slice (some ⟨g1, 0, none⟩) 2 cap1] rfl rfl 26 _ (unhide XE).res szE rfl (ex_one _ _ _ _ _ _) ?_))
  refine bodyPost_ret (results_cell_row (P := Tryd.prog) rfl _ _ w.heap.size 26 #[.int .i64 k, .int .i64 0, .string ⟨#[]⟩, .slice (some ⟨g1, 0, none⟩) 2 cap1] (0, 0) _ rfl (setRow_heap _ _ _ _ _ _ (unhide XE).res) Tryd.underlying26 rfl szE) rfl ?_
  rw [← unhide HX]
  exact Xb.end (l := [e, f]) (unhide XE) (unhide NW) _
theorem name_szG {s : ByteArray} (h : nameB s = true) : s.size ≤ 6 := by
  unfold nameB at h
  rw [Bool.and_eq_true] at h
  obtain ⟨c, r, _, _, _, hl⟩ := form_open h.1
  rw [← size_len]
  exact hl
def XoP (d : Nat) : Prop := ∀ (e : Ex) (w : World), okF d false e = true → Calls Tryd.prog 47 #[tv e] w (XoR e w)
theorem xo_all : ∀ d : Nat, XoP d := by
  intro d
  induction d with
  | zero => intro e w h; cases h
  | succ d ihd =>
    intro e w h
    rcases ok_cases h with ⟨n, hn, rfl⟩ | ⟨s, hs, rfl⟩ | rfl | ⟨a, ha, rfl⟩ | ⟨k, a, b, hk, ha, hb, rfl⟩ | ⟨n, hn, rfl⟩ | ⟨s, hs, rfl⟩
    · rw [tv_num]; exact xo_num n w
    · rw [tv_sym]
      refine xo_sym s ?_ w
      have := name_szG hs
      omega
    · rw [tv_here]; exact xo_here w
    · obtain ⟨t, x, e1⟩ := tv_if a
      have h1 := fun w => ihd a w ha
      rw [e1] at h1
      rw [tv_neg, e1]
      exact xo_neg t x a h1 w
    · obtain ⟨t, x, e1⟩ := tv_if a
      obtain ⟨u, y, e2⟩ := tv_if b
      have h1 := fun w => ihd a w ha
      have h2 := fun w => ihd b w hb
      rw [e1] at h1
      rw [e2] at h2
      rw [tv_two hk, e1, e2]
      have : k = 5 ∨ k = 6 ∨ k = 7 ∨ k = 8 ∨ k = 9 ∨ k = 10 := by omega
      rcases this with rfl | rfl | rfl | rfl | rfl | rfl
      · exact xo_two 134 5 t u x y a b (by decide) (by decide) (by decide) (by decide) (me_add (.iface t x) (.iface u y)) (fun w => kind_add 0 E0 t u x y w) h1 h2 w
      · exact xo_two 135 6 t u x y a b (by decide) (by decide) (by decide) (by decide) (me_sub (.iface t x) (.iface u y)) (fun w => kind_sub 0 E0 t u x y w) h1 h2 w
      · exact xo_two 136 7 t u x y a b (by decide) (by decide) (by decide) (by decide) (me_mul (.iface t x) (.iface u y)) (fun w => kind_mul 0 E0 t u x y w) h1 h2 w
      · exact xo_two 137 8 t u x y a b (by decide) (by decide) (by decide) (by decide) (me_div (.iface t x) (.iface u y)) (fun w => kind_div 0 E0 t u x y w) h1 h2 w
      · exact xo_two 138 9 t u x y a b (by decide) (by decide) (by decide) (by decide) (me_and (.iface t x) (.iface u y)) (fun w => kind_and 0 E0 t u x y w) h1 h2 w
      · exact xo_two 139 10 t u x y a b (by decide) (by decide) (by decide) (by decide) (me_or (.iface t x) (.iface u y)) (fun w => kind_or 0 E0 t u x y w) h1 h2 w
    · rw [tv_sect]; exact xo_sect n w
    · rw [tv_glob]
      refine xo_glob s ?_ w
      have := name_szG hs
      omega
end Go.Proofs.YtkolflcjkofleaaDoor

namespace Go.Proofs.YtkolflcjkofleaaDoor
open Go.ChangeShapes Go.WideShapes Go.ChangeAt Go.RowKit
set_option linter.unusedVariables false
set_option maxRecDepth 8000
set_option linter.unusedSimpArgs false

set_option maxHeartbeats 2000000 in
theorem ft_num (n : Int) (w : World) : Calls Tryd.prog 48 #[.iface 88 (.agg #[.int .i64 n])] w (VaR (.iface 88 (.agg #[.int .i64 n])) w) := by
  have FN := hide (fun r w' (h : r = .returned (.iface 88 (.agg #[.int .i64 n]))) (hb : Below w.heap.size w w') => (show VaR _ w r w' from ⟨h, hb⟩))
  generalize VaR (.iface 88 (.agg #[.int .i64 n])) w = R at *
  have m := me_num (.int .i64 n)
  have P0 := hide (parts0 w)
  go_enter Tryd.func48, Tryd.ntmps48
  go_wp2_with (go_at_call 121; refine (unhide P0).mono ?_; rintro r w1 ⟨rfl, hb⟩)
  (first | go_ret2 | go_ret | skip)
  exact unhide FN _ _ rfl hb
set_option maxHeartbeats 2000000 in
theorem ft_sym (s : ByteArray) (w : World) : Calls Tryd.prog 48 #[.iface 117 (.agg #[.string s])] w (VaR (.iface 117 (.agg #[.string s])) w) := by
  have FN := hide (fun r w' (h : r = .returned (.iface 117 (.agg #[.string s]))) (hb : Below w.heap.size w w') => (show VaR _ w r w' from ⟨h, hb⟩))
  generalize VaR (.iface 117 (.agg #[.string s])) w = R at *
  have m := me_sym (.string s)
  have P0 := hide (parts0 w)
  go_enter Tryd.func48, Tryd.ntmps48
  go_wp2_with (go_at_call 121; refine (unhide P0).mono ?_; rintro r w1 ⟨rfl, hb⟩)
  (first | go_ret2 | go_ret | skip)
  exact unhide FN _ _ rfl hb
set_option maxHeartbeats 2000000 in
theorem ft_here  (w : World) : Calls Tryd.prog 48 #[.iface 130 (.agg #[])] w (VaR (.iface 130 (.agg #[])) w) := by
  have FN := hide (fun r w' (h : r = .returned (.iface 130 (.agg #[]))) (hb : Below w.heap.size w w') => (show VaR _ w r w' from ⟨h, hb⟩))
  generalize VaR (.iface 130 (.agg #[])) w = R at *
  have m := me_here
  have P0 := hide (parts0 w)
  go_enter Tryd.func48, Tryd.ntmps48
  go_wp2_with (go_at_call 121; refine (unhide P0).mono ?_; rintro r w1 ⟨rfl, hb⟩)
  (first | go_ret2 | go_ret | skip)
  exact unhide FN _ _ rfl hb
set_option maxHeartbeats 2000000 in
theorem ft_sect (n : Int) (w : World) : Calls Tryd.prog 48 #[.iface 115 (.agg #[.int .i64 n])] w (VaR (.iface 115 (.agg #[.int .i64 n])) w) := by
  have FN := hide (fun r w' (h : r = .returned (.iface 115 (.agg #[.int .i64 n]))) (hb : Below w.heap.size w w') => (show VaR _ w r w' from ⟨h, hb⟩))
  generalize VaR (.iface 115 (.agg #[.int .i64 n])) w = R at *
  have m := me_sect (.int .i64 n)
  have P0 := hide (parts0 w)
  go_enter Tryd.func48, Tryd.ntmps48
  go_wp2_with (go_at_call 121; refine (unhide P0).mono ?_; rintro r w1 ⟨rfl, hb⟩)
  (first | go_ret2 | go_ret | skip)
  exact unhide FN _ _ rfl hb
set_option maxHeartbeats 2000000 in
theorem ft_glob (s : ByteArray) (w : World) : Calls Tryd.prog 48 #[.iface 118 (.agg #[.string s])] w (VaR (.iface 118 (.agg #[.string s])) w) := by
  have FN := hide (fun r w' (h : r = .returned (.iface 118 (.agg #[.string s]))) (hb : Below w.heap.size w w') => (show VaR _ w r w' from ⟨h, hb⟩))
  generalize VaR (.iface 118 (.agg #[.string s])) w = R at *
  have m := me_glob (.string s)
  have P0 := hide (parts0 w)
  go_enter Tryd.func48, Tryd.ntmps48
  go_wp2_with (go_at_call 121; refine (unhide P0).mono ?_; rintro r w1 ⟨rfl, hb⟩)
  (first | go_ret2 | go_ret | skip)
  exact unhide FN _ _ rfl hb
set_option maxHeartbeats 2000000 in
theorem ft_neg (t : TypeId) (x : Value) (tu : TypeId) (xu : Value) (V : Value) (h1 : ∀ w, Calls Tryd.prog 48 #[.iface t x] w (VaR (.iface tu xu) w)) (h2 : ∀ w, Calls Tryd.prog 72 #[.iface tu xu] w (VaR V w)) (w : World) : Calls Tryd.prog 48 #[.iface 104 (.agg #[.iface t x])] w (VaR V w) := by
  have FN := hide (fun r w' (h : r = .returned V) (hb : Below w.heap.size w w') => (show VaR _ w r w' from ⟨h, hb⟩))
  generalize hR : VaR V w = R at *
  clear hR
  have m := me_neg (.iface t x)
  have P1 := hide (parts1 t x w)
  have H1 := hide h1
  have H2 := hide h2
  unfold VaR at H1 H2
  clear h1 h2
  go_enter Tryd.func48, Tryd.ntmps48
  go_wp2_with (go_at_call 122; refine (unhide P1).mono ?_; rintro r w1 ⟨g, rfl, hg, hb⟩; have c0 := Lib.cell_of_heap hg 0; have B1 := hide hb; clear hg hb)
  refine (unhide H1 _).mono ?_
  rintro r w2 ⟨rfl, hb2⟩
  have B2 := hide ((unhide B1).trans (hb2.mono (unhide B1).size))
  clear hb2 c0 H1 P1 B1
  go_wp2_with fail
  refine (unhide H2 _).mono ?_
  rintro r w3 ⟨rfl, hb3⟩
  have B3 := hide ((unhide B2).trans (hb3.mono (unhide B2).size))
  clear hb3 H2 B2
  go_wp2
  (first | go_ret2 | go_ret | skip)
  exact unhide FN _ _ rfl (unhide B3)
set_option maxHeartbeats 8000000 in
theorem ft_two (T : TypeId) (k : Int) (t u : TypeId) (x y : Value) (tu uu : TypeId) (xu yu : Value) (V : Value) (m : ∀ w, (method 271 T (.agg #[.iface t x, .iface u y]) "loop.example/g00329/impl.parts").run Tryd.prog w = .ok (123, .agg #[.iface t x, .iface u y]) w) (kd : ∀ w, Calls Tryd.prog 71 #[.iface T (.agg #[.iface t x, .iface u y])] w fun r w' => r = .returned (.int .i64 k) ∧ w' = w) (h1 : ∀ w, Calls Tryd.prog 48 #[.iface t x] w (VaR (.iface tu xu) w)) (h2 : ∀ w, Calls Tryd.prog 48 #[.iface u y] w (VaR (.iface uu yu) w)) (h3 : ∀ w, Calls Tryd.prog 73 #[.int .i64 k, .agg #[.iface tu xu, .iface uu yu]] w (VaR V w)) (w : World) : Calls Tryd.prog 48 #[.iface T (.agg #[.iface t x, .iface u y])] w (VaR V w) := by
  have FN := hide (fun r w' (h : r = .returned V) (hb : Below w.heap.size w w') => (show VaR _ w r w' from ⟨h, hb⟩))
  generalize hR : VaR V w = R at *
  clear hR
  have P1 := hide (parts2 t u x y w)
  have H1 := hide h1
  have H2 := hide h2
  have H3 := hide h3
  have KD := hide kd
  unfold VaR at H1 H2 H3
  clear h1 h2 h3 kd
  go_enter Tryd.func48, Tryd.ntmps48
  go_wp2_with (go_at_call 123; refine (unhide P1).mono ?_; rintro r w1 ⟨g, rfl, hg, hb⟩; have G1 := hide hg; have B1 := hide hb; clear hg hb)
  have y0 : ∀ y : Sub w1.heap.size w1, y.w.cell? ⟨g, 0, none⟩ = some (.iface t x) := fun y => (y.h.cell (p := ⟨g, 0, none⟩) (Array.getElem?_eq_some_iff.1 (unhide G1)).1).trans (Lib.cell_of_heap (unhide G1) 0)
  have y1 : ∀ z : Sub w1.heap.size w1, z.w.cell? ⟨g, 1, none⟩ = some (.iface u y) := fun z => (z.h.cell (p := ⟨g, 1, none⟩) (Array.getElem?_eq_some_iff.1 (unhide G1)).1).trans (Lib.cell_of_heap (unhide G1) 1)
  have ne := Sub.ne w1.heap.size w1
  have HZ := hide (Nat.le_refl w1.heap.size)
  have HB := hide (fun y : Sub w1.heap.size w1 => (unhide B1).trans (y.h.mono (unhide B1).size))
  clear P1 B1 G1
  refine wp_region_sub (⟨w1, Below.refl _ _⟩ : Sub w1.heap.size w1) (by kernel_rfl) (by kernel_rfl) ?_
  (repeat (go_big_quiet_step (first | (go_at_call 71; exact Sub.same (unhide KD _)) | (go_at_call 73; exact Sub.call (unhide HZ) (unhide H3 _)) | (go_at_call_of 48 x; exact Sub.call (unhide HZ) (unhide H1 _)) | (go_at_call_of 48 y; exact Sub.call (unhide HZ) (unhide H2 _)))))
  refine wpQuiet_nil ?_
  intro y
  go_wp2
  (first | go_ret2 | go_ret | skip)
  exact unhide FN _ _ rfl (unhide HB _)
def FtP (d : Nat) : Prop := ∀ (e : Ex) (w : World), okF d false e = true → Calls Tryd.prog 48 #[tv e] w (VaR (tv (foldX e)) w)
theorem ft_all : ∀ d : Nat, FtP d := by
  intro d
  induction d with
  | zero => intro e w h; cases h
  | succ d ih =>
    intro e w h
    rcases ok_cases h with ⟨n, hn, rfl⟩ | ⟨s, hs, rfl⟩ | rfl | ⟨a, ha, rfl⟩ | ⟨k, a, b, hk, ha, hb, rfl⟩ | ⟨n, hn, rfl⟩ | ⟨s, hs, rfl⟩
    · rw [fold_leaf, tv_num]; exact ft_num n w
    · rw [fold_leaf, tv_sym]; exact ft_sym s w
    · rw [fold_leaf, tv_here]; exact ft_here w
    · rw [fold_neg, tv_neg]
      obtain ⟨c, rfl⟩ := ok_pos ha
      have h1 := fun w => ih a w ha
      have h2 := fun w => negI_any (fold_ok _ a ha) w
      obtain ⟨t, x, e1⟩ := tv_if a
      obtain ⟨u, y, e2⟩ := tv_if (foldX a)
      rw [e1, e2] at h1
      rw [e2] at h2
      rw [e1]
      exact ft_neg t x u y _ h1 h2 w
    · rw [fold_two, tv_two hk]
      obtain ⟨c, rfl⟩ := ok_pos ha
      have h1 := fun w => ih a w ha
      have h2 := fun w => ih b w hb
      have h3 := fun w => foldPI_any hk (fold_ok _ a ha) (fold_ok _ b hb) w
      obtain ⟨t, x, e1⟩ := tv_if a
      obtain ⟨u, y, e2⟩ := tv_if b
      obtain ⟨tu, xu, e3⟩ := tv_if (foldX a)
      obtain ⟨uu, yu, e4⟩ := tv_if (foldX b)
      rw [e1, e3] at h1
      rw [e2, e4] at h2
      rw [e3, e4] at h3
      rw [e1, e2]
      have : k = 5 ∨ k = 6 ∨ k = 7 ∨ k = 8 ∨ k = 9 ∨ k = 10 := by omega
      rcases this with rfl | rfl | rfl | rfl | rfl | rfl
      · exact ft_two 134 5 t u x y tu uu xu yu _ (me_add (.iface t x) (.iface u y)) (fun w => kind_add 0 E0 t u x y w) h1 h2 h3 w
      · exact ft_two 135 6 t u x y tu uu xu yu _ (me_sub (.iface t x) (.iface u y)) (fun w => kind_sub 0 E0 t u x y w) h1 h2 h3 w
      · exact ft_two 136 7 t u x y tu uu xu yu _ (me_mul (.iface t x) (.iface u y)) (fun w => kind_mul 0 E0 t u x y w) h1 h2 h3 w
      · exact ft_two 137 8 t u x y tu uu xu yu _ (me_div (.iface t x) (.iface u y)) (fun w => kind_div 0 E0 t u x y w) h1 h2 h3 w
      · exact ft_two 138 9 t u x y tu uu xu yu _ (me_and (.iface t x) (.iface u y)) (fun w => kind_and 0 E0 t u x y w) h1 h2 h3 w
      · exact ft_two 139 10 t u x y tu uu xu yu _ (me_or (.iface t x) (.iface u y)) (fun w => kind_or 0 E0 t u x y w) h1 h2 h3 w
    · rw [fold_leaf, tv_sect]; exact ft_sect n w
    · rw [fold_leaf, tv_glob]; exact ft_glob s w
end Go.Proofs.YtkolflcjkofleaaDoor
