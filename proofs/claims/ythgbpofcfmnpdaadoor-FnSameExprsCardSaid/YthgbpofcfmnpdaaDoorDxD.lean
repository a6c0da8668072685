/- Two drawn terms; over this seat's translation; conditions stand as hypotheses of each. -/
import Derived.Test.YthgbpofcfmnpdaaDoorDxC
import Derived.Test.YthgbpofcfmnpdaaDoorHeT
namespace Go.Proofs.YthgbpofcfmnpdaaDoor
open Go.ChangeShapes Go.WideShapes Go.ChangeAt Go.RowKit
set_option linter.unusedVariables false
set_option maxRecDepth 8000
set_option linter.unusedSimpArgs false

theorem results_rows2 {P : Program} {fn : Func} {p q : Tmp} {ty tz : TypeId} (h : fn.results = #[.cell p ty, .cell q tz]) (tmps : Array Value) (w : World) (g k : Nat) (t u : TypeId) (cs ds : Array Value) (fr fs : Nat × Nat) (d e : TypeDesc)
    (hp : tmps.getD p undef = .pointer (some ⟨g, 0, none⟩)) (hg : w.heap[g]? = some (.cells cs t fr)) (hq : tmps.getD q undef = .pointer (some ⟨k, 0, none⟩)) (hk : w.heap[k]? = some (.cells ds u fs))
    (hu : P.underlying ty = some d) (hd : (match d with | .struct _ | .array _ _ => true | _ => false) = true) (hi : (P.info? ty).map (·.size) = some cs.size)
    (hu' : P.underlying tz = some e) (hd' : (match e with | .struct _ | .array _ _ => true | _ => false) = true) (hi' : (P.info? tz).map (·.size) = some ds.size) :
    (results fn tmps).run P w = .ok (.tuple #[.agg cs, .agg ds]) w := by
  have hp' : tmps[p]?.getD undef = .pointer (some ⟨g, 0, none⟩) := by simpa using hp
  have hq' : tmps[q]?.getD undef = .pointer (some ⟨k, 0, none⟩) := by simpa using hq
  simp [results, h, hp', hq', asAddr, run_loadVar_row w g t ty cs fr d hg hu hd hi, run_loadVar_row w k u tz ds fs e hk hu' hd' hi']
theorem two_res (w : World) (o o2 : Obj) : Below w.heap.size w ((w.alloc o).alloc o2) ∧ ((w.alloc o).alloc o2).heap[w.heap.size]? = some o ∧ ((w.alloc o).alloc o2).heap[w.heap.size + 1]? = some o2 ∧ ((w.alloc o).alloc o2).heap.size = w.heap.size + 2 := by
  have e : (w.alloc o).heap.size = w.heap.size + 1 := by simp
  refine ⟨((Below.refl _ _).alloc (Nat.le_refl _) _).alloc (by simp) _, ?_, ?_, by simp⟩
  · exact ((((Below.refl _ (w.alloc o)).alloc (Nat.le_refl _) o2).block _ (by simp)).trans Array.getElem?_push_size)
  · rw [← e]; exact Array.getElem?_push_size
/-- Where two results are laid: their blocks, the terms and the memory. -/
theorem two_rows {w wr : World} {t : TypeId} {cs ds os bs : Array Value} (h : wr.heap[w.heap.size]? = some (.cells os t (0, 0))) (k : wr.heap[w.heap.size + 1]? = some (.cells bs t (0, 0))) (hb : Below w.heap.size w wr) :
    ((wr.setRow w.heap.size cs).setRow (w.heap.size + 1) ds).heap[w.heap.size]? = some (.cells cs t (0, 0)) ∧ ((wr.setRow w.heap.size cs).setRow (w.heap.size + 1) ds).heap[w.heap.size + 1]? = some (.cells ds t (0, 0)) ∧ (wr.setRow w.heap.size cs).heap[w.heap.size + 1]? = some (.cells bs t (0, 0)) ∧ Below w.heap.size w ((wr.setRow w.heap.size cs).setRow (w.heap.size + 1) ds) := by
  have h1 : (wr.setRow w.heap.size cs).heap[w.heap.size + 1]? = some (.cells bs t (0, 0)) := (setRow_other _ _ _ _ (by omega)).trans k
  refine ⟨(setRow_other _ _ _ _ (by omega)).trans (setRow_heap _ _ _ _ _ _ h), setRow_heap _ _ _ _ _ _ h1, h1, ?_⟩
  exact (hb.grown (grownBy_row _) hb.size (fun k e => by cases e; exact Nat.le_refl _)).grown (grownBy_row _) (by simpa [World.setRow] using hb.size) (fun k e => by cases e; omega)
theorem NewX.rows2 {w wr : World} {e : Ex} {c : Option Addr} (h : NewX wr (w.heap.size + 2) e c) (cs ds : Array Value) : NewX ((wr.setRow w.heap.size cs).setRow (w.heap.size + 1) ds) w.heap.size e c := ((h.row cs (by omega)).row ds (by omega)).lower (by omega)
set_option maxHeartbeats 4000000 in
theorem drawSame_any (a : Option Addr) (len cap : Nat) (xs : List UInt8) (w : World) (hl : xs.length = len) (hm : len ≤ 1048576) (hr : Rd w a xs) :
    Calls Tryd.prog 19 #[.slice a len cap] w fun r w' => ∃ (x y : Ex) (c d : Option Addr) (cp dp : Nat), r = .returned (.tuple #[.agg (x.cs c cp), .agg (y.cs d dp)]) ∧ x.sz ≤ 31 ∧ y.sz ≤ 31 ∧ NewX w' w.heap.size x c ∧ NewX w' w.heap.size y d ∧ Below w.heap.size w w' := by
  obtain ⟨b0, r0, s0, z0⟩ := two_res w (.cells E0x 37) (.cells E0x 37)
  have B0 := hide b0
  have R0 := hide r0
  have S0 := hide s0
  have HZ := hide z0
  have N0 := hide (new_any a len cap xs _ hl hm (hr.later b0))
  unfold E0x at B0 R0 S0 N0 HZ
  clear hr b0 r0 s0 z0
  go_enter Tryd.func19, Tryd.ntmps19
  go_wp2_with fail
  generalize (w.alloc (Obj.cells #[.int .i64 0, .int .i64 0, .string ⟨#[]⟩, .slice none 0 0] 37)).alloc (Obj.cells #[.int .i64 0, .int .i64 0, .string ⟨#[]⟩, .slice none 0 0] 37) = W at *
  refine (unhide N0).mono ?_
  rintro e w1 ⟨rfl, hc1, hb1⟩
  have R1 := hide ((hb1.block _ (Array.getElem?_eq_some_iff.1 (unhide R0)).1).trans (unhide R0))
  have S1 := hide ((hb1.block _ (Array.getElem?_eq_some_iff.1 (unhide S0)).1).trans (unhide S0))
  have B1 := hide ((unhide B0).trans (hb1.mono (unhide B0).size))
  have o1 : w.heap.size + 2 = W.heap.size := (unhide HZ).symm
  have o2 := Nat.lt_of_lt_of_le (show W.heap.size < w1.heap.size from hc1.lt) (Nat.le_refl _)
  have AD := hide (anyD W.heap.size a len cap xs w1 hc1)
  unfold DrX at AD
  generalize W.heap.size = cb at *
  have O1 := hide o1
  have O2 := hide o2
  clear hc1 hb1 N0 R0 S0 B0 HZ o1 o2
  go_wp2_with fail
  refine (unhide AD).mono ?_
  rintro e w2 ⟨x, c, cp, rfl, hsx, hnx, hc2, hg2⟩
  have B2 := hide ((unhide B1).grown hg2 (unhide B1).size (fun k e => by cases e; have := unhide O1; omega))
  have R2 := hide ((hg2.block _ (Array.getElem?_eq_some_iff.1 (unhide R1)).1 (fun e => by have := unhide O1; simp at e; omega)).trans (unhide R1))
  have S2 := hide ((hg2.block _ (Array.getElem?_eq_some_iff.1 (unhide S1)).1 (fun e => by have := unhide O1; simp at e; omega)).trans (unhide S1))
  have X2 := hide (hnx.lower (show cb + 1 ≤ w1.heap.size from unhide O2))
  have C2 := hide hc2
  have hs2 := hg2.size
  have O3 := hide (Nat.lt_of_lt_of_le (unhide O2) hs2)
  unfold Ex.cs
  clear hnx hc2 hg2 B1 R1 S1 AD hs2 O2
  obtain ⟨g, hg⟩ : ∃ g, w2.heap.size = g := ⟨_, rfl⟩
  have hb3 := below_new w2 (.cells #[.int .i64 x.k, .int .i64 x.n, .string x.s, .slice c x.l.length cp] 37)
  have hg3 : (w2.alloc (.cells #[.int .i64 x.k, .int .i64 x.n, .string x.s, .slice c x.l.length cp] 37)).heap[w2.heap.size]? = some (.cells #[.int .i64 x.k, .int .i64 x.n, .string x.s, .slice c x.l.length cp] 37 (0, 0)) := Array.getElem?_push_size
  obtain ⟨w3, hw3⟩ : ∃ w3, w2.alloc (.cells #[.int .i64 x.k, .int .i64 x.n, .string x.s, .slice c x.l.length cp] 37) = w3 := ⟨_, rfl⟩
  rw [hw3] at hb3 hg3
  rw [hg] at hg3
  have B3 := hide ((unhide B2).trans (hb3.mono (unhide B2).size))
  have R3 := hide (row_keep (unhide R2) hb3)
  have S3 := hide (row_keep (unhide S2) hb3)
  have X3 := hide ((unhide X2).later hb3)
  have G3 := hide hg3
  have ON := hide (once_any cb a len cap xs 2 w3 (by omega) ((unhide C2).later hb3))
  have O4 := hide (show cb < g from hg ▸ unhide O3)
  clear hb3 hg3 B2 R2 S2 X2 C2 O3
  go_wp2_with fail
  refine (unhide ON).mono ?_
  rintro e w4 ⟨q, rfl, hc4, hg4⟩
  have B4 := hide ((unhide B3).grown hg4 (unhide B3).size (fun k e => by cases e; have := unhide O1; omega))
  have R4 := hide ((hg4.block _ (Array.getElem?_eq_some_iff.1 (unhide R3)).1 (fun e => by have := unhide O1; simp at e; omega)).trans (unhide R3))
  have S4 := hide ((hg4.block _ (Array.getElem?_eq_some_iff.1 (unhide S3)).1 (fun e => by have := unhide O1; simp at e; omega)).trans (unhide S3))
  have G4 := hide ((hg4.block _ (Array.getElem?_eq_some_iff.1 (unhide G3)).1 (fun e => by have := unhide O4; simp at e; omega)).trans (unhide G3))
  have X4 := hide ((unhide X3).drawn hg4 (Nat.lt_succ_self _))
  have C4 := hide hc4
  clear hc4 hg4 B3 R3 S3 G3 X3 ON hw3
  have x0 := Lib.cell_of_heap (unhide G4) 0
  have x1 := Lib.cell_of_heap (unhide G4) 1
  have x2 := Lib.cell_of_heap (unhide G4) 2
  have x3 := Lib.cell_of_heap (unhide G4) 3
  cases q
  case true =>
    have D0 := hide (show (fun w' => w'.heap[g]? = some (.cells #[.int .i64 x.k, .int .i64 x.n, .string x.s, .slice c x.l.length cp] 37 (0, 0))) w4.drew from row_keep (unhide G4) below_drew)
    have hbd := below_drew (w := w4)
    have B6 := hide ((unhide B4).trans (hbd.mono (unhide B4).size))
    have R6 := hide (row_keep (unhide R4) hbd)
    have S6 := hide (row_keep (unhide S4) hbd)
    have X6 := hide (((unhide X4).later hbd).lower (show w.heap.size + 2 ≤ cb + 1 by have := unhide O1; omega))
    clear x0 x1 x2 x3 hbd B4 R4 S4 X4 C4
    obtain ⟨u1, u2, u3, u4⟩ := two_rows (cs := #[.int .i64 x.k, .int .i64 x.n, .string x.s, .slice c x.l.length cp]) (ds := #[.int .i64 x.k, .int .i64 x.n, .string x.s, .slice c x.l.length cp]) (unhide R6) (unhide S6) (unhide B6)
    have U1 := hide u1
    have U2 := hide u2
    have U3 := hide u3
    have U4 := hide u4
    clear u1 u2 u3 u4 B6
    go_wp2_with fail
    refine wp_region_held_drew (S := fun w' => w'.heap[g]? = some (.cells #[.int .i64 x.k, .int .i64 x.n, .string x.s, .slice c x.l.length cp] 37 (0, 0))) (by kernel_rfl) (unhide D0) (fun hS => ?_)
    have HS := hide hS
    clear hS
    refine wpAnyH_take (i := 0) (v := .agg #[.int .i64 x.k, .int .i64 x.n, .string x.s, .slice c x.l.length cp]) rfl (by kernel_rfl) (by kernel_rfl) (by kernel_rfl) (fun _ _ _ h => h) (yields_loadG (by rfl) 37 _ rfl g rfl 37 #[.int .i64 x.k, .int .i64 x.n, .string x.s, .slice c x.l.length cp] _ (fun w h => h) Tryd.underlying37 rfl (by kernel_rfl)) (unhide HS) ?_
    go_simp
    refine wpAnyH_take (i := 1) (v := .agg #[.int .i64 x.k, .int .i64 x.n, .string x.s, .slice c x.l.length cp]) rfl (by kernel_rfl) (by kernel_rfl) (by kernel_rfl) (fun _ _ _ h => h) (yields_loadG (by rfl) 37 _ rfl g rfl 37 #[.int .i64 x.k, .int .i64 x.n, .string x.s, .slice c x.l.length cp] _ (fun w h => h) Tryd.underlying37 rfl (by kernel_rfl)) (unhide HS) ?_
    go_simp
    refine wpAnyH_ready (rs := [2]) (by kernel_rfl) (by simp) ?_
    refine AllReadyH.cons rfl (fun K2 hK => ?_) AllReadyH.nil
    rw [if_pos (by rfl)]
    refine wp_store_row 37 _ _ rfl w.heap.size #[.int .i64 x.k, .int .i64 x.n, .string x.s, .slice c x.l.length cp] rfl rfl 37 _ (unhide R6) szE rfl (ex_one _ _ _ _ _ _) ?_
    have D7 := hide (show (w4.drew.setRow w.heap.size #[.int .i64 x.k, .int .i64 x.n, .string x.s, .slice c x.l.length cp]).heap[g]? = some (.cells #[.int .i64 x.k, .int .i64 x.n, .string x.s, .slice c x.l.length cp] 37 (0, 0)) from (setRow_other _ _ _ _ (by have := unhide O4; have := unhide O1; omega)).trans (unhide D0))
    refine hK.out _ _ (unhide D7) (fun hS => ?_)
    clear HS
    have HS := hide hS
    clear hS hK K2
    refine wpAnyH_ready (rs := [3]) (by kernel_rfl) (by simp) ?_
    refine AllReadyH.cons rfl (fun K2 hK => ?_) AllReadyH.nil
    rw [if_pos (by rfl)]
    refine wp_store_row 37 _ _ rfl (w.heap.size + 1) #[.int .i64 x.k, .int .i64 x.n, .string x.s, .slice c x.l.length cp] rfl rfl 37 _ (unhide U3) szE rfl (ex_one _ _ _ _ _ _) ?_
    have D8 := hide (show ((w4.drew.setRow w.heap.size #[.int .i64 x.k, .int .i64 x.n, .string x.s, .slice c x.l.length cp]).setRow (w.heap.size + 1) #[.int .i64 x.k, .int .i64 x.n, .string x.s, .slice c x.l.length cp]).heap[g]? = some (.cells #[.int .i64 x.k, .int .i64 x.n, .string x.s, .slice c x.l.length cp] 37 (0, 0)) from (setRow_other _ _ _ _ (by have := unhide O4; have := unhide O1; omega)).trans (unhide D7))
    refine hK.out _ _ (unhide D8) (fun hS => ?_)
    clear HS
    have HS := hide hS
    clear hS hK K2
    refine wpAnyH_done (by kernel_rfl) ?_ _
    go_wp2
    refine bodyPost_ret (results_rows2 (P := Tryd.prog) rfl _ _ w.heap.size (w.heap.size + 1) 37 37 #[.int .i64 x.k, .int .i64 x.n, .string x.s, .slice c x.l.length cp] #[.int .i64 x.k, .int .i64 x.n, .string x.s, .slice c x.l.length cp] (0, 0) (0, 0) _ _ rfl (unhide U1) rfl (unhide U2) Tryd.underlying37 rfl szE Tryd.underlying37 rfl szE) rfl ?_
    exact ⟨x, x, c, c, cp, cp, rfl, hsx, hsx, (unhide X6).rows2 _ _, (unhide X6).rows2 _ _, unhide U4⟩
  case false =>
    have AD := hide (anyD cb a len cap xs w4.drew ((unhide C4).later below_drew))
    unfold DrX at AD
    have D0 := hide (show (fun w' => w'.heap[g]? = some (.cells #[.int .i64 x.k, .int .i64 x.n, .string x.s, .slice c x.l.length cp] 37 (0, 0))) w4.drew from row_keep (unhide G4) below_drew)
    have hbd := below_drew (w := w4)
    have B5 := hide ((unhide B4).trans (hbd.mono (unhide B4).size))
    have R5 := hide (row_keep (unhide R4) hbd)
    have S5 := hide (row_keep (unhide S4) hbd)
    have X5 := hide ((unhide X4).later hbd)
    clear x0 x1 x2 x3 hbd B4 R4 S4 X4 C4
    go_wp2_with fail
    refine wp_region_held_drew (S := fun w' => w'.heap[g]? = some (.cells #[.int .i64 x.k, .int .i64 x.n, .string x.s, .slice c x.l.length cp] 37 (0, 0))) (by kernel_rfl) (unhide D0) (fun hS => ?_)
    have HS := hide hS
    clear hS
    refine wpAnyH_take (i := 0) (v := .agg #[.int .i64 x.k, .int .i64 x.n, .string x.s, .slice c x.l.length cp]) rfl (by kernel_rfl) (by kernel_rfl) (by kernel_rfl) (fun _ _ _ h => h) (yields_loadG (by rfl) 37 _ rfl g rfl 37 #[.int .i64 x.k, .int .i64 x.n, .string x.s, .slice c x.l.length cp] _ (fun w h => h) Tryd.underlying37 rfl (by kernel_rfl)) (unhide HS) ?_
    go_simp
    refine wpAnyH_take (i := 1) (v := .pointer (some ⟨cb, 0, none⟩)) rfl (by kernel_rfl) (by kernel_rfl) (by kernel_rfl) (fun _ _ _ h => h) (Or.inl ⟨by rfl, fun w hc => ?_⟩) (unhide HS) ?_
    · clear hc; go_simp
    go_simp
    refine wpAnyH_ready (rs := [2]) (by kernel_rfl) (by simp) ?_
    refine AllReadyH.cons rfl (fun K2 hK => ?_) AllReadyH.nil
    go_simp
    refine (unhide AD).mono ?_
    rintro e w6 ⟨y, d, dp, rfl, hsy, hny, hc6, hg6⟩
    refine hK.out _ _ ((hg6.block _ (Array.getElem?_eq_some_iff.1 (unhide D0)).1 (fun e => by have := unhide O4; simp at e; omega)).trans (unhide D0)) (fun hS => ?_)
    clear HS
    have HS := hide hS
    clear hS hK K2
    have B6 := hide ((unhide B5).grown hg6 (unhide B5).size (fun k e => by cases e; have := unhide O1; omega))
    have R6 := hide ((hg6.block _ (Array.getElem?_eq_some_iff.1 (unhide R5)).1 (fun e => by have := unhide O1; simp at e; omega)).trans (unhide R5))
    have S6 := hide ((hg6.block _ (Array.getElem?_eq_some_iff.1 (unhide S5)).1 (fun e => by have := unhide O1; simp at e; omega)).trans (unhide S5))
    have X6 := hide (((unhide X5).drawn hg6 (Nat.lt_succ_self _)).lower (show w.heap.size + 2 ≤ cb + 1 by have := unhide O1; omega))
    have hgd := (Array.getElem?_eq_some_iff.1 (unhide D0)).1
    have Y6 := hide (hny.lower (show w.heap.size + 2 ≤ w4.drew.heap.size by have := unhide O1; have := unhide O4; omega))
    have D6 := hide (unhide HS)
    clear hny hc6 hg6 B5 R5 S5 X5 AD D0 hgd
    unfold Ex.cs
    obtain ⟨u1, u2, u3, u4⟩ := two_rows (cs := #[.int .i64 x.k, .int .i64 x.n, .string x.s, .slice c x.l.length cp]) (ds := #[.int .i64 y.k, .int .i64 y.n, .string y.s, .slice d y.l.length dp]) (unhide R6) (unhide S6) (unhide B6)
    have U1 := hide u1
    have U2 := hide u2
    have U3 := hide u3
    have U4 := hide u4
    clear u1 u2 u3 u4 B6
    refine wpAnyH_ready (rs := [3]) (by kernel_rfl) (by simp) ?_
    refine AllReadyH.cons rfl (fun K2 hK => ?_) AllReadyH.nil
    rw [if_pos (by rfl)]
    refine wp_store_row 37 _ _ rfl w.heap.size #[.int .i64 x.k, .int .i64 x.n, .string x.s, .slice c x.l.length cp] rfl rfl 37 _ (unhide R6) szE rfl (ex_one _ _ _ _ _ _) ?_
    have D7 := hide (show (w6.setRow w.heap.size #[.int .i64 x.k, .int .i64 x.n, .string x.s, .slice c x.l.length cp]).heap[g]? = some (.cells #[.int .i64 x.k, .int .i64 x.n, .string x.s, .slice c x.l.length cp] 37 (0, 0)) from (setRow_other _ _ _ _ (by have := unhide O4; have := unhide O1; omega)).trans (unhide D6))
    refine hK.out _ _ (unhide D7) (fun hS => ?_)
    clear HS
    have HS := hide hS
    clear hS hK K2
    refine wpAnyH_ready (rs := [4]) (by kernel_rfl) (by simp) ?_
    refine AllReadyH.cons rfl (fun K2 hK => ?_) AllReadyH.nil
    rw [if_pos (by rfl)]
    refine wp_store_row 37 _ _ rfl (w.heap.size + 1) #[.int .i64 y.k, .int .i64 y.n, .string y.s, .slice d y.l.length dp] rfl rfl 37 _ (unhide U3) szE rfl (ex_one _ _ _ _ _ _) ?_
    have D8 := hide (show ((w6.setRow w.heap.size #[.int .i64 x.k, .int .i64 x.n, .string x.s, .slice c x.l.length cp]).setRow (w.heap.size + 1) #[.int .i64 y.k, .int .i64 y.n, .string y.s, .slice d y.l.length dp]).heap[g]? = some (.cells #[.int .i64 x.k, .int .i64 x.n, .string x.s, .slice c x.l.length cp] 37 (0, 0)) from (setRow_other _ _ _ _ (by have := unhide O4; have := unhide O1; omega)).trans (unhide D7))
    refine hK.out _ _ (unhide D8) (fun hS => ?_)
    clear HS
    have HS := hide hS
    clear hS hK K2
    refine wpAnyH_done (by kernel_rfl) ?_ _
    go_wp2
    refine bodyPost_ret (results_rows2 (P := Tryd.prog) rfl _ _ w.heap.size (w.heap.size + 1) 37 37 #[.int .i64 x.k, .int .i64 x.n, .string x.s, .slice c x.l.length cp] #[.int .i64 y.k, .int .i64 y.n, .string y.s, .slice d y.l.length dp] (0, 0) (0, 0) _ _ rfl (unhide U1) rfl (unhide U2) Tryd.underlying37 rfl szE Tryd.underlying37 rfl szE) rfl ?_
    exact ⟨x, y, c, d, cp, dp, rfl, hsx, hsy, (unhide X6).rows2 _ _, (unhide Y6).rows2 _ _, unhide U4⟩
end Go.Proofs.YthgbpofcfmnpdaaDoor
