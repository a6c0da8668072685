/- What the laws on places draw; over this seat's translation; conditions stand as hypotheses of each. -/
import Derived.Test.YtfkmibgamkignaaDrpB
import Derived.Test.YtfkmibgamkignaaDrwD
namespace Go.Proofs.Ytfkmibgamkignaa
open Go.ChangeShapes Go.WideShapes Go.ChangeAt Go.RowKit
set_option linter.unusedVariables false
set_option maxRecDepth 8000
set_option linter.unusedSimpArgs false

/-- Two answers' places, while draws go on. -/
structure Bw (w wr : World) (z : Array Value) (t : TypeId) : Prop where
  rm : wr.heap[w.heap.size]? = some (.cells zMv.cs 28 (0, 0))
  rp : wr.heap[w.heap.size + 1]? = some (.cells z t (0, 0))
  bel : Below w.heap.size w wr
  sz : w.heap.size + 2 ≤ wr.heap.size
section
variable {w wr w' : World} {z : Array Value} {t : TypeId}
theorem bw_new (w : World) (z : Array Value) (t : TypeId) : Bw w ((w.alloc (.cells zMv.cs 28)).alloc (.cells z t)) z t :=
  ⟨row_lat (heap_alloc_last w _) (below_new _ _), by have := heap_alloc_last (w.alloc (.cells zMv.cs 28)) (.cells z t); simpa using this, below_two w _ _, by simp⟩
theorem Bw.later (h : Bw w wr z t) (hb : Below wr.heap.size wr w') : Bw w w' z t := ⟨row_lat h.rm hb, row_lat h.rp hb, h.bel.trans (hb.mono h.bel.size), Nat.le_trans h.sz hb.size⟩
theorem Bw.past (h : Bw w wr z t) {cb : Nat} (hg : wr.grownBy w' (some cb)) (hc : w.heap.size + 2 ≤ cb) : Bw w w' z t :=
  ⟨row_past h.rm hg (by omega), row_past h.rp hg (by omega), h.bel.grown hg h.bel.size (fun k e => by cases e; omega), Nat.le_trans h.sz hg.size⟩
theorem Bw.rp2 (h : Bw w wr z t) (cs : Array Value) : (wr.setRow w.heap.size cs).heap[w.heap.size + 1]? = some (.cells z t (0, 0)) := (setRow_other _ _ _ _ (by omega)).trans h.rp
theorem Bw.done (h : Bw w wr z t) (cs ps : Array Value) : ((wr.setRow w.heap.size cs).setRow (w.heap.size + 1) ps).heap[w.heap.size]? = some (.cells cs 28 (0, 0)) ∧ ((wr.setRow w.heap.size cs).setRow (w.heap.size + 1) ps).heap[w.heap.size + 1]? = some (.cells ps t (0, 0)) ∧ Below w.heap.size w ((wr.setRow w.heap.size cs).setRow (w.heap.size + 1) ps) :=
  ⟨(setRow_other _ _ _ _ (by omega)).trans (setRow_heap _ _ _ _ 28 _ h.rm), setRow_heap _ _ _ _ t _ (h.rp2 cs), below_setRow (below_setRow h.bel (by omega) _) (by omega) _⟩
end
theorem results_rr {P : Program} {fn : Func} {p p2 : Tmp} {ty ty2 : TypeId} (h : fn.results = #[.cell p ty, .cell p2 ty2]) (tmps : Array Value) (w : World) (g : Nat) (t : TypeId) (cs : Array Value) (fr : Nat × Nat) (d : TypeDesc)
    (hp : tmps.getD p undef = .pointer (some ⟨g, 0, none⟩)) (hg : w.heap[g]? = some (.cells cs t fr)) (hu : P.underlying ty = some d) (hd : (match d with | .struct _ | .array _ _ => true | _ => false) = true) (hi : (P.info? ty).map (·.size) = some cs.size)
    (g2 : Nat) (t2 : TypeId) (cs2 : Array Value) (fr2 : Nat × Nat) (d2 : TypeDesc)
    (hp2 : tmps.getD p2 undef = .pointer (some ⟨g2, 0, none⟩)) (hg2 : w.heap[g2]? = some (.cells cs2 t2 fr2)) (hu2 : P.underlying ty2 = some d2) (hd2 : (match d2 with | .struct _ | .array _ _ => true | _ => false) = true) (hi2 : (P.info? ty2).map (·.size) = some cs2.size) :
    (results fn tmps).run P w = .ok (.tuple #[.agg cs, .agg cs2]) w := by
  have hp' : tmps[p]?.getD undef = .pointer (some ⟨g, 0, none⟩) := by simpa using hp
  have hp2' : tmps[p2]?.getD undef = .pointer (some ⟨g2, 0, none⟩) := by simpa using hp2
  simp [results, h, hp', hp2', asAddr, run_loadVar_row w g t ty cs fr d hg hu hd hi, run_loadVar_row w g2 t2 ty2 cs2 fr2 d2 hg2 hu2 hd2 hi2]

theorem Bw.over {w wr : World} {z : Array Value} {t : TypeId} (h : Bw w wr z t) (g : Nat) (cs : Array Value) (hg : w.heap.size + 2 ≤ g) : Bw w (wr.setRow g cs) z t :=
  ⟨(setRow_other _ _ _ _ (by omega)).trans h.rm, (setRow_other _ _ _ _ (by omega)).trans h.rp, below_setRow h.bel (by omega) _, by rw [setRow_size]; exact h.sz⟩
theorem field92 (op sm sr sx dm dr dx nn : Int) (w : World) : (Instr.field 92 (.agg #[.int .i64 op, .int .i64 sm, .int .i64 sr, .int .i64 sx, .int .i64 dm, .int .i64 dr, .int .i64 dx, .int .i64 nn]) 2).run Try.prog w = .ok (.agg #[.int .i64 dm, .int .i64 dr, .int .i64 dx]) w := by
  kernel_rfl
theorem RdN.over {w0 wr : World} {a : Option Addr} {ns : List Int} {g : Nat} (h0 : RdN w0 a ns) (h : RdN wr a ns) (hg : w0.heap.size ≤ g) (cs : Array Value) : RdN (wr.setRow g cs) a ns := by
  rcases h0 with h0 | ⟨b, off, ha, hb, _⟩
  · exact .inl h0
  · exact h.past (grownBy_setRow cs) (fun ad e => by rw [ha] at e; cases e; show b ≠ g; omega)
theorem Am.over {w0 wr : World} {B : Nat} {x : Mv} {d : Md} (h : Am wr B x d) (h0 : RdM w0 x d) (g : Nat) (hg : w0.heap.size ≤ g) (cs : Array Value) : Am (wr.setRow g cs) B x d :=
  { h with rd := ⟨h0.m.over h.rd.m hg cs, h0.r.over h.rd.r hg cs, h0.i.over h.rd.i hg cs, h0.o.over h.rd.o hg cs, h.rd.ml, h.rd.rl, h.rd.il, h.rd.ol⟩ }

set_option maxHeartbeats 4000000 in
theorem drawL_any (a : Option Addr) (len cap : Nat) (xs : List UInt8) (w : World) (hl : xs.length = len) (hm : len ≤ 1048576) (hr : Rd w a xs) :
    Calls Try.prog 25 #[.slice a len cap] w fun e w' => ∃ (x : Mv) (d : Md) (r p : Int), e = .returned (.tuple #[.agg x.cs, .agg #[.int .i64 r, .int .i64 p]]) ∧ Am w' (w.heap.size + 3) x d ∧ Below w.heap.size w w' := by
  have b0 := bw_new w #[.int .i64 0, .int .i64 0] 44
  have B0 := hide b0
  have P := hide (new_any a len cap xs ((w.alloc (.cells zMv.cs 28)).alloc (.cells #[.int .i64 0, .int .i64 0] 44)) hl hm (hr.later b0.bel))
  rw [show ((w.alloc (.cells zMv.cs 28)).alloc (.cells #[.int .i64 0, .int .i64 0] 44)).heap.size = w.heap.size + 2 by simp] at P
  clear hr b0
  go_enter Try.func25, Try.ntmps25
  go_wp2_with fail
  refine (unhide P).mono ?_
  rintro e w1 ⟨rfl, hc1, hb1⟩
  have C1 := hide hc1
  have B1 := hide ((unhide B0).later (by simpa using hb1))
  clear P hc1 hb1 B0
  have P := hide (any5_any (w.heap.size + 2) a len cap xs w1 (unhide C1))
  go_wp2_with fail
  refine (unhide P).mono ?_
  rintro e w2 ⟨x, d, rfl, am, hc2, hg2⟩
  have C2 := hide hc2
  have A2 := hide (am.base (C := w.heap.size + 3) (by have := (unhide C1).lt; omega))
  have B2 := hide ((unhide B1).past hg2 (Nat.le_refl _))
  clear P am hc2 hg2 B1 C1
  have P := hide (draw6_any (w.heap.size + 2) a len cap xs w2 (unhide C2))
  go_wp2_with fail
  refine (unhide P).mono ?_
  rintro e w3 ⟨r, p, rfl, hc2, hg2⟩
  have C3 := hide hc2
  have A3 := hide ((unhide A2).past hg2 (fun b e => by cases e; omega))
  have B3 := hide ((unhide B2).past hg2 (Nat.le_refl _))
  clear P hc2 hg2 B2 C2 A2
  go_wp2_with (first | (refine wpList_store_row rfl 28 _ _ rfl w.heap.size x.cs rfl rfl 28 zMv.cs (unhide B3).rm (by kernel_rfl) rfl (Mv.cs_one _) ?_) | (refine wpList_store_row rfl 44 _ _ rfl (w.heap.size + 1) #[.int .i64 r, .int .i64 p] rfl rfl 44 #[.int .i64 0, .int .i64 0] ((unhide B3).rp2 x.cs) (by kernel_rfl) rfl (by simp [Value.oneCell']) ?_))
  obtain ⟨r1, r2, r3⟩ := (unhide B3).done x.cs #[.int .i64 r, .int .i64 p]
  refine bodyPost_ret (results_rr (P := Try.prog) rfl _ _ w.heap.size 28 x.cs (0, 0) _ rfl r1 Try.underlying28 rfl (by kernel_rfl) (w.heap.size + 1) 44 #[.int .i64 r, .int .i64 p] (0, 0) _ rfl r2 Try.underlying44 rfl (by kernel_rfl)) rfl ?_
  exact ⟨x, d, r, p, rfl, ((unhide A3).row (by omega) _).row (by omega) _, r3⟩
set_option maxHeartbeats 4000000 in
theorem drawS_any (a : Option Addr) (len cap : Nat) (xs : List UInt8) (w : World) (hl : xs.length = len) (hm : len ≤ 1048576) (hr : Rd w a xs) :
    Calls Try.prog 28 #[.slice a len cap] w fun e w' => ∃ (x : Mv) (d : Md) (r p n : Int), e = .returned (.tuple #[.agg x.cs, .agg #[.int .i64 r, .int .i64 p], .int .i64 n]) ∧ Am w' (w.heap.size + 3) x d ∧ Below w.heap.size w w' := by
  have b0 := bw_new w #[.int .i64 0, .int .i64 0] 44
  have B0 := hide b0
  have P := hide (new_any a len cap xs ((w.alloc (.cells zMv.cs 28)).alloc (.cells #[.int .i64 0, .int .i64 0] 44)) hl hm (hr.later b0.bel))
  rw [show ((w.alloc (.cells zMv.cs 28)).alloc (.cells #[.int .i64 0, .int .i64 0] 44)).heap.size = w.heap.size + 2 by simp] at P
  clear hr b0
  go_enter Try.func28, Try.ntmps28
  go_wp2_with fail
  refine (unhide P).mono ?_
  rintro e w1 ⟨rfl, hc1, hb1⟩
  have C1 := hide hc1
  have B1 := hide ((unhide B0).later (by simpa using hb1))
  clear P hc1 hb1 B0
  have P := hide (any5_any (w.heap.size + 2) a len cap xs w1 (unhide C1))
  go_wp2_with fail
  refine (unhide P).mono ?_
  rintro e w2 ⟨x, d, rfl, am, hc2, hg2⟩
  have C2 := hide hc2
  have A2 := hide (am.base (C := w.heap.size + 3) (by have := (unhide C1).lt; omega))
  have B2 := hide ((unhide B1).past hg2 (Nat.le_refl _))
  clear P am hc2 hg2 B1 C1
  have P := hide (draw6_any (w.heap.size + 2) a len cap xs w2 (unhide C2))
  go_wp2_with fail
  refine (unhide P).mono ?_
  rintro e w3 ⟨r, p, rfl, hc2, hg2⟩
  have C3 := hide hc2
  have A3 := hide ((unhide A2).past hg2 (fun b e => by cases e; omega))
  have B3 := hide ((unhide B2).past hg2 (Nat.le_refl _))
  clear P hc2 hg2 B2 C2 A2
  have P := hide (num_any (w.heap.size + 2) a len cap xs w3 (unhide C3))
  go_wp2_with fail
  refine (unhide P).mono ?_
  rintro e w4 ⟨n, rfl, hc2, hg2⟩
  have A4 := hide ((unhide A3).past hg2 (fun b e => by cases e; omega))
  have B4 := hide ((unhide B3).past hg2 (Nat.le_refl _))
  clear P hc2 hg2 B3 C3 A3
  go_wp2_with (first | (refine wpList_store_row rfl 28 _ _ rfl w.heap.size x.cs rfl rfl 28 zMv.cs (unhide B4).rm (by kernel_rfl) rfl (Mv.cs_one _) ?_) | (refine wpList_store_row rfl 44 _ _ rfl (w.heap.size + 1) #[.int .i64 r, .int .i64 p] rfl rfl 44 #[.int .i64 0, .int .i64 0] ((unhide B4).rp2 x.cs) (by kernel_rfl) rfl (by simp [Value.oneCell']) ?_))
  obtain ⟨r1, r2, r3⟩ := (unhide B4).done x.cs #[.int .i64 r, .int .i64 p]
  refine bodyPost_ret (results_rr1 (P := Try.prog) rfl _ _ w.heap.size 28 x.cs (0, 0) _ rfl r1 Try.underlying28 rfl (by kernel_rfl) (w.heap.size + 1) 44 #[.int .i64 r, .int .i64 p] (0, 0) _ rfl r2 Try.underlying44 rfl (by kernel_rfl)) rfl ?_
  exact ⟨x, d, r, p, n, rfl, ((unhide A4).row (by omega) _).row (by omega) _, r3⟩
set_option maxHeartbeats 4000000 in
theorem drawP_any (a : Option Addr) (len cap : Nat) (xs : List UInt8) (w : World) (hl : xs.length = len) (hm : len ≤ 1048576) (hr : Rd w a xs) :
    Calls Try.prog 22 #[.slice a len cap] w fun e w' => ∃ (x : Mv) (d : Md) (o : Od), e = .returned (.tuple #[.agg x.cs, o.v]) ∧ Am w' (w.heap.size + 3) x d ∧ Below w.heap.size w w' := by
  have b0 := bw_new w #[.int .i64 0, .int .i64 0, .int .i64 0] 40
  have B0 := hide b0
  have P := hide (new_any a len cap xs ((w.alloc (.cells zMv.cs 28)).alloc (.cells #[.int .i64 0, .int .i64 0, .int .i64 0] 40)) hl hm (hr.later b0.bel))
  rw [show ((w.alloc (.cells zMv.cs 28)).alloc (.cells #[.int .i64 0, .int .i64 0, .int .i64 0] 40)).heap.size = w.heap.size + 2 by simp] at P
  clear hr b0
  go_enter Try.func22, Try.ntmps22
  go_wp2_with fail
  refine (unhide P).mono ?_
  rintro e w1 ⟨rfl, hc1, hb1⟩
  have C1 := hide hc1
  have B1 := hide ((unhide B0).later (by simpa using hb1))
  clear P hc1 hb1 B0
  have P := hide (any5_any (w.heap.size + 2) a len cap xs w1 (unhide C1))
  go_wp2_with fail
  refine (unhide P).mono ?_
  rintro e w2 ⟨x, d, rfl, am, hc2, hg2⟩
  have C2 := hide hc2
  have A2 := hide (am.base (C := w.heap.size + 3) (by have := (unhide C1).lt; omega))
  have B2 := hide ((unhide B1).past hg2 (Nat.le_refl _))
  clear P am hc2 hg2 B1 C1
  have S2 := hide (show w.heap.size + 2 ≤ w2.heap.size from (unhide B2).sz)
  have R2 := hide (unhide A2).rd
  have P := hide (opdD_any (w.heap.size + 2) a len cap xs (w2.alloc (.cells x.cs 28)) ((unhide C2).later (below_new w2 _)))
  have RX := hide (heap_alloc_last w2 (.cells x.cs 28))
  have A3 := hide ((unhide A2).later (below_new w2 (.cells x.cs 28)))
  have B3 := hide ((unhide B2).later (below_new w2 (.cells x.cs 28)))
  clear A2 B2
  go_wp2_with (refine wpList_store_new rfl 28 _ _ rfl x.cs rfl rfl _ (by kernel_rfl) rfl (Mv.cs_one _) ?_)
  refine (unhide P).mono ?_
  rintro e w3 ⟨⟨om, orr, ox⟩, -, rfl, hc2, hg2⟩
  unfold Od.v
  simp only
  have LC := hide (show w.heap.size + 2 < w2.heap.size from (unhide C2).lt)
  have RX3 := hide (row_past (unhide RX) hg2 (by have := unhide LC; omega))
  have S3 := hide (show w2.heap.size < w3.heap.size from row_lt (unhide RX3))
  have A4 := hide (((unhide A3).past hg2 (fun b e => by cases e; omega)).later (below_new w3 (.cells #[.int .i64 om, .int .i64 orr, .int .i64 ox] 40)))
  have B4 := hide (((unhide B3).past hg2 (Nat.le_refl _)).later (below_new w3 (.cells #[.int .i64 om, .int .i64 orr, .int .i64 ox] 40)))
  have RX4 := hide (row_lat (unhide RX3) (below_new w3 (.cells #[.int .i64 om, .int .i64 orr, .int .i64 ox] 40)))
  have RO4 := hide (heap_alloc_last w3 (.cells #[.int .i64 om, .int .i64 orr, .int .i64 ox] 40))
  have C4 := hide (hc2.later (below_new w3 (.cells #[.int .i64 om, .int .i64 orr, .int .i64 ox] 40)))
  clear P hc2 hg2 A3 B3 RX RX3 C2
  have P := hide (once_any (w.heap.size + 2) a len cap xs 10 _ (by omega) (unhide C4))
  go_wp2_with (refine wpList_store_new rfl 40 _ _ rfl #[.int .i64 om, .int .i64 orr, .int .i64 ox] rfl rfl _ (by kernel_rfl) rfl (by simp [Value.oneCell']) ?_)
  refine (unhide P).mono ?_
  rintro e w5 ⟨b, rfl, hc2, hg2⟩
  have A5 := hide ((unhide A4).past hg2 (fun b e => by cases e; omega))
  have B5 := hide ((unhide B4).past hg2 (Nat.le_refl _))
  have RX5 := hide (row_past (unhide RX4) hg2 (by have := unhide LC; omega))
  have RO5 := hide (row_past (unhide RO4) hg2 (by have := unhide LC; have := unhide S3; omega))
  have C5 := hide hc2
  clear P hc2 hg2 A4 B4 RX4 RO4 C4
  cases b
  · go_wp2_with fail
    refine wp_region_held_drew (S := fun v => v.heap[w2.heap.size]? = some (.cells x.cs 28 (0, 0)) ∧ v.heap[w3.heap.size]? = some (.cells #[.int .i64 om, .int .i64 orr, .int .i64 ox] 40 (0, 0))) (by kernel_rfl) ⟨row_lat (unhide RX5) below_drew, row_lat (unhide RO5) below_drew⟩ (fun hS => ?_)
    have HS := hide hS
    clear hS
    have AA := hide ((unhide A5).later (below_drew (w := w5)))
    have BB := hide ((unhide B5).later (below_drew (w := w5)))
    refine wpAnyH_take (i := 0) (v := .agg x.cs) rfl (by kernel_rfl) (by kernel_rfl) (by kernel_rfl) (fun _ _ _ h => h) (yields_load rfl 28 _ rfl w2.heap.size rfl 28 x.cs _ (fun w h => h.1) Try.underlying28 rfl (by kernel_rfl)) (unhide HS) ?_
    go_simp
    refine wpAnyH_take (i := 1) (v := .agg #[.int .i64 om, .int .i64 orr, .int .i64 ox]) rfl (by kernel_rfl) (by kernel_rfl) (by kernel_rfl) (fun _ _ _ h => h) (yields_load rfl 40 _ rfl w3.heap.size rfl 40 #[.int .i64 om, .int .i64 orr, .int .i64 ox] _ (fun w h => h.2) Try.underlying40 rfl (by kernel_rfl)) (unhide HS) ?_
    go_simp
    refine wpAnyH_ready (rs := [2]) (by kernel_rfl) (by simp) ?_
    refine AllReadyH.cons rfl (fun K2 hK => ?_) AllReadyH.nil
    rw [if_pos (by rfl)]
    refine wp_store_row 28 _ _ rfl w.heap.size x.cs rfl rfl 28 zMv.cs (unhide BB).rm (by kernel_rfl) rfl (Mv.cs_one _) ?_
    refine hK.out _ _ ⟨(setRow_other _ _ _ _ (by have := unhide S2; omega)).trans (unhide HS).1, (setRow_other _ _ _ _ (by have := unhide S2; have := unhide S3; omega)).trans (unhide HS).2⟩ (fun hS => ?_)
    clear HS
    have HS := hide hS
    clear hS hK K2
    go_simp
    refine wpAnyH_ready (rs := [3]) (by kernel_rfl) (by simp) ?_
    refine AllReadyH.cons rfl (fun K2 hK => ?_) AllReadyH.nil
    rw [if_pos (by rfl)]
    refine wp_store_row 40 _ _ rfl (w.heap.size + 1) #[.int .i64 om, .int .i64 orr, .int .i64 ox] rfl rfl 40 #[.int .i64 0, .int .i64 0, .int .i64 0] ((unhide BB).rp2 x.cs) (by kernel_rfl) rfl (by simp [Value.oneCell']) ?_
    refine hK.out _ _ ⟨(setRow_other _ _ _ _ (by have := unhide S2; omega)).trans (unhide HS).1, (setRow_other _ _ _ _ (by have := unhide S2; have := unhide S3; omega)).trans (unhide HS).2⟩ (fun hS => ?_)
    clear HS
    have HS := hide hS
    clear hS hK K2
    go_simp
    refine wpAnyH_done (by kernel_rfl) ?_ _
    clear HS
    go_wp2_with fail
    obtain ⟨r1, r2, r3⟩ := (unhide BB).done x.cs #[.int .i64 om, .int .i64 orr, .int .i64 ox]
    refine bodyPost_ret (results_rr (P := Try.prog) rfl _ _ w.heap.size 28 x.cs (0, 0) _ rfl r1 Try.underlying28 rfl (by kernel_rfl) (w.heap.size + 1) 40 #[.int .i64 om, .int .i64 orr, .int .i64 ox] (0, 0) _ rfl r2 Try.underlying40 rfl (by kernel_rfl)) rfl ?_
    exact ⟨x, d, ⟨om, orr, ox⟩, rfl, ((unhide AA).row (by omega) _).row (by omega) _, r3⟩
  · have P := hide (anyD_any (w.heap.size + 2) a len cap xs w5 (unhide C5))
    go_wp2_with fail
    refine (unhide P).mono ?_
    rintro e w6 ⟨⟨op, ⟨sm, sr, sx⟩, ⟨dm, dr, dx⟩, nn⟩, rfl, hc2, hg2⟩
    unfold Is.v
    simp only
    have A6 := hide (((unhide A5).past hg2 (fun b e => by cases e; omega)))
    have B6 := hide ((unhide B5).past hg2 (Nat.le_refl _))
    have RX6 := hide (row_past (unhide RX5) hg2 (by have := unhide LC; omega))
    have RO6 := hide (row_past (unhide RO5) hg2 (by have := unhide LC; have := unhide S3; omega))
    clear P hc2 hg2 A5 B5 RX5 RO5 C5
    have RX7 := hide ((setRow_other w6 w3.heap.size w2.heap.size #[.int .i64 dm, .int .i64 dr, .int .i64 dx] (by have := unhide S3; omega)).trans (unhide RX6))
    have RO7 := hide (setRow_heap w6 w3.heap.size _ #[.int .i64 dm, .int .i64 dr, .int .i64 dx] 40 _ (unhide RO6))
    have A7 := hide ((unhide A6).over (unhide R2) w3.heap.size (by have := unhide S3; omega) #[.int .i64 dm, .int .i64 dr, .int .i64 dx])
    have B7 := hide ((unhide B6).over w3.heap.size #[.int .i64 dm, .int .i64 dr, .int .i64 dx] (by have := unhide S2; have := unhide S3; omega))
    have hfd := field92 op sm sr sx dm dr dx nn w6
    go_wp2_with (refine wpList_store_row rfl 40 _ _ rfl w3.heap.size #[.int .i64 dm, .int .i64 dr, .int .i64 dx] rfl rfl 40 #[.int .i64 om, .int .i64 orr, .int .i64 ox] (unhide RO6) (by kernel_rfl) rfl (by simp [Value.oneCell']) ?_)
    refine wp_region_held_drew (S := fun v => v.heap[w2.heap.size]? = some (.cells x.cs 28 (0, 0)) ∧ v.heap[w3.heap.size]? = some (.cells #[.int .i64 dm, .int .i64 dr, .int .i64 dx] 40 (0, 0))) (by kernel_rfl) ⟨row_lat (unhide RX7) below_drew, row_lat (unhide RO7) below_drew⟩ (fun hS => ?_)
    have HS := hide hS
    clear hS
    have AA := hide ((unhide A7).later (below_drew (w := w6.setRow w3.heap.size #[.int .i64 dm, .int .i64 dr, .int .i64 dx])))
    have BB := hide ((unhide B7).later (below_drew (w := w6.setRow w3.heap.size #[.int .i64 dm, .int .i64 dr, .int .i64 dx])))
    refine wpAnyH_take (i := 0) (v := .agg x.cs) rfl (by kernel_rfl) (by kernel_rfl) (by kernel_rfl) (fun _ _ _ h => h) (yields_load rfl 28 _ rfl w2.heap.size rfl 28 x.cs _ (fun w h => h.1) Try.underlying28 rfl (by kernel_rfl)) (unhide HS) ?_
    go_simp
    refine wpAnyH_take (i := 1) (v := .agg #[.int .i64 dm, .int .i64 dr, .int .i64 dx]) rfl (by kernel_rfl) (by kernel_rfl) (by kernel_rfl) (fun _ _ _ h => h) (yields_load rfl 40 _ rfl w3.heap.size rfl 40 #[.int .i64 dm, .int .i64 dr, .int .i64 dx] _ (fun w h => h.2) Try.underlying40 rfl (by kernel_rfl)) (unhide HS) ?_
    go_simp
    refine wpAnyH_ready (rs := [2]) (by kernel_rfl) (by simp) ?_
    refine AllReadyH.cons rfl (fun K2 hK => ?_) AllReadyH.nil
    rw [if_pos (by rfl)]
    refine wp_store_row 28 _ _ rfl w.heap.size x.cs rfl rfl 28 zMv.cs (unhide BB).rm (by kernel_rfl) rfl (Mv.cs_one _) ?_
    refine hK.out _ _ ⟨(setRow_other _ _ _ _ (by have := unhide S2; omega)).trans (unhide HS).1, (setRow_other _ _ _ _ (by have := unhide S2; have := unhide S3; omega)).trans (unhide HS).2⟩ (fun hS => ?_)
    clear HS
    have HS := hide hS
    clear hS hK K2
    go_simp
    refine wpAnyH_ready (rs := [3]) (by kernel_rfl) (by simp) ?_
    refine AllReadyH.cons rfl (fun K2 hK => ?_) AllReadyH.nil
    rw [if_pos (by rfl)]
    refine wp_store_row 40 _ _ rfl (w.heap.size + 1) #[.int .i64 dm, .int .i64 dr, .int .i64 dx] rfl rfl 40 #[.int .i64 0, .int .i64 0, .int .i64 0] ((unhide BB).rp2 x.cs) (by kernel_rfl) rfl (by simp [Value.oneCell']) ?_
    refine hK.out _ _ ⟨(setRow_other _ _ _ _ (by have := unhide S2; omega)).trans (unhide HS).1, (setRow_other _ _ _ _ (by have := unhide S2; have := unhide S3; omega)).trans (unhide HS).2⟩ (fun hS => ?_)
    clear HS
    have HS := hide hS
    clear hS hK K2
    go_simp
    refine wpAnyH_done (by kernel_rfl) ?_ _
    clear HS
    go_wp2_with fail
    obtain ⟨r1, r2, r3⟩ := (unhide BB).done x.cs #[.int .i64 dm, .int .i64 dr, .int .i64 dx]
    refine bodyPost_ret (results_rr (P := Try.prog) rfl _ _ w.heap.size 28 x.cs (0, 0) _ rfl r1 Try.underlying28 rfl (by kernel_rfl) (w.heap.size + 1) 40 #[.int .i64 dm, .int .i64 dr, .int .i64 dx] (0, 0) _ rfl r2 Try.underlying40 rfl (by kernel_rfl)) rfl ?_
    exact ⟨x, d, ⟨dm, dr, dx⟩, rfl, ((unhide AA).row (by omega) _).row (by omega) _, r3⟩
end Go.Proofs.Ytfkmibgamkignaa
