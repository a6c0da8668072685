/- Contracts over this seat's translation, laid together; conditions stand as hypotheses of each. -/
import Derived.Test.YtkolflcjkofleaaDoorTxB
import Derived.Test.YtkolflcjkofleaaDoorTxD
import Derived.Test.YtkolflcjkofleaaDoorTxF
import Derived.Test.YtkolflcjkofleaaDoorTxI
import Derived.OwnWalk
import Derived.Laws.MakeOwn
import Derived.Deep.LoopGhost
import Derived.Deep.CutRange

namespace Go.Proofs.YtkolflcjkofleaaDoor
open Go.ChangeShapes Go.WideShapes Go.ChangeAt Go.RowKit
set_option linter.unusedVariables false
set_option maxRecDepth 8000
set_option linter.unusedSimpArgs false

theorem ct_szF (e : Ex) : e.ct ≤ e.sz := by
  induction e using Ex.ind with
  | h k n s l ih =>
    rw [Ex.ct, Ex.sz_eq]
    have : (l.map Ex.ct).sum ≤ (l.map Ex.sz).sum := by
      clear k n s
      induction l with
      | nil => simp
      | cons x r ihr =>
        have h1 := ih x List.mem_cons_self
        have h2 := ihr (fun y hy => ih y (List.mem_cons_of_mem _ hy))
        simp only [List.map_cons, List.sum_cons]
        omega
    omega
theorem put_szM {here : Ex} {L : List ByteArray} {vals : List Ex} {M : Nat} (hh : here.sz ≤ M) (hv : ∀ i, (xAt vals i).sz ≤ M) (e : Ex) : (putX here L vals e).sz ≤ e.sz + (1 + e.ct) * M := by
  induction e using Ex.ind with
  | h k n s l ih =>
    rw [putX_eq]
    have hM : M ≤ (1 + (Ex.mk k n s l).ct) * M := Nat.le_mul_of_pos_left _ (by omega)
    unfold putC
    split
    · omega
    · split
      · have := hv (atV L s).toNat; omega
      · rw [Ex.sz_eq, Ex.sz_eq, Ex.ct, List.length_map]
        have : ((l.map (putX here L vals)).map Ex.sz).sum ≤ (l.map Ex.sz).sum + (l.length + (l.map Ex.ct).sum) * M := by
          clear hM
          induction l with
          | nil => simp
          | cons x r ihr =>
            have h1 := ih x List.mem_cons_self
            have h2 := ihr (fun y hy => ih y (List.mem_cons_of_mem _ hy))
            simp only [List.map_cons, List.sum_cons, List.length_cons]
            have e1 : (r.length + 1 + (x.ct + (r.map Ex.ct).sum)) * M = (1 + x.ct) * M + (r.length + (r.map Ex.ct).sum) * M := by rw [← Nat.add_mul]; congr 1; omega
            omega
        have e2 : (1 + (l.length + (l.map Ex.ct).sum)) * M = M + (l.length + (l.map Ex.ct).sum) * M := by rw [Nat.add_mul, Nat.one_mul]
        omega
def flV : List Ex := [⟨1, 7, ⟨#[]⟩, []⟩, ⟨11, 0, ⟨#[]⟩, []⟩, ⟨12, 0, ⟨#[103]⟩, []⟩]
def flH : Ex := ⟨11, 1, ⟨#[]⟩, []⟩
def flL : List ByteArray := [⟨#[97]⟩, ⟨#[98]⟩, ⟨#[99]⟩]
theorem flV_sz : ∀ i, (xAt flV i).sz ≤ 1 := by
  intro i
  match i with
  | 0 => show (Ex.mk 1 7 ⟨#[]⟩ []).sz ≤ 1; rw [sz_leaf]; decide
  | 1 => show (Ex.mk 11 0 ⟨#[]⟩ []).sz ≤ 1; rw [sz_leaf]; decide
  | 2 => show (Ex.mk 12 0 ⟨#[103]⟩ []).sz ≤ 1; rw [sz_leaf]; decide
  | (i + 3) => show (Ex.mk 0 0 ⟨#[]⟩ []).sz ≤ 1; rw [sz_leaf]; decide
theorem flH_sz : flH.sz ≤ 1 := by unfold flH; rw [sz_leaf]; decide
theorem fl_pk : Pk flH flL flV := ⟨Nat.le_trans flH_sz (by decide), by decide, fun i _ => Nat.le_trans (flV_sz i) (by decide), rfl⟩
theorem fl_pv {w : World} {gn gv : Nat} {t u : TypeId} (hn : w.heap[gn]? = some (.cells #[.string ⟨#[97]⟩, .string ⟨#[98]⟩, .string ⟨#[99]⟩] t (0, 0))) (hv : w.heap[gv]? = some (.cells #[.int .i64 1, .int .i64 7, .string ⟨#[]⟩, .slice none 0 0, .int .i64 11, .int .i64 0, .string ⟨#[]⟩, .slice none 0 0, .int .i64 12, .int .i64 0, .string ⟨#[103]⟩, .slice none 0 0] u (0, 0))) : Pv w flH none gn flL (some ⟨gv, 0, none⟩) flV := by
  refine ⟨(RdX_eq _ _ _ _).2 (.inl rfl), fun j hj => ?_, (Array.getElem?_eq_some_iff.1 hn).1, (RdX_eq _ _ _ _).2 (.inr ⟨gv, 0, rfl, Nat.zero_le _, (Array.getElem?_eq_some_iff.1 hv).1, fun i hi => ?_⟩)⟩
  · have hj : j < 3 := hj
    have : j = 0 ∨ j = 1 ∨ j = 2 := by omega
    rcases this with rfl | rfl | rfl <;> exact Lib.cell_of_heap hn _
  · have hi : i < 3 := hi
    have lf : ∀ (k n : Int) (s : ByteArray), RdX w 0 ⟨k, n, s, []⟩ none := fun k n s => (RdX_eq _ _ _ _).2 (.inl rfl)
    have : i = 0 ∨ i = 1 ∨ i = 2 := by omega
    rcases this with rfl | rfl | rfl
    · exact ⟨Lib.cell_of_heap hv 0, Lib.cell_of_heap hv 1, Lib.cell_of_heap hv 2, none, 0, Lib.cell_of_heap hv 3, lf _ _ _⟩
    · exact ⟨Lib.cell_of_heap hv 4, Lib.cell_of_heap hv 5, Lib.cell_of_heap hv 6, none, 0, Lib.cell_of_heap hv 7, lf _ _ _⟩
    · exact ⟨Lib.cell_of_heap hv 8, Lib.cell_of_heap hv 9, Lib.cell_of_heap hv 10, none, 0, Lib.cell_of_heap hv 11, lf _ _ _⟩
theorem flPut (x : Ex) (hz : x.sz ≤ 1100000) (c : Option Addr) (cp gn gv : Nat) (w : World) (t u : TypeId) (hr : RdX w 0 x c) (hn : w.heap[gn]? = some (.cells #[.string ⟨#[97]⟩, .string ⟨#[98]⟩, .string ⟨#[99]⟩] t (0, 0))) (hv : w.heap[gv]? = some (.cells #[.int .i64 1, .int .i64 7, .string ⟨#[]⟩, .slice none 0 0, .int .i64 11, .int .i64 0, .string ⟨#[]⟩, .slice none 0 0, .int .i64 12, .int .i64 0, .string ⟨#[103]⟩, .slice none 0 0] u (0, 0))) : Calls Tryd.prog 54 #[.agg #[.int .i64 x.k, .int .i64 x.n, .string x.s, .slice c x.l.length cp], .agg #[.int .i64 11, .int .i64 1, .string ⟨#[]⟩, .slice none 0 0], .slice (some ⟨gn, 0, none⟩) 3 3, .slice (some ⟨gv, 0, none⟩) 3 3] w (GiR (putX flH flL flV x) (Up w) w) :=
  putS_any flH flL flV fl_pk x hz c none (some ⟨gv, 0, none⟩) cp 0 gn 3 w hr (fl_pv hn hv)
theorem two_resF (w : World) (o o2 : Obj) : Below w.heap.size w ((w.alloc o).alloc o2) ∧ ((w.alloc o).alloc o2).heap[w.heap.size]? = some o ∧ ((w.alloc o).alloc o2).heap[w.heap.size + 1]? = some o2 ∧ ((w.alloc o).alloc o2).heap.size = w.heap.size + 2 := by
  have h1 : (w.alloc o).heap.size = w.heap.size + 1 := by simp
  refine ⟨((Below.refl _ _).alloc (Nat.le_refl _) _).alloc (by simp) _, row_keep (heap_alloc_new w _) (below_new _ _), ?_, by simp⟩
  rw [← h1]
  exact Array.getElem?_push_size
set_option maxHeartbeats 16000000 in
theorem flatD (d : Nat) (hd : d ≤ 4) (hsz : szD d ≤ 1000) (ih : DrP d) (cb : Nat) (a : Option Addr) (len cap : Nat) (xs : List UInt8) (w : World) (hc : Cur w cb a len cap xs) : Calls Tryd.prog 44 #[.pointer (some ⟨cb, 0, none⟩), .int .i64 (d : Nat)] w (DrX (2 * szD d + 1) cb a len cap xs w) := by
  have IH := hide (fun wr (h : Cur wr cb a len cap xs) => ih d rfl false cb a len cap xs wr h)
  unfold DrX at IH
  obtain ⟨b0, r0, h0, z0⟩ := two_resF w (.cells #[.int .i64 0, .int .i64 0, .string ⟨#[]⟩, .slice none 0 0] 26) (.cells #[.int .i64 11, .int .i64 1, .string ⟨#[]⟩, .slice none 0 0] 26)
  have D0 := hide ((dz_new hc).later b0)
  have RS0 := hide r0
  have HB0 := hide h0
  have hlc := hc.lt
  have SZ0 := hide z0
  generalize hX : DrX (2 * szD d + 1) cb a len cap xs w = X
  have HX := hide hX
  generalize szD d = zd at *
  clear hc hX ih b0 r0 h0 z0
  go_enter Tryd.func44, Tryd.ntmps44
  go_wp2_with fail
  generalize (w.alloc (.cells #[.int .i64 0, .int .i64 0, .string ⟨#[]⟩, .slice none 0 0] 26)).alloc (.cells #[.int .i64 11, .int .i64 1, .string ⟨#[]⟩, .slice none 0 0] 26) = W at *
  have D1 := hide ((unhide D0).later (below_drew (w := W)))
  have RS1 := hide (row_keep (unhide RS0) (below_drew (w := W)))
  have HB1 := hide (row_keep (unhide HB0) (below_drew (w := W)))
  have LT1 := hide (show w.heap.size + 2 ≤ W.drew.heap.size from Nat.le_of_eq (unhide SZ0).symm)
  refine wp_region_held_drew (S := fun v => v.heap[w.heap.size + 1]? = some (.cells #[.int .i64 11, .int .i64 1, .string ⟨#[]⟩, .slice none 0 0] 26 (0, 0))) (by kernel_rfl) (unhide HB1) (fun hS => ?_)
  have HS := hide hS
  clear hS D0 RS0 HB0 SZ0
  generalize W.drew = w1 at *
  refine wpAnyH_take (i := 0) (v := .pointer (some ⟨cb, 0, none⟩)) rfl (by kernel_rfl) (by kernel_rfl) (by kernel_rfl) (fun _ _ _ h => h) (Or.inl ⟨by rfl, fun w hc => ?_⟩) (unhide HS) ?_
  · clear hc; go_simp
  go_simp
  refine wpAnyH_take (i := 1) (v := .int .i64 (d : Nat)) rfl (by kernel_rfl) (by kernel_rfl) (by kernel_rfl) (fun _ _ _ h => h) (Or.inl ⟨by rfl, fun w hc => ?_⟩) (unhide HS) ?_
  · clear hc; go_simp
  go_simp
  refine wpAnyH_take (i := 3) (v := .agg #[.int .i64 11, .int .i64 1, .string ⟨#[]⟩, .slice none 0 0]) rfl (by kernel_rfl) (by kernel_rfl) (by kernel_rfl) (fun _ _ _ h => h) (yields_loadG (by rfl) 26 _ rfl (w.heap.size + 1) rfl 26 #[.int .i64 11, .int .i64 1, .string ⟨#[]⟩, .slice none 0 0] _ (fun w h => h) Tryd.underlying26 rfl (by kernel_rfl)) (unhide HS) ?_
  go_simp
  refine wpAnyH_take (i := 6) (v := .agg #[.int .i64 11, .int .i64 0, .string ⟨#[]⟩, .slice none 0 0]) rfl (by kernel_rfl) (by kernel_rfl) (by kernel_rfl) (fun _ _ _ h => h) (Or.inl ⟨by rfl, fun w hc => ?_⟩) (unhide HS) ?_
  · clear hc; go_simp
  go_simp
  refine wpAnyH_take (i := 7) (v := .agg #[.int .i64 12, .int .i64 0, .string ⟨#[103]⟩, .slice none 0 0]) rfl (by kernel_rfl) (by kernel_rfl) (by kernel_rfl) (fun _ _ _ h => h) (Or.inl ⟨by rfl, fun w hc => ?_⟩) (unhide HS) ?_
  · clear hc; go_simp
  go_simp
  refine wpAnyH_ready (rs := [2, 4]) (by kernel_rfl) (by simp) ?_
  refine AllReadyH.cons rfl (fun K2 hK => ?_) (AllReadyH.cons rfl (fun K2 hK => ?_) AllReadyH.nil)
  · go_simp
    refine (unhide IH w1 (unhide D1).cur).mono ?_
    rintro r w2 ⟨x, c, cp, rfl, hsx, hnx, hcc, hgg⟩
    unfold Ex.cs
    have D2 := hide ((unhide D1).draw hcc hgg)
    have RS2 := hide ((unhide D1).blk hgg (unhide RS1) (Nat.le_refl _))
    have HB2 := hide ((unhide D1).blk hgg (unhide HB1) (Nat.le_succ _))
    have LT2 := hide (Nat.le_trans (unhide LT1) hgg.size)
    have X2 := hide (hnx.lower (unhide LT1))
    refine hK.out _ _ (unhide HB2) (fun hS => ?_)
    clear HS
    have HS := hide hS
    clear hS hK K2
    clear hnx hcc hgg D1 RS1 HB1 LT1 
    refine wpAnyH_ready (rs := [4, 5]) (by kernel_rfl) (by simp) ?_
    refine AllReadyH.cons rfl (fun K2 hK => ?_) (AllReadyH.cons rfl (fun K2 hK => ?_) AllReadyH.nil)
    · go_simp
      have hb := below_new w2 (.cells #[.string ⟨#[97]⟩, .string ⟨#[98]⟩, .string ⟨#[99]⟩] 9)
      have N3 := hide (show (w2.alloc (.cells #[.string ⟨#[97]⟩, .string ⟨#[98]⟩, .string ⟨#[99]⟩] 9)).heap[w2.heap.size]? = some (.cells #[.string ⟨#[97]⟩, .string ⟨#[98]⟩, .string ⟨#[99]⟩] 9 (0, 0)) from Array.getElem?_push_size)
      have LN := hide (show w.heap.size + 2 ≤ w2.heap.size from unhide LT2)
      have D3 := hide ((unhide D2).later hb)
      have RS3 := hide (row_keep (unhide RS2) hb)
      have HB3 := hide (row_keep (unhide HB2) hb)
      have LT3 := hide (Nat.le_trans (unhide LT2) hb.size)
      have X3 := hide ((unhide X2).later hb)
      refine hK.out _ _ (unhide HB3) (fun hS => ?_)
      clear HS
      have HS := hide hS
      clear hS hK K2
      clear hb D2 RS2 HB2 LT2 X2
      generalize w2.alloc (.cells #[.string ⟨#[97]⟩, .string ⟨#[98]⟩, .string ⟨#[99]⟩] 9) = w3 at *
      generalize w2.heap.size = gn at *
      refine wpAnyH_ready (rs := [5]) (by kernel_rfl) (by simp) ?_
      refine AllReadyH.cons rfl (fun K2 hK => ?_) AllReadyH.nil
      go_simp
      refine (numD 7 w3).mono ?_
      rintro r w4 ⟨rfl, hb⟩
      have D4 := hide ((unhide D3).later hb)
      have RS4 := hide (row_keep (unhide RS3) hb)
      have HB4 := hide (row_keep (unhide HB3) hb)
      have LT4 := hide (Nat.le_trans (unhide LT3) hb.size)
      have X4 := hide ((unhide X3).later hb)
      have N4 := hide (row_keep (unhide N3) hb)
      refine hK.out _ _ (unhide HB4) (fun hS => ?_)
      clear HS
      have HS := hide hS
      clear hS hK K2
      clear hb D3 RS3 HB3 LT3 X3 N3
      refine wpAnyH_ready (rs := [8]) (by kernel_rfl) (by simp) ?_
      refine AllReadyH.cons rfl (fun K2 hK => ?_) AllReadyH.nil
      go_simp
      have hb := below_new w4 (.cells #[.int .i64 1, .int .i64 7, .string ⟨#[]⟩, .slice none 0 0, .int .i64 11, .int .i64 0, .string ⟨#[]⟩, .slice none 0 0, .int .i64 12, .int .i64 0, .string ⟨#[103]⟩, .slice none 0 0] 26)
      have V5 := hide (show (w4.alloc (.cells #[.int .i64 1, .int .i64 7, .string ⟨#[]⟩, .slice none 0 0, .int .i64 11, .int .i64 0, .string ⟨#[]⟩, .slice none 0 0, .int .i64 12, .int .i64 0, .string ⟨#[103]⟩, .slice none 0 0] 26)).heap[w4.heap.size]? = some (.cells #[.int .i64 1, .int .i64 7, .string ⟨#[]⟩, .slice none 0 0, .int .i64 11, .int .i64 0, .string ⟨#[]⟩, .slice none 0 0, .int .i64 12, .int .i64 0, .string ⟨#[103]⟩, .slice none 0 0] 26 (0, 0)) from Array.getElem?_push_size)
      have LV := hide (show w.heap.size + 2 ≤ w4.heap.size from unhide LT4)
      have D5 := hide ((unhide D4).later hb)
      have RS5 := hide (row_keep (unhide RS4) hb)
      have HB5 := hide (row_keep (unhide HB4) hb)
      have LT5 := hide (Nat.le_trans (unhide LT4) hb.size)
      have X5 := hide ((unhide X4).later hb)
      have N5 := hide (row_keep (unhide N4) hb)
      refine hK.out _ _ (unhide HB5) (fun hS => ?_)
      clear HS
      have HS := hide hS
      clear hS hK K2
      clear hb D4 RS4 HB4 LT4 X4 N4
      generalize w4.alloc (.cells #[.int .i64 1, .int .i64 7, .string ⟨#[]⟩, .slice none 0 0, .int .i64 11, .int .i64 0, .string ⟨#[]⟩, .slice none 0 0, .int .i64 12, .int .i64 0, .string ⟨#[103]⟩, .slice none 0 0] 26) = w5 at *
      generalize w4.heap.size = gv at *
      refine wpAnyH_ready (rs := [9]) (by kernel_rfl) (by simp) ?_
      refine AllReadyH.cons rfl (fun K2 hK => ?_) AllReadyH.nil
      go_simp
      have PU := hide (flPut x (by omega) c cp gn gv w5 _ _ ((unhide X5).rd.lower (Nat.zero_le _) _ _) (unhide N5) (unhide V5))
      unfold GiR Ex.cs at PU
      have SY := hide (show (putX flH flL flV x).sz ≤ 2 * zd + 1 from Nat.le_trans (put_szM flH_sz flV_sz x) (by have := ct_szF x; omega))
      refine (unhide PU).mono ?_
      rintro r w6 ⟨c2, cp2, rfl, hnx, hb⟩
      generalize putX flH flL flV x = y at *
      have D6 := hide ((unhide D5).later hb)
      have RS6 := hide (row_keep (unhide RS5) hb)
      have HB6 := hide (row_keep (unhide HB5) hb)
      have Y6 := hide ((show NewX w6 w5.heap.size y c2 from hnx).lower (unhide LT5))
      refine hK.out _ _ (unhide HB6) (fun hS => ?_)
      clear HS
      have HS := hide hS
      clear hS hK K2
      clear hb hnx PU D5 RS5 HB5 LT5 X5 N5 V5
      refine wpAnyH_ready (rs := [10]) (by kernel_rfl) (by simp) ?_
      refine AllReadyH.cons rfl (fun K2 hK => ?_) AllReadyH.nil
      rw [if_pos (by rfl)]
      refine wp_store_row 26 _ _ rfl w.heap.size #[.int .i64 y.k, .int .i64 y.n, .string y.s, .slice c2 y.l.length cp2] rfl rfl 26 _ (unhide RS6) szE rfl (ex_one _ _ _ _ _ _) ?_
      refine hK.out _ _ ((setRow_other _ _ _ _ (by omega)).trans (unhide HB6)) (fun hS => ?_)
      clear HS
      have HS := hide hS
      clear hS hK K2
      refine wpAnyH_done (by kernel_rfl) ?_ _
      clear HS
      go_wp2
      refine bodyPost_ret (results_cell_row (P := Tryd.prog) rfl _ _ w.heap.size 26 #[.int .i64 y.k, .int .i64 y.n, .string y.s, .slice c2 y.l.length cp2] (0, 0) _ rfl (setRow_heap _ _ _ _ _ _ (unhide RS6)) Tryd.underlying26 rfl szE) rfl ?_
      rw [← unhide HX]
      exact ⟨y, c2, cp2, rfl, unhide SY, ((unhide Y6).row _ (by omega)).lower (by omega), ((unhide D6).row _).cur, ((unhide D6).row _).gr⟩
    · go_simp
      refine (numD 7 w2).mono ?_
      rintro r w3 ⟨rfl, hb⟩
      have D3 := hide ((unhide D2).later hb)
      have RS3 := hide (row_keep (unhide RS2) hb)
      have HB3 := hide (row_keep (unhide HB2) hb)
      have LT3 := hide (Nat.le_trans (unhide LT2) hb.size)
      have X3 := hide ((unhide X2).later hb)
      refine hK.out _ _ (unhide HB3) (fun hS => ?_)
      clear HS
      have HS := hide hS
      clear hS hK K2
      clear hb D2 RS2 HB2 LT2 X2
      refine wpAnyH_ready (rs := [4, 8]) (by kernel_rfl) (by simp) ?_
      refine AllReadyH.cons rfl (fun K2 hK => ?_) (AllReadyH.cons rfl (fun K2 hK => ?_) AllReadyH.nil)
      · go_simp
        have hb := below_new w3 (.cells #[.string ⟨#[97]⟩, .string ⟨#[98]⟩, .string ⟨#[99]⟩] 9)
        have N4 := hide (show (w3.alloc (.cells #[.string ⟨#[97]⟩, .string ⟨#[98]⟩, .string ⟨#[99]⟩] 9)).heap[w3.heap.size]? = some (.cells #[.string ⟨#[97]⟩, .string ⟨#[98]⟩, .string ⟨#[99]⟩] 9 (0, 0)) from Array.getElem?_push_size)
        have LN := hide (show w.heap.size + 2 ≤ w3.heap.size from unhide LT3)
        have D4 := hide ((unhide D3).later hb)
        have RS4 := hide (row_keep (unhide RS3) hb)
        have HB4 := hide (row_keep (unhide HB3) hb)
        have LT4 := hide (Nat.le_trans (unhide LT3) hb.size)
        have X4 := hide ((unhide X3).later hb)
        refine hK.out _ _ (unhide HB4) (fun hS => ?_)
        clear HS
        have HS := hide hS
        clear hS hK K2
        clear hb D3 RS3 HB3 LT3 X3
        generalize w3.alloc (.cells #[.string ⟨#[97]⟩, .string ⟨#[98]⟩, .string ⟨#[99]⟩] 9) = w4 at *
        generalize w3.heap.size = gn at *
        refine wpAnyH_ready (rs := [8]) (by kernel_rfl) (by simp) ?_
        refine AllReadyH.cons rfl (fun K2 hK => ?_) AllReadyH.nil
        go_simp
        have hb := below_new w4 (.cells #[.int .i64 1, .int .i64 7, .string ⟨#[]⟩, .slice none 0 0, .int .i64 11, .int .i64 0, .string ⟨#[]⟩, .slice none 0 0, .int .i64 12, .int .i64 0, .string ⟨#[103]⟩, .slice none 0 0] 26)
        have V5 := hide (show (w4.alloc (.cells #[.int .i64 1, .int .i64 7, .string ⟨#[]⟩, .slice none 0 0, .int .i64 11, .int .i64 0, .string ⟨#[]⟩, .slice none 0 0, .int .i64 12, .int .i64 0, .string ⟨#[103]⟩, .slice none 0 0] 26)).heap[w4.heap.size]? = some (.cells #[.int .i64 1, .int .i64 7, .string ⟨#[]⟩, .slice none 0 0, .int .i64 11, .int .i64 0, .string ⟨#[]⟩, .slice none 0 0, .int .i64 12, .int .i64 0, .string ⟨#[103]⟩, .slice none 0 0] 26 (0, 0)) from Array.getElem?_push_size)
        have LV := hide (show w.heap.size + 2 ≤ w4.heap.size from unhide LT4)
        have D5 := hide ((unhide D4).later hb)
        have RS5 := hide (row_keep (unhide RS4) hb)
        have HB5 := hide (row_keep (unhide HB4) hb)
        have LT5 := hide (Nat.le_trans (unhide LT4) hb.size)
        have X5 := hide ((unhide X4).later hb)
        have N5 := hide (row_keep (unhide N4) hb)
        refine hK.out _ _ (unhide HB5) (fun hS => ?_)
        clear HS
        have HS := hide hS
        clear hS hK K2
        clear hb D4 RS4 HB4 LT4 X4 N4
        generalize w4.alloc (.cells #[.int .i64 1, .int .i64 7, .string ⟨#[]⟩, .slice none 0 0, .int .i64 11, .int .i64 0, .string ⟨#[]⟩, .slice none 0 0, .int .i64 12, .int .i64 0, .string ⟨#[103]⟩, .slice none 0 0] 26) = w5 at *
        generalize w4.heap.size = gv at *
        refine wpAnyH_ready (rs := [9]) (by kernel_rfl) (by simp) ?_
        refine AllReadyH.cons rfl (fun K2 hK => ?_) AllReadyH.nil
        go_simp
        have PU := hide (flPut x (by omega) c cp gn gv w5 _ _ ((unhide X5).rd.lower (Nat.zero_le _) _ _) (unhide N5) (unhide V5))
        unfold GiR Ex.cs at PU
        have SY := hide (show (putX flH flL flV x).sz ≤ 2 * zd + 1 from Nat.le_trans (put_szM flH_sz flV_sz x) (by have := ct_szF x; omega))
        refine (unhide PU).mono ?_
        rintro r w6 ⟨c2, cp2, rfl, hnx, hb⟩
        generalize putX flH flL flV x = y at *
        have D6 := hide ((unhide D5).later hb)
        have RS6 := hide (row_keep (unhide RS5) hb)
        have HB6 := hide (row_keep (unhide HB5) hb)
        have Y6 := hide ((show NewX w6 w5.heap.size y c2 from hnx).lower (unhide LT5))
        refine hK.out _ _ (unhide HB6) (fun hS => ?_)
        clear HS
        have HS := hide hS
        clear hS hK K2
        clear hb hnx PU D5 RS5 HB5 LT5 X5 N5 V5
        refine wpAnyH_ready (rs := [10]) (by kernel_rfl) (by simp) ?_
        refine AllReadyH.cons rfl (fun K2 hK => ?_) AllReadyH.nil
        rw [if_pos (by rfl)]
        refine wp_store_row 26 _ _ rfl w.heap.size #[.int .i64 y.k, .int .i64 y.n, .string y.s, .slice c2 y.l.length cp2] rfl rfl 26 _ (unhide RS6) szE rfl (ex_one _ _ _ _ _ _) ?_
        refine hK.out _ _ ((setRow_other _ _ _ _ (by omega)).trans (unhide HB6)) (fun hS => ?_)
        clear HS
        have HS := hide hS
        clear hS hK K2
        refine wpAnyH_done (by kernel_rfl) ?_ _
        clear HS
        go_wp2
        refine bodyPost_ret (results_cell_row (P := Tryd.prog) rfl _ _ w.heap.size 26 #[.int .i64 y.k, .int .i64 y.n, .string y.s, .slice c2 y.l.length cp2] (0, 0) _ rfl (setRow_heap _ _ _ _ _ _ (unhide RS6)) Tryd.underlying26 rfl szE) rfl ?_
        rw [← unhide HX]
        exact ⟨y, c2, cp2, rfl, unhide SY, ((unhide Y6).row _ (by omega)).lower (by omega), ((unhide D6).row _).cur, ((unhide D6).row _).gr⟩
      · go_simp
        have hb := below_new w3 (.cells #[.int .i64 1, .int .i64 7, .string ⟨#[]⟩, .slice none 0 0, .int .i64 11, .int .i64 0, .string ⟨#[]⟩, .slice none 0 0, .int .i64 12, .int .i64 0, .string ⟨#[103]⟩, .slice none 0 0] 26)
        have V4 := hide (show (w3.alloc (.cells #[.int .i64 1, .int .i64 7, .string ⟨#[]⟩, .slice none 0 0, .int .i64 11, .int .i64 0, .string ⟨#[]⟩, .slice none 0 0, .int .i64 12, .int .i64 0, .string ⟨#[103]⟩, .slice none 0 0] 26)).heap[w3.heap.size]? = some (.cells #[.int .i64 1, .int .i64 7, .string ⟨#[]⟩, .slice none 0 0, .int .i64 11, .int .i64 0, .string ⟨#[]⟩, .slice none 0 0, .int .i64 12, .int .i64 0, .string ⟨#[103]⟩, .slice none 0 0] 26 (0, 0)) from Array.getElem?_push_size)
        have LV := hide (show w.heap.size + 2 ≤ w3.heap.size from unhide LT3)
        have D4 := hide ((unhide D3).later hb)
        have RS4 := hide (row_keep (unhide RS3) hb)
        have HB4 := hide (row_keep (unhide HB3) hb)
        have LT4 := hide (Nat.le_trans (unhide LT3) hb.size)
        have X4 := hide ((unhide X3).later hb)
        refine hK.out _ _ (unhide HB4) (fun hS => ?_)
        clear HS
        have HS := hide hS
        clear hS hK K2
        clear hb D3 RS3 HB3 LT3 X3
        generalize w3.alloc (.cells #[.int .i64 1, .int .i64 7, .string ⟨#[]⟩, .slice none 0 0, .int .i64 11, .int .i64 0, .string ⟨#[]⟩, .slice none 0 0, .int .i64 12, .int .i64 0, .string ⟨#[103]⟩, .slice none 0 0] 26) = w4 at *
        generalize w3.heap.size = gv at *
        refine wpAnyH_ready (rs := [4]) (by kernel_rfl) (by simp) ?_
        refine AllReadyH.cons rfl (fun K2 hK => ?_) AllReadyH.nil
        go_simp
        have hb := below_new w4 (.cells #[.string ⟨#[97]⟩, .string ⟨#[98]⟩, .string ⟨#[99]⟩] 9)
        have N5 := hide (show (w4.alloc (.cells #[.string ⟨#[97]⟩, .string ⟨#[98]⟩, .string ⟨#[99]⟩] 9)).heap[w4.heap.size]? = some (.cells #[.string ⟨#[97]⟩, .string ⟨#[98]⟩, .string ⟨#[99]⟩] 9 (0, 0)) from Array.getElem?_push_size)
        have LN := hide (show w.heap.size + 2 ≤ w4.heap.size from unhide LT4)
        have D5 := hide ((unhide D4).later hb)
        have RS5 := hide (row_keep (unhide RS4) hb)
        have HB5 := hide (row_keep (unhide HB4) hb)
        have LT5 := hide (Nat.le_trans (unhide LT4) hb.size)
        have X5 := hide ((unhide X4).later hb)
        have V5 := hide (row_keep (unhide V4) hb)
        refine hK.out _ _ (unhide HB5) (fun hS => ?_)
        clear HS
        have HS := hide hS
        clear hS hK K2
        clear hb D4 RS4 HB4 LT4 X4 V4
        generalize w4.alloc (.cells #[.string ⟨#[97]⟩, .string ⟨#[98]⟩, .string ⟨#[99]⟩] 9) = w5 at *
        generalize w4.heap.size = gn at *
        refine wpAnyH_ready (rs := [9]) (by kernel_rfl) (by simp) ?_
        refine AllReadyH.cons rfl (fun K2 hK => ?_) AllReadyH.nil
        go_simp
        have PU := hide (flPut x (by omega) c cp gn gv w5 _ _ ((unhide X5).rd.lower (Nat.zero_le _) _ _) (unhide N5) (unhide V5))
        unfold GiR Ex.cs at PU
        have SY := hide (show (putX flH flL flV x).sz ≤ 2 * zd + 1 from Nat.le_trans (put_szM flH_sz flV_sz x) (by have := ct_szF x; omega))
        refine (unhide PU).mono ?_
        rintro r w6 ⟨c2, cp2, rfl, hnx, hb⟩
        generalize putX flH flL flV x = y at *
        have D6 := hide ((unhide D5).later hb)
        have RS6 := hide (row_keep (unhide RS5) hb)
        have HB6 := hide (row_keep (unhide HB5) hb)
        have Y6 := hide ((show NewX w6 w5.heap.size y c2 from hnx).lower (unhide LT5))
        refine hK.out _ _ (unhide HB6) (fun hS => ?_)
        clear HS
        have HS := hide hS
        clear hS hK K2
        clear hb hnx PU D5 RS5 HB5 LT5 X5 V5 N5
        refine wpAnyH_ready (rs := [10]) (by kernel_rfl) (by simp) ?_
        refine AllReadyH.cons rfl (fun K2 hK => ?_) AllReadyH.nil
        rw [if_pos (by rfl)]
        refine wp_store_row 26 _ _ rfl w.heap.size #[.int .i64 y.k, .int .i64 y.n, .string y.s, .slice c2 y.l.length cp2] rfl rfl 26 _ (unhide RS6) szE rfl (ex_one _ _ _ _ _ _) ?_
        refine hK.out _ _ ((setRow_other _ _ _ _ (by omega)).trans (unhide HB6)) (fun hS => ?_)
        clear HS
        have HS := hide hS
        clear hS hK K2
        refine wpAnyH_done (by kernel_rfl) ?_ _
        clear HS
        go_wp2
        refine bodyPost_ret (results_cell_row (P := Tryd.prog) rfl _ _ w.heap.size 26 #[.int .i64 y.k, .int .i64 y.n, .string y.s, .slice c2 y.l.length cp2] (0, 0) _ rfl (setRow_heap _ _ _ _ _ _ (unhide RS6)) Tryd.underlying26 rfl szE) rfl ?_
        rw [← unhide HX]
        exact ⟨y, c2, cp2, rfl, unhide SY, ((unhide Y6).row _ (by omega)).lower (by omega), ((unhide D6).row _).cur, ((unhide D6).row _).gr⟩
  · go_simp
    have hb := below_new w1 (.cells #[.string ⟨#[97]⟩, .string ⟨#[98]⟩, .string ⟨#[99]⟩] 9)
    have N2 := hide (show (w1.alloc (.cells #[.string ⟨#[97]⟩, .string ⟨#[98]⟩, .string ⟨#[99]⟩] 9)).heap[w1.heap.size]? = some (.cells #[.string ⟨#[97]⟩, .string ⟨#[98]⟩, .string ⟨#[99]⟩] 9 (0, 0)) from Array.getElem?_push_size)
    have LN := hide (show w.heap.size + 2 ≤ w1.heap.size from unhide LT1)
    have D2 := hide ((unhide D1).later hb)
    have RS2 := hide (row_keep (unhide RS1) hb)
    have HB2 := hide (row_keep (unhide HB1) hb)
    have LT2 := hide (Nat.le_trans (unhide LT1) hb.size)
    refine hK.out _ _ (unhide HB2) (fun hS => ?_)
    clear HS
    have HS := hide hS
    clear hS hK K2
    clear hb D1 RS1 HB1 LT1 
    generalize w1.alloc (.cells #[.string ⟨#[97]⟩, .string ⟨#[98]⟩, .string ⟨#[99]⟩] 9) = w2 at *
    generalize w1.heap.size = gn at *
    refine wpAnyH_ready (rs := [2]) (by kernel_rfl) (by simp) ?_
    refine AllReadyH.cons rfl (fun K2 hK => ?_) AllReadyH.nil
    go_simp
    refine (unhide IH w2 (unhide D2).cur).mono ?_
    rintro r w3 ⟨x, c, cp, rfl, hsx, hnx, hcc, hgg⟩
    unfold Ex.cs
    have D3 := hide ((unhide D2).draw hcc hgg)
    have RS3 := hide ((unhide D2).blk hgg (unhide RS2) (Nat.le_refl _))
    have HB3 := hide ((unhide D2).blk hgg (unhide HB2) (Nat.le_succ _))
    have LT3 := hide (Nat.le_trans (unhide LT2) hgg.size)
    have X3 := hide (hnx.lower (unhide LT2))
    have N3 := hide ((unhide D2).blk hgg (unhide N2) (by have := unhide LN; omega))
    refine hK.out _ _ (unhide HB3) (fun hS => ?_)
    clear HS
    have HS := hide hS
    clear hS hK K2
    clear hnx hcc hgg D2 RS2 HB2 LT2 N2
    refine wpAnyH_ready (rs := [5]) (by kernel_rfl) (by simp) ?_
    refine AllReadyH.cons rfl (fun K2 hK => ?_) AllReadyH.nil
    go_simp
    refine (numD 7 w3).mono ?_
    rintro r w4 ⟨rfl, hb⟩
    have D4 := hide ((unhide D3).later hb)
    have RS4 := hide (row_keep (unhide RS3) hb)
    have HB4 := hide (row_keep (unhide HB3) hb)
    have LT4 := hide (Nat.le_trans (unhide LT3) hb.size)
    have N4 := hide (row_keep (unhide N3) hb)
    have X4 := hide ((unhide X3).later hb)
    refine hK.out _ _ (unhide HB4) (fun hS => ?_)
    clear HS
    have HS := hide hS
    clear hS hK K2
    clear hb D3 RS3 HB3 LT3 N3 X3
    refine wpAnyH_ready (rs := [8]) (by kernel_rfl) (by simp) ?_
    refine AllReadyH.cons rfl (fun K2 hK => ?_) AllReadyH.nil
    go_simp
    have hb := below_new w4 (.cells #[.int .i64 1, .int .i64 7, .string ⟨#[]⟩, .slice none 0 0, .int .i64 11, .int .i64 0, .string ⟨#[]⟩, .slice none 0 0, .int .i64 12, .int .i64 0, .string ⟨#[103]⟩, .slice none 0 0] 26)
    have V5 := hide (show (w4.alloc (.cells #[.int .i64 1, .int .i64 7, .string ⟨#[]⟩, .slice none 0 0, .int .i64 11, .int .i64 0, .string ⟨#[]⟩, .slice none 0 0, .int .i64 12, .int .i64 0, .string ⟨#[103]⟩, .slice none 0 0] 26)).heap[w4.heap.size]? = some (.cells #[.int .i64 1, .int .i64 7, .string ⟨#[]⟩, .slice none 0 0, .int .i64 11, .int .i64 0, .string ⟨#[]⟩, .slice none 0 0, .int .i64 12, .int .i64 0, .string ⟨#[103]⟩, .slice none 0 0] 26 (0, 0)) from Array.getElem?_push_size)
    have LV := hide (show w.heap.size + 2 ≤ w4.heap.size from unhide LT4)
    have D5 := hide ((unhide D4).later hb)
    have RS5 := hide (row_keep (unhide RS4) hb)
    have HB5 := hide (row_keep (unhide HB4) hb)
    have LT5 := hide (Nat.le_trans (unhide LT4) hb.size)
    have N5 := hide (row_keep (unhide N4) hb)
    have X5 := hide ((unhide X4).later hb)
    refine hK.out _ _ (unhide HB5) (fun hS => ?_)
    clear HS
    have HS := hide hS
    clear hS hK K2
    clear hb D4 RS4 HB4 LT4 N4 X4
    generalize w4.alloc (.cells #[.int .i64 1, .int .i64 7, .string ⟨#[]⟩, .slice none 0 0, .int .i64 11, .int .i64 0, .string ⟨#[]⟩, .slice none 0 0, .int .i64 12, .int .i64 0, .string ⟨#[103]⟩, .slice none 0 0] 26) = w5 at *
    generalize w4.heap.size = gv at *
    refine wpAnyH_ready (rs := [9]) (by kernel_rfl) (by simp) ?_
    refine AllReadyH.cons rfl (fun K2 hK => ?_) AllReadyH.nil
    go_simp
    have PU := hide (flPut x (by omega) c cp gn gv w5 _ _ ((unhide X5).rd.lower (Nat.zero_le _) _ _) (unhide N5) (unhide V5))
    unfold GiR Ex.cs at PU
    have SY := hide (show (putX flH flL flV x).sz ≤ 2 * zd + 1 from Nat.le_trans (put_szM flH_sz flV_sz x) (by have := ct_szF x; omega))
    refine (unhide PU).mono ?_
    rintro r w6 ⟨c2, cp2, rfl, hnx, hb⟩
    generalize putX flH flL flV x = y at *
    have D6 := hide ((unhide D5).later hb)
    have RS6 := hide (row_keep (unhide RS5) hb)
    have HB6 := hide (row_keep (unhide HB5) hb)
    have Y6 := hide ((show NewX w6 w5.heap.size y c2 from hnx).lower (unhide LT5))
    refine hK.out _ _ (unhide HB6) (fun hS => ?_)
    clear HS
    have HS := hide hS
    clear hS hK K2
    clear hb hnx PU D5 RS5 HB5 LT5 N5 X5 V5
    refine wpAnyH_ready (rs := [10]) (by kernel_rfl) (by simp) ?_
    refine AllReadyH.cons rfl (fun K2 hK => ?_) AllReadyH.nil
    rw [if_pos (by rfl)]
    refine wp_store_row 26 _ _ rfl w.heap.size #[.int .i64 y.k, .int .i64 y.n, .string y.s, .slice c2 y.l.length cp2] rfl rfl 26 _ (unhide RS6) szE rfl (ex_one _ _ _ _ _ _) ?_
    refine hK.out _ _ ((setRow_other _ _ _ _ (by omega)).trans (unhide HB6)) (fun hS => ?_)
    clear HS
    have HS := hide hS
    clear hS hK K2
    refine wpAnyH_done (by kernel_rfl) ?_ _
    clear HS
    go_wp2
    refine bodyPost_ret (results_cell_row (P := Tryd.prog) rfl _ _ w.heap.size 26 #[.int .i64 y.k, .int .i64 y.n, .string y.s, .slice c2 y.l.length cp2] (0, 0) _ rfl (setRow_heap _ _ _ _ _ _ (unhide RS6)) Tryd.underlying26 rfl szE) rfl ?_
    rw [← unhide HX]
    exact ⟨y, c2, cp2, rfl, unhide SY, ((unhide Y6).row _ (by omega)).lower (by omega), ((unhide D6).row _).cur, ((unhide D6).row _).gr⟩
end Go.Proofs.YtkolflcjkofleaaDoor

namespace Go.Proofs.YtkolflcjkofleaaDoor
open Go.ChangeShapes Go.WideShapes Go.ChangeAt Go.RowKit
set_option linter.unusedVariables false
set_option maxRecDepth 8000
set_option linter.unusedSimpArgs false

set_option maxHeartbeats 4000000 in
theorem drawFold_any (a : Option Addr) (len cap : Nat) (xs : List UInt8) (w : World) (hl : xs.length = len) (hm : len ≤ 1048576) (hr : Rd w a xs) :
    Calls Tryd.prog 11 #[.slice a len cap] w fun r w' => ∃ (e : Ex) (c : Option Addr) (cp : Nat), r = .returned (.agg (e.cs c cp)) ∧ e.sz ≤ 1000 ∧ NewX w' w.heap.size e c ∧ Below w.heap.size w w' := by
  have B0 := hide (below_new w (.cells #[.int .i64 0, .int .i64 0, .string ⟨#[]⟩, .slice none 0 0] 26))
  have R0 := hide (heap_alloc_new w (.cells #[.int .i64 0, .int .i64 0, .string ⟨#[]⟩, .slice none 0 0] 26))
  have hZ0 : (w.alloc (.cells #[.int .i64 0, .int .i64 0, .string ⟨#[]⟩, .slice none 0 0] 26)).heap.size = w.heap.size + 1 := by simp
  have N0 := hide (new_any a len cap xs (w.alloc (.cells #[.int .i64 0, .int .i64 0, .string ⟨#[]⟩, .slice none 0 0] 26)) hl hm (hr.later (unhide B0)))
  have HZ := hide hZ0
  clear hr hZ0
  go_enter Tryd.func11, Tryd.ntmps11
  go_wp2_with fail
  generalize w.alloc (.cells #[.int .i64 0, .int .i64 0, .string ⟨#[]⟩, .slice none 0 0] 26) = W at *
  refine (unhide N0).mono ?_
  rintro e w1 ⟨rfl, hc1, hb1⟩
  have R1 := hide ((hb1.block _ (Array.getElem?_eq_some_iff.1 (unhide R0)).1).trans (unhide R0))
  have B1 := hide ((unhide B0).trans (hb1.mono (unhide B0).size))
  have o1 : w.heap.size < W.heap.size := by have := unhide HZ; omega
  have hs1 := hb1.size
  have ON := hide (once_any W.heap.size a len cap xs 4 w1 (by omega) hc1)
  generalize W.heap.size = cb at *
  clear hc1 hb1 N0 R0 B0 HZ
  go_wp2_with fail
  refine (unhide ON).mono ?_
  rintro e w2 ⟨q, rfl, hc2, hg2⟩
  have B2 := hide ((unhide B1).grown hg2 (unhide B1).size (fun k e => by cases e; omega))
  have R2 := hide ((hg2.block _ (Array.getElem?_eq_some_iff.1 (unhide R1)).1 (fun e => by simp at e; omega)).trans (unhide R1))
  have hs2 := hg2.size
  have C2 := hide hc2
  clear hc2 hg2 B1 R1 ON
  cases q
  · have AD := hide (flatD 4 (by omega) (by decide) drawX4 cb a len cap xs w2 (unhide C2))
    have e93 : 2 * szD 4 + 1 = 93 := by decide
    rw [e93] at AD
    unfold DrX at AD
    clear C2 e93
    go_wp2_with fail
    refine (unhide AD).mono ?_
    rintro e w3 ⟨x, c, cp, rfl, hsx, hnx, hc3, hg3⟩
    have B3 := hide ((unhide B2).grown hg3 (unhide B2).size (fun k e => by cases e; omega))
    have R3 := hide ((hg3.block _ (Array.getElem?_eq_some_iff.1 (unhide R2)).1 (fun e => by simp at e; omega)).trans (unhide R2))
    have X3 := hide (hnx.lower (show w.heap.size + 1 ≤ w2.heap.size by omega))
    unfold Ex.cs
    clear hnx hc3 hg3 B2 R2 AD
    go_wp2_with (refine wpList_store_row rfl 26 _ _ rfl w.heap.size #[.int .i64 x.k, .int .i64 x.n, .string x.s, .slice c x.l.length cp] rfl rfl 26 _ (unhide R3) szE rfl (ex_one _ _ _ _ _ _) ?_)
    refine bodyPost_ret (results_cell_row (P := Tryd.prog) rfl _ _ w.heap.size 26 #[.int .i64 x.k, .int .i64 x.n, .string x.s, .slice c x.l.length cp] (0, 0) _ rfl (setRow_heap _ _ _ _ _ _ (unhide R3)) Tryd.underlying26 rfl szE) rfl ?_
    exact ⟨x, c, cp, rfl, by omega, ((unhide X3).row _ (Nat.lt_succ_self _)).lower (Nat.le_succ _), (unhide B3).grown (grownBy_row _) (unhide B3).size (fun k e => by cases e; exact Nat.le_refl _)⟩
  · have AD := hide (anyD cb a len cap xs w2 (unhide C2))
    unfold DrX at AD
    clear C2
    go_wp2_with fail
    refine (unhide AD).mono ?_
    rintro e w3 ⟨x, c, cp, rfl, hsx, hnx, hc3, hg3⟩
    have B3 := hide ((unhide B2).grown hg3 (unhide B2).size (fun k e => by cases e; omega))
    have R3 := hide ((hg3.block _ (Array.getElem?_eq_some_iff.1 (unhide R2)).1 (fun e => by simp at e; omega)).trans (unhide R2))
    have X3 := hide (hnx.lower (show w.heap.size + 1 ≤ w2.heap.size by omega))
    unfold Ex.cs
    clear hnx hc3 hg3 B2 R2 AD
    go_wp2_with (refine wpList_store_row rfl 26 _ _ rfl w.heap.size #[.int .i64 x.k, .int .i64 x.n, .string x.s, .slice c x.l.length cp] rfl rfl 26 _ (unhide R3) szE rfl (ex_one _ _ _ _ _ _) ?_)
    refine bodyPost_ret (results_cell_row (P := Tryd.prog) rfl _ _ w.heap.size 26 #[.int .i64 x.k, .int .i64 x.n, .string x.s, .slice c x.l.length cp] (0, 0) _ rfl (setRow_heap _ _ _ _ _ _ (unhide R3)) Tryd.underlying26 rfl szE) rfl ?_
    exact ⟨x, c, cp, rfl, by omega, ((unhide X3).row _ (Nat.lt_succ_self _)).lower (Nat.le_succ _), (unhide B3).grown (grownBy_row _) (unhide B3).size (fun k e => by cases e; exact Nat.le_refl _)⟩
def knV : List Ex := [⟨1, 7, ⟨#[]⟩, []⟩, ⟨1, 65535, ⟨#[]⟩, []⟩, ⟨1, 0, ⟨#[]⟩, []⟩]
def knH : Ex := ⟨1, 100, ⟨#[]⟩, []⟩
theorem knV_sz : ∀ i, (xAt knV i).sz ≤ 1 := by
  intro i
  match i with
  | 0 => show (Ex.mk 1 7 ⟨#[]⟩ []).sz ≤ 1; rw [sz_leaf]; decide
  | 1 => show (Ex.mk 1 65535 ⟨#[]⟩ []).sz ≤ 1; rw [sz_leaf]; decide
  | 2 => show (Ex.mk 1 0 ⟨#[]⟩ []).sz ≤ 1; rw [sz_leaf]; decide
  | (i + 3) => show (Ex.mk 0 0 ⟨#[]⟩ []).sz ≤ 1; rw [sz_leaf]; decide
theorem knH_sz : knH.sz ≤ 1 := by unfold knH; rw [sz_leaf]; decide
theorem kn_pk : Pk knH flL knV := ⟨Nat.le_trans knH_sz (by decide), by decide, fun i _ => Nat.le_trans (knV_sz i) (by decide), rfl⟩
theorem kn_pv {w : World} {gn gv : Nat} {t u : TypeId} (hn : w.heap[gn]? = some (.cells #[.string ⟨#[97]⟩, .string ⟨#[98]⟩, .string ⟨#[99]⟩] t (0, 0))) (hv : w.heap[gv]? = some (.cells #[.int .i64 1, .int .i64 7, .string ⟨#[]⟩, .slice none 0 0, .int .i64 1, .int .i64 65535, .string ⟨#[]⟩, .slice none 0 0, .int .i64 1, .int .i64 0, .string ⟨#[]⟩, .slice none 0 0] u (0, 0))) : Pv w knH none gn flL (some ⟨gv, 0, none⟩) knV := by
  refine ⟨(RdX_eq _ _ _ _).2 (.inl rfl), fun j hj => ?_, (Array.getElem?_eq_some_iff.1 hn).1, (RdX_eq _ _ _ _).2 (.inr ⟨gv, 0, rfl, Nat.zero_le _, (Array.getElem?_eq_some_iff.1 hv).1, fun i hi => ?_⟩)⟩
  · have hj : j < 3 := hj
    have : j = 0 ∨ j = 1 ∨ j = 2 := by omega
    rcases this with rfl | rfl | rfl <;> exact Lib.cell_of_heap hn _
  · have hi : i < 3 := hi
    have lf : ∀ (k n : Int) (s : ByteArray), RdX w 0 ⟨k, n, s, []⟩ none := fun k n s => (RdX_eq _ _ _ _).2 (.inl rfl)
    have : i = 0 ∨ i = 1 ∨ i = 2 := by omega
    rcases this with rfl | rfl | rfl
    · exact ⟨Lib.cell_of_heap hv 0, Lib.cell_of_heap hv 1, Lib.cell_of_heap hv 2, none, 0, Lib.cell_of_heap hv 3, lf _ _ _⟩
    · exact ⟨Lib.cell_of_heap hv 4, Lib.cell_of_heap hv 5, Lib.cell_of_heap hv 6, none, 0, Lib.cell_of_heap hv 7, lf _ _ _⟩
    · exact ⟨Lib.cell_of_heap hv 8, Lib.cell_of_heap hv 9, Lib.cell_of_heap hv 10, none, 0, Lib.cell_of_heap hv 11, lf _ _ _⟩
theorem knPut (x : Ex) (hz : x.sz ≤ 1100000) (c : Option Addr) (cp gn gv : Nat) (w : World) (t u : TypeId) (hr : RdX w 0 x c) (hn : w.heap[gn]? = some (.cells #[.string ⟨#[97]⟩, .string ⟨#[98]⟩, .string ⟨#[99]⟩] t (0, 0))) (hv : w.heap[gv]? = some (.cells #[.int .i64 1, .int .i64 7, .string ⟨#[]⟩, .slice none 0 0, .int .i64 1, .int .i64 65535, .string ⟨#[]⟩, .slice none 0 0, .int .i64 1, .int .i64 0, .string ⟨#[]⟩, .slice none 0 0] u (0, 0))) : Calls Tryd.prog 54 #[.agg #[.int .i64 x.k, .int .i64 x.n, .string x.s, .slice c x.l.length cp], .agg #[.int .i64 1, .int .i64 100, .string ⟨#[]⟩, .slice none 0 0], .slice (some ⟨gn, 0, none⟩) 3 3, .slice (some ⟨gv, 0, none⟩) 3 3] w (GiR (putX knH flL knV x) (Up w) w) :=
  putS_any knH flL knV kn_pk x hz c none (some ⟨gv, 0, none⟩) cp 0 gn 3 w hr (kn_pv hn hv)
set_option maxHeartbeats 4000000 in
theorem drawKnown_any (a : Option Addr) (len cap : Nat) (xs : List UInt8) (w : World) (hl : xs.length = len) (hm : len ≤ 1048576) (hr : Rd w a xs) :
    Calls Tryd.prog 18 #[.slice a len cap] w fun r w' => ∃ (e : Ex) (c : Option Addr) (cp : Nat), r = .returned (.agg (e.cs c cp)) ∧ e.sz ≤ 1000 ∧ NewX w' w.heap.size e c ∧ Below w.heap.size w w' := by
  have B0 := hide (below_new w (.cells #[.int .i64 0, .int .i64 0, .string ⟨#[]⟩, .slice none 0 0] 26))
  have R0 := hide (heap_alloc_new w (.cells #[.int .i64 0, .int .i64 0, .string ⟨#[]⟩, .slice none 0 0] 26))
  have hZ0 : (w.alloc (.cells #[.int .i64 0, .int .i64 0, .string ⟨#[]⟩, .slice none 0 0] 26)).heap.size = w.heap.size + 1 := by simp
  have N0 := hide (new_any a len cap xs (w.alloc (.cells #[.int .i64 0, .int .i64 0, .string ⟨#[]⟩, .slice none 0 0] 26)) hl hm (hr.later (unhide B0)))
  have HZ := hide hZ0
  clear hr hZ0
  go_enter Tryd.func18, Tryd.ntmps18
  go_wp2_with fail
  generalize w.alloc (.cells #[.int .i64 0, .int .i64 0, .string ⟨#[]⟩, .slice none 0 0] 26) = W at *
  refine (unhide N0).mono ?_
  rintro e w1 ⟨rfl, hc1, hb1⟩
  have R1 := hide ((hb1.block _ (Array.getElem?_eq_some_iff.1 (unhide R0)).1).trans (unhide R0))
  have B1 := hide ((unhide B0).trans (hb1.mono (unhide B0).size))
  have o1 : w.heap.size < W.heap.size := by have := unhide HZ; omega
  have hs1 := hb1.size
  have ON := hide (once_any W.heap.size a len cap xs 3 w1 (by omega) hc1)
  generalize W.heap.size = cb at *
  clear hc1 hb1 N0 R0 B0 HZ
  go_wp2_with fail
  refine (unhide ON).mono ?_
  rintro e w2 ⟨q, rfl, hc2, hg2⟩
  have B2 := hide ((unhide B1).grown hg2 (unhide B1).size (fun k e => by cases e; omega))
  have R2 := hide ((hg2.block _ (Array.getElem?_eq_some_iff.1 (unhide R1)).1 (fun e => by simp at e; omega)).trans (unhide R1))
  have hs2 := hg2.size
  have C2 := hide hc2
  clear hc2 hg2 B1 R1 ON
  cases q
  · have AD := hide (flatD 3 (by omega) (by decide) drawX3 cb a len cap xs w2 (unhide C2))
    have e45 : 2 * szD 3 + 1 = 45 := by decide
    rw [e45] at AD
    unfold DrX at AD
    clear C2 e45
    go_wp2_with fail
    refine (unhide AD).mono ?_
    rintro e w3 ⟨x, c, cp, rfl, hsx, hnx, hc3, hg3⟩
    have B3 := hide ((unhide B2).grown hg3 (unhide B2).size (fun k e => by cases e; omega))
    have R3 := hide ((hg3.block _ (Array.getElem?_eq_some_iff.1 (unhide R2)).1 (fun e => by simp at e; omega)).trans (unhide R2))
    have X3 := hide (hnx.lower (show w.heap.size + 1 ≤ w2.heap.size by omega))
    unfold Ex.cs
    clear hnx hc3 hg3 B2 R2 AD
    go_wp2_with (refine wpList_store_row rfl 26 _ _ rfl w.heap.size #[.int .i64 x.k, .int .i64 x.n, .string x.s, .slice c x.l.length cp] rfl rfl 26 _ (unhide R3) szE rfl (ex_one _ _ _ _ _ _) ?_)
    refine bodyPost_ret (results_cell_row (P := Tryd.prog) rfl _ _ w.heap.size 26 #[.int .i64 x.k, .int .i64 x.n, .string x.s, .slice c x.l.length cp] (0, 0) _ rfl (setRow_heap _ _ _ _ _ _ (unhide R3)) Tryd.underlying26 rfl szE) rfl ?_
    exact ⟨x, c, cp, rfl, by omega, ((unhide X3).row _ (Nat.lt_succ_self _)).lower (Nat.le_succ _), (unhide B3).grown (grownBy_row _) (unhide B3).size (fun k e => by cases e; exact Nat.le_refl _)⟩
  · have AD := hide (drawX3 3 rfl true cb a len cap xs w2 (unhide C2))
    rw [show szD 3 = 22 by decide] at AD
    unfold DrX at AD
    clear C2
    go_wp2_with fail
    refine (unhide AD).mono ?_
    rintro e w3 ⟨x, c, cp, rfl, hsx, hnx, hc3, hg3⟩
    have B3 := hide ((unhide B2).grown hg3 (unhide B2).size (fun k e => by cases e; omega))
    have R3 := hide ((hg3.block _ (Array.getElem?_eq_some_iff.1 (unhide R2)).1 (fun e => by simp at e; omega)).trans (unhide R2))
    have X3 := hide (hnx.lower (show w.heap.size + 1 ≤ w2.heap.size by omega))
    have L3 := hide (show w.heap.size + 1 ≤ w3.heap.size by have := hg3.size; omega)
    unfold Ex.cs
    clear hnx hc3 hg3 B2 R2 AD
    go_wp2_with fail
    refine (numD 100 w3).mono ?_
    rintro e w4 ⟨rfl, hb4⟩
    have hb5 := below_new w4 (.cells #[.string ⟨#[97]⟩, .string ⟨#[98]⟩, .string ⟨#[99]⟩] 9)
    have hb45 := hb4.trans (hb5.mono hb4.size)
    have B5 := hide ((unhide B3).trans (hb45.mono (unhide B3).size))
    have R5 := hide (row_keep (unhide R3) hb45)
    have X5 := hide ((unhide X3).later hb45)
    have L5 := hide (Nat.le_trans (unhide L3) hb45.size)
    have N5 := hide (show (w4.alloc (.cells #[.string ⟨#[97]⟩, .string ⟨#[98]⟩, .string ⟨#[99]⟩] 9)).heap[w4.heap.size]? = some (.cells #[.string ⟨#[97]⟩, .string ⟨#[98]⟩, .string ⟨#[99]⟩] 9 (0, 0)) from Array.getElem?_push_size)
    clear hb4 hb5 hb45 B3 R3 X3 L3
    go_wp2_with fail
    generalize w4.alloc (.cells #[.string ⟨#[97]⟩, .string ⟨#[98]⟩, .string ⟨#[99]⟩] 9) = w5 at *
    generalize w4.heap.size = gn at *
    refine (numD 7 w5).mono ?_
    rintro e w6 ⟨rfl, hb6⟩
    have B6 := hide ((unhide B5).trans (hb6.mono (unhide B5).size))
    have R6 := hide (row_keep (unhide R5) hb6)
    have X6 := hide ((unhide X5).later hb6)
    have L6 := hide (Nat.le_trans (unhide L5) hb6.size)
    have N6 := hide (row_keep (unhide N5) hb6)
    clear hb6 B5 R5 X5 L5 N5
    go_wp2_with fail
    refine (numD 65535 w6).mono ?_
    rintro e w7 ⟨rfl, hb7⟩
    have B7 := hide ((unhide B6).trans (hb7.mono (unhide B6).size))
    have R7 := hide (row_keep (unhide R6) hb7)
    have X7 := hide ((unhide X6).later hb7)
    have L7 := hide (Nat.le_trans (unhide L6) hb7.size)
    have N7 := hide (row_keep (unhide N6) hb7)
    clear hb7 B6 R6 X6 L6 N6
    go_wp2_with fail
    refine (numD 0 w7).mono ?_
    rintro e w8 ⟨rfl, hb8⟩
    have B8 := hide ((unhide B7).trans (hb8.mono (unhide B7).size))
    have R8 := hide (row_keep (unhide R7) hb8)
    have X8 := hide ((unhide X7).later hb8)
    have L8 := hide (Nat.le_trans (unhide L7) hb8.size)
    have N8 := hide (row_keep (unhide N7) hb8)
    clear hb8 B7 R7 X7 L7 N7
    have hb9 := below_new w8 (.cells #[.int .i64 1, .int .i64 7, .string ⟨#[]⟩, .slice none 0 0, .int .i64 1, .int .i64 65535, .string ⟨#[]⟩, .slice none 0 0, .int .i64 1, .int .i64 0, .string ⟨#[]⟩, .slice none 0 0] 26)
    have V9 := hide (show (w8.alloc (.cells #[.int .i64 1, .int .i64 7, .string ⟨#[]⟩, .slice none 0 0, .int .i64 1, .int .i64 65535, .string ⟨#[]⟩, .slice none 0 0, .int .i64 1, .int .i64 0, .string ⟨#[]⟩, .slice none 0 0] 26)).heap[w8.heap.size]? = some (.cells #[.int .i64 1, .int .i64 7, .string ⟨#[]⟩, .slice none 0 0, .int .i64 1, .int .i64 65535, .string ⟨#[]⟩, .slice none 0 0, .int .i64 1, .int .i64 0, .string ⟨#[]⟩, .slice none 0 0] 26 (0, 0)) from Array.getElem?_push_size)
    have B9 := hide ((unhide B8).trans (hb9.mono (unhide B8).size))
    have R9 := hide (row_keep (unhide R8) hb9)
    have X9 := hide ((unhide X8).later hb9)
    have L9 := hide (Nat.le_trans (unhide L8) hb9.size)
    have N9 := hide (row_keep (unhide N8) hb9)
    clear hb9 B8 R8 X8 L8 N8
    have PU := hide (knPut x (by omega) c cp gn w8.heap.size _ _ _ ((unhide X9).rd.lower (Nat.zero_le _) _ _) (unhide N9) (unhide V9))
    unfold GiR Ex.cs at PU
    have SY := hide (show (putX knH flL knV x).sz ≤ 1000 from Nat.le_trans (put_szM knH_sz knV_sz x) (by have := ct_szF x; omega))
    go_wp2_with fail
    generalize w8.alloc (.cells #[.int .i64 1, .int .i64 7, .string ⟨#[]⟩, .slice none 0 0, .int .i64 1, .int .i64 65535, .string ⟨#[]⟩, .slice none 0 0, .int .i64 1, .int .i64 0, .string ⟨#[]⟩, .slice none 0 0] 26) = w9 at *
    generalize w8.heap.size = gv at *
    refine (unhide PU).mono ?_
    rintro r w10 ⟨c2, cp2, rfl, hny, hb10⟩
    generalize putX knH flL knV x = y at *
    have B10 := hide ((unhide B9).trans (hb10.mono (unhide B9).size))
    have R10 := hide (row_keep (unhide R9) hb10)
    have Y10 := hide ((show NewX w10 w9.heap.size y c2 from hny).lower (unhide L9))
    clear hny hb10 B9 R9 X9 L9 N9 V9 PU
    go_wp2_with (refine wpList_store_row rfl 26 _ _ rfl w.heap.size #[.int .i64 y.k, .int .i64 y.n, .string y.s, .slice c2 y.l.length cp2] rfl rfl 26 _ (unhide R10) szE rfl (ex_one _ _ _ _ _ _) ?_)
    refine bodyPost_ret (results_cell_row (P := Tryd.prog) rfl _ _ w.heap.size 26 #[.int .i64 y.k, .int .i64 y.n, .string y.s, .slice c2 y.l.length cp2] (0, 0) _ rfl (setRow_heap _ _ _ _ _ _ (unhide R10)) Tryd.underlying26 rfl szE) rfl ?_
    exact ⟨y, c2, cp2, rfl, unhide SY, ((unhide Y10).row _ (Nat.lt_succ_self _)).lower (Nat.le_succ _), (unhide B10).grown (grownBy_row _) (unhide B10).size (fun k e => by cases e; exact Nat.le_refl _)⟩
end Go.Proofs.YtkolflcjkofleaaDoor

namespace Go.Proofs.YtkolflcjkofleaaDoor
open Go.ChangeShapes Go.WideShapes Go.ChangeAt Go.RowKit
set_option linter.unusedVariables false
set_option maxRecDepth 8000

def eqB (a b : ByteArray) : Bool := a.toList == b.toList
theorem eqB_iff (a b : ByteArray) : eqB a b = true ↔ a = b := by
  unfold eqB
  rw [ByteArray.toList_eq, ByteArray.toList_eq, beq_iff_eq]
  exact ⟨fun h => bytes_inj h, fun h => by rw [h]⟩
/-- The same but for the parts. -/
def headX (a b : Ex) : Bool := a.k == b.k && (a.n == b.n && (eqB a.s b.s && a.l.length == b.l.length))
theorem headX_iff (a b : Ex) : headX a b = true ↔ a.k = b.k ∧ a.n = b.n ∧ a.s = b.s ∧ a.l.length = b.l.length := by
  unfold headX
  simp only [Bool.and_eq_true, beq_iff_eq, eqB_iff]
/-- Whether two terms are the same. -/
def sameX : Ex → Ex → Bool
  | ⟨k, n, s, l⟩ => fun b => headX ⟨k, n, s, l⟩ b && ((l.map sameX).zip b.l).all (fun p => p.1 p.2)
theorem sameX_eq (a b : Ex) : sameX a b = (headX a b && ((a.l.map sameX).zip b.l).all (fun p => p.1 p.2)) := by
  obtain ⟨k, n, s, l⟩ := a
  rw [sameX]
theorem sameX_iff (a : Ex) : ∀ b, sameX a b = true ↔ a = b := by
  induction a using Ex.ind with
  | h k n s l ih =>
    intro b
    rw [sameX_eq, Bool.and_eq_true, headX_iff, List.all_eq_true]
    constructor
    · rintro ⟨⟨h1, h2, h3, h4⟩, h5⟩
      obtain ⟨bk, bn, bs, bl⟩ := b
      simp only at h1 h2 h3 h4 h5
      subst h1 h2 h3
      congr 1
      apply List.ext_getElem h4
      intro i hi hj
      have hm : (sameX l[i], bl[i]) ∈ (l.map sameX).zip bl := by
        have hz : i < ((l.map sameX).zip bl).length := by simp; omega
        have := List.getElem_mem hz
        simpa using this
      exact (ih _ (List.getElem_mem hi) _).1 (h5 _ hm)
    · rintro rfl
      refine ⟨⟨rfl, rfl, rfl, rfl⟩, fun p hp => ?_⟩
      simp only at hp
      obtain ⟨i, hi, rfl⟩ := List.getElem_of_mem hp
      simp only [List.length_zip, List.length_map] at hi
      simp only [List.getElem_zip, List.getElem_map]
      exact (ih _ (List.getElem_mem (by omega)) _).2 rfl
/-- The first so many parts are the same. -/
def sameN (l m : List Ex) (k : Nat) : Bool := (List.range k).all (fun i => sameX (xAt l i) (xAt m i))
theorem sameN_0 (l m : List Ex) : sameN l m 0 = true := rfl
theorem sameN_s (l m : List Ex) (k : Nat) : sameN l m (k + 1) = (sameN l m k && sameX (xAt l k) (xAt m k)) := by
  unfold sameN
  rw [List.range_succ, List.all_append]
  simp
theorem sameN_part {l m : List Ex} {k n : Nat} (hk : k < n) (h : sameX (xAt l k) (xAt m k) = false) : sameN l m n = false := by
  unfold sameN
  rw [List.all_eq_false]
  exact ⟨k, by simpa using hk, by rw [h]; decide⟩
theorem sameX_n (a b : Ex) : sameX a b = (headX a b && sameN a.l b.l a.l.length) := by
  rw [Bool.eq_iff_iff, sameX_iff]
  constructor
  · rintro rfl
    rw [Bool.and_eq_true]
    refine ⟨(headX_iff _ _).2 ⟨rfl, rfl, rfl, rfl⟩, ?_⟩
    unfold sameN
    rw [List.all_eq_true]
    intro i _
    exact (sameX_iff _ _).2 rfl
  · intro h
    rw [Bool.and_eq_true, headX_iff] at h
    obtain ⟨⟨h1, h2, h3, h4⟩, h5⟩ := h
    unfold sameN at h5
    rw [List.all_eq_true] at h5
    obtain ⟨ak, an, as_, al⟩ := a
    obtain ⟨bk, bn, bs, bl⟩ := b
    simp only at h1 h2 h3 h4 h5
    subst h1 h2 h3
    congr 1
    apply List.ext_getElem h4
    intro i hi hj
    have := (sameX_iff _ _).1 (h5 i (by simpa using hi))
    rwa [xAt_get hi, xAt_get hj] at this
end Go.Proofs.YtkolflcjkofleaaDoor

namespace Go.Proofs.YtkolflcjkofleaaDoor
open Go.ChangeShapes Go.WideShapes Go.ChangeAt Go.RowKit
set_option linter.unusedVariables false
set_option maxRecDepth 8000
set_option linter.unusedSimpArgs false

/-- Two terms that wait, each with where its parts lie. -/
structure Pr where
  x : Ex
  y : Ex
  p : Option Addr
  q : Option Addr
  c : Nat
  d : Nat
def Pr.cs (r : Pr) : List Value := [.int .i64 r.x.k, .int .i64 r.x.n, .string r.x.s, .slice r.p r.x.l.length r.c, .int .i64 r.y.k, .int .i64 r.y.n, .string r.y.s, .slice r.q r.y.l.length r.d]
def cellsP : List Pr → List Value
  | [] => []
  | r :: l => r.cs ++ cellsP l
theorem cellsP_len (l : List Pr) : (cellsP l).length = l.length * 8 := by
  induction l with
  | nil => rfl
  | cons r l ih => simp only [cellsP, List.length_append, ih, List.length_cons, Pr.cs, List.length_nil]; omega
theorem cellsP_app (a b : List Pr) : cellsP (a ++ b) = cellsP a ++ cellsP b := by
  induction a with
  | nil => rfl
  | cons r l ih => simp only [List.cons_append, cellsP, ih, List.append_assoc]
theorem cellsP_last (l : List Pr) (r : Pr) (j : Nat) (h : j < 8) : (cellsP (l ++ [r]))[l.length * 8 + j]? = r.cs[j]? := by
  rw [cellsP_app, List.getElem?_append_right (by rw [cellsP_len]; omega), cellsP_len]
  simp only [cellsP, List.append_nil]
  congr 1
  omega
/-- What is met: the same but for the parts, and these have been laid open. -/
def R2 (ks : List Ky) (x : Ex) (p : Option Addr) (y : Ex) (q : Option Addr) : Prop := headX x y = true ∧ (x.l.length = 0 ∨ ∃ a b, p = some ⟨a, 0, none⟩ ∧ q = some ⟨b, 0, none⟩ ∧ Ky.mk a b x.l.length ∈ ks)
theorem R2.mono {ks ks' : List Ky} {x y : Ex} {p q : Option Addr} (h : R2 ks x p y q) (hk : ∀ k ∈ ks, k ∈ ks') : R2 ks' x p y q := by
  obtain ⟨h1, h2 | ⟨a, b, e1, e2, e3⟩⟩ := h
  · exact ⟨h1, .inl h2⟩
  · exact ⟨h1, .inr ⟨a, b, e1, e2, hk _ e3⟩⟩
/-- Two lists that were laid open: each pair of parts waits, or is met. -/
def Ent (w : World) (L : List Pr) (ks : List Ky) (k : Ky) : Prop := ∃ (x y : Ex) (F G : List Nat), OwX w x (some ⟨k.a, 0, none⟩) F ∧ OwX w y (some ⟨k.b, 0, none⟩) G ∧ x.l.length = k.n ∧ y.l.length = k.n ∧ 0 < k.n ∧ ∀ i, i < k.n → ∃ (c d : Option Addr) (cc cd : Nat), w.cell? ⟨k.a, i * 4 + 3, none⟩ = some (.slice c (xAt x.l i).l.length cc) ∧ w.cell? ⟨k.b, i * 4 + 3, none⟩ = some (.slice d (xAt y.l i).l.length cd) ∧ (Pr.mk (xAt x.l i) (xAt y.l i) c d cc cd ∈ L ∨ R2 ks (xAt x.l i) c (xAt y.l i) d)
structure Cmp (w : World) (a b : Ex) (pa pb : Option Addr) (ca cb : Nat) (L : List Pr) (ks : List Ky) : Prop where
  ok : ∀ r ∈ L, (∃ F, OwX w r.x r.p F) ∧ (∃ G, OwX w r.y r.q G)
  eq : a = b → ∀ r ∈ L, r.x = r.y
  root : Pr.mk a b pa pb ca cb ∈ L ∨ R2 ks a pa b pb
  ent : ∀ k ∈ ks, Ent w L ks k
/-- Where a term's parts lie tells them. -/
theorem OwX.det {w : World} (x : Ex) : ∀ (x' : Ex) (a : Nat) (F G : List Nat), OwX w x (some ⟨a, 0, none⟩) F → OwX w x' (some ⟨a, 0, none⟩) G → x.l.length = x'.l.length → x.l = x'.l := by
  induction x using Ex.ind with
  | h k n s l ih =>
    intro x' a F G h1 h2 hl
    rw [OwX_eq] at h1 h2
    rcases h1 with ⟨e, _⟩ | ⟨b, cs, t, Fs, ea, hh, hz, hF, rfl, h3⟩
    · rw [e] at hl
      rw [e]
      exact (List.eq_nil_of_length_eq_zero hl.symm).symm
    · rcases h2 with ⟨e, _⟩ | ⟨b', cs', t', Fs', ea', hh', hz', hF', rfl, h3'⟩
      · rw [e] at hl
        exact (List.eq_nil_of_length_eq_zero hl).trans e.symm
      · cases ea
        cases ea'
        rw [hh] at hh'
        cases hh'
        apply List.ext_getElem hl
        intro i hi hj
        obtain ⟨p0, p1, p2, c, cap, p3, p4⟩ := h3 i hi
        obtain ⟨q0, q1, q2, c', cap', q3, q4⟩ := h3' i hj
        rw [p0] at q0; rw [p1] at q1; rw [p2] at q2; rw [p3] at q3
        simp only [Option.some.injEq, Value.int.injEq, true_and, Value.string.injEq, Value.slice.injEq] at q0 q1 q2 q3
        obtain ⟨rfl, ql, _⟩ := q3
        have hi' : i < (Ex.mk k n s l).l.length := hi
        have e := ih _ (xAt_mem hi') (xAt x'.l i)
        have e0 : xAt (Ex.mk k n s l).l i = (Ex.mk k n s l).l[i] := xAt_get hi
        have e1 : xAt x'.l i = x'.l[i] := xAt_get hj
        rw [← e0, ← e1]
        have el : (xAt (Ex.mk k n s l).l i).l = (xAt x'.l i).l := by
          by_cases h0 : (xAt (Ex.mk k n s l).l i).l.length = 0
          · exact (List.eq_nil_of_length_eq_zero h0).trans (List.eq_nil_of_length_eq_zero (ql.symm.trans h0)).symm
          · rw [OwX_eq] at p4
            rcases p4 with ⟨z, _⟩ | ⟨b2, cs2, t2, Fs2, rfl, hh2, hz2, hF2, eF, h4⟩
            · rw [z] at h0; exact absurd rfl h0
            · exact e b2 _ _ ((OwX_eq _ _ _ _).2 (.inr ⟨b2, cs2, t2, Fs2, rfl, hh2, hz2, hF2, eF, h4⟩)) q4 ql
        generalize xAt (Ex.mk k n s l).l i = u at *
        generalize xAt x'.l i = v at *
        obtain ⟨uk, un, us, ul⟩ := u
        obtain ⟨vk, vn, vs, vl⟩ := v
        simp only at q0 q1 q2 el
        rw [q0, q1, q2, el]
theorem OwX.cell {w : World} {x : Ex} {a : Nat} {F : List Nat} (h : OwX w x (some ⟨a, 0, none⟩) F) {i : Nat} (hi : i < x.l.length) : ∃ c cc G, w.cell? ⟨a, i * 4, none⟩ = some (.int .i64 (xAt x.l i).k) ∧ w.cell? ⟨a, i * 4 + 1, none⟩ = some (.int .i64 (xAt x.l i).n) ∧ w.cell? ⟨a, i * 4 + 2, none⟩ = some (.string (xAt x.l i).s) ∧ w.cell? ⟨a, i * 4 + 3, none⟩ = some (.slice c (xAt x.l i).l.length cc) ∧ OwX w (xAt x.l i) c G := by
  rw [OwX_eq] at h
  rcases h with ⟨e, _⟩ | ⟨b, cs, t, Fs, ea, hh, hz, hF, rfl, h3⟩
  · rw [e] at hi; simp at hi
  · cases ea
    obtain ⟨p0, p1, p2, c, cap, p3, p4⟩ := h3 i hi
    exact ⟨c, cap, _, (Lib.cell_of_heap hh _).trans p0, (Lib.cell_of_heap hh _).trans p1, (Lib.cell_of_heap hh _).trans p2, (Lib.cell_of_heap hh _).trans p3, p4⟩
theorem OwX.at {w : World} {x : Ex} {p : Option Addr} {F : List Nat} (h : OwX w x p F) (hl : 0 < x.l.length) : ∃ a, p = some ⟨a, 0, none⟩ ∧ Clean w a := by
  rw [OwX_eq] at h
  rcases h with ⟨e, _⟩ | ⟨b, cs, t, Fs, ea, hh, _⟩
  · rw [e] at hl; simp at hl
  · exact ⟨b, ea, cs, t, hh⟩
/-- With nothing left, what is met is the same. -/
theorem met_same {w : World} {ks : List Ky} (he : ∀ k ∈ ks, Ent w [] ks k) (x : Ex) : ∀ (y : Ex) (p q : Option Addr) (F G : List Nat), OwX w x p F → OwX w y q G → R2 ks x p y q → x = y := by
  induction x using Ex.ind with
  | h k n s l ih =>
    intro y p q F G hx hy hR
    obtain ⟨hh, hR⟩ := hR
    obtain ⟨e1, e2, e3, e4⟩ := (headX_iff _ _).1 hh
    have el : l = y.l := by
      rcases hR with h0 | ⟨a, b, rfl, rfl, hk⟩
      · have h0 : l.length = 0 := h0
        have e4 : l.length = y.l.length := e4
        exact (List.eq_nil_of_length_eq_zero h0).trans (List.eq_nil_of_length_eq_zero (by omega)).symm
      · obtain ⟨x', y', F', G', hx', hy', l1, l2, hp, hi⟩ := he _ hk
        have d1 : l = x'.l := OwX.det _ _ _ _ _ hx hx' l1.symm
        have d2 : y.l = y'.l := OwX.det _ _ _ _ _ hy hy' (by rw [l2]; exact e4.symm)
        apply List.ext_getElem e4
        intro i hi1 hi2
        have hi1 : i < l.length := hi1
        obtain ⟨c, d, cc, cd, c1, c2, h | h⟩ := hi i hi1
        · cases h
        · rw [← d1] at c1 h
          rw [← d2] at c2 h
          obtain ⟨c', cc', F2, _, _, _, c3, o1⟩ := OwX.cell hx (i := i) hi1
          obtain ⟨d', cd', G2, _, _, _, c4, o2⟩ := OwX.cell hy (i := i) hi2
          have c3 : w.cell? ⟨a, i * 4 + 3, none⟩ = some (.slice c' (xAt l i).l.length cc') := c3
          have o1 : OwX w (xAt l i) c' F2 := o1
          rw [c1] at c3
          rw [c2] at c4
          simp only [Option.some.injEq, Value.slice.injEq] at c3 c4
          obtain ⟨rfl, _, _⟩ := c3
          obtain ⟨rfl, _, _⟩ := c4
          have := ih _ (xAt_mem hi1) (xAt y.l i) _ _ _ _ o1 o2 h
          rwa [xAt_get hi1, xAt_get hi2] at this
    obtain ⟨yk, yn, ys, yl⟩ := y
    simp only at e1 e2 e3 el
    rw [e1, e2, e3, el]
section
variable {w : World} {a b : Ex} {pa pb : Option Addr} {ca cb : Nat} {L : List Pr} {ks : List Ky} {r : Pr}
theorem Cmp.start (ha : ∃ F, OwX w a pa F) (hb : ∃ G, OwX w b pb G) : Cmp w a b pa pb ca cb [⟨a, b, pa, pb, ca, cb⟩] [] :=
  ⟨fun r hr => by rw [List.mem_singleton] at hr; subst hr; exact ⟨ha, hb⟩, fun e r hr => by rw [List.mem_singleton] at hr; subst hr; exact e, .inl (List.mem_singleton.2 rfl), fun k hk => by cases hk⟩
theorem Cmp.end (h : Cmp w a b pa pb ca cb [] ks) (ha : ∃ F, OwX w a pa F) (hb : ∃ G, OwX w b pb G) : sameX a b = true := by
  obtain ⟨F, ha⟩ := ha
  obtain ⟨G, hb⟩ := hb
  rcases h.root with h1 | h1
  · cases h1
  · exact (sameX_iff _ _).2 (met_same h.ent a b pa pb F G ha hb h1)
theorem Cmp.no (h : Cmp w a b pa pb ca cb (L ++ [r]) ks) (hh : headX r.x r.y = false) : sameX a b = false := by
  cases hs : sameX a b with
  | false => rfl
  | true =>
    have e := h.eq ((sameX_iff _ _).1 hs) r (List.mem_append.2 (.inr (List.mem_singleton.2 rfl)))
    rw [e, (headX_iff _ _).2 ⟨rfl, rfl, rfl, rfl⟩] at hh
    cases hh
theorem Ent.drop {k : Ky} (h : Ent w (L ++ [r]) ks k) (hr : R2 ks r.x r.p r.y r.q) : Ent w L ks k := by
  obtain ⟨x, y, F, G, h1, h2, h3, h4, h5, h6⟩ := h
  refine ⟨x, y, F, G, h1, h2, h3, h4, h5, fun i hi => ?_⟩
  obtain ⟨c, d, cc, cd, c1, c2, h | h⟩ := h6 i hi
  · rcases List.mem_append.1 h with h | h
    · exact ⟨c, d, cc, cd, c1, c2, .inl h⟩
    · rw [List.mem_singleton] at h
      subst h
      exact ⟨c, d, cc, cd, c1, c2, .inr hr⟩
  · exact ⟨c, d, cc, cd, c1, c2, .inr h⟩
theorem Cmp.drop (h : Cmp w a b pa pb ca cb (L ++ [r]) ks) (hr : R2 ks r.x r.p r.y r.q) : Cmp w a b pa pb ca cb L ks := by
  refine ⟨fun x hx => h.ok x (List.mem_append.2 (.inl hx)), fun e x hx => h.eq e x (List.mem_append.2 (.inl hx)), ?_, fun k hk => (h.ent k hk).drop hr⟩
  rcases h.root with h1 | h1
  · rcases List.mem_append.1 h1 with h1 | h1
    · exact .inl h1
    · rw [List.mem_singleton] at h1
      subst h1
      exact .inr hr
  · exact .inr h1
/-- The pairs of parts, so many. -/
def kids (w : World) (x y : Ex) (k : Ky) (m : Nat) (M : List Pr) : Prop := M.length = m ∧ ∀ i, i < m → ∃ (c d : Option Addr) (cc cd : Nat), M[i]? = some ⟨xAt x.l i, xAt y.l i, c, d, cc, cd⟩ ∧ w.cell? ⟨k.a, i * 4 + 3, none⟩ = some (.slice c (xAt x.l i).l.length cc) ∧ w.cell? ⟨k.b, i * 4 + 3, none⟩ = some (.slice d (xAt y.l i).l.length cd) ∧ (∃ F, OwX w (xAt x.l i) c F) ∧ (∃ G, OwX w (xAt y.l i) d G)
theorem Cmp.open (h : Cmp w a b pa pb ca cb (L ++ [r]) ks) (hh : headX r.x r.y = true) (k : Ky) (hp : r.p = some ⟨k.a, 0, none⟩) (hq : r.q = some ⟨k.b, 0, none⟩) (hn : k.n = r.x.l.length) (h0 : 0 < k.n) {M : List Pr} (hM : kids w r.x r.y k k.n M) : Cmp w a b pa pb ca cb (L ++ M) (ks ++ [k]) := by
  obtain ⟨e1, e2, e3, e4⟩ := (headX_iff _ _).1 hh
  have hkm : ∀ l ∈ ks, l ∈ ks ++ [k] := fun l hl => List.mem_append.2 (.inl hl)
  have hr : R2 (ks ++ [k]) r.x r.p r.y r.q := ⟨hh, .inr ⟨k.a, k.b, hp, hq, List.mem_append.2 (.inr (List.mem_singleton.2 (by rw [← hn])))⟩⟩
  obtain ⟨hok, hok2⟩ := h.ok r (List.mem_append.2 (.inr (List.mem_singleton.2 rfl)))
  refine ⟨fun x hx => ?_, fun e x hx => ?_, ?_, fun l hl => ?_⟩
  · rcases List.mem_append.1 hx with hx | hx
    · exact h.ok x (List.mem_append.2 (.inl hx))
    · obtain ⟨i, hi, rfl⟩ := List.getElem_of_mem hx
      obtain ⟨c, d, cc, cd, m1, _, _, o1, o2⟩ := hM.2 i (by rw [← hM.1]; exact hi)
      rw [List.getElem?_eq_getElem hi, Option.some.injEq] at m1
      rw [m1]
      exact ⟨o1, o2⟩
  · rcases List.mem_append.1 hx with hx | hx
    · exact h.eq e x (List.mem_append.2 (.inl hx))
    · obtain ⟨i, hi, rfl⟩ := List.getElem_of_mem hx
      obtain ⟨c, d, cc, cd, m1, _, _, o1, o2⟩ := hM.2 i (by rw [← hM.1]; exact hi)
      rw [List.getElem?_eq_getElem hi, Option.some.injEq] at m1
      rw [m1, h.eq e r (List.mem_append.2 (.inr (List.mem_singleton.2 rfl)))]
  · rcases h.root with h1 | h1
    · rcases List.mem_append.1 h1 with h1 | h1
      · exact .inl (List.mem_append.2 (.inl h1))
      · rw [List.mem_singleton] at h1
        subst h1
        exact .inr hr
    · exact .inr (h1.mono hkm)
  · rcases List.mem_append.1 hl with hl | hl
    · obtain ⟨x, y, F, G, h1, h2, h3, h4, h5, h6⟩ := h.ent l hl
      refine ⟨x, y, F, G, h1, h2, h3, h4, h5, fun i hi => ?_⟩
      obtain ⟨c, d, cc, cd, c1, c2, h | h⟩ := h6 i hi
      · rcases List.mem_append.1 h with h | h
        · exact ⟨c, d, cc, cd, c1, c2, .inl (List.mem_append.2 (.inl h))⟩
        · rw [List.mem_singleton] at h
          subst h
          exact ⟨c, d, cc, cd, c1, c2, .inr hr⟩
      · exact ⟨c, d, cc, cd, c1, c2, .inr (h.mono hkm)⟩
    · rw [List.mem_singleton] at hl
      subst hl
      obtain ⟨F, o1⟩ := hok
      obtain ⟨G, o2⟩ := hok2
      rw [hp] at o1
      rw [hq] at o2
      refine ⟨r.x, r.y, F, G, o1, o2, hn.symm, by rw [← e4]; exact hn.symm, h0, fun i hi => ?_⟩
      obtain ⟨c, d, cc, cd, m1, c1, c2, _⟩ := hM.2 i hi
      exact ⟨c, d, cc, cd, c1, c2, .inl (List.mem_append.2 (.inr (List.mem_of_getElem? m1)))⟩
theorem Cmp.clean (h : Cmp w a b pa pb ca cb L ks) : ∀ l ∈ ks, Clean w l.a ∧ Clean w l.b := by
  intro l hl
  obtain ⟨x, y, F, G, h1, h2, h3, h4, h5, _⟩ := h.ent l hl
  obtain ⟨a1, e1, c1⟩ := OwX.at h1 (by omega)
  obtain ⟨a2, e2, c2⟩ := OwX.at h2 (by omega)
  cases e1
  cases e2
  exact ⟨c1, c2⟩
end
/-- How much waits. -/
def waitN : List Pr → Nat
  | [] => 0
  | r :: l => 1 + r.x.sz + waitN l
theorem waitN_app (a b : List Pr) : waitN (a ++ b) = waitN a + waitN b := by
  induction a with
  | nil => simp [waitN]
  | cons r l ih => simp only [List.cons_append, waitN, ih]; omega
theorem waitN_len (l : List Pr) : l.length ≤ waitN l := by
  induction l with
  | nil => simp [waitN]
  | cons r l ih => simp only [waitN, List.length_cons]; omega
end Go.Proofs.YtkolflcjkofleaaDoor

namespace Go.Proofs.YtkolflcjkofleaaDoor
open Go.ChangeShapes Go.WideShapes Go.ChangeAt Go.RowKit
set_option linter.unusedVariables false
set_option maxRecDepth 8000
set_option linter.unusedSimpArgs false

theorem infoP : (Tryd.prog.info? 77).map (fun i => (i.zero, i.size, i.bytes)) = some (some (.agg #[.int .i64 0, .int .i64 0, .string ⟨#[]⟩, .slice none 0 0, .int .i64 0, .int .i64 0, .string ⟨#[]⟩, .slice none 0 0]), 8, 112) := by kernel_rfl
/-- v is a slice of the call's own (blocks from B on) that holds these pairs. -/
def OwnP (w : World) (B : Nat) (v : Value) (L : List Pr) : Prop := w.ownsRow B 77 8 v L.length (cellsP L)
section
variable {w w' : World} {B : Nat} {v : Value} {L : List Pr} {r : Pr}
theorem OwnP.keep (h : OwnP w B v L) (hs : ∀ g, v.ownBlock = some g → g < w.heap.size → w'.heap[g]? = w.heap[g]?) : OwnP w' B v L := by
  obtain ⟨h1, h2 | ⟨g, cap, cur, rfl, hg, hh, r⟩⟩ := h
  · exact ⟨h1, .inl h2⟩
  · exact ⟨h1, .inr ⟨g, cap, cur, rfl, hg, (hs g rfl (Array.getElem?_eq_some_iff.1 hh).1).trans hh, r⟩⟩
theorem OwnP.later (h : OwnP w B v L) (hb : Below w.heap.size w w') : OwnP w' B v L := h.keep fun g _ hg => hb.block g hg
theorem OwnP.lt (h : OwnP w B v L) {g : Nat} (hg : v.ownBlock = some g) : B ≤ g ∧ g < w.heap.size := World.ownsRow.lt h g hg
theorem OwnP.at (h : OwnP w B v (L ++ [r])) : ∃ g cap, v = .slice (some ⟨g, 0, none⟩) (L.length + 1) cap ∧ L.length + 1 ≤ cap ∧ cap ≤ maxLen ∧ g < w.heap.size ∧ (∀ j, j < 8 → w.cell? ⟨g, L.length * 8 + j, none⟩ = r.cs[j]?) ∧ OwnP w B (.slice (some ⟨g, 0, none⟩) L.length cap) L := by
  have hlen : (L ++ [r]).length = L.length + 1 := by simp
  obtain ⟨h1, ⟨rfl, h0⟩ | ⟨g, cap, cur, rfl, hg, hh, hn, hm, hz, ht⟩⟩ := h
  · simp at h0
  · rw [hlen] at hn ht
    refine ⟨g, cap, by rw [hlen], hn, hm, (Array.getElem?_eq_some_iff.1 hh).1, fun j hj => ?_, ?_⟩
    · rw [Lib.cell_of_heap hh, ← cellsP_last L r j hj, ← ht, List.getElem?_take, if_pos (by omega), Array.getElem?_toList]
    · refine ⟨cellsP_len L, .inr ⟨g, cap, cur, rfl, hg, hh, by omega, hm, hz, ?_⟩⟩
      have e : cellsP L = (cellsP (L ++ [r])).take (L.length * 8) := by
        rw [cellsP_app, List.take_append_of_le_length (by rw [cellsP_len]; exact Nat.le_refl _), List.take_of_length_le (by rw [cellsP_len]; exact Nat.le_refl _)]
      rw [e, ← ht, List.take_take]
      congr 1
      omega
theorem ownP_app (h : w.ownsRow B 77 8 v (L.length + 1) (cellsP L ++ r.cs)) : OwnP w B v (L ++ [r]) := by
  unfold OwnP
  rw [List.length_append, cellsP_app]
  simp only [cellsP, List.append_nil]
  exact h
end
theorem cellN (W : World) (cs : Array Value) (t : TypeId) : ∀ j u, cs.toList[j]? = some u → (W.alloc (.cells cs t)).cell? ((⟨W.heap.size, 0, none⟩ : Addr).add j) = some u := by
  intro j u hu
  have h : (W.alloc (.cells cs t)).cell? ⟨W.heap.size, j, none⟩ = some u := by rw [World.cell?_alloc_at _ _ _ _ rfl]; simpa using hu
  unfold Addr.add
  by_cases h0 : j = 0
  · subst h0; simpa using h
  · simpa [h0] using h
theorem pr_one (r : Pr) : ∀ u ∈ r.cs, u.oneCell' = true := by
  intro u hu
  simp only [Pr.cs, List.mem_cons, List.not_mem_nil, or_false] at hu
  rcases hu with rfl | rfl | rfl | rfl | rfl | rfl | rfl | rfl <;> rfl
theorem OwnP.row {w w' : World} {B : Nat} {v : Value} {L : List Pr} (h : OwnP w B v L) (hg : w.grownBy w' v.ownBlock) {gx : Nat} {cs : Array Value} {fr : Nat × Nat} (hx : w.heap[gx]? = some (.cells cs 26 fr)) : w'.heap[gx]? = some (.cells cs 26 fr) := by
  refine (hg.block gx (Array.getElem?_eq_some_iff.1 hx).1 (fun e => ?_)).trans hx
  obtain ⟨_, ⟨rfl, _⟩ | ⟨g, cap, cur, rfl, _, hh, _⟩⟩ := h
  · simp [Value.ownBlock] at e
  · simp [Value.ownBlock] at e
    subst e
    rw [hh] at hx
    cases hx
theorem kids.snoc {w : World} {x y : Ex} {k : Ky} {m : Nat} {M : List Pr} (h : kids w x y k m M) {c d : Option Addr} {cc cd : Nat} (c1 : w.cell? ⟨k.a, m * 4 + 3, none⟩ = some (.slice c (xAt x.l m).l.length cc)) (c2 : w.cell? ⟨k.b, m * 4 + 3, none⟩ = some (.slice d (xAt y.l m).l.length cd)) (o1 : ∃ F, OwX w (xAt x.l m) c F) (o2 : ∃ G, OwX w (xAt y.l m) d G) : kids w x y k (m + 1) (M ++ [⟨xAt x.l m, xAt y.l m, c, d, cc, cd⟩]) := by
  refine ⟨by rw [List.length_append, h.1]; rfl, fun i hi => ?_⟩
  by_cases e : i = m
  · subst e
    refine ⟨c, d, cc, cd, ?_, c1, c2, o1, o2⟩
    rw [List.getElem?_append_right (by rw [h.1]; exact Nat.le_refl _), h.1]
    simp
  · obtain ⟨c', d', cc', cd', m1, r⟩ := h.2 i (by omega)
    exact ⟨c', d', cc', cd', by rw [List.getElem?_append_left (by rw [h.1]; omega)]; exact m1, r⟩
/-- While pairs wait: the map of what was met, the pairs. -/
structure Cs (w wr : World) (mb : Nat) (v : Value) (L : List Pr) (ks : List Ky) : Prop where
  bel : Below w.heap.size w wr
  mp : IsMp wr mb ks
  mbB : w.heap.size ≤ mb
  own : OwnP wr w.heap.size v L
section
variable {w wr w' : World} {mb : Nat} {v : Value} {L : List Pr} {ks : List Ky}
theorem IsMp.lt (h : IsMp wr mb ks) : mb < wr.heap.size := (Array.getElem?_eq_some_iff.1 h).1
theorem Cs.later (h : Cs w wr mb v L ks) (hb : Below wr.heap.size wr w') : Cs w w' mb v L ks :=
  ⟨h.bel.trans (hb.mono h.bel.size), (hb.block _ h.mp.lt).trans h.mp, h.mbB, h.own.later hb⟩
theorem Cs.apart (h : Cs w wr mb v L ks) : v.ownBlock ≠ some mb := by
  intro e
  obtain ⟨_, ⟨rfl, _⟩ | ⟨g, cap, cur, rfl, hg, hh, _⟩⟩ := h.own
  · simp [Value.ownBlock] at e
  · simp [Value.ownBlock] at e
    subst e
    have := h.mp
    unfold IsMp at this
    rw [hh] at this
    cases this
theorem Clean.later {k : Nat} (h : Clean w k) (hb : Below w.heap.size w w') : Clean w' k := by
  obtain ⟨cs, t, h⟩ := h
  exact ⟨cs, t, (hb.block _ (Array.getElem?_eq_some_iff.1 h).1).trans h⟩
theorem Cs.put {k : Ky} (h : Cs w wr mb v L ks) (hm : IsMp w' mb (ks ++ [k])) (hz : w'.heap.size = wr.heap.size) (ho : ∀ g, g ≠ mb → w'.heap[g]? = wr.heap[g]?) (h1 : w'.os = wr.os) (h2 : w'.tape = wr.tape) (h3 : w'.output = wr.output) : Cs w w' mb v L (ks ++ [k]) :=
  ⟨⟨h1.trans h.bel.os, h2.trans h.bel.tape, h3.trans h.bel.output, by rw [hz]; exact h.bel.size, fun g hg => (ho g (by have := h.mbB; omega)).trans (h.bel.block g hg)⟩, hm, h.mbB, h.own.keep fun g hg _ => ho g (fun e => h.apart (by rw [hg, e]))⟩
theorem Cs.app {L' : List Pr} {v' : Value} (h : Cs w wr mb v L ks) (hg : wr.grownBy w' v.ownBlock) (ho : OwnP w' w.heap.size v' L') : Cs w w' mb v' L' ks :=
  ⟨h.bel.grown hg h.bel.size (fun g e => (h.own.lt e).1), (hg.block _ h.mp.lt (fun e => h.apart e.symm)).trans h.mp, h.mbB, ho⟩
end
end Go.Proofs.YtkolflcjkofleaaDoor

namespace Go.Proofs.YtkolflcjkofleaaDoor
open Go.ChangeShapes Go.WideShapes Go.ChangeAt Go.RowKit
set_option linter.unusedVariables false
set_option maxRecDepth 8000
set_option linter.unusedSimpArgs false

theorem below_set {B : Nat} {w w' : World} (h : Below B w w') {g : Nat} (hg : B ≤ g) (cs : Array Value) : Below B w (w'.setRow g cs) :=
  ⟨h.os, h.tape, h.output, by simpa [World.setRow] using h.size, fun k hk => (setRow_other w' g k cs (by omega)).trans (h.block k hk)⟩
theorem x_one (k n : Int) (s : ByteArray) (p : Option Addr) (l c : Nat) : (#[Value.int .i64 k, .int .i64 n, .string s, .slice p l c].all fun v => v.oneCell') = true := by
  simp [Value.oneCell']
theorem k_one (p q : Option Addr) (n : Int) : (#[Value.pointer p, .pointer q, .int .i64 n].all fun v => v.oneCell') = true := by
  simp [Value.oneCell']
theorem run_mk (w : World) : (Instr.makeMap 76 none).run Tryd.prog w = .ok (.map (some w.heap.size)) (w.alloc (.map #[] 0)) := by kernel_rfl
set_option maxHeartbeats 8000000 in
theorem sameI_any (a b : Ex) (pa pb : Option Addr) (ca cb : Nat) (w : World) (ha : ∃ F, OwX w a pa F) (hb : ∃ G, OwX w b pb G) (hza : a.sz ≤ 1048576) : Calls Tryd.prog 15 #[.agg (a.cs pa ca), .agg (b.cs pb cb)] w fun r w' => r = .returned (.bool (sameX a b)) ∧ Below w.heap.size w w' := by
  have C0 := hide (Cmp.start (ca := ca) (cb := cb) ha hb)
  have EN := hide (fun ks (h : Cmp w a b pa pb ca cb [] ks) => h.end ha hb)
  have NO := hide (fun L r ks (h : Cmp w a b pa pb ca cb (L ++ [r]) ks) hh => h.no hh)
  have mk := run_mk
  obtain ⟨i0, hi, hz0, hz1, hz2⟩ := info_parts infoP
  unfold Ex.cs
  generalize hT : sameX a b = T at *
  have S0 : Cs w ((((w.alloc (.cells #[.int .i64 a.k, .int .i64 a.n, .string a.s, .slice pa a.l.length ca] 26)).alloc (.cells #[.int .i64 b.k, .int .i64 b.n, .string b.s, .slice pb b.l.length cb] 26)).alloc (.map #[] 0)).alloc (.cells #[.int .i64 a.k, .int .i64 a.n, .string a.s, .slice pa a.l.length ca, .int .i64 b.k, .int .i64 b.n, .string b.s, .slice pb b.l.length cb] 77)) (w.heap.size + 2) (.slice (some ⟨w.heap.size + 3, 0, none⟩) 1 1) [⟨a, b, pa, pb, ca, cb⟩] [] := by
    have z0 : (w.alloc (.cells #[.int .i64 a.k, .int .i64 a.n, .string a.s, .slice pa a.l.length ca] 26)).heap.size = w.heap.size + 1 := by simp
    have z1 : ((w.alloc (.cells #[.int .i64 a.k, .int .i64 a.n, .string a.s, .slice pa a.l.length ca] 26)).alloc (.cells #[.int .i64 b.k, .int .i64 b.n, .string b.s, .slice pb b.l.length cb] 26)).heap.size = w.heap.size + 2 := by simp
    have hb0 : Below w.heap.size w ((w.alloc (.cells #[.int .i64 a.k, .int .i64 a.n, .string a.s, .slice pa a.l.length ca] 26)).alloc (.cells #[.int .i64 b.k, .int .i64 b.n, .string b.s, .slice pb b.l.length cb] 26)) := ((Below.refl _ _).alloc (Nat.le_refl _) _).alloc (by simp) _
    generalize (w.alloc (.cells #[.int .i64 a.k, .int .i64 a.n, .string a.s, .slice pa a.l.length ca] 26)).alloc (.cells #[.int .i64 b.k, .int .i64 b.n, .string b.s, .slice pb b.l.length cb] 26) = W at *
    have z2 : (W.alloc (.map #[] 0)).heap.size = w.heap.size + 3 := by simp [z1]
    have hm : (W.alloc (.map #[] 0)).heap[w.heap.size + 2]? = some (.map #[] 0) := by rw [← z1]; exact Array.getElem?_push_size
    refine ⟨(hb0.alloc (by omega) _).alloc (by omega) _, ?_, by omega, ?_⟩
    · exact (((Below.refl (W.alloc (.map #[] 0)).heap.size (W.alloc (.map #[] 0))).alloc (Nat.le_refl _) _).block _ (by omega)).trans hm
    · refine ⟨rfl, .inr ⟨w.heap.size + 3, 1, #[.int .i64 a.k, .int .i64 a.n, .string a.s, .slice pa a.l.length ca, .int .i64 b.k, .int .i64 b.n, .string b.s, .slice pb b.l.length cb], rfl, by omega, ?_, Nat.le_refl _, by unfold maxLen; omega, rfl, rfl⟩⟩
      rw [← z2]
      exact Array.getElem?_push_size
  have H0 := hide S0
  clear S0 ha hb hT
  go_enter Tryd.func15, Tryd.ntmps15
  go_wp2
  go_loopg [6] (1 + a.sz) (fun k v wr => ∃ L ks, waitN L = k ∧ k ≤ 1048577 ∧ Cmp w a b pa pb ca cb L ks ∧ Cs w wr (w.heap.size + 2) v L ks)
  case atStart => exact ⟨_, _, rfl, by omega, unhide C0, unhide H0⟩
  case round =>
    clear C0 H0
    obtain ⟨L, ks, hk, hkm, hC, hS⟩ := hrel
    rcases List.eq_nil_or_concat L with rfl | ⟨L, r, rfl⟩
    · have E := hide (unhide EN ks hC)
      have BL := hide hS.bel
      have hv : ∃ pv cv, u6 = .slice pv 0 cv := by
        obtain ⟨_, ⟨h1, _⟩ | ⟨g, cap, cur, h1, _⟩⟩ := hS.own
        · exact ⟨_, _, h1⟩
        · exact ⟨_, _, h1⟩
      obtain ⟨pv, cv, rfl⟩ := hv
      clear hC hS hk
      go_wp2
      go_ret
      exact ⟨by rw [unhide E]; rfl, unhide BL⟩
    · rw [List.concat_eq_append] at hk hC hS
      have hwn := waitN_app L [r]
      have hwl := waitN_len L
      have hw1 : waitN [r] = 1 + r.x.sz := by simp [waitN]
      obtain ⟨g, cap, hv, hcap, hmx, hgl, hcell, hown⟩ := hS.own.at
      subst hv
      have hS2 : Cs w wr (w.heap.size + 2) (.slice (some ⟨g, 0, none⟩) L.length cap) L ks := ⟨hS.bel, hS.mp, hS.mbB, hown⟩
      have SS := hide hS2
      have CC := hide hC
      have c0 := hcell 0 (by omega)
      have c1 := hcell 1 (by omega)
      have c2 := hcell 2 (by omega)
      have c3 := hcell 3 (by omega)
      have c4 := hcell 4 (by omega)
      have c5 := hcell 5 (by omega)
      have c6 := hcell 6 (by omega)
      have c7 := hcell 7 (by omega)
      unfold maxLen at hmx
      generalize hn : L.length = n at *
      obtain ⟨x, y, p, q, c, d⟩ := r
      have QX := hide (sz_is x)
      simp only [Pr.cs] at c0 c1 c2 c3 c4 c5 c6 c7
      simp only at hw1
      have KN := hide (show 1 + x.sz + waitN L = gk by omega)
      have hnb : n ≤ 1048577 := by omega
      have hnn : ¬ ((n : Int) + 1 ≤ (n : Int)) := by omega
      have U0 := hide (fun w1 (hb : Below wr.heap.size wr w1) => (hb.cell (p := ⟨g, n * 8, none⟩) hgl).trans c0)
      have U1 := hide (fun w1 (hb : Below wr.heap.size wr w1) => (hb.cell (p := ⟨g, n * 8 + 1, none⟩) hgl).trans c1)
      have U2 := hide (fun w1 (hb : Below wr.heap.size wr w1) => (hb.cell (p := ⟨g, n * 8 + 2, none⟩) hgl).trans c2)
      have U3 := hide (fun w1 (hb : Below wr.heap.size wr w1) => (hb.cell (p := ⟨g, n * 8 + 3, none⟩) hgl).trans c3)
      have U4 := hide (fun w1 (hb : Below wr.heap.size wr w1) => (hb.cell (p := ⟨g, n * 8 + 4, none⟩) hgl).trans c4)
      have U5 := hide (fun w1 (hb : Below wr.heap.size wr w1) => (hb.cell (p := ⟨g, n * 8 + 4 + 1, none⟩) hgl).trans c5)
      have U6 := hide (fun w1 (hb : Below wr.heap.size wr w1) => (hb.cell (p := ⟨g, n * 8 + 4 + 2, none⟩) hgl).trans c6)
      have U7 := hide (fun w1 (hb : Below wr.heap.size wr w1) => (hb.cell (p := ⟨g, n * 8 + 4 + 3, none⟩) hgl).trans c7)
      clear hcell hown hS hC hS2 c0 c1 c2 c3 c4 c5 c6 c7 hk hwn hwl hw1 hgl
      generalize hxk : x.k = xk at *
      generalize hxn : x.n = xn at *
      generalize hxs : x.s = xs at *
      generalize hxl : x.l.length = xl at *
      generalize hyk : y.k = yk at *
      generalize hyn : y.n = yn at *
      generalize hys : y.s = ys at *
      generalize hyl : y.l.length = yl at *
      have XE := hide (show x.k = xk ∧ x.n = xn ∧ x.s = xs ∧ x.l.length = xl ∧ y.k = yk ∧ y.n = yn ∧ y.s = ys ∧ y.l.length = yl from ⟨hxk, hxn, hxs, hxl, hyk, hyn, hys, hyl⟩)
      clear hxk hxn hxs hxl hyk hyn hys hyl
      go_upto_region 5 with fail
      go_cut [8, 9] from 25 to 34 (fun v8 v9 w5 => ∃ gx gy, v8 = .pointer (some ⟨gx, 0, none⟩) ∧ v9 = .pointer (some ⟨gy, 0, none⟩) ∧ w5.heap[gx]? = some (.cells #[.int .i64 xk, .int .i64 xn, .string xs, .slice p xl c] 26 (0, 0)) ∧ w5.heap[gy]? = some (.cells #[.int .i64 yk, .int .i64 yn, .string ys, .slice q yl d] 26 (0, 0)) ∧ gx ≠ gy ∧ Below wr.heap.size wr w5)
      case first =>
        rename_i J7 K7 hJ7 hM7
        have D0 := hide (show Below wr.heap.size wr wr.drew from below_drew)
        refine wp_region_held_drew (S := fun w' => Below wr.heap.size wr w') (by kernel_rfl) (unhide D0) (fun hS => ?_)
        have HS := hide hS
        clear hS
        refine wpAnyH_take (i := 0) (v := .slice (some ⟨g, 0, none⟩) (n + 1) cap) rfl (by kernel_rfl) (by kernel_rfl) (by kernel_rfl) (fun _ _ _ h => h) (Or.inl ⟨by rfl, fun w hc => ?_⟩) (unhide HS) ?_
        · clear hc; go_simp
        go_simp
        refine wpAnyH_take (i := 1) (v := .int .i64 n) rfl (by kernel_rfl) (by kernel_rfl) (by kernel_rfl) (fun _ _ _ h => h) (Or.inl ⟨by rfl, fun w hc => ?_⟩) (unhide HS) ?_
        · clear hc; go_simp
        go_simp
        refine wpAnyH_take (i := 2) (v := .pointer (some ⟨g, n * 8, none⟩)) rfl (by kernel_rfl) (by kernel_rfl) (by kernel_rfl) (fun _ _ _ h => h) (Or.inl ⟨by rfl, fun w hc => ?_⟩) (unhide HS) ?_
        · clear hc; go_simp
        go_simp
        refine wpAnyH_take (i := 3) (v := .pointer (some ⟨g, n * 8, none⟩)) rfl (by kernel_rfl) (by kernel_rfl) (by kernel_rfl) (fun _ _ _ h => h) (Or.inl ⟨by rfl, fun w hc => ?_⟩) (unhide HS) ?_
        · clear hc; go_simp
        go_simp
        refine wpAnyH_take (i := 4) (v := .agg #[.int .i64 xk, .int .i64 xn, .string xs, .slice p xl c]) rfl (by kernel_rfl) (by kernel_rfl) (by kernel_rfl) (fun _ _ _ h => h) (Or.inl ⟨by rfl, fun w hc => ?_⟩) (unhide HS) ?_
        · have q0 := unhide U0 _ hc; have q1 := unhide U1 _ hc; have q2 := unhide U2 _ hc; have q3 := unhide U3 _ hc; clear hc; go_simp
        go_simp
        refine wpAnyH_take (i := 5) (v := .slice (some ⟨g, 0, none⟩) (n + 1) cap) rfl (by kernel_rfl) (by kernel_rfl) (by kernel_rfl) (fun _ _ _ h => h) (Or.inl ⟨by rfl, fun w hc => ?_⟩) (unhide HS) ?_
        · clear hc; go_simp
        go_simp
        refine wpAnyH_take (i := 6) (v := .int .i64 n) rfl (by kernel_rfl) (by kernel_rfl) (by kernel_rfl) (fun _ _ _ h => h) (Or.inl ⟨by rfl, fun w hc => ?_⟩) (unhide HS) ?_
        · clear hc; go_simp
        go_simp
        refine wpAnyH_take (i := 7) (v := .pointer (some ⟨g, n * 8, none⟩)) rfl (by kernel_rfl) (by kernel_rfl) (by kernel_rfl) (fun _ _ _ h => h) (Or.inl ⟨by rfl, fun w hc => ?_⟩) (unhide HS) ?_
        · clear hc; go_simp
        go_simp
        refine wpAnyH_take (i := 8) (v := .pointer (some ⟨g, n * 8 + 4, none⟩)) rfl (by kernel_rfl) (by kernel_rfl) (by kernel_rfl) (fun _ _ _ h => h) (Or.inl ⟨by rfl, fun w hc => ?_⟩) (unhide HS) ?_
        · clear hc; go_simp
        go_simp
        refine wpAnyH_take (i := 9) (v := .agg #[.int .i64 yk, .int .i64 yn, .string ys, .slice q yl d]) rfl (by kernel_rfl) (by kernel_rfl) (by kernel_rfl) (fun _ _ _ h => h) (Or.inl ⟨by rfl, fun w hc => ?_⟩) (unhide HS) ?_
        · have q0 := unhide U4 _ hc; have q1 := unhide U5 _ hc; have q2 := unhide U6 _ hc; have q3 := unhide U7 _ hc; clear hc; go_simp
        go_simp
        refine wpAnyH_ready (rs := [10, 11]) (by kernel_rfl) (by simp) ?_
        refine AllReadyH.cons rfl (fun K2 hK => ?_) (AllReadyH.cons rfl (fun K2 hK => ?_) AllReadyH.nil)
        · go_simp
          have R1 := hide (show ((wr.alloc (.cells #[.int .i64 0, .int .i64 0, .string ⟨#[]⟩, .slice none 0 0] 26)).drew).heap[wr.heap.size]? = some (.cells #[.int .i64 0, .int .i64 0, .string ⟨#[]⟩, .slice none 0 0] 26 (0, 0)) from Array.getElem?_push_size)
          have D1 := hide (show Below wr.heap.size wr ((wr.alloc (.cells #[.int .i64 0, .int .i64 0, .string ⟨#[]⟩, .slice none 0 0] 26)).drew) from (((Below.refl wr.heap.size wr).alloc (Nat.le_refl _) (.cells #[.int .i64 0, .int .i64 0, .string ⟨#[]⟩, .slice none 0 0] 26)).trans ((below_drew (w := wr.alloc (.cells #[.int .i64 0, .int .i64 0, .string ⟨#[]⟩, .slice none 0 0] 26))).mono (by simp))))
          have z1 : ((wr.alloc (.cells #[.int .i64 0, .int .i64 0, .string ⟨#[]⟩, .slice none 0 0] 26)).drew).heap.size = wr.heap.size + 1 := show (wr.alloc (.cells #[.int .i64 0, .int .i64 0, .string ⟨#[]⟩, .slice none 0 0] 26)).heap.size = _ by simp
          generalize (wr.alloc (.cells #[.int .i64 0, .int .i64 0, .string ⟨#[]⟩, .slice none 0 0] 26)).drew = w1 at *
          refine hK.out _ _ (unhide D1) (fun hS => ?_)
          clear HS
          have HS := hide hS
          clear hS hK K2
          refine wpAnyH_ready (rs := [11]) (by kernel_rfl) (by simp) ?_
          refine AllReadyH.cons rfl (fun K2 hK => ?_) AllReadyH.nil
          go_simp
          have R2 := hide (show (w1.alloc (.cells #[.int .i64 0, .int .i64 0, .string ⟨#[]⟩, .slice none 0 0] 26)).heap[w1.heap.size]? = some (.cells #[.int .i64 0, .int .i64 0, .string ⟨#[]⟩, .slice none 0 0] 26 (0, 0)) from Array.getElem?_push_size)
          have D2 := hide ((unhide D1).alloc (unhide D1).size (.cells #[.int .i64 0, .int .i64 0, .string ⟨#[]⟩, .slice none 0 0] 26))
          have R1b := hide (row_keep (unhide R1) ((Below.refl w1.heap.size w1).alloc (Nat.le_refl _) (.cells #[.int .i64 0, .int .i64 0, .string ⟨#[]⟩, .slice none 0 0] 26)))
          rw [z1] at R2
          clear R1 D1
          generalize w1.alloc (.cells #[.int .i64 0, .int .i64 0, .string ⟨#[]⟩, .slice none 0 0] 26) = w2 at *
          refine hK.out _ _ (unhide D2) (fun hS => ?_)
          clear HS
          have HS := hide hS
          clear hS hK K2
          refine wpAnyH_ready (rs := [12]) (by kernel_rfl) (by simp) ?_
          refine AllReadyH.cons rfl (fun K2 hK => ?_) AllReadyH.nil
          rw [if_pos (by rfl)]
          refine wp_store_row 26 _ _ rfl wr.heap.size #[.int .i64 xk, .int .i64 xn, .string xs, .slice p xl c] rfl rfl 26 #[.int .i64 0, .int .i64 0, .string ⟨#[]⟩, .slice none 0 0] (unhide R1b) (by kernel_rfl) rfl (x_one _ _ _ _ _ _) ?_
          have D3 := hide (below_set (unhide D2) (g := wr.heap.size) (by omega) #[.int .i64 xk, .int .i64 xn, .string xs, .slice p xl c])
          refine hK.out _ _ (unhide D3) (fun hS => ?_)
          clear HS
          have HS := hide hS
          clear hS hK K2
          have RY := hide ((setRow_other w2 wr.heap.size (wr.heap.size + 1) #[.int .i64 xk, .int .i64 xn, .string xs, .slice p xl c] (by omega)).trans (unhide R2))
          have RX := hide (setRow_heap w2 wr.heap.size #[.int .i64 0, .int .i64 0, .string ⟨#[]⟩, .slice none 0 0] #[.int .i64 xk, .int .i64 xn, .string xs, .slice p xl c] 26 (0, 0) (unhide R1b))
          clear R1b R2
          generalize w2.setRow wr.heap.size #[.int .i64 xk, .int .i64 xn, .string xs, .slice p xl c] = w3 at *
          refine wpAnyH_ready (rs := [13]) (by kernel_rfl) (by simp) ?_
          refine AllReadyH.cons rfl (fun K2 hK => ?_) AllReadyH.nil
          rw [if_pos (by rfl)]
          refine wp_store_row 26 _ _ rfl (wr.heap.size + 1) #[.int .i64 yk, .int .i64 yn, .string ys, .slice q yl d] rfl rfl 26 #[.int .i64 0, .int .i64 0, .string ⟨#[]⟩, .slice none 0 0] (unhide RY) (by kernel_rfl) rfl (x_one _ _ _ _ _ _) ?_
          have D4 := hide (below_set (unhide D3) (g := (wr.heap.size + 1)) (by omega) #[.int .i64 yk, .int .i64 yn, .string ys, .slice q yl d])
          refine hK.out _ _ (unhide D4) (fun hS => ?_)
          clear HS
          have HS := hide hS
          clear hS hK K2
          have RX2 := (setRow_other w3 (wr.heap.size + 1) wr.heap.size #[.int .i64 yk, .int .i64 yn, .string ys, .slice q yl d] (by omega)).trans (unhide RX)
          have RY2 := setRow_heap w3 (wr.heap.size + 1) #[.int .i64 0, .int .i64 0, .string ⟨#[]⟩, .slice none 0 0] #[.int .i64 yk, .int .i64 yn, .string ys, .slice q yl d] 26 (0, 0) (unhide RY)
          refine wpAnyH_done (by kernel_rfl) ?_ _
          refine hM7 _ _ (Met.intro (hJ7 _ _ ?_))
          (repeat apply Exists.intro)
          refine ⟨?_, rfl⟩
          exact ⟨wr.heap.size, (wr.heap.size + 1), rfl, rfl, RX2, RY2, by omega, unhide D4⟩
        · go_simp
          have R1 := hide (show ((wr.alloc (.cells #[.int .i64 0, .int .i64 0, .string ⟨#[]⟩, .slice none 0 0] 26)).drew).heap[wr.heap.size]? = some (.cells #[.int .i64 0, .int .i64 0, .string ⟨#[]⟩, .slice none 0 0] 26 (0, 0)) from Array.getElem?_push_size)
          have D1 := hide (show Below wr.heap.size wr ((wr.alloc (.cells #[.int .i64 0, .int .i64 0, .string ⟨#[]⟩, .slice none 0 0] 26)).drew) from (((Below.refl wr.heap.size wr).alloc (Nat.le_refl _) (.cells #[.int .i64 0, .int .i64 0, .string ⟨#[]⟩, .slice none 0 0] 26)).trans ((below_drew (w := wr.alloc (.cells #[.int .i64 0, .int .i64 0, .string ⟨#[]⟩, .slice none 0 0] 26))).mono (by simp))))
          have z1 : ((wr.alloc (.cells #[.int .i64 0, .int .i64 0, .string ⟨#[]⟩, .slice none 0 0] 26)).drew).heap.size = wr.heap.size + 1 := show (wr.alloc (.cells #[.int .i64 0, .int .i64 0, .string ⟨#[]⟩, .slice none 0 0] 26)).heap.size = _ by simp
          generalize (wr.alloc (.cells #[.int .i64 0, .int .i64 0, .string ⟨#[]⟩, .slice none 0 0] 26)).drew = w1 at *
          refine hK.out _ _ (unhide D1) (fun hS => ?_)
          clear HS
          have HS := hide hS
          clear hS hK K2
          refine wpAnyH_ready (rs := [10]) (by kernel_rfl) (by simp) ?_
          refine AllReadyH.cons rfl (fun K2 hK => ?_) AllReadyH.nil
          go_simp
          have R2 := hide (show (w1.alloc (.cells #[.int .i64 0, .int .i64 0, .string ⟨#[]⟩, .slice none 0 0] 26)).heap[w1.heap.size]? = some (.cells #[.int .i64 0, .int .i64 0, .string ⟨#[]⟩, .slice none 0 0] 26 (0, 0)) from Array.getElem?_push_size)
          have D2 := hide ((unhide D1).alloc (unhide D1).size (.cells #[.int .i64 0, .int .i64 0, .string ⟨#[]⟩, .slice none 0 0] 26))
          have R1b := hide (row_keep (unhide R1) ((Below.refl w1.heap.size w1).alloc (Nat.le_refl _) (.cells #[.int .i64 0, .int .i64 0, .string ⟨#[]⟩, .slice none 0 0] 26)))
          rw [z1] at R2
          clear R1 D1
          generalize w1.alloc (.cells #[.int .i64 0, .int .i64 0, .string ⟨#[]⟩, .slice none 0 0] 26) = w2 at *
          refine hK.out _ _ (unhide D2) (fun hS => ?_)
          clear HS
          have HS := hide hS
          clear hS hK K2
          refine wpAnyH_ready (rs := [12]) (by kernel_rfl) (by simp) ?_
          refine AllReadyH.cons rfl (fun K2 hK => ?_) AllReadyH.nil
          rw [if_pos (by rfl)]
          refine wp_store_row 26 _ _ rfl (wr.heap.size + 1) #[.int .i64 xk, .int .i64 xn, .string xs, .slice p xl c] rfl rfl 26 #[.int .i64 0, .int .i64 0, .string ⟨#[]⟩, .slice none 0 0] (unhide R2) (by kernel_rfl) rfl (x_one _ _ _ _ _ _) ?_
          have D3 := hide (below_set (unhide D2) (g := (wr.heap.size + 1)) (by omega) #[.int .i64 xk, .int .i64 xn, .string xs, .slice p xl c])
          refine hK.out _ _ (unhide D3) (fun hS => ?_)
          clear HS
          have HS := hide hS
          clear hS hK K2
          have RY := hide ((setRow_other w2 (wr.heap.size + 1) wr.heap.size #[.int .i64 xk, .int .i64 xn, .string xs, .slice p xl c] (by omega)).trans (unhide R1b))
          have RX := hide (setRow_heap w2 (wr.heap.size + 1) #[.int .i64 0, .int .i64 0, .string ⟨#[]⟩, .slice none 0 0] #[.int .i64 xk, .int .i64 xn, .string xs, .slice p xl c] 26 (0, 0) (unhide R2))
          clear R1b R2
          generalize w2.setRow (wr.heap.size + 1) #[.int .i64 xk, .int .i64 xn, .string xs, .slice p xl c] = w3 at *
          refine wpAnyH_ready (rs := [13]) (by kernel_rfl) (by simp) ?_
          refine AllReadyH.cons rfl (fun K2 hK => ?_) AllReadyH.nil
          rw [if_pos (by rfl)]
          refine wp_store_row 26 _ _ rfl wr.heap.size #[.int .i64 yk, .int .i64 yn, .string ys, .slice q yl d] rfl rfl 26 #[.int .i64 0, .int .i64 0, .string ⟨#[]⟩, .slice none 0 0] (unhide RY) (by kernel_rfl) rfl (x_one _ _ _ _ _ _) ?_
          have D4 := hide (below_set (unhide D3) (g := wr.heap.size) (by omega) #[.int .i64 yk, .int .i64 yn, .string ys, .slice q yl d])
          refine hK.out _ _ (unhide D4) (fun hS => ?_)
          clear HS
          have HS := hide hS
          clear hS hK K2
          have RX2 := (setRow_other w3 wr.heap.size (wr.heap.size + 1) #[.int .i64 yk, .int .i64 yn, .string ys, .slice q yl d] (by omega)).trans (unhide RX)
          have RY2 := setRow_heap w3 wr.heap.size #[.int .i64 0, .int .i64 0, .string ⟨#[]⟩, .slice none 0 0] #[.int .i64 yk, .int .i64 yn, .string ys, .slice q yl d] 26 (0, 0) (unhide RY)
          refine wpAnyH_done (by kernel_rfl) ?_ _
          refine hM7 _ _ (Met.intro (hJ7 _ _ ?_))
          (repeat apply Exists.intro)
          refine ⟨?_, rfl⟩
          exact ⟨(wr.heap.size + 1), wr.heap.size, rfl, rfl, RX2, RY2, by omega, unhide D4⟩
      case rest =>
        obtain ⟨gx, gy, rfl, rfl, hgx, hgy, hne, hbc⟩ := hcut
        have S1 := hide ((unhide SS).later hbc)
        have X0 := Lib.cell_of_heap hgx 0
        have X1 := Lib.cell_of_heap hgx 1
        have X2 := Lib.cell_of_heap hgx 2
        have X3 := Lib.cell_of_heap hgx 3
        have Y0 := Lib.cell_of_heap hgy 0
        have Y1 := Lib.cell_of_heap hgy 1
        have Y2 := Lib.cell_of_heap hgy 2
        have Y3 := Lib.cell_of_heap hgy 3
        have GX := hide hgx
        have GY := hide hgy
        have NQ := hide (fun h => unhide NO L _ ks (unhide CC) h)
        have HI := hide (headX_iff x y)
        rw [(unhide XE).1, (unhide XE).2.1, (unhide XE).2.2.1, (unhide XE).2.2.2.1, (unhide XE).2.2.2.2.1, (unhide XE).2.2.2.2.2.1, (unhide XE).2.2.2.2.2.2.1, (unhide XE).2.2.2.2.2.2.2] at HI
        have HF := hide (show ¬ (xk = yk ∧ xn = yn ∧ xs = ys ∧ xl = yl) → headX x y = false from fun h => by
          cases e : headX x y with
          | false => rfl
          | true => exact absurd ((unhide HI).1 e) h)
        clear SS U0 U1 U2 U3 U4 U5 U6 U7 hgx hgy hbc
        by_cases e1 : xk = yk
        rotate_left
        · have q1 : (xk == yk) = false := beq_eq_false_iff_ne.2 e1
          have E := hide (unhide NQ (unhide HF (fun h => e1 h.1)))
          have BB := hide (unhide S1).bel
          go_wp2
          go_ret
          exact ⟨by rw [unhide E]; rfl, unhide BB⟩
        subst e1
        by_cases e2 : xn = yn
        rotate_left
        · have q1 : (xn == yn) = false := beq_eq_false_iff_ne.2 e2
          have E := hide (unhide NQ (unhide HF (fun h => e2 h.2.1)))
          have BB := hide (unhide S1).bel
          go_wp2
          go_ret
          exact ⟨by rw [unhide E]; rfl, unhide BB⟩
        subst e2
        by_cases e3 : xs = ys
        rotate_left
        · have q1 : (xs.toList == ys.toList) = false := str_ne e3
          have E := hide (unhide NQ (unhide HF (fun h => e3 h.2.2.1)))
          have BB := hide (unhide S1).bel
          go_wp2
          go_ret
          exact ⟨by rw [unhide E]; rfl, unhide BB⟩
        subst e3
        by_cases e4 : xl = yl
        rotate_left
        · have q1 : ((xl : Int) == (yl : Int)) = false := beq_eq_false_iff_ne.2 (by omega)
          have q2 : (xl : Int) ≠ (yl : Int) := by omega
          have E := hide (unhide NQ (unhide HF (fun h => e4 h.2.2.2)))
          have BB := hide (unhide S1).bel
          go_wp2
          go_ret
          exact ⟨by rw [unhide E]; rfl, unhide BB⟩
        subst e4
        have HH := hide ((unhide HI).2 ⟨rfl, rfl, rfl, rfl⟩)
        clear HI HF NQ
        by_cases h0 : xl = 0
        · subst h0
          have CD := hide ((unhide CC).drop ⟨unhide HH, .inl (unhide XE).2.2.2.1⟩)
          have WN := hide (show waitN L < gk ∧ waitN L ≤ 1048577 by have := unhide KN; omega)
          go_wp2
          go_roundg (waitN L)
          case measure => exact (unhide WN).1
          case rel => exact ⟨L, ks, rfl, (unhide WN).2, unhide CD, unhide S1⟩
        · have hC := unhide CC
          obtain ⟨⟨F1, o1⟩, ⟨F2, o2⟩⟩ := hC.ok _ (List.mem_append.2 (.inr (List.mem_singleton.2 rfl)))
          simp only at o1 o2
          obtain ⟨A, ep, clA⟩ := OwX.at o1 (by rw [(unhide XE).2.2.2.1]; omega)
          obtain ⟨A2, eq, clA2⟩ := OwX.at o2 (by rw [(unhide XE).2.2.2.2.2.2.2]; omega)
          subst ep eq
          have O1 := hide o1
          have O2 := hide o2
          have BW := hide (unhide S1).bel
          have CA := hide clA
          have CA2 := hide clA2
          have KC := hide hC.clean
          clear o1 o2 hC clA clA2
          have hp0 : (0 : Int) < (xl : Int) := by omega
          have hp1 : ¬ ((xl : Int) ≤ 0) := by omega
          have hpz : ((xl : Int) == 0) = false := beq_eq_false_iff_ne.2 (by omega)
          have hxb : xl ≤ 1048577 := by have := unhide KN; have := unhide QX; have := (unhide XE).2.2.2.1; omega
          have V3 := hide (fun w1 (hb : Below wc.heap.size wc w1) => (hb.cell (p := ⟨gx, 3, none⟩) (Array.getElem?_eq_some_iff.1 (unhide GX)).1).trans X3)
          have W3 := hide (fun w1 (hb : Below wc.heap.size wc w1) => (hb.cell (p := ⟨gy, 3, none⟩) (Array.getElem?_eq_some_iff.1 (unhide GY)).1).trans Y3)
          go_upto_region 10 with fail
          have D0 := hide (show Below wc.heap.size wc wc.drew from below_drew)
          refine wp_region_held_drew (S := fun w' => Below wc.heap.size wc w') (by kernel_rfl) (unhide D0) (fun hS => ?_)
          have HS := hide hS
          clear hS
          refine wpAnyH_take (i := 0) (v := .pointer (some ⟨gx, 3, none⟩)) rfl (by kernel_rfl) (by kernel_rfl) (by kernel_rfl) (fun _ _ _ h => h) (Or.inl ⟨by rfl, fun w hc => ?_⟩) (unhide HS) ?_
          · clear hc; go_simp
          go_simp
          refine wpAnyH_take (i := 1) (v := .slice (some ⟨A, 0, none⟩) xl c) rfl (by kernel_rfl) (by kernel_rfl) (by kernel_rfl) (fun _ _ _ h => h) (Or.inl ⟨by rfl, fun w hc => ?_⟩) (unhide HS) ?_
          · have q := unhide V3 _ hc; clear hc; go_simp
          go_simp
          refine wpAnyH_take (i := 2) (v := .pointer (some ⟨A, 0, none⟩)) rfl (by kernel_rfl) (by kernel_rfl) (by kernel_rfl) (fun _ _ _ h => h) (Or.inl ⟨by rfl, fun w hc => ?_⟩) (unhide HS) ?_
          · clear hc; go_simp
          go_simp
          refine wpAnyH_take (i := 3) (v := .pointer (some ⟨gy, 3, none⟩)) rfl (by kernel_rfl) (by kernel_rfl) (by kernel_rfl) (fun _ _ _ h => h) (Or.inl ⟨by rfl, fun w hc => ?_⟩) (unhide HS) ?_
          · clear hc; go_simp
          go_simp
          refine wpAnyH_take (i := 4) (v := .slice (some ⟨A2, 0, none⟩) xl d) rfl (by kernel_rfl) (by kernel_rfl) (by kernel_rfl) (fun _ _ _ h => h) (Or.inl ⟨by rfl, fun w hc => ?_⟩) (unhide HS) ?_
          · have q := unhide W3 _ hc; clear hc; go_simp
          go_simp
          refine wpAnyH_take (i := 5) (v := .pointer (some ⟨A2, 0, none⟩)) rfl (by kernel_rfl) (by kernel_rfl) (by kernel_rfl) (fun _ _ _ h => h) (Or.inl ⟨by rfl, fun w hc => ?_⟩) (unhide HS) ?_
          · clear hc; go_simp
          go_simp
          refine wpAnyH_take (i := 6) (v := .pointer (some ⟨gx, 3, none⟩)) rfl (by kernel_rfl) (by kernel_rfl) (by kernel_rfl) (fun _ _ _ h => h) (Or.inl ⟨by rfl, fun w hc => ?_⟩) (unhide HS) ?_
          · clear hc; go_simp
          go_simp
          refine wpAnyH_take (i := 7) (v := .slice (some ⟨A, 0, none⟩) xl c) rfl (by kernel_rfl) (by kernel_rfl) (by kernel_rfl) (fun _ _ _ h => h) (Or.inl ⟨by rfl, fun w hc => ?_⟩) (unhide HS) ?_
          · have q := unhide V3 _ hc; clear hc; go_simp
          go_simp
          refine wpAnyH_take (i := 8) (v := .int .i64 xl) rfl (by kernel_rfl) (by kernel_rfl) (by kernel_rfl) (fun _ _ _ h => h) (Or.inl ⟨by rfl, fun w hc => ?_⟩) (unhide HS) ?_
          · clear hc; go_simp
          go_simp
          refine wpAnyH_take (i := 9) (v := .agg #[.pointer (some ⟨A, 0, none⟩), .pointer (some ⟨A2, 0, none⟩), .int .i64 xl]) rfl (by kernel_rfl) (by kernel_rfl) (by kernel_rfl) (fun _ _ _ h => h) (Or.inl ⟨by rfl, fun w hc => ?_⟩) (unhide HS) ?_
          · clear hc; go_simp
          go_simp
          refine wpAnyH_ready (rs := [10]) (by kernel_rfl) (by simp) ?_
          refine AllReadyH.cons rfl (fun K2 hK => ?_) AllReadyH.nil
          go_simp
          have R1 := hide (show ((wc.alloc (.cells #[.pointer none, .pointer none, .int .i64 0] 81)).drew).heap[wc.heap.size]? = some (.cells #[.pointer none, .pointer none, .int .i64 0] 81 (0, 0)) from Array.getElem?_push_size)
          have D1 := hide (show Below wc.heap.size wc ((wc.alloc (.cells #[.pointer none, .pointer none, .int .i64 0] 81)).drew) from (((Below.refl wc.heap.size wc).alloc (Nat.le_refl _) (.cells #[.pointer none, .pointer none, .int .i64 0] 81)).trans ((below_drew (w := wc.alloc (.cells #[.pointer none, .pointer none, .int .i64 0] 81))).mono (by simp))))
          generalize (wc.alloc (.cells #[.pointer none, .pointer none, .int .i64 0] 81)).drew = w1 at *
          refine hK.out _ _ (unhide D1) (fun hS => ?_)
          clear HS
          have HS := hide hS
          clear hS hK K2
          refine wpAnyH_ready (rs := [11]) (by kernel_rfl) (by simp) ?_
          refine AllReadyH.cons rfl (fun K2 hK => ?_) AllReadyH.nil
          rw [if_pos (by rfl)]
          refine wp_store_row 81 _ _ rfl wc.heap.size #[.pointer (some ⟨A, 0, none⟩), .pointer (some ⟨A2, 0, none⟩), .int .i64 xl] rfl rfl 81 #[.pointer none, .pointer none, .int .i64 0] (unhide R1) (by kernel_rfl) rfl (k_one _ _ _) ?_
          have D2 := hide (below_set (unhide D1) (g := wc.heap.size) (Nat.le_refl _) #[.pointer (some ⟨A, 0, none⟩), .pointer (some ⟨A2, 0, none⟩), .int .i64 xl])
          have R2 := hide (setRow_heap w1 wc.heap.size #[.pointer none, .pointer none, .int .i64 0] #[.pointer (some ⟨A, 0, none⟩), .pointer (some ⟨A2, 0, none⟩), .int .i64 xl] 81 (0, 0) (unhide R1))
          clear D1 R1
          generalize w1.setRow wc.heap.size #[.pointer (some ⟨A, 0, none⟩), .pointer (some ⟨A2, 0, none⟩), .int .i64 xl] = w2 at *
          refine hK.out _ _ (unhide D2) (fun hS => ?_)
          clear HS
          have HS := hide hS
          clear hS hK K2
          refine wpAnyH_done (by kernel_rfl) ?_ _
          clear HS D0
          have S2 := hide ((unhide S1).later (unhide D2))
          have l0 := Lib.cell_of_heap (unhide R2) 0
          have l1 := Lib.cell_of_heap (unhide R2) 1
          have l2 := Lib.cell_of_heap (unhide R2) 2
          have B2 := hide ((unhide BW).trans ((unhide D2).mono (unhide BW).size))
          have GX2 := hide (row_keep (unhide GX) (unhide D2))
          have GY2 := hide (row_keep (unhide GY) (unhide D2))
          have LK := run_look (unhide S2).mp ⟨A, A2, xl⟩ ((unhide CA).later (unhide B2)) ((unhide CA2).later (unhide B2)) (fun l hl => ⟨(unhide KC l hl).1.later (unhide B2), (unhide KC l hl).2.later (unhide B2)⟩)
          unfold Ky.v at LK
          simp only at LK
          clear S1 GX GY V3 W3 X0 X1 X2 X3 Y0 Y1 Y2 Y3 BW
          cases hq : hasK ks ⟨A, A2, xl⟩ with
          | true =>
            rw [hq] at LK
            have CD := hide ((unhide CC).drop ⟨unhide HH, .inr ⟨A, A2, rfl, rfl, by simp only; rw [(unhide XE).2.2.2.1]; exact (hasK_iff _ _).1 hq⟩⟩)
            have WN := hide (show waitN L < gk ∧ waitN L ≤ 1048577 by have := unhide KN; omega)
            clear hq
            go_wp2
            go_roundg (waitN L)
            case measure => exact (unhide WN).1
            case rel => exact ⟨L, ks, rfl, (unhide WN).2, unhide CD, (unhide S2).later ((Below.refl _ _).alloc (Nat.le_refl _) _)⟩
          | false =>
            rw [hq] at LK
            have HQ := hide hq
            clear hq
            have hb3 : Below w2.heap.size w2 (w2.alloc (.cells #[] 82)) := (Below.refl _ _).alloc (Nat.le_refl _) _
            have S3 := hide ((unhide S2).later hb3)
            have B3 := hide ((unhide B2).trans (hb3.mono (unhide B2).size))
            have GX3 := hide (row_keep (unhide GX2) hb3)
            have GY3 := hide (row_keep (unhide GY2) hb3)
            have m0 := Lib.cell_of_heap (row_keep (unhide R2) hb3) 0
            have m1 := Lib.cell_of_heap (row_keep (unhide R2) hb3) 1
            have m2 := Lib.cell_of_heap (row_keep (unhide R2) hb3) 2
            obtain ⟨w4, hput, hm4, hz4, ho4, s41, s42, s43⟩ := run_put (unhide S3).mp ⟨A, A2, xl⟩ ((unhide CA).later (unhide B3)) ((unhide CA2).later (unhide B3)) (fun l hl => ⟨(unhide KC l hl).1.later (unhide B3), (unhide KC l hl).2.later (unhide B3)⟩) (unhide HQ)
            have hneX : gx ≠ w.heap.size + 2 := fun e => by have h1 := unhide GX3; have h2 := (unhide S3).mp; unfold IsMp at h2; rw [e, h2] at h1; cases h1
            have hneY : gy ≠ w.heap.size + 2 := fun e => by have h1 := unhide GY3; have h2 := (unhide S3).mp; unfold IsMp at h2; rw [e, h2] at h1; cases h1
            have S4 := hide ((unhide S3).put hm4 hz4 ho4 s41 s42 s43)
            have GX4 := hide ((ho4 gx hneX).trans (unhide GX3))
            have GY4 := hide ((ho4 gy hneY).trans (unhide GY3))
            have g43 := Lib.cell_of_heap (unhide GX4) 3
            unfold Ky.v at hput
            simp only at hput
            clear hb3 S2 B2 GX2 GY2 hm4 hz4 ho4 s41 s42 s43 hneX hneY S3 B3 GX3 GY3 CA CA2 KC HQ D2
            go_wp2
            clear hput LK m0 m1 m2 g43 l0 l1 l2 R2
            go_loopw [6, 93] (fun v i wq => ∃ (j : Nat) (M : List Pr), j ≤ xl ∧ i = .int .i64 j ∧ kids w x y ⟨A, A2, xl⟩ j M ∧ waitN M = j + szX (x.l.take j) ∧ Cs w wq (w.heap.size + 2) v (L ++ M) (ks ++ [⟨A, A2, xl⟩]) ∧ wq.heap[gx]? = some (.cells #[.int .i64 xk, .int .i64 xn, .string xs, .slice (some ⟨A, 0, none⟩) xl c] 26 (0, 0)) ∧ wq.heap[gy]? = some (.cells #[.int .i64 xk, .int .i64 xn, .string xs, .slice (some ⟨A2, 0, none⟩) xl d] 26 (0, 0))) (fun _ i _ => xl - (intOf i).toNat)
            case atStart => exact ⟨0, [], Nat.zero_le _, rfl, ⟨rfl, fun i hi => by omega⟩, by simp [waitN, szX], by rw [List.append_nil]; exact unhide S4, unhide GX4, unhide GY4⟩
            case round =>
              clear S4 GX4 GY4
              obtain ⟨j, M, hj, rfl, hkid, hwm, hcs, hgx, hgy⟩ := hrel
              by_cases hlt : j < xl
              · obtain ⟨c1, cc1, G1, a0, a1, a2, a3, oe1⟩ := OwX.cell (unhide O1) (i := j) (by rw [(unhide XE).2.2.2.1]; omega)
                obtain ⟨d1, cd1, G2, b0, b1, b2, b3, oe2⟩ := OwX.cell (unhide O2) (i := j) (by rw [(unhide XE).2.2.2.2.2.2.2]; omega)
                have lA : A < w.heap.size := World.block_lt_of_cell? w _ a0
                have lB : A2 < w.heap.size := World.block_lt_of_cell? w _ b0
                have KD := hide (hkid.snoc a3 b3 ⟨_, oe1⟩ ⟨_, oe2⟩)
                have WM := hide (show waitN (M ++ [⟨xAt x.l j, xAt y.l j, c1, d1, cc1, cd1⟩]) = (j + 1) + szX (x.l.take (j + 1)) by
                  rw [waitN_app, hwm, szX_take _ _ (by rw [(unhide XE).2.2.2.1]; exact hlt)]
                  simp only [waitN]
                  omega)
                have PC := hide (fun (w' : World) (v : Value) (h : w'.ownsRow w.heap.size 77 8 v ((L ++ M).length + 1) (cellsP (L ++ M) ++ (Pr.mk (xAt x.l j) (xAt y.l j) c1 d1 cc1 cd1).cs)) => ownP_app h)
                have AS := hide (List.append_assoc L M [⟨xAt x.l j, xAt y.l j, c1, d1, cc1, cd1⟩])
                have P1 := hide (pr_one ⟨xAt x.l j, xAt y.l j, c1, d1, cc1, cd1⟩)
                have LN := hide (show (L ++ M).length = n + j by rw [List.length_append, hn, hkid.1])
                have I0 := hide (fun w1 (hb : Below w.heap.size w w1) => (hb.cell (p := ⟨A, j * 4, none⟩) lA).trans a0)
                have I1 := hide (fun w1 (hb : Below w.heap.size w w1) => (hb.cell (p := ⟨A, j * 4 + 1, none⟩) lA).trans a1)
                have I2 := hide (fun w1 (hb : Below w.heap.size w w1) => (hb.cell (p := ⟨A, j * 4 + 2, none⟩) lA).trans a2)
                have I3 := hide (fun w1 (hb : Below w.heap.size w w1) => (hb.cell (p := ⟨A, j * 4 + 3, none⟩) lA).trans a3)
                have J0 := hide (fun w1 (hb : Below w.heap.size w w1) => (hb.cell (p := ⟨A2, j * 4, none⟩) lB).trans b0)
                have J1 := hide (fun w1 (hb : Below w.heap.size w w1) => (hb.cell (p := ⟨A2, j * 4 + 1, none⟩) lB).trans b1)
                have J2 := hide (fun w1 (hb : Below w.heap.size w w1) => (hb.cell (p := ⟨A2, j * 4 + 2, none⟩) lB).trans b2)
                have J3 := hide (fun w1 (hb : Below w.heap.size w w1) => (hb.cell (p := ⟨A2, j * 4 + 3, none⟩) lB).trans b3)
                simp only [Pr.cs] at PC P1
                have hjn : ¬ ((xl : Int) ≤ (j : Int)) := by omega
                have HC := hide hcs
                have D0 := hide (show (fun w' => w'.heap[gx]? = some (.cells #[.int .i64 xk, .int .i64 xn, .string xs, .slice (some ⟨A, 0, none⟩) xl c] 26 (0, 0)) ∧ w'.heap[gy]? = some (.cells #[.int .i64 xk, .int .i64 xn, .string xs, .slice (some ⟨A2, 0, none⟩) xl d] 26 (0, 0)) ∧ Below w.heap.size w w') wr.drew from ⟨row_keep hgx below_drew, row_keep hgy below_drew, hcs.bel.trans ((below_drew (w := wr)).mono hcs.bel.size)⟩)
                clear a0 a1 a2 a3 b0 b1 b2 b3 oe1 oe2 lA lB hkid hwm hcs hgx hgy
                generalize Pr.mk (xAt x.l j) (xAt y.l j) c1 d1 cc1 cd1 = pr at *
                generalize (xAt x.l j).k = ek at *
                generalize (xAt x.l j).n = en at *
                generalize (xAt x.l j).s = es at *
                generalize (xAt x.l j).l.length = el at *
                generalize (xAt y.l j).k = fk at *
                generalize (xAt y.l j).n = fn at *
                generalize (xAt y.l j).s = fs at *
                generalize (xAt y.l j).l.length = fl at *
                go_upto_region 17 with fail
                refine wp_region_held_drew (S := fun w' => w'.heap[gx]? = some (.cells #[.int .i64 xk, .int .i64 xn, .string xs, .slice (some ⟨A, 0, none⟩) xl c] 26 (0, 0)) ∧ w'.heap[gy]? = some (.cells #[.int .i64 xk, .int .i64 xn, .string xs, .slice (some ⟨A2, 0, none⟩) xl d] 26 (0, 0)) ∧ Below w.heap.size w w') (by kernel_rfl) (unhide D0) (fun hS => ?_)
                have HS := hide hS
                clear hS
                refine wpAnyH_take (i := 0) (v := u6) rfl (by kernel_rfl) (by kernel_rfl) (by kernel_rfl) (fun _ _ _ h => h) (Or.inl ⟨by rfl, fun w hc => ?_⟩) (unhide HS) ?_
                · clear hc; go_simp
                go_simp
                refine wpAnyH_take (i := 1) (v := .pointer (some ⟨gx, 3, none⟩)) rfl (by kernel_rfl) (by kernel_rfl) (by kernel_rfl) (fun _ _ _ h => h) (Or.inl ⟨by rfl, fun w hc => ?_⟩) (unhide HS) ?_
                · clear hc; go_simp
                go_simp
                refine wpAnyH_take (i := 2) (v := .slice (some ⟨A, 0, none⟩) xl c) rfl (by kernel_rfl) (by kernel_rfl) (by kernel_rfl) (fun _ _ _ h => h) (Or.inl ⟨by rfl, fun w hc => ?_⟩) (unhide HS) ?_
                · have q := Lib.cell_of_heap hc.1 3; clear hc; go_simp
                go_simp
                refine wpAnyH_take (i := 3) (v := .int .i64 j) rfl (by kernel_rfl) (by kernel_rfl) (by kernel_rfl) (fun _ _ _ h => h) (Or.inl ⟨by rfl, fun w hc => ?_⟩) (unhide HS) ?_
                · clear hc; go_simp
                go_simp
                refine wpAnyH_take (i := 4) (v := .pointer (some ⟨A, j * 4, none⟩)) rfl (by kernel_rfl) (by kernel_rfl) (by kernel_rfl) (fun _ _ _ h => h) (Or.inl ⟨by rfl, fun w hc => ?_⟩) (unhide HS) ?_
                · clear hc; go_simp
                go_simp
                refine wpAnyH_take (i := 5) (v := .agg #[.int .i64 ek, .int .i64 en, .string es, .slice c1 el cc1]) rfl (by kernel_rfl) (by kernel_rfl) (by kernel_rfl) (fun _ _ _ h => h) (Or.inl ⟨by rfl, fun w hc => ?_⟩) (unhide HS) ?_
                · have q0 := unhide I0 _ hc.2.2; have q1 := unhide I1 _ hc.2.2; have q2 := unhide I2 _ hc.2.2; have q3 := unhide I3 _ hc.2.2; clear hc; go_simp
                go_simp
                refine wpAnyH_take (i := 6) (v := .pointer (some ⟨gy, 3, none⟩)) rfl (by kernel_rfl) (by kernel_rfl) (by kernel_rfl) (fun _ _ _ h => h) (Or.inl ⟨by rfl, fun w hc => ?_⟩) (unhide HS) ?_
                · clear hc; go_simp
                go_simp
                refine wpAnyH_take (i := 7) (v := .slice (some ⟨A2, 0, none⟩) xl d) rfl (by kernel_rfl) (by kernel_rfl) (by kernel_rfl) (fun _ _ _ h => h) (Or.inl ⟨by rfl, fun w hc => ?_⟩) (unhide HS) ?_
                · have q := Lib.cell_of_heap hc.2.1 3; clear hc; go_simp
                go_simp
                refine wpAnyH_take (i := 8) (v := .int .i64 j) rfl (by kernel_rfl) (by kernel_rfl) (by kernel_rfl) (fun _ _ _ h => h) (Or.inl ⟨by rfl, fun w hc => ?_⟩) (unhide HS) ?_
                · clear hc; go_simp
                go_simp
                refine wpAnyH_take (i := 9) (v := .pointer (some ⟨A2, j * 4, none⟩)) rfl (by kernel_rfl) (by kernel_rfl) (by kernel_rfl) (fun _ _ _ h => h) (Or.inl ⟨by rfl, fun w hc => ?_⟩) (unhide HS) ?_
                · clear hc; go_simp
                go_simp
                refine wpAnyH_take (i := 10) (v := .agg #[.int .i64 fk, .int .i64 fn, .string fs, .slice d1 fl cd1]) rfl (by kernel_rfl) (by kernel_rfl) (by kernel_rfl) (fun _ _ _ h => h) (Or.inl ⟨by rfl, fun w hc => ?_⟩) (unhide HS) ?_
                · have q0 := unhide J0 _ hc.2.2; have q1 := unhide J1 _ hc.2.2; have q2 := unhide J2 _ hc.2.2; have q3 := unhide J3 _ hc.2.2; clear hc; go_simp
                go_simp
                refine wpAnyH_take (i := 11) (v := .agg #[.int .i64 ek, .int .i64 en, .string es, .slice c1 el cc1, .int .i64 fk, .int .i64 fn, .string fs, .slice d1 fl cd1]) rfl (by kernel_rfl) (by kernel_rfl) (by kernel_rfl) (fun _ _ _ h => h) (Or.inl ⟨by rfl, fun w hc => ?_⟩) (unhide HS) ?_
                · clear hc; go_simp
                go_simp
                refine wpAnyH_ready (rs := [12]) (by kernel_rfl) (by simp) ?_
                refine AllReadyH.cons rfl (fun K2 hK => ?_) AllReadyH.nil
                go_simp
                have hb5 : Below wr.heap.size wr ((wr.alloc (.cells #[.int .i64 ek, .int .i64 en, .string es, .slice c1 el cc1, .int .i64 fk, .int .i64 fn, .string fs, .slice d1 fl cd1] 77)).drew) := ((Below.refl wr.heap.size wr).alloc (Nat.le_refl _) (.cells #[.int .i64 ek, .int .i64 en, .string es, .slice c1 el cc1, .int .i64 fk, .int .i64 fn, .string fs, .slice d1 fl cd1] 77)).trans ((below_drew (w := wr.alloc (.cells #[.int .i64 ek, .int .i64 en, .string es, .slice c1 el cc1, .int .i64 fk, .int .i64 fn, .string fs, .slice d1 fl cd1] 77))).mono (by simp))
                have H5 := hide ((unhide HC).later hb5)
                have D5 := hide (show (fun w' => w'.heap[gx]? = some (.cells #[.int .i64 xk, .int .i64 xn, .string xs, .slice (some ⟨A, 0, none⟩) xl c] 26 (0, 0)) ∧ w'.heap[gy]? = some (.cells #[.int .i64 xk, .int .i64 xn, .string xs, .slice (some ⟨A2, 0, none⟩) xl d] 26 (0, 0)) ∧ Below w.heap.size w w') ((wr.alloc (.cells #[.int .i64 ek, .int .i64 en, .string es, .slice c1 el cc1, .int .i64 fk, .int .i64 fn, .string fs, .slice d1 fl cd1] 77)).drew) from ⟨row_keep (show wr.heap[gx]? = _ from (unhide D0).1) hb5, row_keep (show wr.heap[gy]? = _ from (unhide D0).2.1) hb5, (unhide H5).bel⟩)
                have C5 := hide (show ∀ k u, [.int .i64 ek, .int .i64 en, .string es, .slice c1 el cc1, .int .i64 fk, .int .i64 fn, .string fs, .slice d1 fl cd1][k]? = some u → ((wr.alloc (.cells #[.int .i64 ek, .int .i64 en, .string es, .slice c1 el cc1, .int .i64 fk, .int .i64 fn, .string fs, .slice d1 fl cd1] 77)).drew).cell? ((⟨wr.heap.size, 0, none⟩ : Addr).add k) = some u from cellN wr #[.int .i64 ek, .int .i64 en, .string es, .slice c1 el cc1, .int .i64 fk, .int .i64 fn, .string fs, .slice d1 fl cd1] 77)
                clear hb5 HC D0
                generalize wr.heap.size = g5 at *
                generalize (wr.alloc (.cells #[.int .i64 ek, .int .i64 en, .string es, .slice c1 el cc1, .int .i64 fk, .int .i64 fn, .string fs, .slice d1 fl cd1] 77)).drew = w5 at *
                refine hK.out _ _ (unhide D5) (fun hS => ?_)
                clear HS
                have HS := hide hS
                clear hS hK K2
                refine wpAnyH_ready (rs := [13]) (by kernel_rfl) (by simp) ?_
                refine AllReadyH.cons rfl (fun K2 hK => ?_) AllReadyH.nil
                rw [if_pos (by rfl)]
                refine wp_append_own _ (.tmp 96) (.tmp 108) 78 rfl w.heap.size 77 i0 (.agg #[.int .i64 0, .int .i64 0, .string ⟨#[]⟩, .slice none 0 0, .int .i64 0, .int .i64 0, .string ⟨#[]⟩, .slice none 0 0]) 8 112 Tryd.underlying78 hi hz0 hz1 hz2 rfl (by decide) u6 (L ++ M).length (cellsP (L ++ M)) rfl (unhide H5).own ⟨g5, 0, none⟩ 1 1 [.int .i64 ek, .int .i64 en, .string es, .slice c1 el cc1, .int .i64 fk, .int .i64 fn, .string fs, .slice d1 fl cd1] rfl rfl (unhide C5) (unhide P1) (by rw [unhide LN]; unfold maxLen; omega) (by rw [unhide LN]; omega) (unhide H5).bel.size ?_
                intro v6 w6 hown6 hgrow6 _
                have O6 := hide (unhide PC w6 v6 hown6)
                rw [unhide AS] at O6
                have H6 := hide ((unhide H5).app hgrow6 (unhide O6))
                have D6 := hide (show (fun w' => w'.heap[gx]? = some (.cells #[.int .i64 xk, .int .i64 xn, .string xs, .slice (some ⟨A, 0, none⟩) xl c] 26 (0, 0)) ∧ w'.heap[gy]? = some (.cells #[.int .i64 xk, .int .i64 xn, .string xs, .slice (some ⟨A2, 0, none⟩) xl d] 26 (0, 0)) ∧ Below w.heap.size w w') w6 from ⟨(unhide H5).own.row hgrow6 (unhide D5).1, (unhide H5).own.row hgrow6 (unhide D5).2.1, (unhide H6).bel⟩)
                refine hK.out _ _ (unhide D6) (fun hS => ?_)
                clear HS
                have HS := hide hS
                clear hS hK K2
                clear hown6 hgrow6 H5 D5 C5
                refine wpAnyH_take (i := 14) (v := v6) rfl (by kernel_rfl) (by kernel_rfl) (by kernel_rfl) (fun _ _ _ h => h) (Or.inl ⟨by rfl, fun w hc => ?_⟩) (unhide HS) ?_
                · clear hc; go_simp
                go_simp
                refine wpAnyH_done (by kernel_rfl) ?_ _
                clear HS
                go_wp2
                go_roundw
                case rel => exact ⟨j + 1, M ++ [pr], by omega, by go_num, unhide KD, unhide WM, unhide H6, (unhide D6).1, (unhide D6).2.1⟩
                case measure => simp [intOf]; omega
              · obtain rfl : j = xl := by omega
                have CO := hide ((unhide CC).open (unhide HH) ⟨A, A2, j⟩ rfl rfl (unhide XE).2.2.2.1.symm (show 0 < j by omega) hkid)
                have WN := hide (show waitN (L ++ M) < gk ∧ waitN (L ++ M) ≤ 1048577 by
                  rw [waitN_app, hwm]
                  have h1 := unhide KN
                  have h2 := unhide QX
                  have h3 := (unhide XE).2.2.2.1
                  have h4 := szX_le x.l j
                  omega)
                have HC := hide hcs
                clear hkid hwm hcs hgx hgy
                go_wp2
                go_roundg (waitN (L ++ M))
                case measure => exact (unhide WN).1
                case rel => exact ⟨L ++ M, ks ++ [⟨A, A2, j⟩], rfl, (unhide WN).2, unhide CO, unhide HC⟩
end Go.Proofs.YtkolflcjkofleaaDoor

namespace Go.Proofs.YtkolflcjkofleaaDoor
set_option linter.unusedVariables false
theorem sameX_self (a : Ex) : sameX a a = true := (sameX_iff a a).2 rfl
theorem sameX_comm (a b : Ex) : sameX a b = sameX b a := by rw [Bool.eq_iff_iff, sameX_iff, sameX_iff]; exact ⟨Eq.symm, Eq.symm⟩
end Go.Proofs.YtkolflcjkofleaaDoor
