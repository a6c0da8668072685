/- Contracts over this seat's translation, laid together; conditions stand as hypotheses of each. -/
import Derived.Test.YtkolflcjkofleaaDoorTxA
import Derived.Test.YtkolflcjkofleaaDoorTxC
import Derived.Test.YtkolflcjkofleaaDoorTxF
import Derived.Deep.OwnRows
import Derived.Laws.AppendOwn
import Derived.Orders
import Derived.RegionTactic

namespace Go.Proofs.YtkolflcjkofleaaDoor
open Go.ChangeShapes Go.WideShapes Go.ChangeAt Go.RowKit
set_option linter.unusedVariables false
set_option maxRecDepth 8000
set_option linter.unusedSimpArgs false

theorem ct_szF (e : Ex) : e.ct ≤ e.sz := by
  induction e using Ex.ind with
  | h k n s l ih =>
    rw [Ex.ct, Ex.sz_eq]
    have : (l.map Ex.ct).sum ≤ (l.map Ex.sz).sum := by
      clear k n s
      induction l with
      | nil => simp
      | cons x r ihr =>
        have h1 := ih x List.mem_cons_self
        have h2 := ihr (fun y hy => ih y (List.mem_cons_of_mem _ hy))
        simp only [List.map_cons, List.sum_cons]
        omega
    omega
theorem put_szM {here : Ex} {L : List ByteArray} {vals : List Ex} {M : Nat} (hh : here.sz ≤ M) (hv : ∀ i, (xAt vals i).sz ≤ M) (e : Ex) : (putX here L vals e).sz ≤ e.sz + (1 + e.ct) * M := by
  induction e using Ex.ind with
  | h k n s l ih =>
    rw [putX_eq]
    have hM : M ≤ (1 + (Ex.mk k n s l).ct) * M := Nat.le_mul_of_pos_left _ (by omega)
    unfold putC
    split
    · omega
    · split
      · have := hv (atV L s).toNat; omega
      · rw [Ex.sz_eq, Ex.sz_eq, Ex.ct, List.length_map]
        have : ((l.map (putX here L vals)).map Ex.sz).sum ≤ (l.map Ex.sz).sum + (l.length + (l.map Ex.ct).sum) * M := by
          clear hM
          induction l with
          | nil => simp
          | cons x r ihr =>
            have h1 := ih x List.mem_cons_self
            have h2 := ihr (fun y hy => ih y (List.mem_cons_of_mem _ hy))
            simp only [List.map_cons, List.sum_cons, List.length_cons]
            have e1 : (r.length + 1 + (x.ct + (r.map Ex.ct).sum)) * M = (1 + x.ct) * M + (r.length + (r.map Ex.ct).sum) * M := by rw [← Nat.add_mul]; congr 1; omega
            omega
        have e2 : (1 + (l.length + (l.map Ex.ct).sum)) * M = M + (l.length + (l.map Ex.ct).sum) * M := by rw [Nat.add_mul, Nat.one_mul]
        omega
def flV : List Ex := [⟨1, 7, ⟨#[]⟩, []⟩, ⟨11, 0, ⟨#[]⟩, []⟩, ⟨12, 0, ⟨#[103]⟩, []⟩]
def flH : Ex := ⟨11, 1, ⟨#[]⟩, []⟩
def flL : List ByteArray := [⟨#[97]⟩, ⟨#[98]⟩, ⟨#[99]⟩]
theorem flV_sz : ∀ i, (xAt flV i).sz ≤ 1 := by
  intro i
  match i with
  | 0 => show (Ex.mk 1 7 ⟨#[]⟩ []).sz ≤ 1; rw [sz_leaf]; decide
  | 1 => show (Ex.mk 11 0 ⟨#[]⟩ []).sz ≤ 1; rw [sz_leaf]; decide
  | 2 => show (Ex.mk 12 0 ⟨#[103]⟩ []).sz ≤ 1; rw [sz_leaf]; decide
  | (i + 3) => show (Ex.mk 0 0 ⟨#[]⟩ []).sz ≤ 1; rw [sz_leaf]; decide
theorem flH_sz : flH.sz ≤ 1 := by unfold flH; rw [sz_leaf]; decide
theorem fl_pk : Pk flH flL flV := ⟨Nat.le_trans flH_sz (by decide), by decide, fun i _ => Nat.le_trans (flV_sz i) (by decide), rfl⟩
theorem fl_pv {w : World} {gn gv : Nat} {t u : TypeId} (hn : w.heap[gn]? = some (.cells #[.string ⟨#[97]⟩, .string ⟨#[98]⟩, .string ⟨#[99]⟩] t (0, 0))) (hv : w.heap[gv]? = some (.cells #[.int .i64 1, .int .i64 7, .string ⟨#[]⟩, .slice none 0 0, .int .i64 11, .int .i64 0, .string ⟨#[]⟩, .slice none 0 0, .int .i64 12, .int .i64 0, .string ⟨#[103]⟩, .slice none 0 0] u (0, 0))) : Pv w flH none gn flL (some ⟨gv, 0, none⟩) flV := by
  refine ⟨(RdX_eq _ _ _ _).2 (.inl rfl), fun j hj => ?_, (Array.getElem?_eq_some_iff.1 hn).1, (RdX_eq _ _ _ _).2 (.inr ⟨gv, 0, rfl, Nat.zero_le _, (Array.getElem?_eq_some_iff.1 hv).1, fun i hi => ?_⟩)⟩
  · have hj : j < 3 := hj
    have : j = 0 ∨ j = 1 ∨ j = 2 := by omega
    rcases this with rfl | rfl | rfl <;> exact Lib.cell_of_heap hn _
  · have hi : i < 3 := hi
    have lf : ∀ (k n : Int) (s : ByteArray), RdX w 0 ⟨k, n, s, []⟩ none := fun k n s => (RdX_eq _ _ _ _).2 (.inl rfl)
    have : i = 0 ∨ i = 1 ∨ i = 2 := by omega
    rcases this with rfl | rfl | rfl
    · exact ⟨Lib.cell_of_heap hv 0, Lib.cell_of_heap hv 1, Lib.cell_of_heap hv 2, none, 0, Lib.cell_of_heap hv 3, lf _ _ _⟩
    · exact ⟨Lib.cell_of_heap hv 4, Lib.cell_of_heap hv 5, Lib.cell_of_heap hv 6, none, 0, Lib.cell_of_heap hv 7, lf _ _ _⟩
    · exact ⟨Lib.cell_of_heap hv 8, Lib.cell_of_heap hv 9, Lib.cell_of_heap hv 10, none, 0, Lib.cell_of_heap hv 11, lf _ _ _⟩
theorem flPut (x : Ex) (hz : x.sz ≤ 1100000) (c : Option Addr) (cp gn gv : Nat) (w : World) (t u : TypeId) (hr : RdX w 0 x c) (hn : w.heap[gn]? = some (.cells #[.string ⟨#[97]⟩, .string ⟨#[98]⟩, .string ⟨#[99]⟩] t (0, 0))) (hv : w.heap[gv]? = some (.cells #[.int .i64 1, .int .i64 7, .string ⟨#[]⟩, .slice none 0 0, .int .i64 11, .int .i64 0, .string ⟨#[]⟩, .slice none 0 0, .int .i64 12, .int .i64 0, .string ⟨#[103]⟩, .slice none 0 0] u (0, 0))) : Calls Tryd.prog 54 #[.agg #[.int .i64 x.k, .int .i64 x.n, .string x.s, .slice c x.l.length cp], .agg #[.int .i64 11, .int .i64 1, .string ⟨#[]⟩, .slice none 0 0], .slice (some ⟨gn, 0, none⟩) 3 3, .slice (some ⟨gv, 0, none⟩) 3 3] w (GiR (putX flH flL flV x) (Up w) w) :=
  putS_any flH flL flV fl_pk x hz c none (some ⟨gv, 0, none⟩) cp 0 gn 3 w hr (fl_pv hn hv)
theorem two_resF (w : World) (o o2 : Obj) : Below w.heap.size w ((w.alloc o).alloc o2) ∧ ((w.alloc o).alloc o2).heap[w.heap.size]? = some o ∧ ((w.alloc o).alloc o2).heap[w.heap.size + 1]? = some o2 ∧ ((w.alloc o).alloc o2).heap.size = w.heap.size + 2 := by
  have h1 : (w.alloc o).heap.size = w.heap.size + 1 := by simp
  refine ⟨((Below.refl _ _).alloc (Nat.le_refl _) _).alloc (by simp) _, row_keep (heap_alloc_new w _) (below_new _ _), ?_, by simp⟩
  rw [← h1]
  exact Array.getElem?_push_size
set_option maxHeartbeats 16000000 in
theorem flatD (d : Nat) (hd : d ≤ 4) (hsz : szD d ≤ 1000) (ih : DrP d) (cb : Nat) (a : Option Addr) (len cap : Nat) (xs : List UInt8) (w : World) (hc : Cur w cb a len cap xs) : Calls Tryd.prog 44 #[.pointer (some ⟨cb, 0, none⟩), .int .i64 (d : Nat)] w (DrX (2 * szD d + 1) cb a len cap xs w) := by
  have IH := hide (fun wr (h : Cur wr cb a len cap xs) => ih d rfl false cb a len cap xs wr h)
  unfold DrX at IH
  obtain ⟨b0, r0, h0, z0⟩ := two_resF w (.cells #[.int .i64 0, .int .i64 0, .string ⟨#[]⟩, .slice none 0 0] 26) (.cells #[.int .i64 11, .int .i64 1, .string ⟨#[]⟩, .slice none 0 0] 26)
  have D0 := hide ((dz_new hc).later b0)
  have RS0 := hide r0
  have HB0 := hide h0
  have hlc := hc.lt
  have SZ0 := hide z0
  generalize hX : DrX (2 * szD d + 1) cb a len cap xs w = X
  have HX := hide hX
  generalize szD d = zd at *
  clear hc hX ih b0 r0 h0 z0
  go_enter Tryd.func44, Tryd.ntmps44
  go_wp2_with fail
  generalize (w.alloc (.cells #[.int .i64 0, .int .i64 0, .string ⟨#[]⟩, .slice none 0 0] 26)).alloc (.cells #[.int .i64 11, .int .i64 1, .string ⟨#[]⟩, .slice none 0 0] 26) = W at *
  have D1 := hide ((unhide D0).later (below_drew (w := W)))
  have RS1 := hide (row_keep (unhide RS0) (below_drew (w := W)))
  have HB1 := hide (row_keep (unhide HB0) (below_drew (w := W)))
  have LT1 := hide (show w.heap.size + 2 ≤ W.drew.heap.size from Nat.le_of_eq (unhide SZ0).symm)
  refine wp_region_held_drew (S := fun v => v.heap[w.heap.size + 1]? = some (.cells #[.int .i64 11, .int .i64 1, .string ⟨#[]⟩, .slice none 0 0] 26 (0, 0))) (by kernel_rfl) (unhide HB1) (fun hS => ?_)
  have HS := hide hS
  clear hS D0 RS0 HB0 SZ0
  generalize W.drew = w1 at *
  refine wpAnyH_take (i := 0) (v := .pointer (some ⟨cb, 0, none⟩)) rfl (by kernel_rfl) (by kernel_rfl) (by kernel_rfl) (fun _ _ _ h => h) (Or.inl ⟨by rfl, fun w hc => ?_⟩) (unhide HS) ?_
  · clear hc; go_simp
  go_simp
  refine wpAnyH_take (i := 1) (v := .int .i64 (d : Nat)) rfl (by kernel_rfl) (by kernel_rfl) (by kernel_rfl) (fun _ _ _ h => h) (Or.inl ⟨by rfl, fun w hc => ?_⟩) (unhide HS) ?_
  · clear hc; go_simp
  go_simp
  refine wpAnyH_take (i := 3) (v := .agg #[.int .i64 11, .int .i64 1, .string ⟨#[]⟩, .slice none 0 0]) rfl (by kernel_rfl) (by kernel_rfl) (by kernel_rfl) (fun _ _ _ h => h) (yields_loadG (by rfl) 26 _ rfl (w.heap.size + 1) rfl 26 #[.int .i64 11, .int .i64 1, .string ⟨#[]⟩, .slice none 0 0] _ (fun w h => h) Tryd.underlying26 rfl (by kernel_rfl)) (unhide HS) ?_
  go_simp
  refine wpAnyH_take (i := 6) (v := .agg #[.int .i64 11, .int .i64 0, .string ⟨#[]⟩, .slice none 0 0]) rfl (by kernel_rfl) (by kernel_rfl) (by kernel_rfl) (fun _ _ _ h => h) (Or.inl ⟨by rfl, fun w hc => ?_⟩) (unhide HS) ?_
  · clear hc; go_simp
  go_simp
  refine wpAnyH_take (i := 7) (v := .agg #[.int .i64 12, .int .i64 0, .string ⟨#[103]⟩, .slice none 0 0]) rfl (by kernel_rfl) (by kernel_rfl) (by kernel_rfl) (fun _ _ _ h => h) (Or.inl ⟨by rfl, fun w hc => ?_⟩) (unhide HS) ?_
  · clear hc; go_simp
  go_simp
  refine wpAnyH_ready (rs := [2, 4]) (by kernel_rfl) (by simp) ?_
  refine AllReadyH.cons rfl (fun K2 hK => ?_) (AllReadyH.cons rfl (fun K2 hK => ?_) AllReadyH.nil)
  · go_simp
    refine (unhide IH w1 (unhide D1).cur).mono ?_
    rintro r w2 ⟨x, c, cp, rfl, hsx, hnx, hcc, hgg⟩
    unfold Ex.cs
    have D2 := hide ((unhide D1).draw hcc hgg)
    have RS2 := hide ((unhide D1).blk hgg (unhide RS1) (Nat.le_refl _))
    have HB2 := hide ((unhide D1).blk hgg (unhide HB1) (Nat.le_succ _))
    have LT2 := hide (Nat.le_trans (unhide LT1) hgg.size)
    have X2 := hide (hnx.lower (unhide LT1))
    refine hK.out _ _ (unhide HB2) (fun hS => ?_)
    clear HS
    have HS := hide hS
    clear hS hK K2
    clear hnx hcc hgg D1 RS1 HB1 LT1 
    refine wpAnyH_ready (rs := [4, 5]) (by kernel_rfl) (by simp) ?_
    refine AllReadyH.cons rfl (fun K2 hK => ?_) (AllReadyH.cons rfl (fun K2 hK => ?_) AllReadyH.nil)
    · go_simp
      have hb := below_new w2 (.cells #[.string ⟨#[97]⟩, .string ⟨#[98]⟩, .string ⟨#[99]⟩] 9)
      have N3 := hide (show (w2.alloc (.cells #[.string ⟨#[97]⟩, .string ⟨#[98]⟩, .string ⟨#[99]⟩] 9)).heap[w2.heap.size]? = some (.cells #[.string ⟨#[97]⟩, .string ⟨#[98]⟩, .string ⟨#[99]⟩] 9 (0, 0)) from Array.getElem?_push_size)
      have LN := hide (show w.heap.size + 2 ≤ w2.heap.size from unhide LT2)
      have D3 := hide ((unhide D2).later hb)
      have RS3 := hide (row_keep (unhide RS2) hb)
      have HB3 := hide (row_keep (unhide HB2) hb)
      have LT3 := hide (Nat.le_trans (unhide LT2) hb.size)
      have X3 := hide ((unhide X2).later hb)
      refine hK.out _ _ (unhide HB3) (fun hS => ?_)
      clear HS
      have HS := hide hS
      clear hS hK K2
      clear hb D2 RS2 HB2 LT2 X2
      generalize w2.alloc (.cells #[.string ⟨#[97]⟩, .string ⟨#[98]⟩, .string ⟨#[99]⟩] 9) = w3 at *
      generalize w2.heap.size = gn at *
      refine wpAnyH_ready (rs := [5]) (by kernel_rfl) (by simp) ?_
      refine AllReadyH.cons rfl (fun K2 hK => ?_) AllReadyH.nil
      go_simp
      refine (numD 7 w3).mono ?_
      rintro r w4 ⟨rfl, hb⟩
      have D4 := hide ((unhide D3).later hb)
      have RS4 := hide (row_keep (unhide RS3) hb)
      have HB4 := hide (row_keep (unhide HB3) hb)
      have LT4 := hide (Nat.le_trans (unhide LT3) hb.size)
      have X4 := hide ((unhide X3).later hb)
      have N4 := hide (row_keep (unhide N3) hb)
      refine hK.out _ _ (unhide HB4) (fun hS => ?_)
      clear HS
      have HS := hide hS
      clear hS hK K2
      clear hb D3 RS3 HB3 LT3 X3 N3
      refine wpAnyH_ready (rs := [8]) (by kernel_rfl) (by simp) ?_
      refine AllReadyH.cons rfl (fun K2 hK => ?_) AllReadyH.nil
      go_simp
      have hb := below_new w4 (.cells #[.int .i64 1, .int .i64 7, .string ⟨#[]⟩, .slice none 0 0, .int .i64 11, .int .i64 0, .string ⟨#[]⟩, .slice none 0 0, .int .i64 12, .int .i64 0, .string ⟨#[103]⟩, .slice none 0 0] 26)
      have V5 := hide (show (w4.alloc (.cells #[.int .i64 1, .int .i64 7, .string ⟨#[]⟩, .slice none 0 0, .int .i64 11, .int .i64 0, .string ⟨#[]⟩, .slice none 0 0, .int .i64 12, .int .i64 0, .string ⟨#[103]⟩, .slice none 0 0] 26)).heap[w4.heap.size]? = some (.cells #[.int .i64 1, .int .i64 7, .string ⟨#[]⟩, .slice none 0 0, .int .i64 11, .int .i64 0, .string ⟨#[]⟩, .slice none 0 0, .int .i64 12, .int .i64 0, .string ⟨#[103]⟩, .slice none 0 0] 26 (0, 0)) from Array.getElem?_push_size)
      have LV := hide (show w.heap.size + 2 ≤ w4.heap.size from unhide LT4)
      have D5 := hide ((unhide D4).later hb)
      have RS5 := hide (row_keep (unhide RS4) hb)
      have HB5 := hide (row_keep (unhide HB4) hb)
      have LT5 := hide (Nat.le_trans (unhide LT4) hb.size)
      have X5 := hide ((unhide X4).later hb)
      have N5 := hide (row_keep (unhide N4) hb)
      refine hK.out _ _ (unhide HB5) (fun hS => ?_)
      clear HS
      have HS := hide hS
      clear hS hK K2
      clear hb D4 RS4 HB4 LT4 X4 N4
      generalize w4.alloc (.cells #[.int .i64 1, .int .i64 7, .string ⟨#[]⟩, .slice none 0 0, .int .i64 11, .int .i64 0, .string ⟨#[]⟩, .slice none 0 0, .int .i64 12, .int .i64 0, .string ⟨#[103]⟩, .slice none 0 0] 26) = w5 at *
      generalize w4.heap.size = gv at *
      refine wpAnyH_ready (rs := [9]) (by kernel_rfl) (by simp) ?_
      refine AllReadyH.cons rfl (fun K2 hK => ?_) AllReadyH.nil
      go_simp
      have PU := hide (flPut x (by omega) c cp gn gv w5 _ _ ((unhide X5).rd.lower (Nat.zero_le _) _ _) (unhide N5) (unhide V5))
      unfold GiR Ex.cs at PU
      have SY := hide (show (putX flH flL flV x).sz ≤ 2 * zd + 1 from Nat.le_trans (put_szM flH_sz flV_sz x) (by have := ct_szF x; omega))
      refine (unhide PU).mono ?_
      rintro r w6 ⟨c2, cp2, rfl, hnx, hb⟩
      generalize putX flH flL flV x = y at *
      have D6 := hide ((unhide D5).later hb)
      have RS6 := hide (row_keep (unhide RS5) hb)
      have HB6 := hide (row_keep (unhide HB5) hb)
      have Y6 := hide ((show NewX w6 w5.heap.size y c2 from hnx).lower (unhide LT5))
      refine hK.out _ _ (unhide HB6) (fun hS => ?_)
      clear HS
      have HS := hide hS
      clear hS hK K2
      clear hb hnx PU D5 RS5 HB5 LT5 X5 N5 V5
      refine wpAnyH_ready (rs := [10]) (by kernel_rfl) (by simp) ?_
      refine AllReadyH.cons rfl (fun K2 hK => ?_) AllReadyH.nil
      rw [if_pos (by rfl)]
      refine wp_store_row 26 _ _ rfl w.heap.size #[.int .i64 y.k, .int .i64 y.n, .string y.s, .slice c2 y.l.length cp2] rfl rfl 26 _ (unhide RS6) szE rfl (ex_one _ _ _ _ _ _) ?_
      refine hK.out _ _ ((setRow_other _ _ _ _ (by omega)).trans (unhide HB6)) (fun hS => ?_)
      clear HS
      have HS := hide hS
      clear hS hK K2
      refine wpAnyH_done (by kernel_rfl) ?_ _
      clear HS
      go_wp2
      refine bodyPost_ret (results_cell_row (P := Tryd.prog) rfl _ _ w.heap.size 26 #[.int .i64 y.k, .int .i64 y.n, .string y.s, .slice c2 y.l.length cp2] (0, 0) _ rfl (setRow_heap _ _ _ _ _ _ (unhide RS6)) Tryd.underlying26 rfl szE) rfl ?_
      rw [← unhide HX]
      exact ⟨y, c2, cp2, rfl, unhide SY, ((unhide Y6).row _ (by omega)).lower (by omega), ((unhide D6).row _).cur, ((unhide D6).row _).gr⟩
    · go_simp
      refine (numD 7 w2).mono ?_
      rintro r w3 ⟨rfl, hb⟩
      have D3 := hide ((unhide D2).later hb)
      have RS3 := hide (row_keep (unhide RS2) hb)
      have HB3 := hide (row_keep (unhide HB2) hb)
      have LT3 := hide (Nat.le_trans (unhide LT2) hb.size)
      have X3 := hide ((unhide X2).later hb)
      refine hK.out _ _ (unhide HB3) (fun hS => ?_)
      clear HS
      have HS := hide hS
      clear hS hK K2
      clear hb D2 RS2 HB2 LT2 X2
      refine wpAnyH_ready (rs := [4, 8]) (by kernel_rfl) (by simp) ?_
      refine AllReadyH.cons rfl (fun K2 hK => ?_) (AllReadyH.cons rfl (fun K2 hK => ?_) AllReadyH.nil)
      · go_simp
        have hb := below_new w3 (.cells #[.string ⟨#[97]⟩, .string ⟨#[98]⟩, .string ⟨#[99]⟩] 9)
        have N4 := hide (show (w3.alloc (.cells #[.string ⟨#[97]⟩, .string ⟨#[98]⟩, .string ⟨#[99]⟩] 9)).heap[w3.heap.size]? = some (.cells #[.string ⟨#[97]⟩, .string ⟨#[98]⟩, .string ⟨#[99]⟩] 9 (0, 0)) from Array.getElem?_push_size)
        have LN := hide (show w.heap.size + 2 ≤ w3.heap.size from unhide LT3)
        have D4 := hide ((unhide D3).later hb)
        have RS4 := hide (row_keep (unhide RS3) hb)
        have HB4 := hide (row_keep (unhide HB3) hb)
        have LT4 := hide (Nat.le_trans (unhide LT3) hb.size)
        have X4 := hide ((unhide X3).later hb)
        refine hK.out _ _ (unhide HB4) (fun hS => ?_)
        clear HS
        have HS := hide hS
        clear hS hK K2
        clear hb D3 RS3 HB3 LT3 X3
        generalize w3.alloc (.cells #[.string ⟨#[97]⟩, .string ⟨#[98]⟩, .string ⟨#[99]⟩] 9) = w4 at *
        generalize w3.heap.size = gn at *
        refine wpAnyH_ready (rs := [8]) (by kernel_rfl) (by simp) ?_
        refine AllReadyH.cons rfl (fun K2 hK => ?_) AllReadyH.nil
        go_simp
        have hb := below_new w4 (.cells #[.int .i64 1, .int .i64 7, .string ⟨#[]⟩, .slice none 0 0, .int .i64 11, .int .i64 0, .string ⟨#[]⟩, .slice none 0 0, .int .i64 12, .int .i64 0, .string ⟨#[103]⟩, .slice none 0 0] 26)
        have V5 := hide (show (w4.alloc (.cells #[.int .i64 1, .int .i64 7, .string ⟨#[]⟩, .slice none 0 0, .int .i64 11, .int .i64 0, .string ⟨#[]⟩, .slice none 0 0, .int .i64 12, .int .i64 0, .string ⟨#[103]⟩, .slice none 0 0] 26)).heap[w4.heap.size]? = some (.cells #[.int .i64 1, .int .i64 7, .string ⟨#[]⟩, .slice none 0 0, .int .i64 11, .int .i64 0, .string ⟨#[]⟩, .slice none 0 0, .int .i64 12, .int .i64 0, .string ⟨#[103]⟩, .slice none 0 0] 26 (0, 0)) from Array.getElem?_push_size)
        have LV := hide (show w.heap.size + 2 ≤ w4.heap.size from unhide LT4)
        have D5 := hide ((unhide D4).later hb)
        have RS5 := hide (row_keep (unhide RS4) hb)
        have HB5 := hide (row_keep (unhide HB4) hb)
        have LT5 := hide (Nat.le_trans (unhide LT4) hb.size)
        have X5 := hide ((unhide X4).later hb)
        have N5 := hide (row_keep (unhide N4) hb)
        refine hK.out _ _ (unhide HB5) (fun hS => ?_)
        clear HS
        have HS := hide hS
        clear hS hK K2
        clear hb D4 RS4 HB4 LT4 X4 N4
        generalize w4.alloc (.cells #[.int .i64 1, .int .i64 7, .string ⟨#[]⟩, .slice none 0 0, .int .i64 11, .int .i64 0, .string ⟨#[]⟩, .slice none 0 0, .int .i64 12, .int .i64 0, .string ⟨#[103]⟩, .slice none 0 0] 26) = w5 at *
        generalize w4.heap.size = gv at *
        refine wpAnyH_ready (rs := [9]) (by kernel_rfl) (by simp) ?_
        refine AllReadyH.cons rfl (fun K2 hK => ?_) AllReadyH.nil
        go_simp
        have PU := hide (flPut x (by omega) c cp gn gv w5 _ _ ((unhide X5).rd.lower (Nat.zero_le _) _ _) (unhide N5) (unhide V5))
        unfold GiR Ex.cs at PU
        have SY := hide (show (putX flH flL flV x).sz ≤ 2 * zd + 1 from Nat.le_trans (put_szM flH_sz flV_sz x) (by have := ct_szF x; omega))
        refine (unhide PU).mono ?_
        rintro r w6 ⟨c2, cp2, rfl, hnx, hb⟩
        generalize putX flH flL flV x = y at *
        have D6 := hide ((unhide D5).later hb)
        have RS6 := hide (row_keep (unhide RS5) hb)
        have HB6 := hide (row_keep (unhide HB5) hb)
        have Y6 := hide ((show NewX w6 w5.heap.size y c2 from hnx).lower (unhide LT5))
        refine hK.out _ _ (unhide HB6) (fun hS => ?_)
        clear HS
        have HS := hide hS
        clear hS hK K2
        clear hb hnx PU D5 RS5 HB5 LT5 X5 N5 V5
        refine wpAnyH_ready (rs := [10]) (by kernel_rfl) (by simp) ?_
        refine AllReadyH.cons rfl (fun K2 hK => ?_) AllReadyH.nil
        rw [if_pos (by rfl)]
        refine wp_store_row 26 _ _ rfl w.heap.size #[.int .i64 y.k, .int .i64 y.n, .string y.s, .slice c2 y.l.length cp2] rfl rfl 26 _ (unhide RS6) szE rfl (ex_one _ _ _ _ _ _) ?_
        refine hK.out _ _ ((setRow_other _ _ _ _ (by omega)).trans (unhide HB6)) (fun hS => ?_)
        clear HS
        have HS := hide hS
        clear hS hK K2
        refine wpAnyH_done (by kernel_rfl) ?_ _
        clear HS
        go_wp2
        refine bodyPost_ret (results_cell_row (P := Tryd.prog) rfl _ _ w.heap.size 26 #[.int .i64 y.k, .int .i64 y.n, .string y.s, .slice c2 y.l.length cp2] (0, 0) _ rfl (setRow_heap _ _ _ _ _ _ (unhide RS6)) Tryd.underlying26 rfl szE) rfl ?_
        rw [← unhide HX]
        exact ⟨y, c2, cp2, rfl, unhide SY, ((unhide Y6).row _ (by omega)).lower (by omega), ((unhide D6).row _).cur, ((unhide D6).row _).gr⟩
      · go_simp
        have hb := below_new w3 (.cells #[.int .i64 1, .int .i64 7, .string ⟨#[]⟩, .slice none 0 0, .int .i64 11, .int .i64 0, .string ⟨#[]⟩, .slice none 0 0, .int .i64 12, .int .i64 0, .string ⟨#[103]⟩, .slice none 0 0] 26)
        have V4 := hide (show (w3.alloc (.cells #[.int .i64 1, .int .i64 7, .string ⟨#[]⟩, .slice none 0 0, .int .i64 11, .int .i64 0, .string ⟨#[]⟩, .slice none 0 0, .int .i64 12, .int .i64 0, .string ⟨#[103]⟩, .slice none 0 0] 26)).heap[w3.heap.size]? = some (.cells #[.int .i64 1, .int .i64 7, .string ⟨#[]⟩, .slice none 0 0, .int .i64 11, .int .i64 0, .string ⟨#[]⟩, .slice none 0 0, .int .i64 12, .int .i64 0, .string ⟨#[103]⟩, .slice none 0 0] 26 (0, 0)) from Array.getElem?_push_size)
        have LV := hide (show w.heap.size + 2 ≤ w3.heap.size from unhide LT3)
        have D4 := hide ((unhide D3).later hb)
        have RS4 := hide (row_keep (unhide RS3) hb)
        have HB4 := hide (row_keep (unhide HB3) hb)
        have LT4 := hide (Nat.le_trans (unhide LT3) hb.size)
        have X4 := hide ((unhide X3).later hb)
        refine hK.out _ _ (unhide HB4) (fun hS => ?_)
        clear HS
        have HS := hide hS
        clear hS hK K2
        clear hb D3 RS3 HB3 LT3 X3
        generalize w3.alloc (.cells #[.int .i64 1, .int .i64 7, .string ⟨#[]⟩, .slice none 0 0, .int .i64 11, .int .i64 0, .string ⟨#[]⟩, .slice none 0 0, .int .i64 12, .int .i64 0, .string ⟨#[103]⟩, .slice none 0 0] 26) = w4 at *
        generalize w3.heap.size = gv at *
        refine wpAnyH_ready (rs := [4]) (by kernel_rfl) (by simp) ?_
        refine AllReadyH.cons rfl (fun K2 hK => ?_) AllReadyH.nil
        go_simp
        have hb := below_new w4 (.cells #[.string ⟨#[97]⟩, .string ⟨#[98]⟩, .string ⟨#[99]⟩] 9)
        have N5 := hide (show (w4.alloc (.cells #[.string ⟨#[97]⟩, .string ⟨#[98]⟩, .string ⟨#[99]⟩] 9)).heap[w4.heap.size]? = some (.cells #[.string ⟨#[97]⟩, .string ⟨#[98]⟩, .string ⟨#[99]⟩] 9 (0, 0)) from Array.getElem?_push_size)
        have LN := hide (show w.heap.size + 2 ≤ w4.heap.size from unhide LT4)
        have D5 := hide ((unhide D4).later hb)
        have RS5 := hide (row_keep (unhide RS4) hb)
        have HB5 := hide (row_keep (unhide HB4) hb)
        have LT5 := hide (Nat.le_trans (unhide LT4) hb.size)
        have X5 := hide ((unhide X4).later hb)
        have V5 := hide (row_keep (unhide V4) hb)
        refine hK.out _ _ (unhide HB5) (fun hS => ?_)
        clear HS
        have HS := hide hS
        clear hS hK K2
        clear hb D4 RS4 HB4 LT4 X4 V4
        generalize w4.alloc (.cells #[.string ⟨#[97]⟩, .string ⟨#[98]⟩, .string ⟨#[99]⟩] 9) = w5 at *
        generalize w4.heap.size = gn at *
        refine wpAnyH_ready (rs := [9]) (by kernel_rfl) (by simp) ?_
        refine AllReadyH.cons rfl (fun K2 hK => ?_) AllReadyH.nil
        go_simp
        have PU := hide (flPut x (by omega) c cp gn gv w5 _ _ ((unhide X5).rd.lower (Nat.zero_le _) _ _) (unhide N5) (unhide V5))
        unfold GiR Ex.cs at PU
        have SY := hide (show (putX flH flL flV x).sz ≤ 2 * zd + 1 from Nat.le_trans (put_szM flH_sz flV_sz x) (by have := ct_szF x; omega))
        refine (unhide PU).mono ?_
        rintro r w6 ⟨c2, cp2, rfl, hnx, hb⟩
        generalize putX flH flL flV x = y at *
        have D6 := hide ((unhide D5).later hb)
        have RS6 := hide (row_keep (unhide RS5) hb)
        have HB6 := hide (row_keep (unhide HB5) hb)
        have Y6 := hide ((show NewX w6 w5.heap.size y c2 from hnx).lower (unhide LT5))
        refine hK.out _ _ (unhide HB6) (fun hS => ?_)
        clear HS
        have HS := hide hS
        clear hS hK K2
        clear hb hnx PU D5 RS5 HB5 LT5 X5 V5 N5
        refine wpAnyH_ready (rs := [10]) (by kernel_rfl) (by simp) ?_
        refine AllReadyH.cons rfl (fun K2 hK => ?_) AllReadyH.nil
        rw [if_pos (by rfl)]
        refine wp_store_row 26 _ _ rfl w.heap.size #[.int .i64 y.k, .int .i64 y.n, .string y.s, .slice c2 y.l.length cp2] rfl rfl 26 _ (unhide RS6) szE rfl (ex_one _ _ _ _ _ _) ?_
        refine hK.out _ _ ((setRow_other _ _ _ _ (by omega)).trans (unhide HB6)) (fun hS => ?_)
        clear HS
        have HS := hide hS
        clear hS hK K2
        refine wpAnyH_done (by kernel_rfl) ?_ _
        clear HS
        go_wp2
        refine bodyPost_ret (results_cell_row (P := Tryd.prog) rfl _ _ w.heap.size 26 #[.int .i64 y.k, .int .i64 y.n, .string y.s, .slice c2 y.l.length cp2] (0, 0) _ rfl (setRow_heap _ _ _ _ _ _ (unhide RS6)) Tryd.underlying26 rfl szE) rfl ?_
        rw [← unhide HX]
        exact ⟨y, c2, cp2, rfl, unhide SY, ((unhide Y6).row _ (by omega)).lower (by omega), ((unhide D6).row _).cur, ((unhide D6).row _).gr⟩
  · go_simp
    have hb := below_new w1 (.cells #[.string ⟨#[97]⟩, .string ⟨#[98]⟩, .string ⟨#[99]⟩] 9)
    have N2 := hide (show (w1.alloc (.cells #[.string ⟨#[97]⟩, .string ⟨#[98]⟩, .string ⟨#[99]⟩] 9)).heap[w1.heap.size]? = some (.cells #[.string ⟨#[97]⟩, .string ⟨#[98]⟩, .string ⟨#[99]⟩] 9 (0, 0)) from Array.getElem?_push_size)
    have LN := hide (show w.heap.size + 2 ≤ w1.heap.size from unhide LT1)
    have D2 := hide ((unhide D1).later hb)
    have RS2 := hide (row_keep (unhide RS1) hb)
    have HB2 := hide (row_keep (unhide HB1) hb)
    have LT2 := hide (Nat.le_trans (unhide LT1) hb.size)
    refine hK.out _ _ (unhide HB2) (fun hS => ?_)
    clear HS
    have HS := hide hS
    clear hS hK K2
    clear hb D1 RS1 HB1 LT1 
    generalize w1.alloc (.cells #[.string ⟨#[97]⟩, .string ⟨#[98]⟩, .string ⟨#[99]⟩] 9) = w2 at *
    generalize w1.heap.size = gn at *
    refine wpAnyH_ready (rs := [2]) (by kernel_rfl) (by simp) ?_
    refine AllReadyH.cons rfl (fun K2 hK => ?_) AllReadyH.nil
    go_simp
    refine (unhide IH w2 (unhide D2).cur).mono ?_
    rintro r w3 ⟨x, c, cp, rfl, hsx, hnx, hcc, hgg⟩
    unfold Ex.cs
    have D3 := hide ((unhide D2).draw hcc hgg)
    have RS3 := hide ((unhide D2).blk hgg (unhide RS2) (Nat.le_refl _))
    have HB3 := hide ((unhide D2).blk hgg (unhide HB2) (Nat.le_succ _))
    have LT3 := hide (Nat.le_trans (unhide LT2) hgg.size)
    have X3 := hide (hnx.lower (unhide LT2))
    have N3 := hide ((unhide D2).blk hgg (unhide N2) (by have := unhide LN; omega))
    refine hK.out _ _ (unhide HB3) (fun hS => ?_)
    clear HS
    have HS := hide hS
    clear hS hK K2
    clear hnx hcc hgg D2 RS2 HB2 LT2 N2
    refine wpAnyH_ready (rs := [5]) (by kernel_rfl) (by simp) ?_
    refine AllReadyH.cons rfl (fun K2 hK => ?_) AllReadyH.nil
    go_simp
    refine (numD 7 w3).mono ?_
    rintro r w4 ⟨rfl, hb⟩
    have D4 := hide ((unhide D3).later hb)
    have RS4 := hide (row_keep (unhide RS3) hb)
    have HB4 := hide (row_keep (unhide HB3) hb)
    have LT4 := hide (Nat.le_trans (unhide LT3) hb.size)
    have N4 := hide (row_keep (unhide N3) hb)
    have X4 := hide ((unhide X3).later hb)
    refine hK.out _ _ (unhide HB4) (fun hS => ?_)
    clear HS
    have HS := hide hS
    clear hS hK K2
    clear hb D3 RS3 HB3 LT3 N3 X3
    refine wpAnyH_ready (rs := [8]) (by kernel_rfl) (by simp) ?_
    refine AllReadyH.cons rfl (fun K2 hK => ?_) AllReadyH.nil
    go_simp
    have hb := below_new w4 (.cells #[.int .i64 1, .int .i64 7, .string ⟨#[]⟩, .slice none 0 0, .int .i64 11, .int .i64 0, .string ⟨#[]⟩, .slice none 0 0, .int .i64 12, .int .i64 0, .string ⟨#[103]⟩, .slice none 0 0] 26)
    have V5 := hide (show (w4.alloc (.cells #[.int .i64 1, .int .i64 7, .string ⟨#[]⟩, .slice none 0 0, .int .i64 11, .int .i64 0, .string ⟨#[]⟩, .slice none 0 0, .int .i64 12, .int .i64 0, .string ⟨#[103]⟩, .slice none 0 0] 26)).heap[w4.heap.size]? = some (.cells #[.int .i64 1, .int .i64 7, .string ⟨#[]⟩, .slice none 0 0, .int .i64 11, .int .i64 0, .string ⟨#[]⟩, .slice none 0 0, .int .i64 12, .int .i64 0, .string ⟨#[103]⟩, .slice none 0 0] 26 (0, 0)) from Array.getElem?_push_size)
    have LV := hide (show w.heap.size + 2 ≤ w4.heap.size from unhide LT4)
    have D5 := hide ((unhide D4).later hb)
    have RS5 := hide (row_keep (unhide RS4) hb)
    have HB5 := hide (row_keep (unhide HB4) hb)
    have LT5 := hide (Nat.le_trans (unhide LT4) hb.size)
    have N5 := hide (row_keep (unhide N4) hb)
    have X5 := hide ((unhide X4).later hb)
    refine hK.out _ _ (unhide HB5) (fun hS => ?_)
    clear HS
    have HS := hide hS
    clear hS hK K2
    clear hb D4 RS4 HB4 LT4 N4 X4
    generalize w4.alloc (.cells #[.int .i64 1, .int .i64 7, .string ⟨#[]⟩, .slice none 0 0, .int .i64 11, .int .i64 0, .string ⟨#[]⟩, .slice none 0 0, .int .i64 12, .int .i64 0, .string ⟨#[103]⟩, .slice none 0 0] 26) = w5 at *
    generalize w4.heap.size = gv at *
    refine wpAnyH_ready (rs := [9]) (by kernel_rfl) (by simp) ?_
    refine AllReadyH.cons rfl (fun K2 hK => ?_) AllReadyH.nil
    go_simp
    have PU := hide (flPut x (by omega) c cp gn gv w5 _ _ ((unhide X5).rd.lower (Nat.zero_le _) _ _) (unhide N5) (unhide V5))
    unfold GiR Ex.cs at PU
    have SY := hide (show (putX flH flL flV x).sz ≤ 2 * zd + 1 from Nat.le_trans (put_szM flH_sz flV_sz x) (by have := ct_szF x; omega))
    refine (unhide PU).mono ?_
    rintro r w6 ⟨c2, cp2, rfl, hnx, hb⟩
    generalize putX flH flL flV x = y at *
    have D6 := hide ((unhide D5).later hb)
    have RS6 := hide (row_keep (unhide RS5) hb)
    have HB6 := hide (row_keep (unhide HB5) hb)
    have Y6 := hide ((show NewX w6 w5.heap.size y c2 from hnx).lower (unhide LT5))
    refine hK.out _ _ (unhide HB6) (fun hS => ?_)
    clear HS
    have HS := hide hS
    clear hS hK K2
    clear hb hnx PU D5 RS5 HB5 LT5 N5 X5 V5
    refine wpAnyH_ready (rs := [10]) (by kernel_rfl) (by simp) ?_
    refine AllReadyH.cons rfl (fun K2 hK => ?_) AllReadyH.nil
    rw [if_pos (by rfl)]
    refine wp_store_row 26 _ _ rfl w.heap.size #[.int .i64 y.k, .int .i64 y.n, .string y.s, .slice c2 y.l.length cp2] rfl rfl 26 _ (unhide RS6) szE rfl (ex_one _ _ _ _ _ _) ?_
    refine hK.out _ _ ((setRow_other _ _ _ _ (by omega)).trans (unhide HB6)) (fun hS => ?_)
    clear HS
    have HS := hide hS
    clear hS hK K2
    refine wpAnyH_done (by kernel_rfl) ?_ _
    clear HS
    go_wp2
    refine bodyPost_ret (results_cell_row (P := Tryd.prog) rfl _ _ w.heap.size 26 #[.int .i64 y.k, .int .i64 y.n, .string y.s, .slice c2 y.l.length cp2] (0, 0) _ rfl (setRow_heap _ _ _ _ _ _ (unhide RS6)) Tryd.underlying26 rfl szE) rfl ?_
    rw [← unhide HX]
    exact ⟨y, c2, cp2, rfl, unhide SY, ((unhide Y6).row _ (by omega)).lower (by omega), ((unhide D6).row _).cur, ((unhide D6).row _).gr⟩
end Go.Proofs.YtkolflcjkofleaaDoor

namespace Go.Proofs.YtkolflcjkofleaaDoor
open Go.ChangeShapes Go.WideShapes Go.ChangeAt Go.RowKit
set_option linter.unusedVariables false
set_option maxRecDepth 8000
set_option linter.unusedSimpArgs false

def tAtS (L : List ByteArray) (i : Nat) : ByteArray := L.getD i E0
/-- A slice of texts with address a reads as L. -/
def RdU (w : World) (a : Option Addr) (L : List ByteArray) : Prop := L = [] ∨ ∃ b off, a = some ⟨b, off, none⟩ ∧ b < w.heap.size ∧ ∀ i, i < L.length → w.cell? ⟨b, off + i, none⟩ = some (.string (tAtS L i))
theorem RdU.later {w w' : World} {a : Option Addr} {L : List ByteArray} (h : RdU w a L) (hb : Below w.heap.size w w') : RdU w' a L := by
  rcases h with h | ⟨b, off, ha, hlt, hc⟩
  · exact .inl h
  · exact .inr ⟨b, off, ha, Nat.lt_of_lt_of_le hlt hb.size, fun i hi => (hb.cell (p := ⟨b, off + i, none⟩) hlt).trans (hc i hi)⟩
def cellsS (L : List ByteArray) : List Value := L.map .string
theorem cellsS_length (L : List ByteArray) : (cellsS L).length = L.length := by simp [cellsS]
/-- A row of texts of one's own. -/
def OwnS (w : World) (B : Nat) (v : Value) (L : List ByteArray) : Prop := w.ownsRow B 9 1 v L.length (cellsS L)
theorem infoStr : (Tryd.prog.info? 9).map (fun i => (i.zero, i.size, i.bytes)) = some (some (.string ⟨#[]⟩), 1, 16) := by kernel_rfl
theorem OwnS.cells {w : World} {B g cap : Nat} {L : List ByteArray} (h : OwnS w B (.slice (some ⟨g, 0, none⟩) L.length cap) L) : RdS w g L := by
  intro j hj
  have hc := World.ownsRow.cellAt h j (by omega)
  rw [hc]
  unfold cellsS
  rw [List.getElem?_map, List.getElem?_eq_getElem hj, List.getD_eq_getElem?_getD, List.getElem?_eq_getElem hj]
  rfl
set_option maxHeartbeats 1000000 in
theorem toIntS_any (a : Option Addr) (len cap : Nat) (xs : List Int) (w : World) (hl : xs.length = len) (hm : len ≤ 1048576) (hr : RdN w a xs) :
    Calls Tryd.prog 39 #[.slice a len cap] w fun e w' => e = .returned (.slice (some ⟨w.heap.size, 0, none⟩) len len) ∧ OwnN w' w.heap.size (.slice (some ⟨w.heap.size, 0, none⟩) len len) xs ∧ Below w.heap.size w w' := by
  have hmk := run_make_row' (P := Tryd.prog) 30 3 (.int .i64 0) 8 Tryd.underlying30 info3 rfl .i64 .i64 len (by omega) (by omega)
  go_enter Tryd.func39, Tryd.ntmps39
  go_wp2
  go_loopw [4] (fun i wr => ∃ k : Nat, k ≤ len ∧ i = .int .i64 k ∧ wr.rowIs w.heap.size 3 len (fun j => if j < k then .int .i64 (nAt xs j) else .int .i64 0) ∧ Below w.heap.size w wr) (fun i _ => len - (intOf i).toNat)
  case atStart => exact ⟨0, Nat.zero_le _, rfl, (World.rowIs_made w (.int .i64 0) len 3).congr (fun i hi => by simp), (Below.refl _ _).alloc (Nat.le_refl _) _⟩
  case round =>
    obtain ⟨k, hk, rfl, hrow, hbel⟩ := hrel
    by_cases hlt : k < len
    · rcases hr with rfl | ⟨b, off, rfl, hb, hc⟩
      · simp at hl; omega
      have hcx : wr.cell? ⟨b, off + k, none⟩ = some (.int .i64 (nAt xs k)) := (hbel.cell (p := ⟨b, off + k, none⟩) hb).trans (hc k (by omega))
      have hfz := hrow.frozen k
      have hco := hrow.cell hlt
      have hR := (hrow.set k (.int .i64 (nAt xs k))).congr (g := fun j => if j < k + 1 then .int .i64 (nAt xs j) else .int .i64 0) (fun j hj => by
        by_cases e : j = k
        · simp [e]
        · by_cases e2 : j < k
          · simp [e, e2, show j < k + 1 by omega]
          · simp [e, e2, show ¬ j < k + 1 by omega])
      have hB := hbel.setCell (p := ⟨w.heap.size, k, none⟩) (Nat.le_refl _) (.int .i64 (nAt xs k))
      clear hrow hbel
      go_wp2
      go_roundw
      case rel => exact ⟨k + 1, by omega, by go_num, hR, hB⟩
      case measure => simp [intOf]; omega
    · have hR := hrow.congr (g := fun j => .int .i64 (nAt xs j)) (fun j hj => by simp [show j < k by omega])
      clear hrow
      go_wp2
      go_ret
      refine ⟨rfl, ?_, hbel⟩
      obtain ⟨c, hc, hs, hv⟩ := hR
      refine ⟨by rw [cellsN_length]; omega, .inr ⟨w.heap.size, len, c, by rw [hl], Nat.le_refl _, hc, by omega, by unfold maxLen; omega, by omega, ?_⟩⟩
      rw [hl, Nat.mul_one, List.take_of_length_le (by simp; omega)]
      apply List.ext_getElem?
      intro i
      by_cases hi : i < len
      · rw [Array.getElem?_toList, hv i hi]
        simp only [cellsN, List.getElem?_map, List.getElem?_eq_getElem (show i < xs.length by omega), Option.map_some, nAt, List.getD_eq_getElem?_getD, Option.getD_some]
      · rw [List.getElem?_eq_none (by simp; omega), List.getElem?_eq_none (by rw [cellsN_length]; omega)]
set_option maxHeartbeats 1000000 in
theorem toStrS_any (a : Option Addr) (len cap : Nat) (L : List ByteArray) (w : World) (hl : L.length = len) (hm : len ≤ 1048576) (hr : RdU w a L) :
    Calls Tryd.prog 33 #[.slice a len cap] w fun e w' => e = .returned (.slice (some ⟨w.heap.size, 0, none⟩) len len) ∧ OwnS w' w.heap.size (.slice (some ⟨w.heap.size, 0, none⟩) len len) L ∧ Below w.heap.size w w' := by
  have hmk := run_make_row' (P := Tryd.prog) 31 9 (.string ⟨#[]⟩) 16 Tryd.underlying31 infoStr rfl .i64 .i64 len (by omega) (by omega)
  go_enter Tryd.func33, Tryd.ntmps33
  go_wp2
  go_loopw [4] (fun i wr => ∃ k : Nat, k ≤ len ∧ i = .int .i64 k ∧ wr.rowIs w.heap.size 9 len (fun j => if j < k then .string (tAtS L j) else .string ⟨#[]⟩) ∧ Below w.heap.size w wr) (fun i _ => len - (intOf i).toNat)
  case atStart => exact ⟨0, Nat.zero_le _, rfl, (World.rowIs_made w (.string ⟨#[]⟩) len 9).congr (fun i hi => by simp), (Below.refl _ _).alloc (Nat.le_refl _) _⟩
  case round =>
    obtain ⟨k, hk, rfl, hrow, hbel⟩ := hrel
    by_cases hlt : k < len
    · rcases hr with rfl | ⟨b, off, rfl, hb, hc⟩
      · simp at hl; omega
      have hcx : wr.cell? ⟨b, off + k, none⟩ = some (.string (tAtS L k)) := (hbel.cell (p := ⟨b, off + k, none⟩) hb).trans (hc k (by omega))
      have hfz := hrow.frozen k
      have hco := hrow.cell hlt
      have hR := (hrow.set k (.string (tAtS L k))).congr (g := fun j => if j < k + 1 then .string (tAtS L j) else .string ⟨#[]⟩) (fun j hj => by
        by_cases e : j = k
        · simp [e]
        · by_cases e2 : j < k
          · simp [e, e2, show j < k + 1 by omega]
          · simp [e, e2, show ¬ j < k + 1 by omega])
      have hB := hbel.setCell (p := ⟨w.heap.size, k, none⟩) (Nat.le_refl _) (.string (tAtS L k))
      clear hrow hbel
      go_wp2
      go_roundw
      case rel => exact ⟨k + 1, by omega, by go_num, hR, hB⟩
      case measure => simp [intOf]; omega
    · have hR := hrow.congr (g := fun j => .string (tAtS L j)) (fun j hj => by simp [show j < k by omega])
      clear hrow
      go_wp2
      go_ret
      refine ⟨rfl, ?_, hbel⟩
      obtain ⟨c, hc, hs, hv⟩ := hR
      refine ⟨by rw [cellsS_length]; omega, .inr ⟨w.heap.size, len, c, by rw [hl], Nat.le_refl _, hc, by omega, by unfold maxLen; omega, by omega, ?_⟩⟩
      rw [hl, Nat.mul_one, List.take_of_length_le (by simp; omega)]
      apply List.ext_getElem?
      intro i
      by_cases hi : i < len
      · rw [Array.getElem?_toList, hv i hi]
        simp only [cellsS, List.getElem?_map, List.getElem?_eq_getElem (show i < L.length by omega), Option.map_some, tAtS, List.getD_eq_getElem?_getD, Option.getD_some]
      · rw [List.getElem?_eq_none (by simp; omega), List.getElem?_eq_none (by rw [cellsS_length]; omega)]
set_option maxHeartbeats 1000000 in
theorem eqStrS_same (a b : Option Addr) (len c1 c2 : Nat) (L : List ByteArray) (w : World) (hl : L.length = len) (hm : len ≤ 1099511627776) (h1 : RdU w a L) (h2 : RdU w b L) :
    Calls Tryd.prog 35 #[.slice a len c1, .slice b len c2] w fun e w' => e = .returned (.bool true) ∧ Below w.heap.size w w' := by
  go_enter Tryd.func35, Tryd.ntmps35
  go_wp2
  go_loopw [5] (fun i wr => ∃ k : Nat, k ≤ len ∧ i = .int .i64 k ∧ Below w.heap.size w wr) (fun i _ => len - (intOf i).toNat)
  case atStart => exact ⟨0, Nat.zero_le _, rfl, Below.refl _ _⟩
  case round =>
    obtain ⟨k, hk, rfl, hbel⟩ := hrel
    by_cases hlt : k < len
    · rcases h1 with rfl | ⟨p, po, rfl, hp, hpc⟩
      · simp at hl; omega
      rcases h2 with h0 | ⟨q, qo, rfl, hq, hqc⟩
      · rw [h0] at hl; simp at hl; omega
      have e1 : wr.cell? ⟨p, po + k, none⟩ = some (.string (tAtS L k)) := (hbel.cell (p := ⟨p, po + k, none⟩) hp).trans (hpc k (by omega))
      have e2 : wr.cell? ⟨q, qo + k, none⟩ = some (.string (tAtS L k)) := (hbel.cell (p := ⟨q, qo + k, none⟩) hq).trans (hqc k (by omega))
      clear hpc hqc
      go_wp2_with fail
      go_quiet (fail)
      go_wp2
      go_roundw
      case rel => exact ⟨k + 1, by omega, by go_num, below_drewN hbel _⟩
      case measure => simp [intOf]; omega
    · go_wp2
      go_ret
      exact ⟨rfl, hbel⟩
def szU : List ByteArray → Nat
  | [] => 0
  | t :: r => t.size + szU r
theorem szU_take (L : List ByteArray) (k : Nat) (h : k < L.length) : szU (L.take (k + 1)) = szU (L.take k) + (tAtS L k).size := by
  induction L generalizing k with
  | nil => simp at h
  | cons t r ih =>
    cases k with
    | zero => simp [szU, tAtS]
    | succ k =>
      have := ih k (by simpa using h)
      simp only [List.take_succ_cons, szU, this]
      show _ = t.size + _ + (tAtS r k).size
      omega
set_option maxHeartbeats 1000000 in
theorem szStrS_any (a : Option Addr) (len cap left : Nat) (L : List ByteArray) (w : World) (hl : L.length = len) (hm : len ≤ 9223372036854775807) (h1 : left ≤ 1048576) (hz : ∀ i, i < len → (tAtS L i).size ≤ 9223372036854775807) (hr : RdU w a L) : Calls Tryd.prog 31 #[.slice a len cap, .int .i64 left] w fun e w' => ((e = .returned (.int .i64 (-1))) ∨ (len + szU L ≤ left ∧ e = .returned (.int .i64 ((left - (len + szU L) : Nat) : Int)))) ∧ Below w.heap.size w w' := by
  by_cases hbig : (left : Int) - (len : Int) < 0
  · go_enter Tryd.func31, Tryd.ntmps31
    go_wp2
    go_ret
    exact ⟨.inl rfl, Below.refl _ _⟩
  · go_enter Tryd.func31, Tryd.ntmps31
    go_wp2
    go_loopw [1, 5] (fun lv i wr => ∃ k : Nat, k ≤ len ∧ i = .int .i64 k ∧ len + szU (L.take k) ≤ left ∧ lv = .int .i64 ((left : Int) - len - szU (L.take k)) ∧ Below w.heap.size w wr) (fun _ i _ => len - (intOf i).toNat)
    case atStart => exact ⟨0, Nat.zero_le _, rfl, by simp [szU]; omega, by simp [szU], Below.refl _ _⟩
    case round =>
      obtain ⟨k, hk, rfl, hs, rfl, hb⟩ := hrel
      by_cases hlt : k < len
      · rcases hr with h0 | ⟨b, off, rfl, hbl, hc⟩
        · rw [h0] at hl; simp at hl; omega
        have d0 : wr.cell? ⟨b, off + k, none⟩ = _ := (hb.cell (p := ⟨b, _, none⟩) hbl).trans (hc k (by omega))
        have ST := hide (szU_take L k (by omega))
        have hzk := hz k hlt
        clear hc
        generalize hzs : (tAtS L k).size = z at ST hzk
        generalize tAtS L k = ss at d0 hzs
        subst hzs
        by_cases hneg : (left : Int) - (len : Int) - (szU (L.take k) : Int) - (ss.size : Int) < 0
        · go_wp2
          go_ret
          exact ⟨.inl rfl, hb⟩
        · go_wp2
          go_roundw
          case rel =>
            refine ⟨k + 1, by omega, by go_num, ?_, ?_, hb⟩
            · rw [unhide ST]; omega
            · rw [unhide ST]; congr 1; omega
          case measure => simp [intOf]; omega
      · obtain rfl : k = len := by omega
        have E := hide (show L.take k = L by rw [← hl, List.take_length])
        rw [unhide E] at hs
        have E2 := hide (show szU (L.take k) = szU L by rw [unhide E])
        have E3 := hide (show ((left : Int) - (k : Int) - (szU (L.take k) : Int)) = ((left - (k + szU L) : Nat) : Int) by have := unhide E2; omega)
        go_wp2
        go_ret
        exact ⟨.inr ⟨hs, congrArg (fun z => Ending.returned (.int .i64 z)) (unhide E3)⟩, hb⟩
end Go.Proofs.YtkolflcjkofleaaDoor

namespace Go.Proofs.YtkolflcjkofleaaDoor
open Go.ChangeShapes Go.WideShapes Go.ChangeAt Go.RowKit
set_option linter.unusedVariables false
set_option maxRecDepth 8000
set_option linter.unusedSimpArgs false

/-- No more of them than there are. -/
theorem nodup_le : ∀ (l F : List Nat), l.Nodup → (∀ x ∈ l, x ∈ F) → l.length ≤ F.length
  | [], F, _, _ => Nat.zero_le _
  | a :: l, F, hn, hs => by
    rw [List.nodup_cons] at hn
    have ha : a ∈ F := hs a List.mem_cons_self
    have h1 := nodup_le l (F.erase a) hn.2 (fun x hx => by
      have hxa : x ≠ a := fun e => hn.1 (e ▸ hx)
      exact (List.mem_erase_of_ne hxa).2 (hs x (List.mem_cons_of_mem _ hx)))
    rw [List.length_erase_of_mem ha] at h1
    have : 0 < F.length := List.length_pos_of_mem ha
    simp only [List.length_cons]
    omega
theorem flat_len : ∀ (l : List Ex) (Fs : List (List Nat)), Fs.length = l.length → (∀ i, i < l.length → (Fs.getD i []).length ≤ 1 + (xAt l i).sz) → Fs.flatten.length ≤ l.length + szX l
  | [], Fs, hl, _ => by
    have : Fs = [] := List.eq_nil_of_length_eq_zero hl
    subst this
    simp [szX]
  | x :: l, [], hl, _ => by simp at hl
  | x :: l, F :: Fs, hl, h => by
    have h0 := h 0 (by simp)
    have h1 := flat_len l Fs (by simpa using hl) (fun i hi => by
      have := h (i + 1) (by simp; omega)
      simpa [xAt] using this)
    have h0' : F.length ≤ 1 + x.sz := by simpa [xAt] using h0
    have e1 : szX (x :: l) = x.sz + szX l := by simp [szX]
    simp only [List.flatten_cons, List.length_append, List.length_cons] at h1 ⊢
    omega
/-- A term has no more blocks than it is large. -/
theorem OwX.len {w : World} (e : Ex) : ∀ a F, OwX w e a F → F.length ≤ 1 + e.sz := by
  induction e using Ex.ind with
  | h k n s l ih =>
    intro a F h
    rw [OwX_eq] at h
    rcases h with ⟨_, rfl⟩ | ⟨b, cs, t, Fs, ha, hh, hz, hF, rfl, h3⟩
    · simp
    · have h1 := flat_len l Fs hF (fun i hi => by
        obtain ⟨_, _, _, c, cap, _, c5⟩ := h3 i hi
        exact ih _ (xAt_mem hi) _ _ c5)
      rw [sz_is]
      simp only [List.length_cons]
      omega
/-- A block that is a row of cells, not frozen. -/
def Cln (w : World) (b : Nat) : Prop := ∃ cs t, w.heap[b]? = some (.cells cs t (0, 0))
theorem Cln.later {w w' : World} {b : Nat} (h : Cln w b) (hb : Below w.heap.size w w') : Cln w' b := by obtain ⟨cs, t, h⟩ := h; exact ⟨cs, t, row_keep h hb⟩
theorem OwX.cln {w : World} (e : Ex) : ∀ a F, OwX w e a F → ∀ b ∈ F, Cln w b := by
  induction e using Ex.ind with
  | h k n s l ih =>
    intro a F h
    rw [OwX_eq] at h
    rcases h with ⟨_, rfl⟩ | ⟨b, cs, t, Fs, ha, hh, hz, hF, rfl, h3⟩
    · intro b hb; cases hb
    · intro x hx
      rcases List.mem_cons.1 hx with rfl | hx
      · exact ⟨cs, t, hh⟩
      · obtain ⟨G, hG, hx⟩ := List.mem_flatten.1 hx
        obtain ⟨i, hi, rfl⟩ := List.getElem_of_mem hG
        have hi2 : i < l.length := hF ▸ hi
        obtain ⟨c1, c2, c3, c, cap, c4, c5⟩ := h3 i hi2
        rw [List.getD_eq_getElem?_getD, List.getElem?_eq_getElem hi] at c5
        exact ih _ (xAt_mem hi2) _ _ c5 _ hx
/-- Lists laid together, each with no two the same, no two with the same. -/
theorem flat_nodup (T : Nat → List Nat) : ∀ n : Nat, (∀ i, i < n → (T i).Nodup) → (∀ i j, i < n → j < n → i ≠ j → ∀ x ∈ T i, x ∉ T j) → ((List.range n).map T).flatten.Nodup
  | 0, _, _ => by simp
  | n + 1, h1, h2 => by
    rw [List.range_succ, List.map_append, List.flatten_append]
    refine List.nodup_append.2 ⟨flat_nodup T n (fun i hi => h1 i (by omega)) (fun i j hi hj => h2 i j (by omega) (by omega)), ?_, fun a ha b hb e => ?_⟩
    · simpa using h1 n (by omega)
    · subst e
      have hb : a ∈ T n := by simpa using hb
      obtain ⟨G, hG, hx⟩ := List.mem_flatten.1 ha
      obtain ⟨i, hi, rfl⟩ := List.mem_map.1 hG
      have hi := List.mem_range.1 hi
      exact h2 i n (by omega) (by omega) (by omega) a hx hb
/-- A list that was copied: where it lies, how much it holds, what, and whose parts they are. -/
structure Ls where
  g : Nat
  c : Nat
  l : List Ex
  p : Nat
  q : Nat
def Ls.v (z : Ls) : Value := .slice (some ⟨z.g, 0, none⟩) z.l.length z.c
def lsA (ls : List Ls) (j : Nat) : Ls := ls.getD j ⟨0, 0, [], 0, 0⟩
theorem lsA_old {ls : List Ls} {z : Ls} {j : Nat} (h : j < ls.length) : lsA (ls ++ [z]) j = lsA ls j := by
  unfold lsA
  rw [List.getD_eq_getElem?_getD, List.getD_eq_getElem?_getD, List.getElem?_append_left h]
theorem lsA_new {ls : List Ls} {z : Ls} : lsA (ls ++ [z]) ls.length = z := by
  unfold lsA
  rw [List.getD_eq_getElem?_getD]
  simp
/-- Whose list it is, so many steps up. -/
def upL (ls : List Ls) : Nat → Nat → Nat
  | 0, m => m
  | t + 1, m => upL ls t (lsA ls m).p
theorem upL_le {ls : List Ls} (hp : ∀ m, m < ls.length → (lsA ls m).p ≤ m) : ∀ t m, m < ls.length → upL ls t m ≤ m
  | 0, m, _ => Nat.le_refl _
  | t + 1, m, h => by
    have h1 := hp m h
    exact Nat.le_trans (upL_le hp t _ (by omega)) h1
theorem upL_add (ls : List Ls) : ∀ s t m, upL ls (s + t) m = upL ls t (upL ls s m)
  | 0, t, m => by rw [Nat.zero_add]; rfl
  | s + 1, t, m => by rw [Nat.succ_add]; exact upL_add ls s t _
/-- Two lists of parts of one list have nothing in common. -/
theorem upL_apart {ls : List Ls} (hp : ∀ m, m < ls.length → (lsA ls m).p ≤ m) {a b j m s t : Nat} (ha : a < ls.length) (hb : b < ls.length) (pa : (lsA ls a).p = j) (pb : (lsA ls b).p = j) (ja : j < a) (jb : j < b) (hs : upL ls s m = a) (ht : upL ls t m = b) : a = b := by
  have main : ∀ {a b s t : Nat}, a < ls.length → (lsA ls a).p = j → j < b → upL ls s m = a → upL ls t m = b → s ≤ t → a = b := by
    intro a b s t ha pa jb hs ht hst
    obtain ⟨r, rfl⟩ := Nat.le.dest hst
    rw [upL_add, hs] at ht
    cases r with
    | zero => exact ht
    | succ r =>
      have h1 : upL ls r j = b := by rw [← pa]; exact ht
      have h2 := upL_le hp r j (by have := hp a ha; omega)
      omega
  rcases Nat.le_total s t with h | h
  · exact main ha pa jb hs ht h
  · exact (main hb pb ja ht hs h).symm
end Go.Proofs.YtkolflcjkofleaaDoor

namespace Go.Proofs.YtkolflcjkofleaaDoor
open Go.ChangeShapes Go.WideShapes Go.ChangeAt Go.RowKit
set_option linter.unusedVariables false
set_option maxRecDepth 8000
set_option linter.unusedSimpArgs false

/-- A list met, by where it begins, how long it is, and the number of its copy. -/
structure Kz where
  a : Nat
  n : Nat
  v : Nat
/-- Whether a part has been copied: those of the first A lists, and the first I of the list A. -/
def dnC (A I j i : Nat) : Prop := j < A ∨ (j = A ∧ i < I)
/-- A part as it lies. -/
def Cel (w0 wr : World) (F0 : List Nat) (ls : List Ls) (A I : Nat) (F : List Nat) (j i : Nat) : Prop :=
  wr.cell? ⟨(lsA ls j).g, i * 4, none⟩ = some (.int .i64 (xAt (lsA ls j).l i).k) ∧ wr.cell? ⟨(lsA ls j).g, i * 4 + 1, none⟩ = some (.int .i64 (xAt (lsA ls j).l i).n) ∧ wr.cell? ⟨(lsA ls j).g, i * 4 + 2, none⟩ = some (.string (xAt (lsA ls j).l i).s) ∧ ∃ sv, wr.cell? ⟨(lsA ls j).g, i * 4 + 3, none⟩ = some sv ∧
    (dnC A I j i → ((xAt (lsA ls j).l i).l = [] ∧ sv = .slice none 0 0) ∨ ∃ m, j < m ∧ m < ls.length ∧ (lsA ls m).p = j ∧ (lsA ls m).q = i ∧ (lsA ls m).l = (xAt (lsA ls j).l i).l ∧ sv = (lsA ls m).v) ∧
    (¬ dnC A I j i → ∃ c cp, sv = .slice c (xAt (lsA ls j).l i).l.length cp ∧ OwX w0 (xAt (lsA ls j).l i) c F ∧ F.Nodup ∧ ∀ b ∈ F, b ∈ F0)
structure Cq (w0 wr : World) (F0 : List Nat) (e : Ex) (v : Value) (ls : List Ls) (A I : Nat) (FF : Nat → Nat → List Nat) (kz : List Kz) : Prop where
  bel : Below w0.heap.size w0 wr
  lt : w0.heap.size + 5 ≤ wr.heap.size
  own : wr.ownsRow (w0.heap.size + 2) 24 1 v ls.length (ls.map Ls.v)
  res : wr.heap[w0.heap.size + 1]? = some (.cells #[.int .i64 0, .int .i64 0, .string ⟨#[]⟩, .slice none 0 0] 26 (0, 0))
  pos : 0 < ls.length
  root : lsA ls 0 = ⟨w0.heap.size + 2, 1, [e], 0, 0⟩
  blk : ∀ j, j < ls.length → w0.heap.size + 2 ≤ (lsA ls j).g ∧ v.ownBlock ≠ some (lsA ls j).g ∧ (lsA ls j).g ≠ w0.heap.size + 4 ∧ Cln wr (lsA ls j).g
  mbk : v.ownBlock ≠ some (w0.heap.size + 4)
  inj : ∀ j j', j < ls.length → j' < ls.length → (lsA ls j).g = (lsA ls j').g → j = j'
  par : ∀ m, 0 < m → m < ls.length → (lsA ls m).p < m
  sz : ∀ j, j < ls.length → (lsA ls j).l.length ≤ 1048576 ∧ szX (lsA ls j).l ≤ 1048576
  el : ∀ j i, j < ls.length → i < (lsA ls j).l.length → Cel w0 wr F0 ls A I (FF j i) j i
  dis : ∀ j i j' i', j < ls.length → i < (lsA ls j).l.length → ¬ dnC A I j i → j' < ls.length → i' < (lsA ls j').l.length → ¬ dnC A I j' i' → ¬ (j = j' ∧ i = i') → ∀ b ∈ FF j i, b ∉ FF j' i'
  kd : ∀ j i, j < ls.length → i < (lsA ls j).l.length → ¬ dnC A I j i → ∀ k ∈ kz, k.a ∉ FF j i
  kn : kz.length + 1 = ls.length
  ku : (kz.map Kz.a).Nodup
  kf : ∀ k ∈ kz, k.a ∈ F0
theorem cell_eq {w w' : World} {b : Nat} (h : w'.heap[b]? = w.heap[b]?) (o : Nat) : w'.cell? ⟨b, o, none⟩ = w.cell? ⟨b, o, none⟩ := by
  unfold World.cell?
  simp only [h]
section
variable {w0 wr wr' : World} {F0 : List Nat} {e : Ex} {v : Value} {ls : List Ls} {A I : Nat} {FF : Nat → Nat → List Nat} {kz : List Kz}
theorem Cq.cnt (h : Cq w0 wr F0 e v ls A I FF kz) : ls.length ≤ 1 + F0.length := by
  have := nodup_le (kz.map Kz.a) F0 h.ku (fun x hx => by obtain ⟨k, hk, rfl⟩ := List.mem_map.1 hx; exact h.kf k hk)
  rw [List.length_map] at this
  have := h.kn
  omega
theorem Cq.glt (h : Cq w0 wr F0 e v ls A I FF kz) {j : Nat} (hj : j < ls.length) : (lsA ls j).g < wr.heap.size := by
  obtain ⟨_, _, _, cs, t, hh⟩ := h.blk j hj
  exact (Array.getElem?_eq_some_iff.1 hh).1
/-- What keeps the blocks that are meant keeps it. -/
theorem Cq.keep (h : Cq w0 wr F0 e v ls A I FF kz) (hb : Below w0.heap.size w0 wr') (hs : wr.heap.size ≤ wr'.heap.size) (hk : ∀ b, w0.heap.size ≤ b → b < wr.heap.size → b ≠ w0.heap.size + 4 → wr'.heap[b]? = wr.heap[b]?) : Cq w0 wr' F0 e v ls A I FF kz := by
  have hg : ∀ j, j < ls.length → wr'.heap[(lsA ls j).g]? = wr.heap[(lsA ls j).g]? := fun j hj => hk _ (by have := (h.blk j hj).1; omega) (h.glt hj) (h.blk j hj).2.2.1
  refine ⟨hb, Nat.le_trans h.lt hs, ?_, (hk _ (by omega) (Array.getElem?_eq_some_iff.1 h.res).1 (by omega)).trans h.res, h.pos, h.root, fun j hj => ?_, h.mbk, h.inj, h.par, h.sz, fun j i hj hi => ?_, h.dis, h.kd, h.kn, h.ku, h.kf⟩
  · obtain ⟨h1, h2 | ⟨g, cap, cur, e', q1, q2, q3⟩⟩ := h.own
    · exact ⟨h1, .inl h2⟩
    · refine ⟨h1, .inr ⟨g, cap, cur, e', q1, ?_, q3⟩⟩
      rw [hk g (by omega) (Array.getElem?_eq_some_iff.1 q2).1 (fun q => h.mbk (by rw [e']; exact congrArg some q))]
      exact q2
  · obtain ⟨q1, q2, q3, cs, t, hh⟩ := h.blk j hj
    exact ⟨q1, q2, q3, cs, t, (hg j hj).trans hh⟩
  · obtain ⟨c0, c1, c2, sv, c3, d1, d2⟩ := h.el j i hj hi
    exact ⟨(cell_eq (hg j hj) _).trans c0, (cell_eq (hg j hj) _).trans c1, (cell_eq (hg j hj) _).trans c2, sv, (cell_eq (hg j hj) _).trans c3, d1, d2⟩
theorem Cq.later (h : Cq w0 wr F0 e v ls A I FF kz) (hb : Below wr.heap.size wr wr') : Cq w0 wr' F0 e v ls A I FF kz :=
  h.keep (h.bel.trans (hb.mono h.bel.size)) hb.size (fun b _ hl _ => hb.block b hl)
theorem Cq.map (h : Cq w0 wr F0 e v ls A I FF kz) (hg : wr.grownBy wr' (some (w0.heap.size + 4))) : Cq w0 wr' F0 e v ls A I FF kz :=
  h.keep (h.bel.grown hg h.bel.size (fun k q => by cases q; omega)) hg.size (fun b _ hl hn => hg.block b hl (fun q => hn (by cases q; rfl)))
/-- The next list. -/
theorem Cq.next (h : Cq w0 wr F0 e v ls A I FF kz) (hI : (lsA ls A).l.length ≤ I) : Cq w0 wr F0 e v ls (A + 1) 0 FF kz := by
  have hd : ∀ j i, i < (lsA ls j).l.length → (dnC (A + 1) 0 j i ↔ dnC A I j i) := fun j i hi => by
    unfold dnC
    constructor
    · rintro (q | ⟨q, q2⟩)
      · by_cases q3 : j = A
        · subst q3; right; exact ⟨rfl, by omega⟩
        · left; omega
      · omega
    · rintro (q | ⟨q, q2⟩)
      · left; omega
      · left; omega
  refine ⟨h.bel, h.lt, h.own, h.res, h.pos, h.root, h.blk, h.mbk, h.inj, h.par, h.sz, fun j i hj hi => ?_, ?_, ?_, h.kn, h.ku, h.kf⟩
  · obtain ⟨c0, c1, c2, sv, c3, d1, d2⟩ := h.el j i hj hi
    exact ⟨c0, c1, c2, sv, c3, fun q => d1 ((hd j i hi).1 q), fun q => d2 (fun p => q ((hd j i hi).2 p))⟩
  · intro j i j' i' hj hi hd1 hj' hi' hd2
    exact h.dis j i j' i' hj hi (fun p => hd1 ((hd j i hi).2 p)) hj' hi' (fun p => hd2 ((hd j' i' hi').2 p))
  · intro j i hj hi hd1
    exact h.kd j i hj hi (fun p => hd1 ((hd j i hi).2 p))
end
end Go.Proofs.YtkolflcjkofleaaDoor

namespace Go.Proofs.YtkolflcjkofleaaDoor
open Go.ChangeShapes Go.WideShapes Go.ChangeAt Go.RowKit
set_option linter.unusedVariables false
set_option maxRecDepth 8000
set_option linter.unusedSimpArgs false

theorem dn_step {A I j i : Nat} : dnC A (I + 1) j i ↔ (dnC A I j i ∨ (j = A ∧ i = I)) := by
  unfold dnC
  constructor
  · rintro (h | ⟨h1, h2⟩)
    · exact .inl (.inl h)
    · by_cases h3 : i = I
      · exact .inr ⟨h1, h3⟩
      · exact .inl (.inr ⟨h1, by omega⟩)
  · rintro ((h | ⟨h1, h2⟩) | ⟨h1, h2⟩)
    · exact .inl h
    · exact .inr ⟨h1, by omega⟩
    · exact .inr ⟨h1, by omega⟩
theorem dn_not (A I : Nat) : ¬ dnC A I A I := by
  unfold dnC
  rintro (h | ⟨_, h⟩) <;> omega
theorem cell_set_ne {w : World} {g o o2 : Nat} {v : Value} (h : o2 ≠ o) : (w.setCell ⟨g, o, none⟩ v).cell? ⟨g, o2, none⟩ = w.cell? ⟨g, o2, none⟩ := World.cell?_setCell_other w _ _ v (fun e => h (by cases e; rfl))
section
variable {w0 wr wr' : World} {F0 : List Nat} {e : Ex} {v : Value} {ls : List Ls} {A I : Nat} {FF : Nat → Nat → List Nat} {kz : List Kz}
/-- What is read of the part that comes next. -/
theorem Cq.here (h : Cq w0 wr F0 e v ls A I FF kz) (hA : A < ls.length) (hI : I < (lsA ls A).l.length) : ∃ c cp, wr.cell? ⟨(lsA ls A).g, I * 4 + 2, none⟩ = some (.string (xAt (lsA ls A).l I).s) ∧ wr.cell? ⟨(lsA ls A).g, I * 4 + 3, none⟩ = some (.slice c (xAt (lsA ls A).l I).l.length cp) ∧ OwX w0 (xAt (lsA ls A).l I) c (FF A I) ∧ (FF A I).Nodup ∧ ∀ b ∈ FF A I, b ∈ F0 := by
  obtain ⟨_, _, c2, sv, c3, _, d2⟩ := h.el A I hA hI
  obtain ⟨c, cp, rfl, o1, o2, o3⟩ := d2 (dn_not A I)
  exact ⟨c, cp, c2, c3, o1, o2, o3⟩
theorem heap_set {w : World} {g o : Nat} {cs : Array Value} {t : TypeId} {v : Value} (h : w.heap[g]? = some (.cells cs t (0, 0))) : (w.setCell ⟨g, o, none⟩ v).heap[g]? = some (.cells (cs.setIfInBounds o v) t (0, 0)) := heap_setCell_same w g o cs t v h
/-- A part without parts. -/
theorem Cq.nil (h : Cq w0 wr F0 e v ls A I FF kz) (hA : A < ls.length) (hI : I < (lsA ls A).l.length) (h0 : (xAt (lsA ls A).l I).l = []) : Cq w0 (wr.setCell ⟨(lsA ls A).g, I * 4 + 3, none⟩ (.slice none 0 0)) F0 e v ls A (I + 1) FF kz := by
  obtain ⟨hb1, hb2, hb3, cs, t, hh⟩ := h.blk A hA
  have hoth : ∀ b, b ≠ (lsA ls A).g → (wr.setCell ⟨(lsA ls A).g, I * 4 + 3, none⟩ (.slice none 0 0)).heap[b]? = wr.heap[b]? := fun b hb => heap_setCell_other wr ⟨(lsA ls A).g, I * 4 + 3, none⟩ b _ hb
  have hgo : ∀ j, j < ls.length → j ≠ A → (wr.setCell ⟨(lsA ls A).g, I * 4 + 3, none⟩ (.slice none 0 0)).heap[(lsA ls j).g]? = wr.heap[(lsA ls j).g]? := fun j hj hne => hoth _ (fun q => hne (h.inj j A hj hA q))
  have hsz : (wr.setCell ⟨(lsA ls A).g, I * 4 + 3, none⟩ (.slice none 0 0)).heap.size = wr.heap.size := by simp
  refine ⟨h.bel.setCell (p := ⟨(lsA ls A).g, I * 4 + 3, none⟩) (by show w0.heap.size ≤ (lsA ls A).g; omega) _, by rw [hsz]; exact h.lt, ?_, (hoth _ (by omega)).trans h.res, h.pos, h.root, fun j hj => ?_, h.mbk, h.inj, h.par, h.sz, fun j i hj hi => ?_, ?_, ?_, h.kn, h.ku, h.kf⟩
  · obtain ⟨h1, h2 | ⟨g, cap, cur, e', q1, q2, q3⟩⟩ := h.own
    · exact ⟨h1, .inl h2⟩
    · exact ⟨h1, .inr ⟨g, cap, cur, e', q1, (hoth g (fun q => hb2 (by rw [e', ← q]; rfl))).trans q2, q3⟩⟩
  · obtain ⟨q1, q2, q3, cs', t', hh'⟩ := h.blk j hj
    by_cases hj2 : j = A
    · subst hj2
      exact ⟨q1, q2, q3, _, t, heap_set hh⟩
    · exact ⟨q1, q2, q3, cs', t', (hgo j hj hj2).trans hh'⟩
  · obtain ⟨c0, c1, c2, sv, c3, d1, d2⟩ := h.el j i hj hi
    by_cases hj2 : j = A
    · subst hj2
      by_cases hi2 : i = I
      · subst hi2
        have hl : i * 4 + 3 < cs.size := by
          have := c3
          rw [Lib.cell_of_heap hh] at this
          exact (Array.getElem?_eq_some_iff.1 this).1
        refine ⟨(cell_set_ne (by omega)).trans c0, (cell_set_ne (by omega)).trans c1, (cell_set_ne (by omega)).trans c2, .slice none 0 0, ?_, fun _ => .inl ⟨h0, rfl⟩, fun q => absurd (dn_step.2 (.inr ⟨rfl, rfl⟩)) q⟩
        rw [Lib.cell_of_heap (heap_set hh)]
        simp [hl]
      · refine ⟨(cell_set_ne (by omega)).trans c0, (cell_set_ne (by omega)).trans c1, (cell_set_ne (by omega)).trans c2, sv, (cell_set_ne (by omega)).trans c3, fun q => ?_, fun q => ?_⟩
        · rcases dn_step.1 q with q | ⟨_, q⟩
          · exact d1 q
          · exact absurd q hi2
        · exact d2 (fun p => q (dn_step.2 (.inl p)))
    · have hg := hgo j hj hj2
      refine ⟨(cell_eq hg _).trans c0, (cell_eq hg _).trans c1, (cell_eq hg _).trans c2, sv, (cell_eq hg _).trans c3, fun q => ?_, fun q => d2 (fun p => q (dn_step.2 (.inl p)))⟩
      rcases dn_step.1 q with q | ⟨q, _⟩
      · exact d1 q
      · exact absurd q hj2
  · intro j i j' i' hj hi hd1 hj' hi' hd2
    exact h.dis j i j' i' hj hi (fun p => hd1 (dn_step.2 (.inl p))) hj' hi' (fun p => hd2 (dn_step.2 (.inl p)))
  · intro j i hj hi hd1
    exact h.kd j i hj hi (fun p => hd1 (dn_step.2 (.inl p)))
/-- A part with parts: its list is copied, and comes behind all there are. -/
theorem Cq.more {w6 : World} {v' : Value} {b : Nat} {Fs : List (List Nat)} {z : Ls} {cur : Array Value} {tc : TypeId} {kv : Nat} (h : Cq w0 wr F0 e v ls A I FF kz) (hA : A < ls.length) (hI : I < (lsA ls A).l.length) (hne : (xAt (lsA ls A).l I).l ≠ [])
    (hF : FF A I = b :: Fs.flatten) (hFs : Fs.length = (xAt (lsA ls A).l I).l.length)
    (zl : z.l = (xAt (lsA ls A).l I).l) (zp : z.p = A) (zq : z.q = I)
    (n1 : ∀ j, j < ls.length → (lsA ls j).g < z.g) (n2 : v.ownBlock ≠ some z.g) (n3 : w0.heap.size + 5 ≤ z.g) (hcur : wr.heap[z.g]? = some (.cells cur tc (0, 0)))
    (hch : ∀ i, i < z.l.length → cur[i * 4]? = some (.int .i64 (xAt z.l i).k) ∧ cur[i * 4 + 1]? = some (.int .i64 (xAt z.l i).n) ∧ cur[i * 4 + 2]? = some (.string (xAt z.l i).s) ∧ ∃ c cp, cur[i * 4 + 3]? = some (.slice c (xAt z.l i).l.length cp) ∧ OwX w0 (xAt z.l i) c (Fs.getD i []))
    (k0 : Below w0.heap.size w0 w6) (k1 : wr.heap.size ≤ w6.heap.size) (k2 : ∀ q, q < wr.heap.size → q ≠ (lsA ls A).g → v.ownBlock ≠ some q → w6.heap[q]? = wr.heap[q]?)
    (k3 : ∀ cs t, wr.heap[(lsA ls A).g]? = some (.cells cs t (0, 0)) → w6.heap[(lsA ls A).g]? = some (.cells (cs.setIfInBounds (I * 4 + 3) z.v) t (0, 0)))
    (k4 : w6.ownsRow (w0.heap.size + 2) 24 1 v' (ls.length + 1) (ls.map Ls.v ++ [z.v])) (k5 : v'.ownBlock = v.ownBlock ∨ ∃ q, v'.ownBlock = some q ∧ wr.heap.size ≤ q) :
    Cq w0 w6 F0 e v' (ls ++ [z]) A (I + 1) (fun j i => if j = ls.length then Fs.getD i [] else FF j i) (kz ++ [⟨b, z.l.length, kv⟩]) := by
  obtain ⟨hb1, hb2, hb3, cs, t, hh⟩ := h.blk A hA
  have hFn := (h.here hA hI).choose_spec.choose_spec.2.2.2
  rw [hF] at hFn
  obtain ⟨hFn1, hFn2⟩ := hFn
  have hFn3 := List.nodup_cons.1 hFn1
  have zlt : z.g < wr.heap.size := (Array.getElem?_eq_some_iff.1 hcur).1
  have hlen : (ls ++ [z]).length = ls.length + 1 := by simp
  have old : ∀ {j}, j < ls.length → lsA (ls ++ [z]) j = lsA ls j := fun hj => lsA_old hj
  have new : lsA (ls ++ [z]) ls.length = z := lsA_new
  have split : ∀ {j}, j < (ls ++ [z]).length → j < ls.length ∨ j = ls.length := fun hj => by rw [hlen] at hj; omega
  have hv'n : ∀ q, q < wr.heap.size → v.ownBlock ≠ some q → v'.ownBlock ≠ some q := fun q hq hn e' => by
    rcases k5 with k5 | ⟨q2, k5, k6⟩
    · exact hn (k5.symm.trans e')
    · rw [k5] at e'; cases e'; omega
  have hgo : ∀ j, j < ls.length → j ≠ A → w6.heap[(lsA ls j).g]? = wr.heap[(lsA ls j).g]? := fun j hj hn => k2 _ (h.glt hj) (fun q => hn (h.inj j A hj hA q)) (h.blk j hj).2.1
  have hgn : w6.heap[z.g]? = wr.heap[z.g]? := k2 _ zlt (fun q => by have := n1 A hA; omega) n2
  have hnd : ∀ j i, j < ls.length → ¬ dnC A (I + 1) j i → ¬ dnC A I j i := fun j i _ q p => q (dn_step.2 (.inl p))
  have hnew : ∀ i, ¬ dnC A (I + 1) ls.length i := fun i q => by
    unfold dnC at q
    rcases q with q | ⟨q, _⟩ <;> omega
  have hsub : ∀ i x, x ∈ Fs.getD i [] → x ∈ FF A I := fun i x hx => by rw [hF]; exact List.mem_cons_of_mem _ (getD_flat hx)
  refine ⟨k0, Nat.le_trans h.lt k1, by rw [hlen, List.map_append]; exact k4, (k2 _ (Array.getElem?_eq_some_iff.1 h.res).1 (by omega) (fun q => ?_)).trans h.res, by rw [hlen]; omega, (old h.pos).trans h.root, fun j hj => ?_, hv'n _ (by have := h.lt; omega) h.mbk, fun j j' hj hj' hg => ?_, fun m h0 hm => ?_, fun j hj => ?_, fun j i hj hi => ?_, fun j i j' i' hj hi hd1 hj' hi' hd2 hne' => ?_, fun j i hj hi hd1 k hk => ?_, by simp [hlen, h.kn], ?_, fun k hk => ?_⟩
  · obtain ⟨_, ⟨e', _⟩ | ⟨g, cap, cur', e', q1, _⟩⟩ := h.own
    · rw [e'] at q; cases q
    · rw [e'] at q
      have : g = w0.heap.size + 1 := by simpa [Value.ownBlock] using q
      omega
  · rcases split hj with hj | rfl
    · rw [old hj]
      obtain ⟨q1, q2, q3, cs', t', hh'⟩ := h.blk j hj
      refine ⟨q1, hv'n _ (h.glt hj) q2, q3, ?_⟩
      by_cases hj2 : j = A
      · subst hj2
        exact ⟨_, t, k3 cs t hh⟩
      · exact ⟨cs', t', (hgo j hj hj2).trans hh'⟩
    · rw [new]
      exact ⟨by omega, hv'n _ zlt n2, by omega, cur, tc, hgn.trans hcur⟩
  · rcases split hj with hj | rfl <;> rcases split hj' with hj' | rfl
    · rw [old hj, old hj'] at hg; exact h.inj j j' hj hj' hg
    · rw [old hj, new] at hg; have := n1 j hj; omega
    · rw [old hj', new] at hg; have := n1 j' hj'; omega
    · rfl
  · rcases split hm with hm | rfl
    · rw [old hm]; exact h.par m h0 hm
    · rw [new, zp]; exact hA
  · rcases split hj with hj | rfl
    · rw [old hj]; exact h.sz j hj
    · rw [new, zl]
      have h1 := (h.sz A hA).2
      have h2 := sz_part hI
      have h3 := sz_is (xAt (lsA ls A).l I)
      omega
  · rcases split hj with hj | rfl
    · rw [if_neg (by omega)]
      unfold Cel
      rw [old hj] at hi ⊢
      obtain ⟨c0, c1, c2, sv, c3, d1, d2⟩ := h.el j i hj hi
      have lift : (((xAt (lsA ls j).l i).l = [] ∧ sv = .slice none 0 0) ∨ ∃ m, j < m ∧ m < ls.length ∧ (lsA ls m).p = j ∧ (lsA ls m).q = i ∧ (lsA ls m).l = (xAt (lsA ls j).l i).l ∧ sv = (lsA ls m).v) → (((xAt (lsA ls j).l i).l = [] ∧ sv = .slice none 0 0) ∨ ∃ m, j < m ∧ m < (ls ++ [z]).length ∧ (lsA (ls ++ [z]) m).p = j ∧ (lsA (ls ++ [z]) m).q = i ∧ (lsA (ls ++ [z]) m).l = (xAt (lsA ls j).l i).l ∧ sv = (lsA (ls ++ [z]) m).v) := by
        rintro (q | ⟨m, q1, q2, q3, q4, q5, q6⟩)
        · exact .inl q
        · exact .inr ⟨m, q1, by rw [hlen]; omega, by rw [old q2]; exact q3, by rw [old q2]; exact q4, by rw [old q2]; exact q5, by rw [old q2]; exact q6⟩
      by_cases hj2 : j = A
      · subst hj2
        have hw6 := k3 cs t hh
        have ce : ∀ o, o ≠ I * 4 + 3 → w6.cell? ⟨(lsA ls j).g, o, none⟩ = wr.cell? ⟨(lsA ls j).g, o, none⟩ := fun o ho => by
          rw [Lib.cell_of_heap hw6, Lib.cell_of_heap hh]
          exact Array.getElem?_setIfInBounds_ne (Ne.symm ho)
        by_cases hi2 : i = I
        · subst hi2
          have hl : i * 4 + 3 < cs.size := by
            have := c3
            rw [Lib.cell_of_heap hh] at this
            exact (Array.getElem?_eq_some_iff.1 this).1
          refine ⟨(ce _ (by omega)).trans c0, (ce _ (by omega)).trans c1, (ce _ (by omega)).trans c2, z.v, ?_, fun _ => .inr ⟨ls.length, hj, by rw [hlen]; omega, by rw [new]; exact zp, by rw [new]; exact zq, by rw [new]; exact zl, by rw [new]⟩, fun q => absurd (dn_step.2 (.inr ⟨rfl, rfl⟩)) q⟩
          rw [Lib.cell_of_heap hw6]
          simp [hl]
        · refine ⟨(ce _ (by omega)).trans c0, (ce _ (by omega)).trans c1, (ce _ (by omega)).trans c2, sv, (ce _ (by omega)).trans c3, fun q => ?_, fun q => d2 (hnd j i hj q)⟩
          rcases dn_step.1 q with q | ⟨_, q⟩
          · exact lift (d1 q)
          · exact absurd q hi2
      · have hg := hgo j hj hj2
        refine ⟨(cell_eq hg _).trans c0, (cell_eq hg _).trans c1, (cell_eq hg _).trans c2, sv, (cell_eq hg _).trans c3, fun q => ?_, fun q => d2 (hnd j i hj q)⟩
        rcases dn_step.1 q with q | ⟨q, _⟩
        · exact lift (d1 q)
        · exact absurd q hj2
    · rw [if_pos rfl]
      unfold Cel
      rw [new] at hi ⊢
      obtain ⟨c0, c1, c2, c, cp, c3, c4⟩ := hch i hi
      have hc6 : w6.heap[z.g]? = some (.cells cur tc (0, 0)) := hgn.trans hcur
      refine ⟨(Lib.cell_of_heap hc6 _).trans c0, (Lib.cell_of_heap hc6 _).trans c1, (Lib.cell_of_heap hc6 _).trans c2, _, (Lib.cell_of_heap hc6 _).trans c3, fun q => absurd q (hnew i), fun _ => ⟨c, cp, rfl, c4, ?_, fun x hx => hFn2 x (List.mem_cons_of_mem _ (getD_flat hx))⟩⟩
      exact flat_part Fs i hFn3.2
  · rcases split hj with hj | rfl <;> rcases split hj' with hj' | rfl
    · rw [old hj] at hi
      rw [old hj'] at hi'
      intro x hx
      rw [if_neg (by omega)] at hx ⊢
      exact h.dis j i j' i' hj hi (hnd j i hj hd1) hj' hi' (hnd j' i' hj' hd2) hne' x hx
    · rw [old hj] at hi
      intro x hx hx'
      rw [if_neg (by omega)] at hx
      rw [if_pos rfl] at hx'
      refine h.dis j i A I hj hi (hnd j i hj hd1) hA hI (dn_not A I) (fun q => hd1 (dn_step.2 (.inr q))) x hx (hsub i' x hx')
    · rw [old hj'] at hi'
      intro x hx hx'
      rw [if_pos rfl] at hx
      rw [if_neg (by omega)] at hx'
      exact h.dis j' i' A I hj' hi' (hnd j' i' hj' hd2) hA hI (dn_not A I) (fun q => hd2 (dn_step.2 (.inr q))) x hx' (hsub i x hx)
    · intro x hx hx'
      rw [if_pos rfl] at hx hx'
      exact flat_apart Fs i i' x hFn3.2 (fun q => hne' ⟨rfl, q⟩) hx hx'
  · rcases split hj with hj | rfl
    · rw [old hj] at hi
      rw [if_neg (by omega)]
      rcases List.mem_append.1 hk with hk | hk
      · exact h.kd j i hj hi (hnd j i hj hd1) k hk
      · obtain rfl := List.mem_singleton.1 hk
        intro hx
        exact h.dis j i A I hj hi (hnd j i hj hd1) hA hI (dn_not A I) (fun q => hd1 (dn_step.2 (.inr q))) b hx (by rw [hF]; exact List.mem_cons_self)
    · rw [if_pos rfl]
      rcases List.mem_append.1 hk with hk | hk
      · exact fun hx => h.kd A I hA hI (dn_not A I) k hk (hsub i _ hx)
      · obtain rfl := List.mem_singleton.1 hk
        exact fun hx => hFn3.1 (getD_flat hx)
  · rw [List.map_append]
    refine List.nodup_append.2 ⟨h.ku, by simp, fun a ha b' hb' q => ?_⟩
    have hb' : b' = b := by simpa using hb'
    subst hb' q
    obtain ⟨k, hk, rfl⟩ := List.mem_map.1 ha
    exact h.kd A I hA hI (dn_not A I) k hk (by rw [hF]; exact List.mem_cons_self)
  · rcases List.mem_append.1 hk with hk | hk
    · exact h.kf k hk
    · obtain rfl := List.mem_singleton.1 hk
      exact hFn2 b List.mem_cons_self
end
end Go.Proofs.YtkolflcjkofleaaDoor

namespace Go.Proofs.YtkolflcjkofleaaDoor
open Go.ChangeShapes Go.WideShapes Go.ChangeAt Go.RowKit
set_option linter.unusedVariables false
set_option maxRecDepth 8000
set_option linter.unusedSimpArgs false

theorem results_rows4 {P : Program} {fn : Func} {p q r s : Tmp} {ty tz : TypeId} (h : fn.results = #[.cell p ty, .cell q tz, .tmp r, .tmp s]) (tmps : Array Value) (w : World) (g k : Nat) (t u : TypeId) (cs ds : Array Value) (fr fs : Nat × Nat) (d e : TypeDesc)
    (hp : tmps.getD p undef = .pointer (some ⟨g, 0, none⟩)) (hg : w.heap[g]? = some (.cells cs t fr)) (hq : tmps.getD q undef = .pointer (some ⟨k, 0, none⟩)) (hk : w.heap[k]? = some (.cells ds u fs))
    (hu : P.underlying ty = some d) (hd : (match d with | .struct _ | .array _ _ => true | _ => false) = true) (hi : (P.info? ty).map (·.size) = some cs.size)
    (hu' : P.underlying tz = some e) (hd' : (match e with | .struct _ | .array _ _ => true | _ => false) = true) (hi' : (P.info? tz).map (·.size) = some ds.size) :
    (results fn tmps).run P w = .ok (.tuple #[.agg cs, .agg ds, tmps.getD r undef, tmps.getD s undef]) w := by
  have hp' : tmps[p]?.getD undef = .pointer (some ⟨g, 0, none⟩) := by simpa using hp
  have hq' : tmps[q]?.getD undef = .pointer (some ⟨k, 0, none⟩) := by simpa using hq
  simp [results, h, hp', hq', asAddr, run_loadVar_row w g t ty cs fr d hg hu hd hi, run_loadVar_row w k u tz ds fs e hk hu' hd' hi']
theorem rd_drawn {w w' : World} {B g : Nat} {e : Ex} {a : Option Addr} (h : RdX w B e a) (hg : w.grownBy w' (some g)) (hB : g < B) : RdX w' B e a :=
  RdX.keep hg.size (fun b o v h1 h2 h3 => (World.cell?_of_block (w := w) (hg.block b h2 (fun e => by simp at e; omega))).trans h3) e a h
theorem rd_two {w : World} {B g : Nat} {x y : Ex} {c d : Option Addr} {cp dp : Nat} {t : TypeId} (hg : w.heap[g]? = some (.cells #[.int .i64 x.k, .int .i64 x.n, .string x.s, .slice c x.l.length cp, .int .i64 y.k, .int .i64 y.n, .string y.s, .slice d y.l.length dp] t (0, 0))) (hB : B ≤ g) (hx : RdX w B x c) (hy : RdX w B y d) : RdX w B ⟨0, 0, E0, [x, y]⟩ (some ⟨g, 0, none⟩) := by
  rw [RdX_eq]
  refine .inr ⟨g, 0, rfl, hB, (Array.getElem?_eq_some_iff.1 hg).1, fun i hi => ?_⟩
  have hi : i < 2 := hi
  have : i = 0 ∨ i = 1 := by omega
  rcases this with rfl | rfl
  · exact ⟨Lib.cell_of_heap hg 0, Lib.cell_of_heap hg 1, Lib.cell_of_heap hg 2, c, cp, Lib.cell_of_heap hg 3, hx⟩
  · exact ⟨Lib.cell_of_heap hg 4, Lib.cell_of_heap hg 5, Lib.cell_of_heap hg 6, d, dp, Lib.cell_of_heap hg 7, hy⟩
theorem rd_snd {w : World} {B g : Nat} {x y : Ex} {c d : Option Addr} {cp dp : Nat} {t : TypeId} (hg : w.heap[g]? = some (.cells #[.int .i64 x.k, .int .i64 x.n, .string x.s, .slice c x.l.length cp, .int .i64 y.k, .int .i64 y.n, .string y.s, .slice d y.l.length dp] t (0, 0))) (hB : B ≤ g) (hy : RdX w B y d) : RdX w B ⟨0, 0, E0, [y]⟩ (some ⟨g, 4, none⟩) := by
  rw [RdX_eq]
  refine .inr ⟨g, 4, rfl, hB, (Array.getElem?_eq_some_iff.1 hg).1, fun i hi => ?_⟩
  have hi : i < 1 := hi
  have : i = 0 := by omega
  subst this
  exact ⟨Lib.cell_of_heap hg 4, Lib.cell_of_heap hg 5, Lib.cell_of_heap hg 6, d, dp, Lib.cell_of_heap hg 7, hy⟩
theorem set_fst {w : World} {g : Nat} {x y z : Ex} {c d f : Option Addr} {cp dp fp : Nat} {t : TypeId} (hg : w.heap[g]? = some (.cells #[.int .i64 x.k, .int .i64 x.n, .string x.s, .slice c x.l.length cp, .int .i64 y.k, .int .i64 y.n, .string y.s, .slice d y.l.length dp] t (0, 0))) : ((((w.setCell ⟨g, 0, none⟩ (.int .i64 z.k)).setCell ⟨g, 1, none⟩ (.int .i64 z.n)).setCell ⟨g, 2, none⟩ (.string z.s)).setCell ⟨g, 3, none⟩ (.slice f z.l.length fp)).heap[g]? = some (.cells #[.int .i64 z.k, .int .i64 z.n, .string z.s, .slice f z.l.length fp, .int .i64 y.k, .int .i64 y.n, .string y.s, .slice d y.l.length dp] t (0, 0)) := by
  rw [heap_set (heap_set (heap_set (heap_set hg)))]
  rfl
theorem grown_four {w : World} {g : Nat} (a b c d : Value) : w.grownBy ((((w.setCell ⟨g, 0, none⟩ a).setCell ⟨g, 1, none⟩ b).setCell ⟨g, 2, none⟩ c).setCell ⟨g, 3, none⟩ d) (some g) :=
  grownBy_trans (grownBy_trans (grownBy_trans (grownBy_set a) (grownBy_set b)) (grownBy_set c)) (grownBy_set d)
theorem rdu_two {w : World} {g : Nat} {t : TypeId} (h : w.heap[g]? = some (.cells #[.string ⟨#[97]⟩, .string ⟨#[98]⟩] t (0, 0))) : RdU w (some ⟨g, 0, none⟩) [⟨#[97]⟩, ⟨#[98]⟩] := by
  refine .inr ⟨g, 0, rfl, (Array.getElem?_eq_some_iff.1 h).1, fun i hi => ?_⟩
  have hi : i < 2 := hi
  have : i = 0 ∨ i = 1 := by omega
  rcases this with rfl | rfl
  · exact Lib.cell_of_heap h 0
  · exact Lib.cell_of_heap h 1
theorem drawX1 : DrP 1 := drawXS 0 (by omega) drawX0
theorem drawX2 : DrP 2 := drawXS 1 (by omega) drawX1
theorem szD1 : szD 1 = 4 := rfl
theorem szD2 : szD 2 = 10 := rfl
set_option maxHeartbeats 8000000 in
theorem drawPut_any (a : Option Addr) (len cap : Nat) (xs : List UInt8) (w : World) (hl : xs.length = len) (hm : len ≤ 1048576) (hr : Rd w a xs) :
    Calls Tryd.prog 21 #[.slice a len cap] w fun r w' => ∃ (x y : Ex) (c d : Option Addr) (cp dp gn gv off cv : Nat) (vals : List Ex), r = .returned (.tuple #[.agg (x.cs c cp), .agg (y.cs d dp), .slice (some ⟨gn, 0, none⟩) 2 2, .slice (some ⟨gv, off, none⟩) vals.length cv]) ∧ x.sz ≤ 31 ∧ y.sz ≤ 31 ∧ vals.length ≤ 2 ∧ (∀ i, i < vals.length → (xAt vals i).sz ≤ 31) ∧ RdX w' 0 x c ∧ RdX w' 0 y d ∧ w'.heap[gn]? = some (.cells #[.string ⟨#[97]⟩, .string ⟨#[98]⟩] 9 (0, 0)) ∧ RdX w' 0 ⟨0, 0, E0, vals⟩ (some ⟨gv, off, none⟩) ∧ Below w.heap.size w w' := by
  obtain ⟨b0, r0, s0, z0⟩ := two_resF w (.cells E0x 26) (.cells E0x 26)
  have B0 := hide b0
  have R0 := hide r0
  have S0 := hide s0
  have HZ := hide z0
  have N0 := hide (new_any a len cap xs _ hl hm (hr.later b0))
  unfold E0x at B0 R0 S0 N0 HZ
  clear hr b0 r0 s0 z0
  go_enter Tryd.func21, Tryd.ntmps21
  go_wp2_with fail
  generalize (w.alloc (Obj.cells #[.int .i64 0, .int .i64 0, .string ⟨#[]⟩, .slice none 0 0] 26)).alloc (Obj.cells #[.int .i64 0, .int .i64 0, .string ⟨#[]⟩, .slice none 0 0] 26) = W at *
  refine (unhide N0).mono ?_
  rintro e w1 ⟨rfl, hc1, hb1⟩
  have R1 := hide ((hb1.block _ (Array.getElem?_eq_some_iff.1 (unhide R0)).1).trans (unhide R0))
  have S1 := hide ((hb1.block _ (Array.getElem?_eq_some_iff.1 (unhide S0)).1).trans (unhide S0))
  have B1 := hide ((unhide B0).trans (hb1.mono (unhide B0).size))
  have o1 : w.heap.size + 2 = W.heap.size := (unhide HZ).symm
  have o2 : W.heap.size < w1.heap.size := hc1.lt
  have C1 := hide hc1
  have CD := hide hc1.code
  generalize W.heap.size = cb at *
  clear hc1 hb1 N0 R0 S0 B0 HZ
  have hbb := below_new w1 (.cells #[.string ⟨#[97]⟩, .string ⟨#[98]⟩] 9)
  have U2 := hide (show (w1.alloc (.cells #[.string ⟨#[97]⟩, .string ⟨#[98]⟩] 9)).heap[w1.heap.size]? = some (.cells #[.string ⟨#[97]⟩, .string ⟨#[98]⟩] 9 (0, 0)) from Array.getElem?_push_size)
  have hl2 : w1.heap.size < (w1.alloc (.cells #[.string ⟨#[97]⟩, .string ⟨#[98]⟩] 9)).heap.size := by simp
  have B2 := hide ((unhide B1).trans (hbb.mono (unhide B1).size))
  have R2 := hide (row_keep (unhide R1) hbb)
  have S2 := hide (row_keep (unhide S1) hbb)
  have C2 := hide ((unhide C1).later hbb)
  clear hbb B1 R1 S1 C1
  have A2 := hide (drawX2 2 rfl false cb a len cap xs _ (unhide C2))
  unfold DrX at A2
  unfold Ex.cs at A2
  go_wp2_with fail
  generalize w1.alloc (.cells #[.string ⟨#[97]⟩, .string ⟨#[98]⟩] 9) = w2 at *
  generalize w1.heap.size = gn at *
  refine (unhide A2).mono ?_
  rintro e w3 ⟨x1, c1, cp1, rfl, hz_x1, hnx, hc, hg⟩
  have P3 := hide hnx.half
  clear hnx A2
  have hs3 := hg.size
  have B3 := hide ((unhide B2).grown hg (unhide B2).size (fun k e => by cases e; omega))
  have R3 := hide ((hg.block _ (Array.getElem?_eq_some_iff.1 (unhide R2)).1 (fun e => by simp at e; omega)).trans (unhide R2))
  have S3 := hide ((hg.block _ (Array.getElem?_eq_some_iff.1 (unhide S2)).1 (fun e => by simp at e; omega)).trans (unhide S2))
  have U3 := hide ((hg.block _ (Array.getElem?_eq_some_iff.1 (unhide U2)).1 (fun e => by simp at e; omega)).trans (unhide U2))
  have C3 := hide hc
  clear hc hg B2 R2 S2 U2 C2
  generalize hbx : w2.heap.size = b_x1 at *
  generalize hcx : w3.heap.size = c_x1 at P3
  have hc_x1 : c_x1 ≤ w3.heap.size := Nat.le_of_eq hcx.symm
  clear hcx hbx
  have A3 := hide (drawX1 1 rfl false cb a len cap xs w3 (unhide C3))
  unfold DrX at A3
  unfold Ex.cs at A3
  go_wp2_with fail
  refine (unhide A3).mono ?_
  rintro e w4 ⟨x2, c2, cp2, rfl, hz_x2, hnx, hc, hg⟩
  have Q4 := hide hnx.half
  clear hnx A3
  have hs4 := hg.size
  have B4 := hide ((unhide B3).grown hg (unhide B3).size (fun k e => by cases e; omega))
  have R4 := hide ((hg.block _ (Array.getElem?_eq_some_iff.1 (unhide R3)).1 (fun e => by simp at e; omega)).trans (unhide R3))
  have S4 := hide ((hg.block _ (Array.getElem?_eq_some_iff.1 (unhide S3)).1 (fun e => by simp at e; omega)).trans (unhide S3))
  have U4 := hide ((hg.block _ (Array.getElem?_eq_some_iff.1 (unhide U3)).1 (fun e => by simp at e; omega)).trans (unhide U3))
  have P4 := hide ((unhide P3).drawn hg (by omega))
  have C4 := hide hc
  clear hc hg B3 R3 S3 U3 P3 C3
  generalize hbx : w3.heap.size = b_x2 at *
  generalize hcx : w4.heap.size = c_x2 at Q4
  have hc_x2 : c_x2 ≤ w4.heap.size := Nat.le_of_eq hcx.symm
  clear hcx hbx
  have hbb := below_new w4 (.cells #[.int .i64 x1.k, .int .i64 x1.n, .string x1.s, .slice c1 x1.l.length cp1, .int .i64 x2.k, .int .i64 x2.n, .string x2.s, .slice c2 x2.l.length cp2] 26)
  have G5 := hide (show (w4.alloc (.cells #[.int .i64 x1.k, .int .i64 x1.n, .string x1.s, .slice c1 x1.l.length cp1, .int .i64 x2.k, .int .i64 x2.n, .string x2.s, .slice c2 x2.l.length cp2] 26)).heap[w4.heap.size]? = some (.cells #[.int .i64 x1.k, .int .i64 x1.n, .string x1.s, .slice c1 x1.l.length cp1, .int .i64 x2.k, .int .i64 x2.n, .string x2.s, .slice c2 x2.l.length cp2] 26 (0, 0)) from Array.getElem?_push_size)
  have hl5 : w4.heap.size < (w4.alloc (.cells #[.int .i64 x1.k, .int .i64 x1.n, .string x1.s, .slice c1 x1.l.length cp1, .int .i64 x2.k, .int .i64 x2.n, .string x2.s, .slice c2 x2.l.length cp2] 26)).heap.size := by simp
  have B5 := hide ((unhide B4).trans (hbb.mono (unhide B4).size))
  have R5 := hide (row_keep (unhide R4) hbb)
  have S5 := hide (row_keep (unhide S4) hbb)
  have U5 := hide (row_keep (unhide U4) hbb)
  have C5 := hide ((unhide C4).later hbb)
  have P5 := hide ((unhide P4).later hbb)
  have Q5 := hide ((unhide Q4).later hbb)
  clear hbb B4 R4 S4 U4 C4 P4 Q4
  have A5 := hide (below_any cb a len cap xs 10 _ (by omega) (unhide C5))
  go_wp2_with fail
  generalize w4.alloc (.cells #[.int .i64 x1.k, .int .i64 x1.n, .string x1.s, .slice c1 x1.l.length cp1, .int .i64 x2.k, .int .i64 x2.n, .string x2.s, .slice c2 x2.l.length cp2] 26) = w5 at *
  generalize w4.heap.size = gv at *
  refine (unhide A5).mono ?_
  rintro e w6 ⟨q, hq, _, rfl, hc, hg⟩
  clear A5
  have hq := hq (by omega)
  have hs6 := hg.size
  have B6 := hide ((unhide B5).grown hg (unhide B5).size (fun k e => by cases e; omega))
  have R6 := hide ((hg.block _ (Array.getElem?_eq_some_iff.1 (unhide R5)).1 (fun e => by simp at e; omega)).trans (unhide R5))
  have S6 := hide ((hg.block _ (Array.getElem?_eq_some_iff.1 (unhide S5)).1 (fun e => by simp at e; omega)).trans (unhide S5))
  have U6 := hide ((hg.block _ (Array.getElem?_eq_some_iff.1 (unhide U5)).1 (fun e => by simp at e; omega)).trans (unhide U5))
  have G6 := hide ((hg.block _ (Array.getElem?_eq_some_iff.1 (unhide G5)).1 (fun e => by simp at e; omega)).trans (unhide G5))
  have P6 := hide ((unhide P5).drawn hg (by omega))
  have Q6 := hide ((unhide Q5).drawn hg (by omega))
  have C6 := hide hc
  clear hc hg B5 R5 S5 U5 G5 P5 Q5 C5
  rw [szD2] at hz_x1
  rw [szD1] at hz_x2
  by_cases h0 : q = 0
  · subst h0
    have A6 := hide (anyD cb a len cap xs w6 (unhide C6))
    unfold DrX at A6
    unfold Ex.cs at A6
    go_wp2_with fail
    refine (unhide A6).mono ?_
    rintro e w7 ⟨x, c, cp, rfl, hz_x, hnx, hc, hg⟩
    have X7 := hide hnx.half
    clear hnx A6
    have hs7 := hg.size
    have B7 := hide ((unhide B6).grown hg (unhide B6).size (fun k e => by cases e; omega))
    have R7 := hide ((hg.block _ (Array.getElem?_eq_some_iff.1 (unhide R6)).1 (fun e => by simp at e; omega)).trans (unhide R6))
    have S7 := hide ((hg.block _ (Array.getElem?_eq_some_iff.1 (unhide S6)).1 (fun e => by simp at e; omega)).trans (unhide S6))
    have U7 := hide ((hg.block _ (Array.getElem?_eq_some_iff.1 (unhide U6)).1 (fun e => by simp at e; omega)).trans (unhide U6))
    have G7 := hide ((hg.block _ (Array.getElem?_eq_some_iff.1 (unhide G6)).1 (fun e => by simp at e; omega)).trans (unhide G6))
    have P7 := hide ((unhide P6).drawn hg (by omega))
    have Q7 := hide ((unhide Q6).drawn hg (by omega))
    have C7 := hide hc
    clear hc hg B6 R6 S6 U6 G6 P6 Q6 C6
    generalize hbx : w6.heap.size = b_x at *
    generalize hcx : w7.heap.size = c_x at X7
    have hc_x : c_x ≤ w7.heap.size := Nat.le_of_eq hcx.symm
    clear hcx hbx
    have A7 := hide (drawX1 1 rfl false cb a len cap xs w7 (unhide C7))
    unfold DrX at A7
    unfold Ex.cs at A7
    go_wp2_with fail
    refine (unhide A7).mono ?_
    rintro e w8 ⟨y, d, dp, rfl, hz_y, hnx, hc, hg⟩
    have Y8 := hide hnx.half
    clear hnx A7
    have hs8 := hg.size
    have B8 := hide ((unhide B7).grown hg (unhide B7).size (fun k e => by cases e; omega))
    have R8 := hide ((hg.block _ (Array.getElem?_eq_some_iff.1 (unhide R7)).1 (fun e => by simp at e; omega)).trans (unhide R7))
    have S8 := hide ((hg.block _ (Array.getElem?_eq_some_iff.1 (unhide S7)).1 (fun e => by simp at e; omega)).trans (unhide S7))
    have U8 := hide ((hg.block _ (Array.getElem?_eq_some_iff.1 (unhide U7)).1 (fun e => by simp at e; omega)).trans (unhide U7))
    have G8 := hide ((hg.block _ (Array.getElem?_eq_some_iff.1 (unhide G7)).1 (fun e => by simp at e; omega)).trans (unhide G7))
    have P8 := hide ((unhide P7).drawn hg (by omega))
    have Q8 := hide ((unhide Q7).drawn hg (by omega))
    have X8 := hide ((unhide X7).drawn hg (by omega))
    have C8 := hide hc
    clear hc hg B7 R7 S7 U7 G7 P7 Q7 X7 C7
    generalize hbx : w7.heap.size = b_y at *
    generalize hcx : w8.heap.size = c_y at Y8
    have hc_y : c_y ≤ w8.heap.size := Nat.le_of_eq hcx.symm
    clear hcx hbx
    rw [szD1] at hz_y
    have R_ := hide (setRow_heap w8 w.heap.size _ #[.int .i64 x.k, .int .i64 x.n, .string x.s, .slice c x.l.length cp] 26 _ (unhide R8))
    have S_ := hide (show (w8.setRow w.heap.size #[.int .i64 x.k, .int .i64 x.n, .string x.s, .slice c x.l.length cp]).heap[w.heap.size + 1]? = _ from (setRow_other _ _ _ _ (by omega)).trans (unhide S8))
    have T_ := hide (setRow_heap (w8.setRow w.heap.size #[.int .i64 x.k, .int .i64 x.n, .string x.s, .slice c x.l.length cp]) (w.heap.size + 1) _ #[.int .i64 y.k, .int .i64 y.n, .string y.s, .slice d y.l.length dp] 26 _ (unhide S_))
    have V_ := hide (show ((w8.setRow w.heap.size #[.int .i64 x.k, .int .i64 x.n, .string x.s, .slice c x.l.length cp]).setRow (w.heap.size + 1) #[.int .i64 y.k, .int .i64 y.n, .string y.s, .slice d y.l.length dp]).heap[w.heap.size]? = _ from (setRow_other _ _ _ _ (by omega)).trans (unhide R_))
    have g1 := grownBy_row (W := w8) (g := w.heap.size) #[.int .i64 x.k, .int .i64 x.n, .string x.s, .slice c x.l.length cp]
    have g2 := grownBy_row (W := w8.setRow w.heap.size #[.int .i64 x.k, .int .i64 x.n, .string x.s, .slice c x.l.length cp]) (g := w.heap.size + 1) #[.int .i64 y.k, .int .i64 y.n, .string y.s, .slice d y.l.length dp]
    have hv := rd_drawn (rd_drawn (rd_snd (unhide G8) (by omega) (((unhide Q8).new.lower (C := cb + 1) (by omega)).rd)) g1 (by omega)) g2 (by omega)
    have hx := rd_drawn (rd_drawn (((unhide X8).new.lower (C := cb + 1) (by omega)).rd) g1 (by omega)) g2 (by omega)
    have hy := rd_drawn (rd_drawn (((unhide Y8).new.lower (C := cb + 1) (by omega)).rd) g1 (by omega)) g2 (by omega)
    have u1 := (g1.block _ (Array.getElem?_eq_some_iff.1 (unhide U8)).1 (fun e => by simp at e; omega)).trans (unhide U8)
    have u2 := (g2.block _ (Array.getElem?_eq_some_iff.1 u1).1 (fun e => by simp at e; omega)).trans u1
    have b1 := (unhide B8).grown g1 (unhide B8).size (fun k e => by cases e; omega)
    have b2 := b1.grown g2 b1.size (fun k e => by cases e; omega)
    have HV := hide hv
    have HX := hide hx
    have HY := hide hy
    have HU := hide u2
    have HB := hide b2
    clear hv hx hy u1 u2 b1 b2 g1 g2
    go_wp2_with (first | (refine wpList_store_row rfl 26 _ _ rfl w.heap.size #[.int .i64 x.k, .int .i64 x.n, .string x.s, .slice c x.l.length cp] rfl rfl 26 _ (unhide R8) szE rfl (ex_one _ _ _ _ _ _) ?_) | (refine wpList_store_row rfl 26 _ _ rfl (w.heap.size + 1) #[.int .i64 y.k, .int .i64 y.n, .string y.s, .slice d y.l.length dp] rfl rfl 26 _ (unhide S_) szE rfl (ex_one _ _ _ _ _ _) ?_))
    refine bodyPost_ret (results_rows4 (P := Tryd.prog) rfl _ _ w.heap.size (w.heap.size + 1) 26 26 #[.int .i64 x.k, .int .i64 x.n, .string x.s, .slice c x.l.length cp] #[.int .i64 y.k, .int .i64 y.n, .string y.s, .slice d y.l.length dp] (0, 0) (0, 0) _ _ rfl (unhide V_) rfl (unhide T_) Tryd.underlying26 rfl szE Tryd.underlying26 rfl szE) rfl ?_
    exact ⟨x, y, c, d, cp, dp, gn, gv, 4, 1, [x2], rfl, by omega, by omega, by simp, (fun i hi => by
        have h0 : i = 0 := by have : i < 1 := hi; omega
        subst h0
        show x2.sz ≤ 31
        omega), (unhide HX).lower (Nat.zero_le _) _ _, (unhide HY).lower (Nat.zero_le _) _ _, unhide HU, (unhide HV).lower (Nat.zero_le _) _ _, unhide HB⟩
  by_cases h1 : q = 1
  · subst h1
    have A6 := hide (anyD cb a len cap xs w6 (unhide C6))
    unfold DrX at A6
    unfold Ex.cs at A6
    go_wp2_with fail
    refine (unhide A6).mono ?_
    rintro e w7 ⟨x3, c3, cp3, rfl, hz_x3, hnx, hc, hg⟩
    have M7 := hide hnx.half
    clear hnx A6
    have hs7 := hg.size
    have B7 := hide ((unhide B6).grown hg (unhide B6).size (fun k e => by cases e; omega))
    have R7 := hide ((hg.block _ (Array.getElem?_eq_some_iff.1 (unhide R6)).1 (fun e => by simp at e; omega)).trans (unhide R6))
    have S7 := hide ((hg.block _ (Array.getElem?_eq_some_iff.1 (unhide S6)).1 (fun e => by simp at e; omega)).trans (unhide S6))
    have U7 := hide ((hg.block _ (Array.getElem?_eq_some_iff.1 (unhide U6)).1 (fun e => by simp at e; omega)).trans (unhide U6))
    have G7 := hide ((hg.block _ (Array.getElem?_eq_some_iff.1 (unhide G6)).1 (fun e => by simp at e; omega)).trans (unhide G6))
    have P7 := hide ((unhide P6).drawn hg (by omega))
    have Q7 := hide ((unhide Q6).drawn hg (by omega))
    have C7 := hide hc
    clear hc hg B6 R6 S6 U6 G6 P6 Q6 C6
    generalize hbx : w6.heap.size = b_x3 at *
    generalize hcx : w7.heap.size = c_x3 at M7
    have hc_x3 : c_x3 ≤ w7.heap.size := Nat.le_of_eq hcx.symm
    clear hcx hbx
    have k0 := Lib.cell_of_heap (unhide G7) 0
    have f0 : w7.frozen? ⟨gv, 0, none⟩ = false := by simp [World.frozen?, unhide G7]
    have k1 := Lib.cell_of_heap (unhide G7) 1
    have f1 : w7.frozen? ⟨gv, 1, none⟩ = false := by simp [World.frozen?, unhide G7]
    have k2 := Lib.cell_of_heap (unhide G7) 2
    have f2 : w7.frozen? ⟨gv, 2, none⟩ = false := by simp [World.frozen?, unhide G7]
    have k3 := Lib.cell_of_heap (unhide G7) 3
    have f3 : w7.frozen? ⟨gv, 3, none⟩ = false := by simp [World.frozen?, unhide G7]
    have hg := grown_four (w := w7) (g := gv) (.int .i64 x3.k) (.int .i64 x3.n) (.string x3.s) (.slice c3 x3.l.length cp3)
    have G8 := hide (set_fst (z := x3) (f := c3) (fp := cp3) (unhide G7))
    have hs8 := hg.size
    have C8 := hide ((unhide C7).past hg (B := gn) (by omega) (unhide CD) (fun g e => by cases e; omega))
    have B8 := hide ((unhide B7).grown hg (unhide B7).size (fun k e => by cases e; omega))
    have R8 := hide ((hg.block _ (Array.getElem?_eq_some_iff.1 (unhide R7)).1 (fun e => by simp at e; omega)).trans (unhide R7))
    have S8 := hide ((hg.block _ (Array.getElem?_eq_some_iff.1 (unhide S7)).1 (fun e => by simp at e; omega)).trans (unhide S7))
    have U8 := hide ((hg.block _ (Array.getElem?_eq_some_iff.1 (unhide U7)).1 (fun e => by simp at e; omega)).trans (unhide U7))
    have Q8 := hide ((unhide Q7).beyond hg (by omega))
    have M8 := hide ((unhide M7).drawn hg (by omega))
    clear hg C7 B7 R7 S7 U7 Q7 M7 P7 G7
    generalize hw8 : (((w7.setCell ⟨gv, 0, none⟩ (.int .i64 x3.k)).setCell ⟨gv, 1, none⟩ (.int .i64 x3.n)).setCell ⟨gv, 2, none⟩ (.string x3.s)).setCell ⟨gv, 3, none⟩ (.slice c3 x3.l.length cp3) = w8 at *
    have A8 := hide (anyD cb a len cap xs w8 (unhide C8))
    unfold DrX at A8
    unfold Ex.cs at A8
    go_wp2_with fail
    clear hw8 k0 k1 k2 k3 f0 f1 f2 f3
    refine (unhide A8).mono ?_
    rintro e w9 ⟨x, c, cp, rfl, hz_x, hnx, hc, hg⟩
    have X9 := hide hnx.half
    clear hnx A8
    have hs9 := hg.size
    have B9 := hide ((unhide B8).grown hg (unhide B8).size (fun k e => by cases e; omega))
    have R9 := hide ((hg.block _ (Array.getElem?_eq_some_iff.1 (unhide R8)).1 (fun e => by simp at e; omega)).trans (unhide R8))
    have S9 := hide ((hg.block _ (Array.getElem?_eq_some_iff.1 (unhide S8)).1 (fun e => by simp at e; omega)).trans (unhide S8))
    have U9 := hide ((hg.block _ (Array.getElem?_eq_some_iff.1 (unhide U8)).1 (fun e => by simp at e; omega)).trans (unhide U8))
    have G9 := hide ((hg.block _ (Array.getElem?_eq_some_iff.1 (unhide G8)).1 (fun e => by simp at e; omega)).trans (unhide G8))
    have Q9 := hide ((unhide Q8).drawn hg (by omega))
    have M9 := hide ((unhide M8).drawn hg (by omega))
    have C9 := hide hc
    clear hc hg B8 R8 S8 U8 G8 Q8 M8 C8
    generalize hbx : w8.heap.size = b_x at *
    generalize hcx : w9.heap.size = c_x at X9
    have hc_x : c_x ≤ w9.heap.size := Nat.le_of_eq hcx.symm
    clear hcx hbx
    have A9 := hide (drawX1 1 rfl false cb a len cap xs w9 (unhide C9))
    unfold DrX at A9
    unfold Ex.cs at A9
    go_wp2_with fail
    refine (unhide A9).mono ?_
    rintro e w10 ⟨y, d, dp, rfl, hz_y, hnx, hc, hg⟩
    have Y10 := hide hnx.half
    clear hnx A9
    have hs10 := hg.size
    have B10 := hide ((unhide B9).grown hg (unhide B9).size (fun k e => by cases e; omega))
    have R10 := hide ((hg.block _ (Array.getElem?_eq_some_iff.1 (unhide R9)).1 (fun e => by simp at e; omega)).trans (unhide R9))
    have S10 := hide ((hg.block _ (Array.getElem?_eq_some_iff.1 (unhide S9)).1 (fun e => by simp at e; omega)).trans (unhide S9))
    have U10 := hide ((hg.block _ (Array.getElem?_eq_some_iff.1 (unhide U9)).1 (fun e => by simp at e; omega)).trans (unhide U9))
    have G10 := hide ((hg.block _ (Array.getElem?_eq_some_iff.1 (unhide G9)).1 (fun e => by simp at e; omega)).trans (unhide G9))
    have Q10 := hide ((unhide Q9).drawn hg (by omega))
    have M10 := hide ((unhide M9).drawn hg (by omega))
    have X10 := hide ((unhide X9).drawn hg (by omega))
    have C10 := hide hc
    clear hc hg B9 R9 S9 U9 G9 Q9 M9 X9 C9
    generalize hbx : w9.heap.size = b_y at *
    generalize hcx : w10.heap.size = c_y at Y10
    have hc_y : c_y ≤ w10.heap.size := Nat.le_of_eq hcx.symm
    clear hcx hbx
    rw [szD1] at hz_y
    have R_ := hide (setRow_heap w10 w.heap.size _ #[.int .i64 x.k, .int .i64 x.n, .string x.s, .slice c x.l.length cp] 26 _ (unhide R10))
    have S_ := hide (show (w10.setRow w.heap.size #[.int .i64 x.k, .int .i64 x.n, .string x.s, .slice c x.l.length cp]).heap[w.heap.size + 1]? = _ from (setRow_other _ _ _ _ (by omega)).trans (unhide S10))
    have T_ := hide (setRow_heap (w10.setRow w.heap.size #[.int .i64 x.k, .int .i64 x.n, .string x.s, .slice c x.l.length cp]) (w.heap.size + 1) _ #[.int .i64 y.k, .int .i64 y.n, .string y.s, .slice d y.l.length dp] 26 _ (unhide S_))
    have V_ := hide (show ((w10.setRow w.heap.size #[.int .i64 x.k, .int .i64 x.n, .string x.s, .slice c x.l.length cp]).setRow (w.heap.size + 1) #[.int .i64 y.k, .int .i64 y.n, .string y.s, .slice d y.l.length dp]).heap[w.heap.size]? = _ from (setRow_other _ _ _ _ (by omega)).trans (unhide R_))
    have g1 := grownBy_row (W := w10) (g := w.heap.size) #[.int .i64 x.k, .int .i64 x.n, .string x.s, .slice c x.l.length cp]
    have g2 := grownBy_row (W := w10.setRow w.heap.size #[.int .i64 x.k, .int .i64 x.n, .string x.s, .slice c x.l.length cp]) (g := w.heap.size + 1) #[.int .i64 y.k, .int .i64 y.n, .string y.s, .slice d y.l.length dp]
    have hv := rd_drawn (rd_drawn (rd_two (unhide G10) (by omega) (((unhide M10).new.lower (C := cb + 1) (by omega)).rd) (((unhide Q10).new.lower (C := cb + 1) (by omega)).rd)) g1 (by omega)) g2 (by omega)
    have hx := rd_drawn (rd_drawn (((unhide X10).new.lower (C := cb + 1) (by omega)).rd) g1 (by omega)) g2 (by omega)
    have hy := rd_drawn (rd_drawn (((unhide Y10).new.lower (C := cb + 1) (by omega)).rd) g1 (by omega)) g2 (by omega)
    have u1 := (g1.block _ (Array.getElem?_eq_some_iff.1 (unhide U10)).1 (fun e => by simp at e; omega)).trans (unhide U10)
    have u2 := (g2.block _ (Array.getElem?_eq_some_iff.1 u1).1 (fun e => by simp at e; omega)).trans u1
    have b1 := (unhide B10).grown g1 (unhide B10).size (fun k e => by cases e; omega)
    have b2 := b1.grown g2 b1.size (fun k e => by cases e; omega)
    have HV := hide hv
    have HX := hide hx
    have HY := hide hy
    have HU := hide u2
    have HB := hide b2
    clear hv hx hy u1 u2 b1 b2 g1 g2
    go_wp2_with (first | (refine wpList_store_row rfl 26 _ _ rfl w.heap.size #[.int .i64 x.k, .int .i64 x.n, .string x.s, .slice c x.l.length cp] rfl rfl 26 _ (unhide R10) szE rfl (ex_one _ _ _ _ _ _) ?_) | (refine wpList_store_row rfl 26 _ _ rfl (w.heap.size + 1) #[.int .i64 y.k, .int .i64 y.n, .string y.s, .slice d y.l.length dp] rfl rfl 26 _ (unhide S_) szE rfl (ex_one _ _ _ _ _ _) ?_))
    refine bodyPost_ret (results_rows4 (P := Tryd.prog) rfl _ _ w.heap.size (w.heap.size + 1) 26 26 #[.int .i64 x.k, .int .i64 x.n, .string x.s, .slice c x.l.length cp] #[.int .i64 y.k, .int .i64 y.n, .string y.s, .slice d y.l.length dp] (0, 0) (0, 0) _ _ rfl (unhide V_) rfl (unhide T_) Tryd.underlying26 rfl szE Tryd.underlying26 rfl szE) rfl ?_
    exact ⟨x, y, c, d, cp, dp, gn, gv, 0, 2, [x3, x2], rfl, by omega, by omega, by simp, (fun i hi => by
        have : i = 0 ∨ i = 1 := by have : i < 2 := hi; omega
        rcases this with rfl | rfl
        · show x3.sz ≤ 31; omega
        · show x2.sz ≤ 31; omega), (unhide HX).lower (Nat.zero_le _) _ _, (unhide HY).lower (Nat.zero_le _) _ _, unhide HU, (unhide HV).lower (Nat.zero_le _) _ _, unhide HB⟩
  have A6 := hide (anyD cb a len cap xs w6 (unhide C6))
  unfold DrX at A6
  unfold Ex.cs at A6
  go_wp2_with fail
  refine (unhide A6).mono ?_
  rintro e w7 ⟨x, c, cp, rfl, hz_x, hnx, hc, hg⟩
  have X7 := hide hnx.half
  clear hnx A6
  have hs7 := hg.size
  have B7 := hide ((unhide B6).grown hg (unhide B6).size (fun k e => by cases e; omega))
  have R7 := hide ((hg.block _ (Array.getElem?_eq_some_iff.1 (unhide R6)).1 (fun e => by simp at e; omega)).trans (unhide R6))
  have S7 := hide ((hg.block _ (Array.getElem?_eq_some_iff.1 (unhide S6)).1 (fun e => by simp at e; omega)).trans (unhide S6))
  have U7 := hide ((hg.block _ (Array.getElem?_eq_some_iff.1 (unhide U6)).1 (fun e => by simp at e; omega)).trans (unhide U6))
  have G7 := hide ((hg.block _ (Array.getElem?_eq_some_iff.1 (unhide G6)).1 (fun e => by simp at e; omega)).trans (unhide G6))
  have P7 := hide ((unhide P6).drawn hg (by omega))
  have Q7 := hide ((unhide Q6).drawn hg (by omega))
  have C7 := hide hc
  clear hc hg B6 R6 S6 U6 G6 P6 Q6 C6
  generalize hbx : w6.heap.size = b_x at *
  generalize hcx : w7.heap.size = c_x at X7
  have hc_x : c_x ≤ w7.heap.size := Nat.le_of_eq hcx.symm
  clear hcx hbx
  have A7 := hide (drawX1 1 rfl false cb a len cap xs w7 (unhide C7))
  unfold DrX at A7
  unfold Ex.cs at A7
  go_wp2_with fail
  refine (unhide A7).mono ?_
  rintro e w8 ⟨y, d, dp, rfl, hz_y, hnx, hc, hg⟩
  have Y8 := hide hnx.half
  clear hnx A7
  have hs8 := hg.size
  have B8 := hide ((unhide B7).grown hg (unhide B7).size (fun k e => by cases e; omega))
  have R8 := hide ((hg.block _ (Array.getElem?_eq_some_iff.1 (unhide R7)).1 (fun e => by simp at e; omega)).trans (unhide R7))
  have S8 := hide ((hg.block _ (Array.getElem?_eq_some_iff.1 (unhide S7)).1 (fun e => by simp at e; omega)).trans (unhide S7))
  have U8 := hide ((hg.block _ (Array.getElem?_eq_some_iff.1 (unhide U7)).1 (fun e => by simp at e; omega)).trans (unhide U7))
  have G8 := hide ((hg.block _ (Array.getElem?_eq_some_iff.1 (unhide G7)).1 (fun e => by simp at e; omega)).trans (unhide G7))
  have P8 := hide ((unhide P7).drawn hg (by omega))
  have Q8 := hide ((unhide Q7).drawn hg (by omega))
  have X8 := hide ((unhide X7).drawn hg (by omega))
  have C8 := hide hc
  clear hc hg B7 R7 S7 U7 G7 P7 Q7 X7 C7
  generalize hbx : w7.heap.size = b_y at *
  generalize hcx : w8.heap.size = c_y at Y8
  have hc_y : c_y ≤ w8.heap.size := Nat.le_of_eq hcx.symm
  clear hcx hbx
  rw [szD1] at hz_y
  have R_ := hide (setRow_heap w8 w.heap.size _ #[.int .i64 x.k, .int .i64 x.n, .string x.s, .slice c x.l.length cp] 26 _ (unhide R8))
  have S_ := hide (show (w8.setRow w.heap.size #[.int .i64 x.k, .int .i64 x.n, .string x.s, .slice c x.l.length cp]).heap[w.heap.size + 1]? = _ from (setRow_other _ _ _ _ (by omega)).trans (unhide S8))
  have T_ := hide (setRow_heap (w8.setRow w.heap.size #[.int .i64 x.k, .int .i64 x.n, .string x.s, .slice c x.l.length cp]) (w.heap.size + 1) _ #[.int .i64 y.k, .int .i64 y.n, .string y.s, .slice d y.l.length dp] 26 _ (unhide S_))
  have V_ := hide (show ((w8.setRow w.heap.size #[.int .i64 x.k, .int .i64 x.n, .string x.s, .slice c x.l.length cp]).setRow (w.heap.size + 1) #[.int .i64 y.k, .int .i64 y.n, .string y.s, .slice d y.l.length dp]).heap[w.heap.size]? = _ from (setRow_other _ _ _ _ (by omega)).trans (unhide R_))
  have g1 := grownBy_row (W := w8) (g := w.heap.size) #[.int .i64 x.k, .int .i64 x.n, .string x.s, .slice c x.l.length cp]
  have g2 := grownBy_row (W := w8.setRow w.heap.size #[.int .i64 x.k, .int .i64 x.n, .string x.s, .slice c x.l.length cp]) (g := w.heap.size + 1) #[.int .i64 y.k, .int .i64 y.n, .string y.s, .slice d y.l.length dp]
  have hv := rd_drawn (rd_drawn (rd_two (unhide G8) (by omega) (((unhide P8).new.lower (C := cb + 1) (by omega)).rd) (((unhide Q8).new.lower (C := cb + 1) (by omega)).rd)) g1 (by omega)) g2 (by omega)
  have hx := rd_drawn (rd_drawn (((unhide X8).new.lower (C := cb + 1) (by omega)).rd) g1 (by omega)) g2 (by omega)
  have hy := rd_drawn (rd_drawn (((unhide Y8).new.lower (C := cb + 1) (by omega)).rd) g1 (by omega)) g2 (by omega)
  have u1 := (g1.block _ (Array.getElem?_eq_some_iff.1 (unhide U8)).1 (fun e => by simp at e; omega)).trans (unhide U8)
  have u2 := (g2.block _ (Array.getElem?_eq_some_iff.1 u1).1 (fun e => by simp at e; omega)).trans u1
  have b1 := (unhide B8).grown g1 (unhide B8).size (fun k e => by cases e; omega)
  have b2 := b1.grown g2 b1.size (fun k e => by cases e; omega)
  have HV := hide hv
  have HX := hide hx
  have HY := hide hy
  have HU := hide u2
  have HB := hide b2
  clear hv hx hy u1 u2 b1 b2 g1 g2
  go_wp2_with (first | (refine wpList_store_row rfl 26 _ _ rfl w.heap.size #[.int .i64 x.k, .int .i64 x.n, .string x.s, .slice c x.l.length cp] rfl rfl 26 _ (unhide R8) szE rfl (ex_one _ _ _ _ _ _) ?_) | (refine wpList_store_row rfl 26 _ _ rfl (w.heap.size + 1) #[.int .i64 y.k, .int .i64 y.n, .string y.s, .slice d y.l.length dp] rfl rfl 26 _ (unhide S_) szE rfl (ex_one _ _ _ _ _ _) ?_))
  refine bodyPost_ret (results_rows4 (P := Tryd.prog) rfl _ _ w.heap.size (w.heap.size + 1) 26 26 #[.int .i64 x.k, .int .i64 x.n, .string x.s, .slice c x.l.length cp] #[.int .i64 y.k, .int .i64 y.n, .string y.s, .slice d y.l.length dp] (0, 0) (0, 0) _ _ rfl (unhide V_) rfl (unhide T_) Tryd.underlying26 rfl szE Tryd.underlying26 rfl szE) rfl ?_
  exact ⟨x, y, c, d, cp, dp, gn, gv, 0, 2, [x1, x2], rfl, by omega, by omega, by simp, (fun i hi => by
      have : i = 0 ∨ i = 1 := by have : i < 2 := hi; omega
      rcases this with rfl | rfl
      · show x1.sz ≤ 31; omega
      · show x2.sz ≤ 31; omega), (unhide HX).lower (Nat.zero_le _) _ _, (unhide HY).lower (Nat.zero_le _) _ _, unhide HU, (unhide HV).lower (Nat.zero_le _) _ _, unhide HB⟩
end Go.Proofs.YtkolflcjkofleaaDoor

namespace Go.Proofs.YtkolflcjkofleaaDoor

theorem noB {p : Prop} (h : false = true) : p := by cases h
theorem countP_one (p p' : Nat → Bool) (i : Nat) (hp : p i = true) (hi : p' i = false) (hj : ∀ j, j ≠ i → p' j = p j) : ∀ l : List Nat, l.Nodup → i ∈ l → l.countP p' + 1 = l.countP p
  | [], _, h => by cases h
  | b :: l, hn, h => by
    rw [List.nodup_cons] at hn
    by_cases hb : b = i
    · subst hb
      have e : l.countP p' = l.countP p := List.countP_congr fun j hjl => by
        have : j ≠ b := fun e => hn.1 (e ▸ hjl)
        rw [hj j this]
      rw [List.countP_cons, List.countP_cons, hp, hi, e]
      simp
    · have ih := countP_one p p' i hp hi hj l hn.2 (by rcases List.mem_cons.1 h with h | h; exact absurd h.symm hb; exact h)
      rw [List.countP_cons, List.countP_cons, hj b hb]
      omega

theorem getD_set (listed : Array Bool) (i : Nat) (hi : i < listed.size) : (fun j => (listed.setIfInBounds i true).getD j false) = fun j => if j = i then true else listed.getD j false := by
  funext j
  by_cases h : j = i
  · subst h; simp [hi]
  · simp only [Array.getD_eq_getD_getElem?, if_neg h]
    rw [Array.getElem?_setIfInBounds_ne (fun e => h e.symm)]

section
variable {P : Program} {ops : Array Oper} {Q : Exit → Act → World → Prop}
theorem wpAny_inv (I : (Nat → Bool) → Act → World → Prop)
    (hstep : ∀ (i : Nat) (o : Oper), ops[i]? = some o → ∀ (f : Nat → Bool) (a : Act) (w : World), I f a w → f i = false → (∀ e ∈ o.after, Region.binds .any e = true → f e.on = true) →
      ∀ K : Act → World → Prop, (∀ a' w', I (fun j => if j = i then true else f j) a' w' → K a' w') → if Region.wanted o (yielded ops a.tmps) = true then Oper.wp P o a w K Q else K (a.put o.dst undef) w)
    (hdone : ∀ (f : Nat → Bool) (a : Act) (w : World), I f a w → (∀ i, i < ops.size → f i = true) → Q .normal a w)
    (hac : ∀ (i : Nat) (o : Oper), ops[i]? = some o → ∀ e ∈ o.after, e.on < i) :
    ∀ (fuel : Nat) (listed : Array Bool) (a : Act) (w : World), listed.size = ops.size → (List.range ops.size).countP (fun j => !listed.getD j false) ≤ fuel → I (fun j => listed.getD j false) a w → wpAny P .any ops Q fuel listed a w := by
  have hnil : ∀ (listed : Array Bool), listed.size = ops.size → Region.ready .any ops listed = [] → ∀ i, i < ops.size → listed.getD i false = true := by
    intro listed hsz hr i
    induction i using Nat.strongRecOn with
    | ind i ih =>
      intro hi
      cases hb : listed.getD i false with
      | true => rfl
      | false =>
        have hm : i ∈ Region.ready .any ops listed := mem_ready.2 ⟨by
          have hi' : i < listed.size := by omega
          simpa [hi'] using hb, ops[i], by simp [hi], fun e he _ => ih e.on (hac i _ (by simp [hi]) e he) (Nat.lt_trans (hac i _ (by simp [hi]) e he) hi)⟩
        rw [hr] at hm
        cases hm
  intro fuel
  induction fuel with
  | zero =>
    intro listed a w hsz hc hI
    have hall : ∀ i, i < ops.size → listed.getD i false = true := fun i hi => by
      have h0 : (List.range ops.size).countP (fun j => !listed.getD j false) = 0 := by omega
      rw [List.countP_eq_zero] at h0
      have := h0 i (List.mem_range.2 hi)
      simpa using this
    refine ⟨?_, hdone _ a w hI hall⟩
    apply List.eq_nil_iff_forall_not_mem.2
    intro i hi
    obtain ⟨h1, o, ho, _⟩ := mem_ready.1 hi
    have hi' := (Array.getElem?_eq_some_iff.1 ho).1
    have := hall i hi'
    have hi'' : i < listed.size := by omega
    simp [hi''] at this h1
    rw [this] at h1
    cases h1
  | succ fuel ih =>
    intro listed a w hsz hc hI
    refine ⟨fun hr => hdone _ a w hI (hnil listed hsz hr), fun i hi => ?_⟩
    obtain ⟨h1, o, ho, hd⟩ := mem_ready.1 hi
    have hi' := (Array.getElem?_eq_some_iff.1 ho).1
    have hi'' : i < listed.size := by omega
    have hf : listed.getD i false = false := by simpa [hi''] using h1
    refine wpOp_step ho fun K hK => ?_
    refine hstep i o ho _ a w hI hf (fun e he hb => hd e he hb) K fun a' w' hI' => hK a' w' ?_
    refine ih _ a' w' (by simpa using hsz) ?_ (by rw [getD_set listed i hi'']; exact hI')
    have := countP_one (fun j => !listed.getD j false) (fun j => !(listed.setIfInBounds i true).getD j false) i (by simp [hf]) (by
      have := congrFun (getD_set listed i hi'') i
      simp only [if_true] at this
      rw [this]; rfl) (fun j hj => by
      have := congrFun (getD_set listed i hi'') j
      simp only [if_neg hj] at this
      rw [this]) (List.range ops.size) List.nodup_range (List.mem_range.2 hi')
    omega
/-- Each operation waits for earlier ones alone. -/
def waitsB (ops : Array Oper) : Bool := (List.range ops.size).all fun i => ((ops[i]?).map fun o => o.after.all fun e => decide (e.on < i)).getD true
theorem waits_of (h : waitsB ops = true) : ∀ (i : Nat) (o : Oper), ops[i]? = some o → ∀ e ∈ o.after, e.on < i := by
  intro i o ho e he
  unfold waitsB at h
  rw [List.all_eq_true] at h
  have := h i (List.mem_range.2 (Array.getElem?_eq_some_iff.1 ho).1)
  rw [ho] at this
  simp only [Option.map_some, Option.getD_some] at this
  have := Array.all_eq_true_iff_forall_mem.1 this e he
  simpa using this
/-- The whole region: what holds of it at its beginning, behind each operation, and what that gives at its end. -/
theorem wp_region_inv {id : Nat} {a : Act} {w : World} (I : (Nat → Bool) → Act → World → Prop) (hm : P.follows .mixedOrders = true) (h0 : I (fun _ => false) a w.drew)
    (hac : waitsB ops = true)
    (hstep : ∀ (i : Nat) (o : Oper), ops[i]? = some o → ∀ (f : Nat → Bool) (a : Act) (w : World), I f a w → f i = false → (∀ e ∈ o.after, Region.binds .any e = true → f e.on = true) →
      ∀ K : Act → World → Prop, (∀ a' w', I (fun j => if j = i then true else f j) a' w' → K a' w') → if Region.wanted o (yielded ops a.tmps) = true then Oper.wp P o a w K Q else K (a.put o.dst undef) w)
    (hdone : ∀ (f : Nat → Bool) (a : Act) (w : World), I f a w → (∀ i, i < ops.size → f i = true) → Q .normal a w) : (Code.region id ops true).wp P Q a w := by
  refine wp_region_any hm ?_
  refine wpAny_inv I hstep hdone (waits_of hac) ops.size _ a _ (by simp) ?_ ?_
  · exact Nat.le_trans (List.countP_le_length) (by simp)
  · have e : (fun j => (Array.replicate ops.size false).getD j false) = fun _ => false := by
      funext j
      simp only [Array.getD_eq_getD_getElem?]
      by_cases hj : j < ops.size
      · rw [Array.getElem?_eq_getElem (by simpa using hj)]; simp
      · rw [Array.getElem?_eq_none (by simpa using hj)]; rfl
    rw [e]
    exact h0
end
/-- What has come up holds whatever it waits for. -/
def ShutF (ops : Array Oper) (f : Nat → Bool) : Prop := ∀ (j : Nat) (o : Oper), ops[j]? = some o → f j = true → ∀ e ∈ o.after, Region.binds .any e = true → f e.on = true
theorem shut_step {ops : Array Oper} {f : Nat → Bool} (h : ShutF ops f) (i : Nat) (o : Oper) (ho : ops[i]? = some o) (hd : ∀ e ∈ o.after, Region.binds .any e = true → f e.on = true) : ShutF ops (fun j => if j = i then true else f j) := by
  intro j p hp hj e he hb
  by_cases hji : j = i
  · subst hji
    rw [ho] at hp
    cases hp
    have := hd e he hb
    by_cases h2 : e.on = j
    · simp [h2]
    · simp [h2, this]
  · have hj' : f j = true := by simpa [hji] using hj
    have := h j p hp hj' e he hb
    by_cases h2 : e.on = i
    · simp [h2]
    · simp [h2, this]
section
variable {P : Program} {ops : Array Oper} {Q : Exit → Act → World → Prop}
theorem wpAny_invB (I : (Nat → Bool) → Act → World → Prop)
    (hstep : ∀ (i : Nat) (o : Oper), ops[i]? = some o → ∀ (f : Nat → Bool) (a : Act) (w : World), I f a w → f i = false → (∀ e ∈ o.after, Region.binds .any e = true → f e.on = true) →
      ∀ K : Act → World → Prop, (∀ a' w', I (fun j => if j = i then true else f j) a' w' → K a' w') → if Region.wanted o (yielded ops a.tmps) = true then Oper.wp P o a w K Q else K (a.put o.dst undef) w)
    (hdone : ∀ (f : Nat → Bool) (a : Act) (w : World), I f a w → (∀ i, i < ops.size → f i = true) → Q .normal a w)
    (hac : ∀ (i : Nat) (o : Oper), ops[i]? = some o → ∀ e ∈ o.after, Region.binds .any e = true → e.on < i) :
    ∀ (fuel : Nat) (listed : Array Bool) (a : Act) (w : World), listed.size = ops.size → (List.range ops.size).countP (fun j => !listed.getD j false) ≤ fuel → I (fun j => listed.getD j false) a w → wpAny P .any ops Q fuel listed a w := by
  have hnil : ∀ (listed : Array Bool), listed.size = ops.size → Region.ready .any ops listed = [] → ∀ i, i < ops.size → listed.getD i false = true := by
    intro listed hsz hr i
    induction i using Nat.strongRecOn with
    | ind i ih =>
      intro hi
      cases hb : listed.getD i false with
      | true => rfl
      | false =>
        have hm : i ∈ Region.ready .any ops listed := mem_ready.2 ⟨by
          have hi' : i < listed.size := by omega
          simpa [hi'] using hb, ops[i], by simp [hi], fun e he hb2 => ih e.on (hac i _ (by simp [hi]) e he hb2) (Nat.lt_trans (hac i _ (by simp [hi]) e he hb2) hi)⟩
        rw [hr] at hm
        cases hm
  intro fuel
  induction fuel with
  | zero =>
    intro listed a w hsz hc hI
    have hall : ∀ i, i < ops.size → listed.getD i false = true := fun i hi => by
      have h0 : (List.range ops.size).countP (fun j => !listed.getD j false) = 0 := by omega
      rw [List.countP_eq_zero] at h0
      have := h0 i (List.mem_range.2 hi)
      simpa using this
    refine ⟨?_, hdone _ a w hI hall⟩
    apply List.eq_nil_iff_forall_not_mem.2
    intro i hi
    obtain ⟨h1, o, ho, _⟩ := mem_ready.1 hi
    have hi' := (Array.getElem?_eq_some_iff.1 ho).1
    have := hall i hi'
    have hi'' : i < listed.size := by omega
    simp [hi''] at this h1
    rw [this] at h1
    cases h1
  | succ fuel ih =>
    intro listed a w hsz hc hI
    refine ⟨fun hr => hdone _ a w hI (hnil listed hsz hr), fun i hi => ?_⟩
    obtain ⟨h1, o, ho, hd⟩ := mem_ready.1 hi
    have hi' := (Array.getElem?_eq_some_iff.1 ho).1
    have hi'' : i < listed.size := by omega
    have hf : listed.getD i false = false := by simpa [hi''] using h1
    refine wpOp_step ho fun K hK => ?_
    refine hstep i o ho _ a w hI hf (fun e he hb => hd e he hb) K fun a' w' hI' => hK a' w' ?_
    refine ih _ a' w' (by simpa using hsz) ?_ (by rw [getD_set listed i hi'']; exact hI')
    have := countP_one (fun j => !listed.getD j false) (fun j => !(listed.setIfInBounds i true).getD j false) i (by simp [hf]) (by
      have := congrFun (getD_set listed i hi'') i
      simp only [if_true] at this
      rw [this]; rfl) (fun j hj => by
      have := congrFun (getD_set listed i hi'') j
      simp only [if_neg hj] at this
      rw [this]) (List.range ops.size) List.nodup_range (List.mem_range.2 hi')
    omega
/-- Each operation waits for earlier ones alone. -/
def waitsBB (ops : Array Oper) : Bool := (List.range ops.size).all fun i => ((ops[i]?).map fun o => o.after.all fun e => !Region.binds .any e || decide (e.on < i)).getD true
theorem waitsB_of (h : waitsBB ops = true) : ∀ (i : Nat) (o : Oper), ops[i]? = some o → ∀ e ∈ o.after, Region.binds .any e = true → e.on < i := by
  intro i o ho e he hb
  unfold waitsBB at h
  rw [List.all_eq_true] at h
  have := h i (List.mem_range.2 (Array.getElem?_eq_some_iff.1 ho).1)
  rw [ho] at this
  simp only [Option.map_some, Option.getD_some] at this
  have := Array.all_eq_true_iff_forall_mem.1 this e he
  simpa [hb] using this
/-- The whole region: what holds of it at its beginning, behind each operation, and what that gives at its end. -/
theorem wp_region_invB {id : Nat} {a : Act} {w : World} (I : (Nat → Bool) → Act → World → Prop) (hm : P.follows .mixedOrders = true) (h0 : I (fun _ => false) a w.drew)
    (hac : waitsBB ops = true)
    (hstep : ∀ (i : Nat) (o : Oper), ops[i]? = some o → ∀ (f : Nat → Bool) (a : Act) (w : World), I f a w → f i = false → (∀ e ∈ o.after, Region.binds .any e = true → f e.on = true) →
      ∀ K : Act → World → Prop, (∀ a' w', I (fun j => if j = i then true else f j) a' w' → K a' w') → if Region.wanted o (yielded ops a.tmps) = true then Oper.wp P o a w K Q else K (a.put o.dst undef) w)
    (hdone : ∀ (f : Nat → Bool) (a : Act) (w : World), I f a w → (∀ i, i < ops.size → f i = true) → Q .normal a w) : (Code.region id ops true).wp P Q a w := by
  refine wp_region_any hm ?_
  refine wpAny_invB I hstep hdone (waitsB_of hac) ops.size _ a _ (by simp) ?_ ?_
  · exact Nat.le_trans (List.countP_le_length) (by simp)
  · have e : (fun j => (Array.replicate ops.size false).getD j false) = fun _ => false := by
      funext j
      simp only [Array.getD_eq_getD_getElem?]
      by_cases hj : j < ops.size
      · rw [Array.getElem?_eq_getElem (by simpa using hj)]; simp
      · rw [Array.getElem?_eq_none (by simpa using hj)]; rfl
    rw [e]
    exact h0
theorem wp_region_shut {id : Nat} {a : Act} {w : World} (I : (Nat → Bool) → Act → World → Prop) (hm : P.follows .mixedOrders = true) (h0 : I (fun _ => false) a w.drew)
    (hac : waitsBB ops = true)
    (hstep : ∀ (i : Nat) (o : Oper), ops[i]? = some o → ∀ (f : Nat → Bool) (a : Act) (w : World), I f a w → ShutF ops f → f i = false → (∀ e ∈ o.after, Region.binds .any e = true → f e.on = true) →
      ∀ K : Act → World → Prop, (∀ a' w', I (fun j => if j = i then true else f j) a' w' → K a' w') → if Region.wanted o (yielded ops a.tmps) = true then Oper.wp P o a w K Q else K (a.put o.dst undef) w)
    (hdone : ∀ (f : Nat → Bool) (a : Act) (w : World), I f a w → (∀ i, i < ops.size → f i = true) → Q .normal a w) : (Code.region id ops true).wp P Q a w :=
  wp_region_invB (fun f a w => I f a w ∧ ShutF ops f) hm ⟨h0, fun _ _ _ h => noB h⟩ hac
    (fun i o ho f a w hI hf hd K hK => hstep i o ho f a w hI.1 hI.2 hf hd K (fun a' w' hI' => hK a' w' ⟨hI', shut_step hI.2 i o ho hd⟩))
    (fun f a w hI hall => hdone f a w hI.1 hall)
end
end Go.Proofs.YtkolflcjkofleaaDoor
