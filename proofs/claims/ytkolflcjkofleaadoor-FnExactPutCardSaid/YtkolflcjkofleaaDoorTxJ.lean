/- Contracts over this seat's translation, laid together; conditions stand as hypotheses of each. -/
import Derived.Test.YtkolflcjkofleaaDoorTxA
import Derived.Test.YtkolflcjkofleaaDoorTxB
import Derived.Test.YtkolflcjkofleaaDoorTxC
import Derived.Test.YtkolflcjkofleaaDoorTxG
import Derived.Test.YtkolflcjkofleaaDoorTxH
import Derived.Test.YtkolflcjkofleaaDoorTxI
import Derived.Laws.Rows
import Derived.Lib.Builder

namespace Go.Proofs.YtkolflcjkofleaaDoor
open Go.ChangeShapes Go.WideShapes Go.ChangeAt Go.RowKit
set_option linter.unusedVariables false
set_option maxRecDepth 8000
set_option linter.unusedSimpArgs false

theorem ct_szF (e : Ex) : e.ct ≤ e.sz := by
  induction e using Ex.ind with
  | h k n s l ih =>
    rw [Ex.ct, Ex.sz_eq]
    have : (l.map Ex.ct).sum ≤ (l.map Ex.sz).sum := by
      clear k n s
      induction l with
      | nil => simp
      | cons x r ihr =>
        have h1 := ih x List.mem_cons_self
        have h2 := ihr (fun y hy => ih y (List.mem_cons_of_mem _ hy))
        simp only [List.map_cons, List.sum_cons]
        omega
    omega
theorem put_szM {here : Ex} {L : List ByteArray} {vals : List Ex} {M : Nat} (hh : here.sz ≤ M) (hv : ∀ i, (xAt vals i).sz ≤ M) (e : Ex) : (putX here L vals e).sz ≤ e.sz + (1 + e.ct) * M := by
  induction e using Ex.ind with
  | h k n s l ih =>
    rw [putX_eq]
    have hM : M ≤ (1 + (Ex.mk k n s l).ct) * M := Nat.le_mul_of_pos_left _ (by omega)
    unfold putC
    split
    · omega
    · split
      · have := hv (atV L s).toNat; omega
      · rw [Ex.sz_eq, Ex.sz_eq, Ex.ct, List.length_map]
        have : ((l.map (putX here L vals)).map Ex.sz).sum ≤ (l.map Ex.sz).sum + (l.length + (l.map Ex.ct).sum) * M := by
          clear hM
          induction l with
          | nil => simp
          | cons x r ihr =>
            have h1 := ih x List.mem_cons_self
            have h2 := ihr (fun y hy => ih y (List.mem_cons_of_mem _ hy))
            simp only [List.map_cons, List.sum_cons, List.length_cons]
            have e1 : (r.length + 1 + (x.ct + (r.map Ex.ct).sum)) * M = (1 + x.ct) * M + (r.length + (r.map Ex.ct).sum) * M := by rw [← Nat.add_mul]; congr 1; omega
            omega
        have e2 : (1 + (l.length + (l.map Ex.ct).sum)) * M = M + (l.length + (l.map Ex.ct).sum) * M := by rw [Nat.add_mul, Nat.one_mul]
        omega
def flV : List Ex := [⟨1, 7, ⟨#[]⟩, []⟩, ⟨11, 0, ⟨#[]⟩, []⟩, ⟨12, 0, ⟨#[103]⟩, []⟩]
def flH : Ex := ⟨11, 1, ⟨#[]⟩, []⟩
def flL : List ByteArray := [⟨#[97]⟩, ⟨#[98]⟩, ⟨#[99]⟩]
theorem flV_sz : ∀ i, (xAt flV i).sz ≤ 1 := by
  intro i
  match i with
  | 0 => show (Ex.mk 1 7 ⟨#[]⟩ []).sz ≤ 1; rw [sz_leaf]; decide
  | 1 => show (Ex.mk 11 0 ⟨#[]⟩ []).sz ≤ 1; rw [sz_leaf]; decide
  | 2 => show (Ex.mk 12 0 ⟨#[103]⟩ []).sz ≤ 1; rw [sz_leaf]; decide
  | (i + 3) => show (Ex.mk 0 0 ⟨#[]⟩ []).sz ≤ 1; rw [sz_leaf]; decide
theorem flH_sz : flH.sz ≤ 1 := by unfold flH; rw [sz_leaf]; decide
theorem fl_pk : Pk flH flL flV := ⟨Nat.le_trans flH_sz (by decide), by decide, fun i _ => Nat.le_trans (flV_sz i) (by decide), rfl⟩
theorem fl_pv {w : World} {gn gv : Nat} {t u : TypeId} (hn : w.heap[gn]? = some (.cells #[.string ⟨#[97]⟩, .string ⟨#[98]⟩, .string ⟨#[99]⟩] t (0, 0))) (hv : w.heap[gv]? = some (.cells #[.int .i64 1, .int .i64 7, .string ⟨#[]⟩, .slice none 0 0, .int .i64 11, .int .i64 0, .string ⟨#[]⟩, .slice none 0 0, .int .i64 12, .int .i64 0, .string ⟨#[103]⟩, .slice none 0 0] u (0, 0))) : Pv w flH none gn flL (some ⟨gv, 0, none⟩) flV := by
  refine ⟨(RdX_eq _ _ _ _).2 (.inl rfl), fun j hj => ?_, (Array.getElem?_eq_some_iff.1 hn).1, (RdX_eq _ _ _ _).2 (.inr ⟨gv, 0, rfl, Nat.zero_le _, (Array.getElem?_eq_some_iff.1 hv).1, fun i hi => ?_⟩)⟩
  · have hj : j < 3 := hj
    have : j = 0 ∨ j = 1 ∨ j = 2 := by omega
    rcases this with rfl | rfl | rfl <;> exact Lib.cell_of_heap hn _
  · have hi : i < 3 := hi
    have lf : ∀ (k n : Int) (s : ByteArray), RdX w 0 ⟨k, n, s, []⟩ none := fun k n s => (RdX_eq _ _ _ _).2 (.inl rfl)
    have : i = 0 ∨ i = 1 ∨ i = 2 := by omega
    rcases this with rfl | rfl | rfl
    · exact ⟨Lib.cell_of_heap hv 0, Lib.cell_of_heap hv 1, Lib.cell_of_heap hv 2, none, 0, Lib.cell_of_heap hv 3, lf _ _ _⟩
    · exact ⟨Lib.cell_of_heap hv 4, Lib.cell_of_heap hv 5, Lib.cell_of_heap hv 6, none, 0, Lib.cell_of_heap hv 7, lf _ _ _⟩
    · exact ⟨Lib.cell_of_heap hv 8, Lib.cell_of_heap hv 9, Lib.cell_of_heap hv 10, none, 0, Lib.cell_of_heap hv 11, lf _ _ _⟩
theorem flPut (x : Ex) (hz : x.sz ≤ 1100000) (c : Option Addr) (cp gn gv : Nat) (w : World) (t u : TypeId) (hr : RdX w 0 x c) (hn : w.heap[gn]? = some (.cells #[.string ⟨#[97]⟩, .string ⟨#[98]⟩, .string ⟨#[99]⟩] t (0, 0))) (hv : w.heap[gv]? = some (.cells #[.int .i64 1, .int .i64 7, .string ⟨#[]⟩, .slice none 0 0, .int .i64 11, .int .i64 0, .string ⟨#[]⟩, .slice none 0 0, .int .i64 12, .int .i64 0, .string ⟨#[103]⟩, .slice none 0 0] u (0, 0))) : Calls Tryd.prog 54 #[.agg #[.int .i64 x.k, .int .i64 x.n, .string x.s, .slice c x.l.length cp], .agg #[.int .i64 11, .int .i64 1, .string ⟨#[]⟩, .slice none 0 0], .slice (some ⟨gn, 0, none⟩) 3 3, .slice (some ⟨gv, 0, none⟩) 3 3] w (GiR (putX flH flL flV x) (Up w) w) :=
  putS_any flH flL flV fl_pk x hz c none (some ⟨gv, 0, none⟩) cp 0 gn 3 w hr (fl_pv hn hv)
theorem two_resF (w : World) (o o2 : Obj) : Below w.heap.size w ((w.alloc o).alloc o2) ∧ ((w.alloc o).alloc o2).heap[w.heap.size]? = some o ∧ ((w.alloc o).alloc o2).heap[w.heap.size + 1]? = some o2 ∧ ((w.alloc o).alloc o2).heap.size = w.heap.size + 2 := by
  have h1 : (w.alloc o).heap.size = w.heap.size + 1 := by simp
  refine ⟨((Below.refl _ _).alloc (Nat.le_refl _) _).alloc (by simp) _, row_keep (heap_alloc_new w _) (below_new _ _), ?_, by simp⟩
  rw [← h1]
  exact Array.getElem?_push_size
set_option maxHeartbeats 16000000 in
theorem flatD (d : Nat) (hd : d ≤ 4) (hsz : szD d ≤ 1000) (ih : DrP d) (cb : Nat) (a : Option Addr) (len cap : Nat) (xs : List UInt8) (w : World) (hc : Cur w cb a len cap xs) : Calls Tryd.prog 44 #[.pointer (some ⟨cb, 0, none⟩), .int .i64 (d : Nat)] w (DrX (2 * szD d + 1) cb a len cap xs w) := by
  have IH := hide (fun wr (h : Cur wr cb a len cap xs) => ih d rfl false cb a len cap xs wr h)
  unfold DrX at IH
  obtain ⟨b0, r0, h0, z0⟩ := two_resF w (.cells #[.int .i64 0, .int .i64 0, .string ⟨#[]⟩, .slice none 0 0] 26) (.cells #[.int .i64 11, .int .i64 1, .string ⟨#[]⟩, .slice none 0 0] 26)
  have D0 := hide ((dz_new hc).later b0)
  have RS0 := hide r0
  have HB0 := hide h0
  have hlc := hc.lt
  have SZ0 := hide z0
  generalize hX : DrX (2 * szD d + 1) cb a len cap xs w = X
  have HX := hide hX
  generalize szD d = zd at *
  clear hc hX ih b0 r0 h0 z0
  go_enter Tryd.func44, Tryd.ntmps44
  go_wp2_with fail
  generalize (w.alloc (.cells #[.int .i64 0, .int .i64 0, .string ⟨#[]⟩, .slice none 0 0] 26)).alloc (.cells #[.int .i64 11, .int .i64 1, .string ⟨#[]⟩, .slice none 0 0] 26) = W at *
  have D1 := hide ((unhide D0).later (below_drew (w := W)))
  have RS1 := hide (row_keep (unhide RS0) (below_drew (w := W)))
  have HB1 := hide (row_keep (unhide HB0) (below_drew (w := W)))
  have LT1 := hide (show w.heap.size + 2 ≤ W.drew.heap.size from Nat.le_of_eq (unhide SZ0).symm)
  refine wp_region_held_drew (S := fun v => v.heap[w.heap.size + 1]? = some (.cells #[.int .i64 11, .int .i64 1, .string ⟨#[]⟩, .slice none 0 0] 26 (0, 0))) (by kernel_rfl) (unhide HB1) (fun hS => ?_)
  have HS := hide hS
  clear hS D0 RS0 HB0 SZ0
  generalize W.drew = w1 at *
  refine wpAnyH_take (i := 0) (v := .pointer (some ⟨cb, 0, none⟩)) rfl (by kernel_rfl) (by kernel_rfl) (by kernel_rfl) (fun _ _ _ h => h) (Or.inl ⟨by rfl, fun w hc => ?_⟩) (unhide HS) ?_
  · clear hc; go_simp
  go_simp
  refine wpAnyH_take (i := 1) (v := .int .i64 (d : Nat)) rfl (by kernel_rfl) (by kernel_rfl) (by kernel_rfl) (fun _ _ _ h => h) (Or.inl ⟨by rfl, fun w hc => ?_⟩) (unhide HS) ?_
  · clear hc; go_simp
  go_simp
  refine wpAnyH_take (i := 3) (v := .agg #[.int .i64 11, .int .i64 1, .string ⟨#[]⟩, .slice none 0 0]) rfl (by kernel_rfl) (by kernel_rfl) (by kernel_rfl) (fun _ _ _ h => h) (yields_loadG (by rfl) 26 _ rfl (w.heap.size + 1) rfl 26 #[.int .i64 11, .int .i64 1, .string ⟨#[]⟩, .slice none 0 0] _ (fun w h => h) Tryd.underlying26 rfl (by kernel_rfl)) (unhide HS) ?_
  go_simp
  refine wpAnyH_take (i := 6) (v := .agg #[.int .i64 11, .int .i64 0, .string ⟨#[]⟩, .slice none 0 0]) rfl (by kernel_rfl) (by kernel_rfl) (by kernel_rfl) (fun _ _ _ h => h) (Or.inl ⟨by rfl, fun w hc => ?_⟩) (unhide HS) ?_
  · clear hc; go_simp
  go_simp
  refine wpAnyH_take (i := 7) (v := .agg #[.int .i64 12, .int .i64 0, .string ⟨#[103]⟩, .slice none 0 0]) rfl (by kernel_rfl) (by kernel_rfl) (by kernel_rfl) (fun _ _ _ h => h) (Or.inl ⟨by rfl, fun w hc => ?_⟩) (unhide HS) ?_
  · clear hc; go_simp
  go_simp
  refine wpAnyH_ready (rs := [2, 4]) (by kernel_rfl) (by simp) ?_
  refine AllReadyH.cons rfl (fun K2 hK => ?_) (AllReadyH.cons rfl (fun K2 hK => ?_) AllReadyH.nil)
  · go_simp
    refine (unhide IH w1 (unhide D1).cur).mono ?_
    rintro r w2 ⟨x, c, cp, rfl, hsx, hnx, hcc, hgg⟩
    unfold Ex.cs
    have D2 := hide ((unhide D1).draw hcc hgg)
    have RS2 := hide ((unhide D1).blk hgg (unhide RS1) (Nat.le_refl _))
    have HB2 := hide ((unhide D1).blk hgg (unhide HB1) (Nat.le_succ _))
    have LT2 := hide (Nat.le_trans (unhide LT1) hgg.size)
    have X2 := hide (hnx.lower (unhide LT1))
    refine hK.out _ _ (unhide HB2) (fun hS => ?_)
    clear HS
    have HS := hide hS
    clear hS hK K2
    clear hnx hcc hgg D1 RS1 HB1 LT1 
    refine wpAnyH_ready (rs := [4, 5]) (by kernel_rfl) (by simp) ?_
    refine AllReadyH.cons rfl (fun K2 hK => ?_) (AllReadyH.cons rfl (fun K2 hK => ?_) AllReadyH.nil)
    · go_simp
      have hb := below_new w2 (.cells #[.string ⟨#[97]⟩, .string ⟨#[98]⟩, .string ⟨#[99]⟩] 9)
      have N3 := hide (show (w2.alloc (.cells #[.string ⟨#[97]⟩, .string ⟨#[98]⟩, .string ⟨#[99]⟩] 9)).heap[w2.heap.size]? = some (.cells #[.string ⟨#[97]⟩, .string ⟨#[98]⟩, .string ⟨#[99]⟩] 9 (0, 0)) from Array.getElem?_push_size)
      have LN := hide (show w.heap.size + 2 ≤ w2.heap.size from unhide LT2)
      have D3 := hide ((unhide D2).later hb)
      have RS3 := hide (row_keep (unhide RS2) hb)
      have HB3 := hide (row_keep (unhide HB2) hb)
      have LT3 := hide (Nat.le_trans (unhide LT2) hb.size)
      have X3 := hide ((unhide X2).later hb)
      refine hK.out _ _ (unhide HB3) (fun hS => ?_)
      clear HS
      have HS := hide hS
      clear hS hK K2
      clear hb D2 RS2 HB2 LT2 X2
      generalize w2.alloc (.cells #[.string ⟨#[97]⟩, .string ⟨#[98]⟩, .string ⟨#[99]⟩] 9) = w3 at *
      generalize w2.heap.size = gn at *
      refine wpAnyH_ready (rs := [5]) (by kernel_rfl) (by simp) ?_
      refine AllReadyH.cons rfl (fun K2 hK => ?_) AllReadyH.nil
      go_simp
      refine (numD 7 w3).mono ?_
      rintro r w4 ⟨rfl, hb⟩
      have D4 := hide ((unhide D3).later hb)
      have RS4 := hide (row_keep (unhide RS3) hb)
      have HB4 := hide (row_keep (unhide HB3) hb)
      have LT4 := hide (Nat.le_trans (unhide LT3) hb.size)
      have X4 := hide ((unhide X3).later hb)
      have N4 := hide (row_keep (unhide N3) hb)
      refine hK.out _ _ (unhide HB4) (fun hS => ?_)
      clear HS
      have HS := hide hS
      clear hS hK K2
      clear hb D3 RS3 HB3 LT3 X3 N3
      refine wpAnyH_ready (rs := [8]) (by kernel_rfl) (by simp) ?_
      refine AllReadyH.cons rfl (fun K2 hK => ?_) AllReadyH.nil
      go_simp
      have hb := below_new w4 (.cells #[.int .i64 1, .int .i64 7, .string ⟨#[]⟩, .slice none 0 0, .int .i64 11, .int .i64 0, .string ⟨#[]⟩, .slice none 0 0, .int .i64 12, .int .i64 0, .string ⟨#[103]⟩, .slice none 0 0] 26)
      have V5 := hide (show (w4.alloc (.cells #[.int .i64 1, .int .i64 7, .string ⟨#[]⟩, .slice none 0 0, .int .i64 11, .int .i64 0, .string ⟨#[]⟩, .slice none 0 0, .int .i64 12, .int .i64 0, .string ⟨#[103]⟩, .slice none 0 0] 26)).heap[w4.heap.size]? = some (.cells #[.int .i64 1, .int .i64 7, .string ⟨#[]⟩, .slice none 0 0, .int .i64 11, .int .i64 0, .string ⟨#[]⟩, .slice none 0 0, .int .i64 12, .int .i64 0, .string ⟨#[103]⟩, .slice none 0 0] 26 (0, 0)) from Array.getElem?_push_size)
      have LV := hide (show w.heap.size + 2 ≤ w4.heap.size from unhide LT4)
      have D5 := hide ((unhide D4).later hb)
      have RS5 := hide (row_keep (unhide RS4) hb)
      have HB5 := hide (row_keep (unhide HB4) hb)
      have LT5 := hide (Nat.le_trans (unhide LT4) hb.size)
      have X5 := hide ((unhide X4).later hb)
      have N5 := hide (row_keep (unhide N4) hb)
      refine hK.out _ _ (unhide HB5) (fun hS => ?_)
      clear HS
      have HS := hide hS
      clear hS hK K2
      clear hb D4 RS4 HB4 LT4 X4 N4
      generalize w4.alloc (.cells #[.int .i64 1, .int .i64 7, .string ⟨#[]⟩, .slice none 0 0, .int .i64 11, .int .i64 0, .string ⟨#[]⟩, .slice none 0 0, .int .i64 12, .int .i64 0, .string ⟨#[103]⟩, .slice none 0 0] 26) = w5 at *
      generalize w4.heap.size = gv at *
      refine wpAnyH_ready (rs := [9]) (by kernel_rfl) (by simp) ?_
      refine AllReadyH.cons rfl (fun K2 hK => ?_) AllReadyH.nil
      go_simp
      have PU := hide (flPut x (by omega) c cp gn gv w5 _ _ ((unhide X5).rd.lower (Nat.zero_le _) _ _) (unhide N5) (unhide V5))
      unfold GiR Ex.cs at PU
      have SY := hide (show (putX flH flL flV x).sz ≤ 2 * zd + 1 from Nat.le_trans (put_szM flH_sz flV_sz x) (by have := ct_szF x; omega))
      refine (unhide PU).mono ?_
      rintro r w6 ⟨c2, cp2, rfl, hnx, hb⟩
      generalize putX flH flL flV x = y at *
      have D6 := hide ((unhide D5).later hb)
      have RS6 := hide (row_keep (unhide RS5) hb)
      have HB6 := hide (row_keep (unhide HB5) hb)
      have Y6 := hide ((show NewX w6 w5.heap.size y c2 from hnx).lower (unhide LT5))
      refine hK.out _ _ (unhide HB6) (fun hS => ?_)
      clear HS
      have HS := hide hS
      clear hS hK K2
      clear hb hnx PU D5 RS5 HB5 LT5 X5 N5 V5
      refine wpAnyH_ready (rs := [10]) (by kernel_rfl) (by simp) ?_
      refine AllReadyH.cons rfl (fun K2 hK => ?_) AllReadyH.nil
      rw [if_pos (by rfl)]
      refine wp_store_row 26 _ _ rfl w.heap.size #[.int .i64 y.k, .int .i64 y.n, .string y.s, .slice c2 y.l.length cp2] rfl rfl 26 _ (unhide RS6) szE rfl (ex_one _ _ _ _ _ _) ?_
      refine hK.out _ _ ((setRow_other _ _ _ _ (by omega)).trans (unhide HB6)) (fun hS => ?_)
      clear HS
      have HS := hide hS
      clear hS hK K2
      refine wpAnyH_done (by kernel_rfl) ?_ _
      clear HS
      go_wp2
      refine bodyPost_ret (results_cell_row (P := Tryd.prog) rfl _ _ w.heap.size 26 #[.int .i64 y.k, .int .i64 y.n, .string y.s, .slice c2 y.l.length cp2] (0, 0) _ rfl (setRow_heap _ _ _ _ _ _ (unhide RS6)) Tryd.underlying26 rfl szE) rfl ?_
      rw [← unhide HX]
      exact ⟨y, c2, cp2, rfl, unhide SY, ((unhide Y6).row _ (by omega)).lower (by omega), ((unhide D6).row _).cur, ((unhide D6).row _).gr⟩
    · go_simp
      refine (numD 7 w2).mono ?_
      rintro r w3 ⟨rfl, hb⟩
      have D3 := hide ((unhide D2).later hb)
      have RS3 := hide (row_keep (unhide RS2) hb)
      have HB3 := hide (row_keep (unhide HB2) hb)
      have LT3 := hide (Nat.le_trans (unhide LT2) hb.size)
      have X3 := hide ((unhide X2).later hb)
      refine hK.out _ _ (unhide HB3) (fun hS => ?_)
      clear HS
      have HS := hide hS
      clear hS hK K2
      clear hb D2 RS2 HB2 LT2 X2
      refine wpAnyH_ready (rs := [4, 8]) (by kernel_rfl) (by simp) ?_
      refine AllReadyH.cons rfl (fun K2 hK => ?_) (AllReadyH.cons rfl (fun K2 hK => ?_) AllReadyH.nil)
      · go_simp
        have hb := below_new w3 (.cells #[.string ⟨#[97]⟩, .string ⟨#[98]⟩, .string ⟨#[99]⟩] 9)
        have N4 := hide (show (w3.alloc (.cells #[.string ⟨#[97]⟩, .string ⟨#[98]⟩, .string ⟨#[99]⟩] 9)).heap[w3.heap.size]? = some (.cells #[.string ⟨#[97]⟩, .string ⟨#[98]⟩, .string ⟨#[99]⟩] 9 (0, 0)) from Array.getElem?_push_size)
        have LN := hide (show w.heap.size + 2 ≤ w3.heap.size from unhide LT3)
        have D4 := hide ((unhide D3).later hb)
        have RS4 := hide (row_keep (unhide RS3) hb)
        have HB4 := hide (row_keep (unhide HB3) hb)
        have LT4 := hide (Nat.le_trans (unhide LT3) hb.size)
        have X4 := hide ((unhide X3).later hb)
        refine hK.out _ _ (unhide HB4) (fun hS => ?_)
        clear HS
        have HS := hide hS
        clear hS hK K2
        clear hb D3 RS3 HB3 LT3 X3
        generalize w3.alloc (.cells #[.string ⟨#[97]⟩, .string ⟨#[98]⟩, .string ⟨#[99]⟩] 9) = w4 at *
        generalize w3.heap.size = gn at *
        refine wpAnyH_ready (rs := [8]) (by kernel_rfl) (by simp) ?_
        refine AllReadyH.cons rfl (fun K2 hK => ?_) AllReadyH.nil
        go_simp
        have hb := below_new w4 (.cells #[.int .i64 1, .int .i64 7, .string ⟨#[]⟩, .slice none 0 0, .int .i64 11, .int .i64 0, .string ⟨#[]⟩, .slice none 0 0, .int .i64 12, .int .i64 0, .string ⟨#[103]⟩, .slice none 0 0] 26)
        have V5 := hide (show (w4.alloc (.cells #[.int .i64 1, .int .i64 7, .string ⟨#[]⟩, .slice none 0 0, .int .i64 11, .int .i64 0, .string ⟨#[]⟩, .slice none 0 0, .int .i64 12, .int .i64 0, .string ⟨#[103]⟩, .slice none 0 0] 26)).heap[w4.heap.size]? = some (.cells #[.int .i64 1, .int .i64 7, .string ⟨#[]⟩, .slice none 0 0, .int .i64 11, .int .i64 0, .string ⟨#[]⟩, .slice none 0 0, .int .i64 12, .int .i64 0, .string ⟨#[103]⟩, .slice none 0 0] 26 (0, 0)) from Array.getElem?_push_size)
        have LV := hide (show w.heap.size + 2 ≤ w4.heap.size from unhide LT4)
        have D5 := hide ((unhide D4).later hb)
        have RS5 := hide (row_keep (unhide RS4) hb)
        have HB5 := hide (row_keep (unhide HB4) hb)
        have LT5 := hide (Nat.le_trans (unhide LT4) hb.size)
        have X5 := hide ((unhide X4).later hb)
        have N5 := hide (row_keep (unhide N4) hb)
        refine hK.out _ _ (unhide HB5) (fun hS => ?_)
        clear HS
        have HS := hide hS
        clear hS hK K2
        clear hb D4 RS4 HB4 LT4 X4 N4
        generalize w4.alloc (.cells #[.int .i64 1, .int .i64 7, .string ⟨#[]⟩, .slice none 0 0, .int .i64 11, .int .i64 0, .string ⟨#[]⟩, .slice none 0 0, .int .i64 12, .int .i64 0, .string ⟨#[103]⟩, .slice none 0 0] 26) = w5 at *
        generalize w4.heap.size = gv at *
        refine wpAnyH_ready (rs := [9]) (by kernel_rfl) (by simp) ?_
        refine AllReadyH.cons rfl (fun K2 hK => ?_) AllReadyH.nil
        go_simp
        have PU := hide (flPut x (by omega) c cp gn gv w5 _ _ ((unhide X5).rd.lower (Nat.zero_le _) _ _) (unhide N5) (unhide V5))
        unfold GiR Ex.cs at PU
        have SY := hide (show (putX flH flL flV x).sz ≤ 2 * zd + 1 from Nat.le_trans (put_szM flH_sz flV_sz x) (by have := ct_szF x; omega))
        refine (unhide PU).mono ?_
        rintro r w6 ⟨c2, cp2, rfl, hnx, hb⟩
        generalize putX flH flL flV x = y at *
        have D6 := hide ((unhide D5).later hb)
        have RS6 := hide (row_keep (unhide RS5) hb)
        have HB6 := hide (row_keep (unhide HB5) hb)
        have Y6 := hide ((show NewX w6 w5.heap.size y c2 from hnx).lower (unhide LT5))
        refine hK.out _ _ (unhide HB6) (fun hS => ?_)
        clear HS
        have HS := hide hS
        clear hS hK K2
        clear hb hnx PU D5 RS5 HB5 LT5 X5 N5 V5
        refine wpAnyH_ready (rs := [10]) (by kernel_rfl) (by simp) ?_
        refine AllReadyH.cons rfl (fun K2 hK => ?_) AllReadyH.nil
        rw [if_pos (by rfl)]
        refine wp_store_row 26 _ _ rfl w.heap.size #[.int .i64 y.k, .int .i64 y.n, .string y.s, .slice c2 y.l.length cp2] rfl rfl 26 _ (unhide RS6) szE rfl (ex_one _ _ _ _ _ _) ?_
        refine hK.out _ _ ((setRow_other _ _ _ _ (by omega)).trans (unhide HB6)) (fun hS => ?_)
        clear HS
        have HS := hide hS
        clear hS hK K2
        refine wpAnyH_done (by kernel_rfl) ?_ _
        clear HS
        go_wp2
        refine bodyPost_ret (results_cell_row (P := Tryd.prog) rfl _ _ w.heap.size 26 #[.int .i64 y.k, .int .i64 y.n, .string y.s, .slice c2 y.l.length cp2] (0, 0) _ rfl (setRow_heap _ _ _ _ _ _ (unhide RS6)) Tryd.underlying26 rfl szE) rfl ?_
        rw [← unhide HX]
        exact ⟨y, c2, cp2, rfl, unhide SY, ((unhide Y6).row _ (by omega)).lower (by omega), ((unhide D6).row _).cur, ((unhide D6).row _).gr⟩
      · go_simp
        have hb := below_new w3 (.cells #[.int .i64 1, .int .i64 7, .string ⟨#[]⟩, .slice none 0 0, .int .i64 11, .int .i64 0, .string ⟨#[]⟩, .slice none 0 0, .int .i64 12, .int .i64 0, .string ⟨#[103]⟩, .slice none 0 0] 26)
        have V4 := hide (show (w3.alloc (.cells #[.int .i64 1, .int .i64 7, .string ⟨#[]⟩, .slice none 0 0, .int .i64 11, .int .i64 0, .string ⟨#[]⟩, .slice none 0 0, .int .i64 12, .int .i64 0, .string ⟨#[103]⟩, .slice none 0 0] 26)).heap[w3.heap.size]? = some (.cells #[.int .i64 1, .int .i64 7, .string ⟨#[]⟩, .slice none 0 0, .int .i64 11, .int .i64 0, .string ⟨#[]⟩, .slice none 0 0, .int .i64 12, .int .i64 0, .string ⟨#[103]⟩, .slice none 0 0] 26 (0, 0)) from Array.getElem?_push_size)
        have LV := hide (show w.heap.size + 2 ≤ w3.heap.size from unhide LT3)
        have D4 := hide ((unhide D3).later hb)
        have RS4 := hide (row_keep (unhide RS3) hb)
        have HB4 := hide (row_keep (unhide HB3) hb)
        have LT4 := hide (Nat.le_trans (unhide LT3) hb.size)
        have X4 := hide ((unhide X3).later hb)
        refine hK.out _ _ (unhide HB4) (fun hS => ?_)
        clear HS
        have HS := hide hS
        clear hS hK K2
        clear hb D3 RS3 HB3 LT3 X3
        generalize w3.alloc (.cells #[.int .i64 1, .int .i64 7, .string ⟨#[]⟩, .slice none 0 0, .int .i64 11, .int .i64 0, .string ⟨#[]⟩, .slice none 0 0, .int .i64 12, .int .i64 0, .string ⟨#[103]⟩, .slice none 0 0] 26) = w4 at *
        generalize w3.heap.size = gv at *
        refine wpAnyH_ready (rs := [4]) (by kernel_rfl) (by simp) ?_
        refine AllReadyH.cons rfl (fun K2 hK => ?_) AllReadyH.nil
        go_simp
        have hb := below_new w4 (.cells #[.string ⟨#[97]⟩, .string ⟨#[98]⟩, .string ⟨#[99]⟩] 9)
        have N5 := hide (show (w4.alloc (.cells #[.string ⟨#[97]⟩, .string ⟨#[98]⟩, .string ⟨#[99]⟩] 9)).heap[w4.heap.size]? = some (.cells #[.string ⟨#[97]⟩, .string ⟨#[98]⟩, .string ⟨#[99]⟩] 9 (0, 0)) from Array.getElem?_push_size)
        have LN := hide (show w.heap.size + 2 ≤ w4.heap.size from unhide LT4)
        have D5 := hide ((unhide D4).later hb)
        have RS5 := hide (row_keep (unhide RS4) hb)
        have HB5 := hide (row_keep (unhide HB4) hb)
        have LT5 := hide (Nat.le_trans (unhide LT4) hb.size)
        have X5 := hide ((unhide X4).later hb)
        have V5 := hide (row_keep (unhide V4) hb)
        refine hK.out _ _ (unhide HB5) (fun hS => ?_)
        clear HS
        have HS := hide hS
        clear hS hK K2
        clear hb D4 RS4 HB4 LT4 X4 V4
        generalize w4.alloc (.cells #[.string ⟨#[97]⟩, .string ⟨#[98]⟩, .string ⟨#[99]⟩] 9) = w5 at *
        generalize w4.heap.size = gn at *
        refine wpAnyH_ready (rs := [9]) (by kernel_rfl) (by simp) ?_
        refine AllReadyH.cons rfl (fun K2 hK => ?_) AllReadyH.nil
        go_simp
        have PU := hide (flPut x (by omega) c cp gn gv w5 _ _ ((unhide X5).rd.lower (Nat.zero_le _) _ _) (unhide N5) (unhide V5))
        unfold GiR Ex.cs at PU
        have SY := hide (show (putX flH flL flV x).sz ≤ 2 * zd + 1 from Nat.le_trans (put_szM flH_sz flV_sz x) (by have := ct_szF x; omega))
        refine (unhide PU).mono ?_
        rintro r w6 ⟨c2, cp2, rfl, hnx, hb⟩
        generalize putX flH flL flV x = y at *
        have D6 := hide ((unhide D5).later hb)
        have RS6 := hide (row_keep (unhide RS5) hb)
        have HB6 := hide (row_keep (unhide HB5) hb)
        have Y6 := hide ((show NewX w6 w5.heap.size y c2 from hnx).lower (unhide LT5))
        refine hK.out _ _ (unhide HB6) (fun hS => ?_)
        clear HS
        have HS := hide hS
        clear hS hK K2
        clear hb hnx PU D5 RS5 HB5 LT5 X5 V5 N5
        refine wpAnyH_ready (rs := [10]) (by kernel_rfl) (by simp) ?_
        refine AllReadyH.cons rfl (fun K2 hK => ?_) AllReadyH.nil
        rw [if_pos (by rfl)]
        refine wp_store_row 26 _ _ rfl w.heap.size #[.int .i64 y.k, .int .i64 y.n, .string y.s, .slice c2 y.l.length cp2] rfl rfl 26 _ (unhide RS6) szE rfl (ex_one _ _ _ _ _ _) ?_
        refine hK.out _ _ ((setRow_other _ _ _ _ (by omega)).trans (unhide HB6)) (fun hS => ?_)
        clear HS
        have HS := hide hS
        clear hS hK K2
        refine wpAnyH_done (by kernel_rfl) ?_ _
        clear HS
        go_wp2
        refine bodyPost_ret (results_cell_row (P := Tryd.prog) rfl _ _ w.heap.size 26 #[.int .i64 y.k, .int .i64 y.n, .string y.s, .slice c2 y.l.length cp2] (0, 0) _ rfl (setRow_heap _ _ _ _ _ _ (unhide RS6)) Tryd.underlying26 rfl szE) rfl ?_
        rw [← unhide HX]
        exact ⟨y, c2, cp2, rfl, unhide SY, ((unhide Y6).row _ (by omega)).lower (by omega), ((unhide D6).row _).cur, ((unhide D6).row _).gr⟩
  · go_simp
    have hb := below_new w1 (.cells #[.string ⟨#[97]⟩, .string ⟨#[98]⟩, .string ⟨#[99]⟩] 9)
    have N2 := hide (show (w1.alloc (.cells #[.string ⟨#[97]⟩, .string ⟨#[98]⟩, .string ⟨#[99]⟩] 9)).heap[w1.heap.size]? = some (.cells #[.string ⟨#[97]⟩, .string ⟨#[98]⟩, .string ⟨#[99]⟩] 9 (0, 0)) from Array.getElem?_push_size)
    have LN := hide (show w.heap.size + 2 ≤ w1.heap.size from unhide LT1)
    have D2 := hide ((unhide D1).later hb)
    have RS2 := hide (row_keep (unhide RS1) hb)
    have HB2 := hide (row_keep (unhide HB1) hb)
    have LT2 := hide (Nat.le_trans (unhide LT1) hb.size)
    refine hK.out _ _ (unhide HB2) (fun hS => ?_)
    clear HS
    have HS := hide hS
    clear hS hK K2
    clear hb D1 RS1 HB1 LT1 
    generalize w1.alloc (.cells #[.string ⟨#[97]⟩, .string ⟨#[98]⟩, .string ⟨#[99]⟩] 9) = w2 at *
    generalize w1.heap.size = gn at *
    refine wpAnyH_ready (rs := [2]) (by kernel_rfl) (by simp) ?_
    refine AllReadyH.cons rfl (fun K2 hK => ?_) AllReadyH.nil
    go_simp
    refine (unhide IH w2 (unhide D2).cur).mono ?_
    rintro r w3 ⟨x, c, cp, rfl, hsx, hnx, hcc, hgg⟩
    unfold Ex.cs
    have D3 := hide ((unhide D2).draw hcc hgg)
    have RS3 := hide ((unhide D2).blk hgg (unhide RS2) (Nat.le_refl _))
    have HB3 := hide ((unhide D2).blk hgg (unhide HB2) (Nat.le_succ _))
    have LT3 := hide (Nat.le_trans (unhide LT2) hgg.size)
    have X3 := hide (hnx.lower (unhide LT2))
    have N3 := hide ((unhide D2).blk hgg (unhide N2) (by have := unhide LN; omega))
    refine hK.out _ _ (unhide HB3) (fun hS => ?_)
    clear HS
    have HS := hide hS
    clear hS hK K2
    clear hnx hcc hgg D2 RS2 HB2 LT2 N2
    refine wpAnyH_ready (rs := [5]) (by kernel_rfl) (by simp) ?_
    refine AllReadyH.cons rfl (fun K2 hK => ?_) AllReadyH.nil
    go_simp
    refine (numD 7 w3).mono ?_
    rintro r w4 ⟨rfl, hb⟩
    have D4 := hide ((unhide D3).later hb)
    have RS4 := hide (row_keep (unhide RS3) hb)
    have HB4 := hide (row_keep (unhide HB3) hb)
    have LT4 := hide (Nat.le_trans (unhide LT3) hb.size)
    have N4 := hide (row_keep (unhide N3) hb)
    have X4 := hide ((unhide X3).later hb)
    refine hK.out _ _ (unhide HB4) (fun hS => ?_)
    clear HS
    have HS := hide hS
    clear hS hK K2
    clear hb D3 RS3 HB3 LT3 N3 X3
    refine wpAnyH_ready (rs := [8]) (by kernel_rfl) (by simp) ?_
    refine AllReadyH.cons rfl (fun K2 hK => ?_) AllReadyH.nil
    go_simp
    have hb := below_new w4 (.cells #[.int .i64 1, .int .i64 7, .string ⟨#[]⟩, .slice none 0 0, .int .i64 11, .int .i64 0, .string ⟨#[]⟩, .slice none 0 0, .int .i64 12, .int .i64 0, .string ⟨#[103]⟩, .slice none 0 0] 26)
    have V5 := hide (show (w4.alloc (.cells #[.int .i64 1, .int .i64 7, .string ⟨#[]⟩, .slice none 0 0, .int .i64 11, .int .i64 0, .string ⟨#[]⟩, .slice none 0 0, .int .i64 12, .int .i64 0, .string ⟨#[103]⟩, .slice none 0 0] 26)).heap[w4.heap.size]? = some (.cells #[.int .i64 1, .int .i64 7, .string ⟨#[]⟩, .slice none 0 0, .int .i64 11, .int .i64 0, .string ⟨#[]⟩, .slice none 0 0, .int .i64 12, .int .i64 0, .string ⟨#[103]⟩, .slice none 0 0] 26 (0, 0)) from Array.getElem?_push_size)
    have LV := hide (show w.heap.size + 2 ≤ w4.heap.size from unhide LT4)
    have D5 := hide ((unhide D4).later hb)
    have RS5 := hide (row_keep (unhide RS4) hb)
    have HB5 := hide (row_keep (unhide HB4) hb)
    have LT5 := hide (Nat.le_trans (unhide LT4) hb.size)
    have N5 := hide (row_keep (unhide N4) hb)
    have X5 := hide ((unhide X4).later hb)
    refine hK.out _ _ (unhide HB5) (fun hS => ?_)
    clear HS
    have HS := hide hS
    clear hS hK K2
    clear hb D4 RS4 HB4 LT4 N4 X4
    generalize w4.alloc (.cells #[.int .i64 1, .int .i64 7, .string ⟨#[]⟩, .slice none 0 0, .int .i64 11, .int .i64 0, .string ⟨#[]⟩, .slice none 0 0, .int .i64 12, .int .i64 0, .string ⟨#[103]⟩, .slice none 0 0] 26) = w5 at *
    generalize w4.heap.size = gv at *
    refine wpAnyH_ready (rs := [9]) (by kernel_rfl) (by simp) ?_
    refine AllReadyH.cons rfl (fun K2 hK => ?_) AllReadyH.nil
    go_simp
    have PU := hide (flPut x (by omega) c cp gn gv w5 _ _ ((unhide X5).rd.lower (Nat.zero_le _) _ _) (unhide N5) (unhide V5))
    unfold GiR Ex.cs at PU
    have SY := hide (show (putX flH flL flV x).sz ≤ 2 * zd + 1 from Nat.le_trans (put_szM flH_sz flV_sz x) (by have := ct_szF x; omega))
    refine (unhide PU).mono ?_
    rintro r w6 ⟨c2, cp2, rfl, hnx, hb⟩
    generalize putX flH flL flV x = y at *
    have D6 := hide ((unhide D5).later hb)
    have RS6 := hide (row_keep (unhide RS5) hb)
    have HB6 := hide (row_keep (unhide HB5) hb)
    have Y6 := hide ((show NewX w6 w5.heap.size y c2 from hnx).lower (unhide LT5))
    refine hK.out _ _ (unhide HB6) (fun hS => ?_)
    clear HS
    have HS := hide hS
    clear hS hK K2
    clear hb hnx PU D5 RS5 HB5 LT5 N5 X5 V5
    refine wpAnyH_ready (rs := [10]) (by kernel_rfl) (by simp) ?_
    refine AllReadyH.cons rfl (fun K2 hK => ?_) AllReadyH.nil
    rw [if_pos (by rfl)]
    refine wp_store_row 26 _ _ rfl w.heap.size #[.int .i64 y.k, .int .i64 y.n, .string y.s, .slice c2 y.l.length cp2] rfl rfl 26 _ (unhide RS6) szE rfl (ex_one _ _ _ _ _ _) ?_
    refine hK.out _ _ ((setRow_other _ _ _ _ (by omega)).trans (unhide HB6)) (fun hS => ?_)
    clear HS
    have HS := hide hS
    clear hS hK K2
    refine wpAnyH_done (by kernel_rfl) ?_ _
    clear HS
    go_wp2
    refine bodyPost_ret (results_cell_row (P := Tryd.prog) rfl _ _ w.heap.size 26 #[.int .i64 y.k, .int .i64 y.n, .string y.s, .slice c2 y.l.length cp2] (0, 0) _ rfl (setRow_heap _ _ _ _ _ _ (unhide RS6)) Tryd.underlying26 rfl szE) rfl ?_
    rw [← unhide HX]
    exact ⟨y, c2, cp2, rfl, unhide SY, ((unhide Y6).row _ (by omega)).lower (by omega), ((unhide D6).row _).cur, ((unhide D6).row _).gr⟩
end Go.Proofs.YtkolflcjkofleaaDoor

namespace Go.Proofs.YtkolflcjkofleaaDoor
open Go.ChangeShapes Go.WideShapes Go.ChangeAt Go.RowKit
set_option linter.unusedVariables false
set_option maxRecDepth 8000

set_option maxHeartbeats 1000000 in
theorem toXS_of (e : Ex) (ih : ∀ i, i < e.l.length → ToP (xAt e.l i)) (b : Option Addr) (cap : Nat) (w : World) (hr : RdX w 0 e b) (hz : e.sz ≤ 1048576) : Calls Tryd.prog 34 #[.slice b e.l.length cap] w fun r w' => r = .returned (.slice (some ⟨w.heap.size, 0, none⟩) e.l.length e.l.length) ∧ NewX w' w.heap.size e (some ⟨w.heap.size, 0, none⟩) ∧ Below w.heap.size w w' := by
  have hsz := sz_is e
  have RD := hide (fun (w' : World) (M : Nat) (h : DoneX w' w.heap.size e.l e.l.length e.l.length e.l.length M) => DoneX.new h)
  rw [RdX_eq] at hr
  have hp : ∀ i, i < e.l.length → (xAt e.l i).sz ≤ 1048576 := fun i hi => by have := sz_part hi; omega
  have hm : e.l.length ≤ 1048576 := by omega
  clear hsz hz
  generalize hR : (fun w' => NewX w' w.heap.size e (some ⟨w.heap.size, 0, none⟩)) = R
  have hR' : ∀ w', NewX w' w.heap.size e (some ⟨w.heap.size, 0, none⟩) = R w' := fun w' => congrFun hR w'
  simp only [hR'] at RD ⊢
  clear hR hR'
  generalize e.l = l at *
  obtain ⟨len, hl⟩ : ∃ len, l.length = len := ⟨_, rfl⟩
  rw [hl] at hm ih hr hp RD ⊢
  obtain ⟨i0, hi, hz0, hz1, hz2⟩ := info_parts infoX
  obtain ⟨w1, hmk, hown, hgr⟩ := run_make_full (P := Tryd.prog) w w.heap.size 24 26 i0 _ 4 Tryd.underlying24 hi hz0 hz1 .i64 .i64 len (by rw [hz2]; omega) (by unfold maxLen; omega) (Nat.le_refl _)
  have O0 := hide (show DoneX w1 w.heap.size l len len 0 w1.heap.size from ⟨_, [], hown, rfl, List.nodup_nil, (fun b hb => by simp at hb), (fun i hi => by omega)⟩)
  have B0 := hide ((Below.refl w.heap.size w).grown hgr (Nat.le_refl _) (fun k h => by cases h))
  have G0 := hide (World.ownsRow.lt hown w.heap.size rfl).2
  clear hown hgr
  go_enter Tryd.func34, Tryd.ntmps34
  go_wp2
  clear hmk
  go_loopw [4] (fun i wr => ∃ k : Nat, k ≤ len ∧ i = .int .i64 k ∧ DoneX wr w.heap.size l len len k wr.heap.size ∧ w.heap.size < wr.heap.size ∧ Below w.heap.size w wr) (fun i _ => len - (intOf i).toNat)
  case atStart => exact ⟨0, Nat.zero_le _, rfl, unhide O0, unhide G0, unhide B0⟩
  case round =>
    clear O0 B0 G0
    obtain ⟨k, hk, rfl, ho, hgl, hb⟩ := hrel
    by_cases hlt : k < len
    · rcases hr with h0 | ⟨b, off, rfl, _, hbl, hc⟩
      · rw [h0] at hl; simp at hl; omega
      obtain ⟨c0, c1, c2, c, cap', c3, c4⟩ := hc k (by omega)
      have d0 : wr.cell? ⟨b, off + k * 4, none⟩ = _ := (hb.cell (p := ⟨b, _, none⟩) hbl).trans c0
      have d1 : wr.cell? ⟨b, off + k * 4 + 1, none⟩ = _ := (hb.cell (p := ⟨b, _, none⟩) hbl).trans c1
      have d2 : wr.cell? ⟨b, off + k * 4 + 2, none⟩ = _ := (hb.cell (p := ⟨b, _, none⟩) hbl).trans c2
      have d3 : wr.cell? ⟨b, off + k * 4 + 3, none⟩ = _ := (hb.cell (p := ⟨b, _, none⟩) hbl).trans c3
      have HT := hide (ih k hlt c cap' wr (c4.later hb) (hp k hlt))
      have PT := hide (fun (w2 : World) (hz2 : wr.heap.size ≤ w2.heap.size) (h : DoneX w2 w.heap.size l len len k wr.heap.size) (q : Option Addr) (cp : Nat) (hq : NewX w2 wr.heap.size (xAt l k) q) => h.put hlt hgl hz2 q cp hq (Nat.le_refl _))
      have O1 := hide ho
      have B1 := hide hb
      have ZB := hide hb.size
      have GL := hide hgl
      clear c0 c1 c2 c3 c4 hc ho hb hgl
      unfold Ex.cs at HT
      generalize (xAt l k).s = ss at d2 HT PT
      generalize (xAt l k).k = kk at d0 HT PT
      generalize (xAt l k).n = nn at d1 HT PT
      generalize (xAt l k).l.length = ll at d3 HT PT
      go_wp2_with fail
      refine (unhide HT).mono ?_
      rintro e w2 ⟨q, cq, rfl, hq, hb2⟩
      have O2 := hide ((unhide O1).later hb2)
      have B2 := hide ((unhide B1).trans (hb2.mono (unhide ZB)))
      have G2 := hide (Nat.lt_of_lt_of_le (unhide GL) hb2.size)
      have PP := hide (unhide PT w2 hb2.size (unhide O2) q cq hq)
      obtain ⟨cs, _, own2, _⟩ := unhide O2
      have hcl : cs.length = len * 4 := own2.1
      obtain ⟨v0, e0⟩ : ∃ v, cs[k * 4]? = some v := ⟨_, List.getElem?_eq_getElem (by omega)⟩
      obtain ⟨v1, e1⟩ : ∃ v, cs[k * 4 + 1]? = some v := ⟨_, List.getElem?_eq_getElem (by omega)⟩
      obtain ⟨v2, e2⟩ : ∃ v, cs[k * 4 + 2]? = some v := ⟨_, List.getElem?_eq_getElem (by omega)⟩
      obtain ⟨v3, e3⟩ : ∃ v, cs[k * 4 + 3]? = some v := ⟨_, List.getElem?_eq_getElem (by omega)⟩
      have c0 := (World.ownsRow.cellAt own2 (k * 4) (by omega)).trans e0
      have c1 := (World.ownsRow.cellAt own2 (k * 4 + 1) (by omega)).trans e1
      have c2 := (World.ownsRow.cellAt own2 (k * 4 + 2) (by omega)).trans e2
      have c3 := (World.ownsRow.cellAt own2 (k * 4 + 3) (by omega)).trans e3
      have f0 := World.ownsRow.frozenAt own2 (k * 4)
      have f1 := World.ownsRow.frozenAt own2 (k * 4 + 1)
      have f2 := World.ownsRow.frozenAt own2 (k * 4 + 2)
      have f3 := World.ownsRow.frozenAt own2 (k * 4 + 3)
      clear own2 hb2 O1 B1 HT PT O2 d0 d1 d2 d3 e0 e1 e2 e3 hq hcl
      go_wp2
      go_roundw
      case rel => exact ⟨k + 1, by omega, by go_num, by simpa using unhide PP, by simpa using unhide G2, ((((unhide B2).setCell (p := ⟨w.heap.size, _, none⟩) (Nat.le_refl _) _).setCell (p := ⟨w.heap.size, _, none⟩) (Nat.le_refl _) _).setCell (p := ⟨w.heap.size, _, none⟩) (Nat.le_refl _) _).setCell (p := ⟨w.heap.size, _, none⟩) (Nat.le_refl _) _⟩
      case measure => simp [intOf]; omega
    · obtain rfl : k = len := by omega
      have R1 := hide (unhide RD wr _ ho)
      clear ho
      go_wp2
      go_ret
      exact ⟨rfl, unhide R1, hb⟩
end Go.Proofs.YtkolflcjkofleaaDoor

namespace Go.Proofs.YtkolflcjkofleaaDoor
open Go.ChangeShapes Go.WideShapes Go.ChangeAt Go.RowKit
set_option linter.unusedVariables false
set_option maxRecDepth 8000
theorem three_new (w : World) (o1 o2 o3 : Obj) : Below w.heap.size w (((w.alloc o1).alloc o2).alloc o3) ∧ (((w.alloc o1).alloc o2).alloc o3).heap[w.heap.size + 1]? = some o2 ∧ (((w.alloc o1).alloc o2).alloc o3).heap[w.heap.size + 1 + 1]? = some o3 := by
  have h1 : (w.alloc o1).heap.size = w.heap.size + 1 := by simp
  have h2 : ((w.alloc o1).alloc o2).heap.size = w.heap.size + 1 + 1 := by simp
  have p2 : ((w.alloc o1).alloc o2).heap[w.heap.size + 1]? = some o2 := by rw [← h1]; exact Array.getElem?_push_size
  refine ⟨(((Below.refl _ _).alloc (Nat.le_refl _) _).alloc (by simp) _).alloc (by simp; omega) _, ?_, ?_⟩
  · exact ((Below.refl ((w.alloc o1).alloc o2).heap.size _).alloc (Nat.le_refl _) o3).block _ (by simp) |>.trans p2
  · rw [← h2]; exact Array.getElem?_push_size
theorem row4_set {w : World} {g : Nat} {u0 u1 u2 u3 : Value} {t : TypeId} (h : w.heap[g]? = some (.cells #[u0, u1, u2, u3] t (0, 0))) (v0 v1 v2 v3 : Value) : ((((w.setCell ⟨g, 0, none⟩ v0).setCell ⟨g, 1, none⟩ v1).setCell ⟨g, 2, none⟩ v2).setCell ⟨g, 3, none⟩ v3).heap[g]? = some (.cells #[v0, v1, v2, v3] t (0, 0)) :=
  heap_setCell_same _ g 3 _ t v3 (heap_setCell_same _ g 2 _ t v2 (heap_setCell_same _ g 1 _ t v1 (heap_setCell_same _ g 0 _ t v0 h)))
set_option maxHeartbeats 1000000 in
theorem toX_any (e : Ex) : ToP e := by
  induction e using Ex.ind with
  | h k n s l ih =>
    intro b cap w hr hz
    have e2 : (Ex.mk k n s l).l = l := rfl
    obtain ⟨W, hW⟩ : ∃ W, ((w.alloc (.cells #[.int .i64 k, .int .i64 n, .string s, .slice b l.length cap] 44)).alloc (.cells #[.int .i64 0, .int .i64 0, .string ⟨#[]⟩, .slice none 0 0] 26)).alloc (.cells #[.int .i64 k, .int .i64 n, .string s, .slice none 0 0] 26) = W := ⟨_, rfl⟩
    obtain ⟨hb, hg1, hg2⟩ := three_new w (.cells #[.int .i64 k, .int .i64 n, .string s, .slice b l.length cap] 44) (.cells #[.int .i64 0, .int .i64 0, .string ⟨#[]⟩, .slice none 0 0] 26) (.cells #[.int .i64 k, .int .i64 n, .string s, .slice none 0 0] 26)
    have hsz : w.heap.size + 3 = W.heap.size := by rw [← hW]; simp
    rw [hW] at hb hg1 hg2
    have HC := toXS_of ⟨k, n, s, l⟩ (fun i hi => ih _ (xAt_mem hi)) b cap W (hr.later hb) hz
    rw [e2] at HC
    have HD := HC.mono (R' := fun r w' => ∃ g, r = .returned (.slice (some ⟨g, 0, none⟩) l.length l.length) ∧ NewX w' (w.heap.size + 3) ⟨k, n, s, l⟩ (some ⟨g, 0, none⟩) ∧ Below w.heap.size w w' ∧ w'.heap[w.heap.size + 1]? = some (.cells #[.int .i64 0, .int .i64 0, .string ⟨#[]⟩, .slice none 0 0] 26 (0, 0)) ∧ w'.heap[w.heap.size + 1 + 1]? = some (.cells #[.int .i64 k, .int .i64 n, .string s, .slice none 0 0] 26 (0, 0))) (by
      rintro r w' ⟨rfl, h1, h2⟩
      exact ⟨_, rfl, h1.lower (by omega), hb.trans (h2.mono (by omega)), (h2.block _ (by omega)).trans hg1, (h2.block _ (by omega)).trans hg2⟩)
    have HH := hide HD
    rw [← hW] at HH
    unfold Ex.cs
    simp only
    clear hr hz ih HC HD hb hg1 hg2 hW hsz e2 W
    generalize hll : l.length = ll at *
    go_enter Tryd.func27, Tryd.ntmps27
    go_wp2_with fail
    refine (unhide HH).mono ?_
    rintro r w2 ⟨g, rfl, hrd, hb2, hg1, hg2⟩
    have a0 := Lib.cell_of_heap hg1 0
    have a1 := Lib.cell_of_heap hg1 1
    have a2 := Lib.cell_of_heap hg1 2
    have a3 := Lib.cell_of_heap hg1 3
    have b0 := Lib.cell_of_heap hg2 0
    have b1 := Lib.cell_of_heap hg2 1
    have b2 := Lib.cell_of_heap hg2 2
    have b3 := Lib.cell_of_heap hg2 3
    have f0 := Lib.frozen_of_heap hg1 0
    have f1 := Lib.frozen_of_heap hg1 1
    have f2 := Lib.frozen_of_heap hg1 2
    have f3 := Lib.frozen_of_heap hg1 3
    have f4 := Lib.frozen_of_heap hg2 3
    clear HH
    have hg3 : (w2.setCell ⟨w.heap.size + 1 + 1, 3, none⟩ (.slice (some ⟨g, 0, none⟩) ll ll)).heap[w.heap.size + 1]? = _ := (heap_setCell_other w2 ⟨w.heap.size + 1 + 1, 3, none⟩ (w.heap.size + 1) (.slice (some ⟨g, 0, none⟩) ll ll) (by simp)).trans hg1
    have H1 := hide (fun v0 v1 v2 v3 => row4_set hg3 v0 v1 v2 v3)
    have R := hide (fun u v0 v1 v2 v3 => ((((hrd.far ⟨w.heap.size + 1 + 1, 3, none⟩ u (by simp)).far ⟨w.heap.size + 1, 0, none⟩ v0 (by simp)).far ⟨w.heap.size + 1, 1, none⟩ v1 (by simp)).far ⟨w.heap.size + 1, 2, none⟩ v2 (by simp)).far ⟨w.heap.size + 1, 3, none⟩ v3 (by simp))
    have B := hide (fun u v0 v1 v2 v3 => ((((hb2.setCell (p := ⟨w.heap.size + 1 + 1, 3, none⟩) (by simp; omega) u).setCell (p := ⟨w.heap.size + 1, 0, none⟩) (by simp) v0).setCell (p := ⟨w.heap.size + 1, 1, none⟩) (by simp) v1).setCell (p := ⟨w.heap.size + 1, 2, none⟩) (by simp) v2).setCell (p := ⟨w.heap.size + 1, 3, none⟩) (by simp) v3)
    clear hrd hb2 hg3
    go_wp2
    refine bodyPost_ret (results_cell_row (P := Tryd.prog) rfl _ _ (w.heap.size + 1) 26 #[.int .i64 k, .int .i64 n, .string s, .slice (some ⟨g, 0, none⟩) ll ll] (0, 0) _ rfl (unhide H1 _ _ _ _) Tryd.underlying26 rfl (by kernel_rfl)) rfl ?_
    exact ⟨_, _, rfl, (unhide R _ _ _ _ _).lower (by omega), unhide B _ _ _ _ _⟩
end Go.Proofs.YtkolflcjkofleaaDoor

namespace Go.Proofs.YtkolflcjkofleaaDoor
open Go.ChangeShapes Go.WideShapes Go.ChangeAt Go.RowKit
set_option linter.unusedVariables false
set_option maxRecDepth 8000

def EqP (e : Ex) : Prop := ∀ (a b : Option Addr) (c1 c2 : Nat) (w : World), RdX w 0 e a → RdX w 0 e b → e.sz ≤ 1048576 → Calls Tryd.prog 28 #[.agg (e.cs a c1), .agg (e.cs b c2)] w fun r w' => r = .returned (.bool true) ∧ Below w.heap.size w w'
set_option maxHeartbeats 1000000 in
theorem eqXS_of (e : Ex) (ih : ∀ i, i < e.l.length → EqP (xAt e.l i)) (a b : Option Addr) (c1 c2 : Nat) (w : World) (h1 : RdX w 0 e a) (h2 : RdX w 0 e b) (hz : e.sz ≤ 1048576) :
    Calls Tryd.prog 36 #[.slice a e.l.length c1, .slice b e.l.length c2] w fun r w' => r = .returned (.bool true) ∧ Below w.heap.size w w' := by
  have hsz := sz_is e
  rw [RdX_eq] at h1 h2
  have hp : ∀ i, i < e.l.length → (xAt e.l i).sz ≤ 1048576 := fun i hi => by have := sz_part hi; omega
  have hm : e.l.length ≤ 1048576 := by omega
  clear hsz hz
  generalize e.l = l at *
  obtain ⟨len, hl⟩ : ∃ len, l.length = len := ⟨_, rfl⟩
  rw [hl] at hm ih h1 h2 hp ⊢
  go_enter Tryd.func36, Tryd.ntmps36
  go_wp2
  go_loopw [5] (fun i wr => ∃ (k : Nat) (y : Sub w.heap.size w), k ≤ len ∧ i = .int .i64 k ∧ wr = y.w) (fun i _ => len - (intOf i).toNat)
  case atStart => exact ⟨0, ⟨w, Below.refl _ _⟩, Nat.zero_le _, rfl, rfl⟩
  case round =>
    obtain ⟨k, x, hk, rfl, rfl⟩ := hrel
    by_cases hlt : k < len
    · rcases h1 with h0 | ⟨p, po, rfl, _, hp1, hpc⟩
      · rw [h0] at hl; simp at hl; omega
      rcases h2 with h0 | ⟨q, qo, rfl, _, hq1, hqc⟩
      · rw [h0] at hl; simp at hl; omega
      obtain ⟨e0, e1, e2, pc, pp, e3, e4⟩ := hpc k (by omega)
      obtain ⟨g0, g1, g2, qc, qp, g3, g4⟩ := hqc k (by omega)
      have d0 : ∀ y : Sub w.heap.size w, y.w.cell? ⟨p, po + k * 4, none⟩ = _ := fun y => (y.h.cell (p := ⟨p, _, none⟩) hp1).trans e0
      have d1 : ∀ y : Sub w.heap.size w, y.w.cell? ⟨p, po + k * 4 + 1, none⟩ = _ := fun y => (y.h.cell (p := ⟨p, _, none⟩) hp1).trans e1
      have d2 : ∀ y : Sub w.heap.size w, y.w.cell? ⟨p, po + k * 4 + 2, none⟩ = _ := fun y => (y.h.cell (p := ⟨p, _, none⟩) hp1).trans e2
      have d3 : ∀ y : Sub w.heap.size w, y.w.cell? ⟨p, po + k * 4 + 3, none⟩ = _ := fun y => (y.h.cell (p := ⟨p, _, none⟩) hp1).trans e3
      have f0 : ∀ y : Sub w.heap.size w, y.w.cell? ⟨q, qo + k * 4, none⟩ = _ := fun y => (y.h.cell (p := ⟨q, _, none⟩) hq1).trans g0
      have f1 : ∀ y : Sub w.heap.size w, y.w.cell? ⟨q, qo + k * 4 + 1, none⟩ = _ := fun y => (y.h.cell (p := ⟨q, _, none⟩) hq1).trans g1
      have f2 : ∀ y : Sub w.heap.size w, y.w.cell? ⟨q, qo + k * 4 + 2, none⟩ = _ := fun y => (y.h.cell (p := ⟨q, _, none⟩) hq1).trans g2
      have f3 : ∀ y : Sub w.heap.size w, y.w.cell? ⟨q, qo + k * 4 + 3, none⟩ = _ := fun y => (y.h.cell (p := ⟨q, _, none⟩) hq1).trans g3
      have HE := hide (fun y : Sub w.heap.size w => ih k hlt pc qc pp qp y.w (e4.later y.h) (g4.later y.h) (hp k hlt))
      have ne := Sub.ne w.heap.size w
      have HZ := hide (Nat.le_refl w.heap.size)
      clear e0 e1 e2 e3 e4 g0 g1 g2 g3 g4 hpc hqc ih hp
      unfold Ex.cs at HE
      generalize (xAt l k).s = ss at *
      generalize (xAt l k).k = kk at *
      generalize (xAt l k).n = nn at *
      generalize (xAt l k).l.length = ll at *
      go_wp2_with fail
      refine wp_region_sub x (by kernel_rfl) (by kernel_rfl) ?_
      repeat (go_big_quiet_step (first | (go_at_call 28; exact Sub.call (unhide HZ) (unhide HE _))))
      refine wpQuiet_nil ?_
      intro y
      go_wp2
      go_roundw
      case rel => exact ⟨k + 1, y, by omega, by go_num, rfl⟩
      case measure => simp [intOf]; omega
    · go_wp2
      go_ret
      exact ⟨rfl, x.h⟩
set_option maxHeartbeats 1000000 in
theorem eqX_same (e : Ex) : EqP e := by
  induction e using Ex.ind with
  | h k n s l ih =>
    intro a b c1 c2 w h1 h2 hz
    have e2 : (Ex.mk k n s l).l = l := rfl
    have hbW : Below w.heap.size w ((w.alloc (.cells #[.int .i64 k, .int .i64 n, .string s, .slice a l.length c1] 26)).alloc (.cells #[.int .i64 k, .int .i64 n, .string s, .slice b l.length c2] 26)) := ((Below.refl _ _).alloc (Nat.le_refl _) _).alloc (by simp) _
    have HZ := eqXS_of ⟨k, n, s, l⟩ (fun i hi => ih _ (xAt_mem hi)) a b c1 c2 _ (h1.later hbW) (h2.later hbW) hz
    rw [e2] at HZ
    have HS := hide (HZ.mono (R' := fun r w' => r = .returned (.bool true) ∧ Below w.heap.size w w') (by rintro r w' ⟨rfl, h⟩; exact ⟨rfl, hbW.trans (h.mono hbW.size)⟩))
    unfold Ex.cs
    simp only
    clear h1 h2 hz ih HZ hbW e2
    generalize l.length = ll at *
    go_enter Tryd.func28, Tryd.ntmps28
    go_wp2_with (go_at_call 36; refine (unhide HS).mono ?_; rintro e w1 ⟨rfl, hb1⟩)
    go_ret
    exact ⟨rfl, hb1⟩
end Go.Proofs.YtkolflcjkofleaaDoor

namespace Go.Proofs.YtkolflcjkofleaaDoor
open Go.ChangeShapes Go.WideShapes Go.ChangeAt Go.RowKit
set_option linter.unusedVariables false
set_option maxRecDepth 8000

theorem rdn_of_row {w : World} {a : Option Addr} {len cap : Nat} {zs : List Int} (h : IsRow .i64 w a len cap zs) : ∃ xs : List Int, xs.length = len ∧ len ≤ 9223372036854775807 ∧ RdN w a xs := by
  rcases h with ⟨rfl, rfl, rfl, rfl⟩ | ⟨x, rfl, hl, hm, hz, hc, hw⟩
  · exact ⟨[], rfl, by omega, .inl rfl⟩
  · have hL : (zs.take len).length = len := by simp; omega
    refine ⟨zs.take len, hL, by unfold maxLen at hm; omega, ?_⟩
    by_cases h0 : len = 0
    · subst h0; exact .inl (by simp)
    · right
      obtain ⟨b, off, spot⟩ := x
      have h00 := hc 0 (by omega)
      have hspot : spot = none := by simpa [Addr.add] using World.cell?_spot h00
      subst hspot
      have hadd : ∀ j, (⟨b, off, none⟩ : Addr).add j = ⟨b, off + j, none⟩ := fun j => by
        unfold Addr.add
        by_cases hj : j = 0
        · subst hj; simp
        · simp [hj]
      refine ⟨b, off, rfl, World.block_lt_of_cell? w _ h00, fun i hi => ?_⟩
      rw [hL] at hi
      have h3 := hc i (by omega)
      rw [hadd] at h3
      rw [h3]
      unfold nAt
      rw [List.getD_eq_getElem?_getD, List.getD_eq_getElem?_getD, List.getElem?_take_of_lt hi]
theorem rdu_of_own {w : World} {B g cap : Nat} {L : List ByteArray} (h : OwnS w B (.slice (some ⟨g, 0, none⟩) L.length cap) L) : RdU w (some ⟨g, 0, none⟩) L := by
  by_cases h0 : L = []
  · exact .inl h0
  · refine .inr ⟨g, 0, rfl, (World.ownsRow.lt h g rfl).2, fun i hi => ?_⟩
    have := h.cells i hi
    rw [Nat.zero_add]
    exact this
theorem own_n {w : World} {B g n cap : Nat} {xs : List Int} (h : OwnN w B (.slice (some ⟨g, 0, none⟩) n cap) xs) : g < w.heap.size ∧ ∀ i, i < xs.length → w.cell? ⟨g, i, none⟩ = some (.int .i64 (nAt xs i)) := by
  refine ⟨(h.lt (g := g) rfl).2, fun i hi => ?_⟩
  rcases h.rd1 with rfl | ⟨b, off, e, hb, hc⟩
  · simp at hi
  · cases e
    have := hc i hi
    rw [Nat.zero_add] at this
    exact this
theorem ev_of {w : World} {B1 B2 B3 gb gn gv n1 c1 c2 n3 c3 : Nat} {bs vs : List Int} {L : List ByteArray} (h1 : OwnN w B1 (.slice (some ⟨gb, 0, none⟩) n1 c1) bs) (h2 : OwnS w B2 (.slice (some ⟨gn, 0, none⟩) L.length c2) L) (h3 : OwnN w B3 (.slice (some ⟨gv, 0, none⟩) n3 c3) vs) : Ev w gb gn gv bs L vs :=
  ⟨(own_n h1).2, h2.cells, (own_n h3).2, (own_n h1).1, (World.ownsRow.lt h2 gn rfl).2, (own_n h3).1⟩
theorem OwnS.later {w w' : World} {B g n cap : Nat} {L : List ByteArray} (h : OwnS w B (.slice (some ⟨g, 0, none⟩) n cap) L) (hb : Below w.heap.size w w') : OwnS w' B (.slice (some ⟨g, 0, none⟩) n cap) L := by
  obtain ⟨h1, h2⟩ := h
  refine ⟨h1, ?_⟩
  rcases h2 with h2 | ⟨g', cap', cur, e, q1, q2, q3⟩
  · exact .inl h2
  · cases e
    exact .inr ⟨g, cap, cur, rfl, q1, (hb.block _ (Array.getElem?_eq_some_iff.1 q2).1).trans q2, q3⟩
end Go.Proofs.YtkolflcjkofleaaDoor
