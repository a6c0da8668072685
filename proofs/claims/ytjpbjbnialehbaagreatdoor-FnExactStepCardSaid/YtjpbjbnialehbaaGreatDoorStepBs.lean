/- For every machine the law on Step answers true: the program answers just the machine that the model answers behind one step, it writes into nothing that came in, and what it answers owns its memory. No condition but what the card ties: the table of first words is as the program lays it. -/
import Derived.Test.YtjpbjbnialehbaaGreatDoorRows
import Derived.Test.YtjpbjbnialehbaaGreatDoorBsL
import Derived.Deep.RegionHeld
import Derived.Test.YtjpbjbnialehbaaGreatDoorTie
import Derived.Test.YtjpbjbnialehbaaGreatDoorCards
import Derived.SevenTiedAt
import Derived.Lay
import Derived.MakeChecks
import Derived.OpenVars
import Derived.WalkKit
import Derived.ProofKit
import Derived.OpenShut
import Derived.ShutString
import Derived.ChangeOld
import Derived.Below
namespace Go.Proofs.YtjpbjbnialehbaaGreatDoor.fnExactStep
open Go.ChangeShapes Go.WideShapes Go.ChangeAt Go.RowKit
open Go.ChangeMaps (open_string shut_string)
set_option linter.unusedVariables false
set_option maxRecDepth 8000

set_option maxHeartbeats 8000000 in
theorem walk (x : Mv) (d : Md) (hl : x.lens) (W : World) (hr : RdM W x d) (ht : Tab W) : Calls Tryz.prog 4 #[.agg x.cs] W fun e W' => e = .returned (.bool true) ∧ Below W.heap.size W W' := by
  have L := hide (lw_new hr)
  have HR := hide hr
  have TB := hide ht
  have Z := hide (szM_any x (W.alloc (.cells x.cs 31)) hl)
  have ES0 := hide (fun (h : d.small) => small_stA (x.ms d) x.st h)
  have SS := hide (fun (y : Mv) v (fy : y.fl = x.fl) (hs : y.small) (hz : y.nz) (r : RdM v y d) => (show SsIs y ((x.ms d).stA x.st).d (((x.ms d).stA x.st).fl ((x.ms d).stN x.st)) v from by
    have q := stepS_all y d v hs hz r
    rw [ms_of_fl d fy, fl_st fy] at q
    exact q))
  have II := hide (fun (y : Mv) v (fy : y.fl = x.fl) (hs : y.small) (hz : y.nz) (r : RdM v y d) (tb : Tab v) => (show StIs y d ((x.ms d).stA x.st).d (((x.ms d).stA x.st).fl ((x.ms d).stN x.st)) v from by
    have q := stepI_all y d v hs hz r tb
    rw [ms_of_fl d fy, fl_st fy] at q
    exact q))
  unfold SsIs at SS
  unfold StIs at II
  generalize ((x.ms d).stA x.st).fl ((x.ms d).stN x.st) = F2 at SS II
  generalize ((x.ms d).stA x.st).d = D2 at SS II ES0
  clear hr hl ht
  go_enter Tryz.func4, Tryz.ntmps4
  go_wp2_with (first | (refine wpList_load_row rfl 31 _ rfl W.heap.size rfl 31 x.cs (0, 0) _ (unhide L).bx Tryz.underlying31 rfl (by kernel_rfl) ?_))
  refine (unhide Z).mono ?_
  rintro e w1 ⟨l, rfl, hs, hb⟩
  have T_ := hide ((unhide L).later hb)
  clear L
  have L := hide (unhide T_)
  clear T_
  clear hb Z
  by_cases hlt : l < 0
  · clear hs
    go_wp2
    go_ret
    exact ⟨rfl, (unhide L).bel⟩
  have HS := hide (hs (by omega))
  have DS := hide (small_md (unhide L).rd (unhide HS))
  have ES := hide (unhide ES0 (unhide DS))
  clear hs ES0
  have K := hide (toM_any x d w1 (unhide HS) (unhide L).rd)
  go_wp2_with (first | (refine wpList_load_row rfl 31 _ rfl W.heap.size rfl 31 x.cs (0, 0) _ (unhide L).bx Tryz.underlying31 rfl (by kernel_rfl) ?_))
  refine (unhide K).mono ?_
  rintro e w2 ⟨y, rfl, fy, oy, hb⟩
  have T_ := hide ((unhide L).later hb)
  clear L
  have L := hide (unhide T_)
  clear T_
  clear hb K
  have K := hide (unhide SS y w2 fy (small_mv oy.rd (unhide DS)) oy.nz oy.rd)
  have HW := hide (unhide L).lt
  clear fy oy SS
  go_wp2_with fail
  refine (unhide K).mono ?_
  rintro e w3 ⟨s, rfl, fs, os, hb⟩
  have FS := hide fs
  have HW3 := hide (Nat.lt_of_lt_of_le (unhide HW) hb.size)
  have PS := hide (fun b (e : s.at b) => (show W.heap.size < b ∧ b < w3.heap.size by have h1 := os.lo e; have h2 := unhide HW; omega))
  have T_ := hide ((unhide L).later hb)
  clear L
  have L := hide (unhide T_)
  clear T_
  have OS := hide os
  have RS := hide (heap_alloc_last w3 (.cells s.cs 26))
  have T_ := hide ((unhide L).later (below_new w3 (.cells s.cs 26)))
  clear L
  have L := hide (unhide T_)
  clear T_
  have T_ := hide ((unhide OS).later (below_new w3 (.cells s.cs 26)))
  clear OS
  have OS := hide (unhide T_)
  clear T_
  clear hb os fs K HW
  have K := hide (toM_any x d (w3.alloc (.cells s.cs 26)) (unhide HS) (unhide L).rd)
  go_wp2_with (first | (refine wpList_store_new rfl 26 _ _ rfl s.cs rfl rfl _ (by kernel_rfl) rfl (Mv.cs_one _) ?_) | (refine wpList_load_row rfl 31 _ rfl W.heap.size rfl 31 x.cs (0, 0) _ (unhide L).bx Tryz.underlying31 rfl (by kernel_rfl) ?_))
  refine (unhide K).mono ?_
  rintro e w4 ⟨z, rfl, fz, oz, hb⟩
  have FZ := hide fz
  have HW4 := hide (show w3.heap.size < w4.heap.size by have h1 := hb.size; have h2 := alloc_size w3 (.cells s.cs 26); omega)
  have PZ := hide (fun b (e : z.at b) => (show w3.heap.size < b ∧ b < w4.heap.size by have h1 := oz.lo e; have h2 := alloc_size w3 (.cells s.cs 26); omega))
  have T_ := hide ((unhide L).later hb)
  clear L
  have L := hide (unhide T_)
  clear T_
  have T_ := hide ((unhide OS).later hb)
  clear OS
  have OS := hide (unhide T_)
  clear T_
  have T_ := hide (row_lat (unhide RS) hb)
  clear RS
  have RS := hide (unhide T_)
  clear T_
  have OZ := hide oz
  have RZ := hide (heap_alloc_last w4 (.cells z.cs 26))
  have T_ := hide ((unhide L).later (below_new w4 (.cells z.cs 26)))
  clear L
  have L := hide (unhide T_)
  clear T_
  have T_ := hide ((unhide OS).later (below_new w4 (.cells z.cs 26)))
  clear OS
  have OS := hide (unhide T_)
  clear T_
  have T_ := hide (row_lat (unhide RS) (below_new w4 (.cells z.cs 26)))
  clear RS
  have RS := hide (unhide T_)
  clear T_
  have T_ := hide ((unhide OZ).later (below_new w4 (.cells z.cs 26)))
  clear OZ
  have OZ := hide (unhide T_)
  clear T_
  clear hb oz fz K
  have K := hide (unhide II z (w4.alloc (.cells z.cs 26)) (unhide FZ) (small_mv (unhide OZ).rd (unhide DS)) (unhide OZ).nz (unhide OZ).rd ((unhide TB).later (unhide L).bel))
  go_wp2_with (first | (refine wpList_store_new rfl 26 _ _ rfl z.cs rfl rfl _ (by kernel_rfl) rfl (Mv.cs_one _) ?_) | (refine wpList_load_row rfl 26 _ rfl w4.heap.size rfl 26 z.cs (0, 0) _ (unhide RZ) Tryz.underlying26 rfl (by kernel_rfl) ?_))
  refine (unhide K).mono ?_
  rintro e w5 ⟨g, rfl, fg, og, hb⟩
  have FG := hide fg
  have HW5 := hide (show w4.heap.size < w5.heap.size by have h1 := hb.size; have h2 := alloc_size w4 (.cells z.cs 26); omega)
  have PG := hide (fun b (e : g.at b) => (show w4.heap.size < b ∧ b < w5.heap.size by have h1 := og.lo e; have h2 := alloc_size w4 (.cells z.cs 26); omega))
  have T_ := hide ((unhide L).later hb)
  clear L
  have L := hide (unhide T_)
  clear T_
  have T_ := hide ((unhide OS).later hb)
  clear OS
  have OS := hide (unhide T_)
  clear T_
  have T_ := hide (row_lat (unhide RS) hb)
  clear RS
  have RS := hide (unhide T_)
  clear T_
  have T_ := hide ((unhide OZ).later hb)
  clear OZ
  have OZ := hide (unhide T_)
  clear T_
  have T_ := hide (row_lat (unhide RZ) hb)
  clear RZ
  have RZ := hide (unhide T_)
  clear T_
  have OG := hide og
  have RG := hide (heap_alloc_last w5 (.cells g.cs 26))
  have T_ := hide ((unhide L).later (below_new w5 (.cells g.cs 26)))
  clear L
  have L := hide (unhide T_)
  clear T_
  have T_ := hide ((unhide OS).later (below_new w5 (.cells g.cs 26)))
  clear OS
  have OS := hide (unhide T_)
  clear T_
  have T_ := hide (row_lat (unhide RS) (below_new w5 (.cells g.cs 26)))
  clear RS
  have RS := hide (unhide T_)
  clear T_
  have T_ := hide ((unhide OZ).later (below_new w5 (.cells g.cs 26)))
  clear OZ
  have OZ := hide (unhide T_)
  clear T_
  have T_ := hide (row_lat (unhide RZ) (below_new w5 (.cells g.cs 26)))
  clear RZ
  have RZ := hide (unhide T_)
  clear T_
  have T_ := hide ((unhide OG).later (below_new w5 (.cells g.cs 26)))
  clear OG
  have OG := hide (unhide T_)
  clear T_
  clear hb og fg K
  have K := hide (eqM_any g s D2 (w5.alloc (.cells g.cs 26)) ((unhide FS).trans (unhide FG).symm) (small_mv (unhide OG).rd (unhide ES)) (unhide OG).rd (unhide OS).rd)
  go_wp2_with (first | (refine wpList_store_new rfl 26 _ _ rfl g.cs rfl rfl _ (by kernel_rfl) rfl (Mv.cs_one _) ?_) | (refine wpList_load_row rfl 26 _ rfl w5.heap.size rfl 26 g.cs (0, 0) _ (unhide RG) Tryz.underlying26 rfl (by kernel_rfl) ?_) | (refine wpList_load_row rfl 26 _ rfl w3.heap.size rfl 26 s.cs (0, 0) _ (unhide RS) Tryz.underlying26 rfl (by kernel_rfl) ?_))
  refine (unhide K).mono ?_
  rintro e w6 ⟨rfl, hb⟩
  have T_ := hide ((unhide L).later hb)
  clear L
  have L := hide (unhide T_)
  clear T_
  have T_ := hide ((unhide OS).later hb)
  clear OS
  have OS := hide (unhide T_)
  clear T_
  have T_ := hide (row_lat (unhide RS) hb)
  clear RS
  have RS := hide (unhide T_)
  clear T_
  have T_ := hide ((unhide OZ).later hb)
  clear OZ
  have OZ := hide (unhide T_)
  clear T_
  have T_ := hide (row_lat (unhide RZ) hb)
  clear RZ
  have RZ := hide (unhide T_)
  clear T_
  have T_ := hide ((unhide OG).later hb)
  clear OG
  have OG := hide (unhide T_)
  clear T_
  have T_ := hide (row_lat (unhide RG) hb)
  clear RG
  have RG := hide (unhide T_)
  clear T_
  clear hb K
  have K := hide (toM_any x d w6.drew (unhide HS) ((unhide L).later below_drew).rd)
  go_wp2_with fail
  refine wp_region_held_drew (S := fun w' => w'.heap[w4.heap.size]? = some (.cells z.cs 26 (0, 0)) ∧ w'.heap[W.heap.size]? = some (.cells x.cs 31 (0, 0))) (by kernel_rfl) ⟨unhide RZ, (unhide L).bx⟩ (fun hS => ?_)
  have HSS := hide hS
  clear hS
  refine wpAnyH_take (i := 0) (v := .agg z.cs) rfl (by kernel_rfl) (by kernel_rfl) (by kernel_rfl) (fun _ _ _ h => h) (yields_load rfl 26 _ rfl w4.heap.size rfl 26 z.cs _ (fun w h => h.1) Tryz.underlying26 rfl (by kernel_rfl)) (unhide HSS) ?_
  go_simp
  refine wpAnyH_take (i := 1) (v := .agg x.cs) rfl (by kernel_rfl) (by kernel_rfl) (by kernel_rfl) (fun _ _ _ h => h) (yields_load rfl 31 _ rfl W.heap.size rfl 31 x.cs _ (fun w h => h.2) Tryz.underlying31 rfl (by kernel_rfl)) (unhide HSS) ?_
  go_simp
  refine wpAnyH_ready (rs := [2]) (by kernel_rfl) (by simp) ?_
  refine AllReadyH.cons rfl (fun K2 hK => ?_) AllReadyH.nil
  go_simp
  refine (unhide K).mono ?_
  rintro e w7 ⟨u, rfl, fu, ou, hb⟩
  have T_ := hide ((unhide L).later below_drew)
  clear L
  have L := hide (unhide T_)
  clear T_
  have T_ := hide ((unhide OS).later below_drew)
  clear OS
  have OS := hide (unhide T_)
  clear T_
  have T_ := hide (row_lat (unhide RS) below_drew)
  clear RS
  have RS := hide (unhide T_)
  clear T_
  have T_ := hide ((unhide OZ).later below_drew)
  clear OZ
  have OZ := hide (unhide T_)
  clear T_
  have T_ := hide (row_lat (unhide RZ) below_drew)
  clear RZ
  have RZ := hide (unhide T_)
  clear T_
  have T_ := hide ((unhide OG).later below_drew)
  clear OG
  have OG := hide (unhide T_)
  clear T_
  have T_ := hide (row_lat (unhide RG) below_drew)
  clear RG
  have RG := hide (unhide T_)
  clear T_
  have T_ := hide ((unhide L).later hb)
  clear L
  have L := hide (unhide T_)
  clear T_
  have T_ := hide ((unhide OS).later hb)
  clear OS
  have OS := hide (unhide T_)
  clear T_
  have T_ := hide (row_lat (unhide RS) hb)
  clear RS
  have RS := hide (unhide T_)
  clear T_
  have T_ := hide ((unhide OZ).later hb)
  clear OZ
  have OZ := hide (unhide T_)
  clear T_
  have T_ := hide (row_lat (unhide RZ) hb)
  clear RZ
  have RZ := hide (unhide T_)
  clear T_
  have T_ := hide ((unhide OG).later hb)
  clear OG
  have OG := hide (unhide T_)
  clear T_
  have T_ := hide (row_lat (unhide RG) hb)
  clear RG
  have RG := hide (unhide T_)
  clear T_
  have E6 := hide (eqM_any z u d w7 (fu.trans (unhide FZ).symm) (small_mv (unhide OZ).rd (unhide DS)) (unhide OZ).rd ou.rd)
  refine hK.out _ _ ⟨row_lat (unhide HSS).1 hb, row_lat (unhide HSS).2 hb⟩ (fun hS => ?_)
  have HSN := hide hS
  clear hS hb ou fu hK K2 K HSS
  refine wpAnyH_ready (rs := [3]) (by kernel_rfl) (by simp) ?_
  refine AllReadyH.cons rfl (fun K2 hK => ?_) AllReadyH.nil
  go_simp
  refine (unhide E6).mono ?_
  rintro e w8 ⟨rfl, hb⟩
  have T_ := hide ((unhide L).later hb)
  clear L
  have L := hide (unhide T_)
  clear T_
  have T_ := hide ((unhide OS).later hb)
  clear OS
  have OS := hide (unhide T_)
  clear T_
  have T_ := hide (row_lat (unhide RS) hb)
  clear RS
  have RS := hide (unhide T_)
  clear T_
  have T_ := hide ((unhide OZ).later hb)
  clear OZ
  have OZ := hide (unhide T_)
  clear T_
  have T_ := hide (row_lat (unhide RZ) hb)
  clear RZ
  have RZ := hide (unhide T_)
  clear T_
  have T_ := hide ((unhide OG).later hb)
  clear OG
  have OG := hide (unhide T_)
  clear T_
  have T_ := hide (row_lat (unhide RG) hb)
  clear RG
  have RG := hide (unhide T_)
  clear T_
  refine hK.out _ _ ⟨row_lat (unhide HSN).1 hb, row_lat (unhide HSN).2 hb⟩ (fun hS => ?_)
  have HSS := hide hS
  clear hS hb hK K2 E6 HSN
  refine wpAnyH_take (i := 4) (v := .bool false) rfl (by kernel_rfl) (by kernel_rfl) (by kernel_rfl) (fun _ _ _ h => h) (Or.inl ⟨by rfl, fun w _ => ?_⟩) (unhide HSS) ?_
  · go_simp
  go_simp
  refine wpAnyH_done (by kernel_rfl) ?_ _
  clear HSS
  have K := hide (markM_any z d _ w8 (unhide DS) (unhide OZ))
  go_wp2_with (first | (refine wpList_load_row rfl 26 _ rfl w4.heap.size rfl 26 z.cs (0, 0) _ (unhide RZ) Tryz.underlying26 rfl (by kernel_rfl) ?_))
  refine (unhide K).mono ?_
  rintro e w9 ⟨rfl, om, t⟩
  clear OZ
  have T_ := hide ((unhide L).tch (unhide HR) t (fun b e => by have := unhide PZ b e; have h3 := unhide HW3; have h4 := unhide HW4; have h5 := unhide HW5; omega))
  clear L
  have L := hide (unhide T_)
  clear T_
  have T_ := hide ((unhide OS).tch t (fun b e1 e2 => by have := unhide PS b e1; have := unhide PZ b e2; have h3 := unhide HW3; have h4 := unhide HW4; have h5 := unhide HW5; omega))
  clear OS
  have OS := hide (unhide T_)
  clear T_
  have T_ := hide (row_tch (unhide RS) t (fun e => by have := unhide PZ _ e; have h3 := unhide HW3; have h4 := unhide HW4; have h5 := unhide HW5; omega))
  clear RS
  have RS := hide (unhide T_)
  clear T_
  have T_ := hide (row_tch (unhide RZ) t (fun e => by have := unhide PZ _ e; have h3 := unhide HW3; have h4 := unhide HW4; have h5 := unhide HW5; omega))
  clear RZ
  have RZ := hide (unhide T_)
  clear T_
  have T_ := hide ((unhide OG).tch t (fun b e1 e2 => by have := unhide PG b e1; have := unhide PZ b e2; have h3 := unhide HW3; have h4 := unhide HW4; have h5 := unhide HW5; omega))
  clear OG
  have OG := hide (unhide T_)
  clear T_
  have T_ := hide (row_tch (unhide RG) t (fun e => by have := unhide PZ _ e; have h3 := unhide HW3; have h4 := unhide HW4; have h5 := unhide HW5; omega))
  clear RG
  have RG := hide (unhide T_)
  clear T_
  have OZ := hide om
  clear om t K
  have TP := hide (Md.tot_pos d)
  generalize d.tot = tt at TP ⊢
  have tp := unhide TP
  clear TP
  have K := hide (eqM_any g s D2 w9 ((unhide FS).trans (unhide FG).symm) (small_mv (unhide OG).rd (unhide ES)) (unhide OG).rd (unhide OS).rd)
  have gm := row_m (unhide RG)
  have sm := row_m (unhide RS)
  have gr := row_r (unhide RG)
  have sr := row_r (unhide RS)
  have gn := row_n (unhide RG)
  have sn := row_n (unhide RS)
  have gz := row_z (unhide RG)
  have sz := row_z (unhide RS)
  have gv := row_v (unhide RG)
  have sv := row_v (unhide RS)
  have gc := row_c (unhide RG)
  have sc := row_c (unhide RS)
  have gi := row_i (unhide RG)
  have si := row_i (unhide RS)
  have go := row_o (unhide RG)
  have so := row_o (unhide RS)
  have gst := row_st (unhide RG)
  have sst := row_st (unhide RS)
  go_wp2_with fail
  refine (unhide K).mono ?_
  rintro e w10 ⟨rfl, hb⟩
  have T_ := hide ((unhide L).later hb)
  clear L
  have L := hide (unhide T_)
  clear T_
  have T_ := hide ((unhide OS).later hb)
  clear OS
  have OS := hide (unhide T_)
  clear T_
  have T_ := hide (row_lat (unhide RS) hb)
  clear RS
  have RS := hide (unhide T_)
  clear T_
  have T_ := hide (row_lat (unhide RZ) hb)
  clear RZ
  have RZ := hide (unhide T_)
  clear T_
  have T_ := hide ((unhide OG).later hb)
  clear OG
  have OG := hide (unhide T_)
  clear T_
  have T_ := hide (row_lat (unhide RG) hb)
  clear RG
  have RG := hide (unhide T_)
  clear T_
  have T_ := hide ((unhide OZ).later hb)
  clear OZ
  have OZ := hide (unhide T_)
  clear T_
  clear hb K
  clear gm sm gr sr gn sn gz sz gv sv gc sc gi si go so gst sst
  have K := hide (markE_any g D2 _ w10 (unhide ES) (unhide OG))
  go_wp2_with (first | (refine wpList_load_row rfl 26 _ rfl w5.heap.size rfl 26 g.cs (0, 0) _ (unhide RG) Tryz.underlying26 rfl (by kernel_rfl) ?_))
  refine (unhide K).mono ?_
  rintro e w11 ⟨rfl, om, t⟩
  clear OG
  have T_ := hide ((unhide L).tch (unhide HR) t (fun b e => by have := unhide PG b e; have h3 := unhide HW3; have h4 := unhide HW4; have h5 := unhide HW5; omega))
  clear L
  have L := hide (unhide T_)
  clear T_
  have T_ := hide ((unhide OS).tch t (fun b e1 e2 => by have := unhide PS b e1; have := unhide PG b e2; have h3 := unhide HW3; have h4 := unhide HW4; have h5 := unhide HW5; omega))
  clear OS
  have OS := hide (unhide T_)
  clear T_
  have T_ := hide (row_tch (unhide RS) t (fun e => by have := unhide PG _ e; have h3 := unhide HW3; have h4 := unhide HW4; have h5 := unhide HW5; omega))
  clear RS
  have RS := hide (unhide T_)
  clear T_
  have T_ := hide (row_tch (unhide RZ) t (fun e => by have := unhide PG _ e; have h3 := unhide HW3; have h4 := unhide HW4; have h5 := unhide HW5; omega))
  clear RZ
  have RZ := hide (unhide T_)
  clear T_
  have T_ := hide (row_tch (unhide RG) t (fun e => by have := unhide PG _ e; have h3 := unhide HW3; have h4 := unhide HW4; have h5 := unhide HW5; omega))
  clear RG
  have RG := hide (unhide T_)
  clear T_
  have T_ := hide ((unhide OZ).tch t (fun b e1 e2 => by have := unhide PZ b e1; have := unhide PG b e2; have h3 := unhide HW3; have h4 := unhide HW4; have h5 := unhide HW5; omega))
  clear OZ
  have OZ := hide (unhide T_)
  clear T_
  have OG := hide om
  clear om t K
  have TP := hide (Md.tot_pos D2)
  generalize htt : D2.tot = t2 at TP ⊢
  have TT := hide htt
  have tp2 := unhide TP
  clear TP htt
  have K := hide (heldM_any g D2 w11 (unhide ES) (unhide OG).rd)
  rw [unhide TT] at K
  go_wp2_with (first | (refine wpList_load_row rfl 26 _ rfl w5.heap.size rfl 26 g.cs (0, 0) _ (unhide RG) Tryz.underlying26 rfl (by kernel_rfl) ?_))
  refine (unhide K).mono ?_
  rintro e w12 ⟨rfl, hb⟩
  have T_ := hide ((unhide L).later hb)
  clear L
  have L := hide (unhide T_)
  clear T_
  have T_ := hide ((unhide OS).later hb)
  clear OS
  have OS := hide (unhide T_)
  clear T_
  have T_ := hide (row_lat (unhide RS) hb)
  clear RS
  have RS := hide (unhide T_)
  clear T_
  have T_ := hide (row_lat (unhide RZ) hb)
  clear RZ
  have RZ := hide (unhide T_)
  clear T_
  have T_ := hide (row_lat (unhide RG) hb)
  clear RG
  have RG := hide (unhide T_)
  clear T_
  have T_ := hide ((unhide OZ).later hb)
  clear OZ
  have OZ := hide (unhide T_)
  clear T_
  have T_ := hide ((unhide OG).later hb)
  clear OG
  have OG := hide (unhide T_)
  clear T_
  clear hb K
  have K := hide (toM_any x d w12 (unhide HS) (unhide L).rd)
  go_wp2_with (first | (refine wpList_load_row rfl 31 _ rfl W.heap.size rfl 31 x.cs (0, 0) _ (unhide L).bx Tryz.underlying31 rfl (by kernel_rfl) ?_))
  refine (unhide K).mono ?_
  rintro e w13 ⟨v, rfl, fv, ov, hb⟩
  have T_ := hide ((unhide L).later hb)
  clear L
  have L := hide (unhide T_)
  clear T_
  have T_ := hide ((unhide OS).later hb)
  clear OS
  have OS := hide (unhide T_)
  clear T_
  have T_ := hide (row_lat (unhide RS) hb)
  clear RS
  have RS := hide (unhide T_)
  clear T_
  have T_ := hide (row_lat (unhide RZ) hb)
  clear RZ
  have RZ := hide (unhide T_)
  clear T_
  have T_ := hide (row_lat (unhide RG) hb)
  clear RG
  have RG := hide (unhide T_)
  clear T_
  have T_ := hide ((unhide OZ).later hb)
  clear OZ
  have OZ := hide (unhide T_)
  clear T_
  have T_ := hide ((unhide OG).later hb)
  clear OG
  have OG := hide (unhide T_)
  clear T_
  clear hb K
  have K := hide (unhide II v w13 fv (small_mv ov.rd (unhide DS)) ov.nz ov.rd ((unhide TB).later (unhide L).bel))
  clear fv ov II
  go_wp2_with fail
  refine (unhide K).mono ?_
  rintro e w14 ⟨h, rfl, fh, oh, hb⟩
  have FH := hide fh
  have T_ := hide ((unhide L).later hb)
  clear L
  have L := hide (unhide T_)
  clear T_
  have T_ := hide ((unhide OS).later hb)
  clear OS
  have OS := hide (unhide T_)
  clear T_
  have T_ := hide (row_lat (unhide RS) hb)
  clear RS
  have RS := hide (unhide T_)
  clear T_
  have T_ := hide (row_lat (unhide RZ) hb)
  clear RZ
  have RZ := hide (unhide T_)
  clear T_
  have T_ := hide (row_lat (unhide RG) hb)
  clear RG
  have RG := hide (unhide T_)
  clear T_
  have T_ := hide ((unhide OZ).later hb)
  clear OZ
  have OZ := hide (unhide T_)
  clear T_
  have T_ := hide ((unhide OG).later hb)
  clear OG
  have OG := hide (unhide T_)
  clear T_
  have OH := hide oh
  have RH := hide (heap_alloc_last w14 (.cells h.cs 26))
  have T_ := hide ((unhide L).later (below_new w14 (.cells h.cs 26)))
  clear L
  have L := hide (unhide T_)
  clear T_
  have T_ := hide ((unhide OS).later (below_new w14 (.cells h.cs 26)))
  clear OS
  have OS := hide (unhide T_)
  clear T_
  have T_ := hide (row_lat (unhide RS) (below_new w14 (.cells h.cs 26)))
  clear RS
  have RS := hide (unhide T_)
  clear T_
  have T_ := hide (row_lat (unhide RZ) (below_new w14 (.cells h.cs 26)))
  clear RZ
  have RZ := hide (unhide T_)
  clear T_
  have T_ := hide (row_lat (unhide RG) (below_new w14 (.cells h.cs 26)))
  clear RG
  have RG := hide (unhide T_)
  clear T_
  have T_ := hide ((unhide OZ).later (below_new w14 (.cells h.cs 26)))
  clear OZ
  have OZ := hide (unhide T_)
  clear T_
  have T_ := hide ((unhide OG).later (below_new w14 (.cells h.cs 26)))
  clear OG
  have OG := hide (unhide T_)
  clear T_
  have T_ := hide ((unhide OH).later (below_new w14 (.cells h.cs 26)))
  clear OH
  have OH := hide (unhide T_)
  clear T_
  clear hb oh fh K
  have K := hide (eqM_any h s D2 (w14.alloc (.cells h.cs 26)) ((unhide FS).trans (unhide FH).symm) (small_mv (unhide OH).rd (unhide ES)) (unhide OH).rd (unhide OS).rd)
  go_wp2_with (first | (refine wpList_store_new rfl 26 _ _ rfl h.cs rfl rfl _ (by kernel_rfl) rfl (Mv.cs_one _) ?_) | (refine wpList_load_row rfl 26 _ rfl w14.heap.size rfl 26 h.cs (0, 0) _ (unhide RH) Tryz.underlying26 rfl (by kernel_rfl) ?_) | (refine wpList_load_row rfl 26 _ rfl w3.heap.size rfl 26 s.cs (0, 0) _ (unhide RS) Tryz.underlying26 rfl (by kernel_rfl) ?_))
  refine (unhide K).mono ?_
  rintro e w15 ⟨rfl, hb⟩
  have T_ := hide ((unhide L).later hb)
  clear L
  have L := hide (unhide T_)
  clear T_
  have T_ := hide ((unhide OS).later hb)
  clear OS
  have OS := hide (unhide T_)
  clear T_
  have T_ := hide (row_lat (unhide RS) hb)
  clear RS
  have RS := hide (unhide T_)
  clear T_
  have T_ := hide (row_lat (unhide RZ) hb)
  clear RZ
  have RZ := hide (unhide T_)
  clear T_
  have T_ := hide (row_lat (unhide RG) hb)
  clear RG
  have RG := hide (unhide T_)
  clear T_
  have T_ := hide ((unhide OZ).later hb)
  clear OZ
  have OZ := hide (unhide T_)
  clear T_
  have T_ := hide ((unhide OG).later hb)
  clear OG
  have OG := hide (unhide T_)
  clear T_
  have T_ := hide ((unhide OH).later hb)
  clear OH
  have OH := hide (unhide T_)
  clear T_
  have T_ := hide (row_lat (unhide RH) hb)
  clear RH
  have RH := hide (unhide T_)
  clear T_
  clear hb K
  have K := hide (heldM_any g D2 w15 (unhide ES) (unhide OG).rd)
  rw [unhide TT] at K
  go_wp2_with (first | (refine wpList_load_row rfl 26 _ rfl w5.heap.size rfl 26 g.cs (0, 0) _ (unhide RG) Tryz.underlying26 rfl (by kernel_rfl) ?_))
  refine (unhide K).mono ?_
  rintro e w16 ⟨rfl, hb⟩
  have T_ := hide ((unhide L).later hb)
  clear L
  have L := hide (unhide T_)
  clear T_
  have T_ := hide ((unhide OS).later hb)
  clear OS
  have OS := hide (unhide T_)
  clear T_
  have T_ := hide (row_lat (unhide RS) hb)
  clear RS
  have RS := hide (unhide T_)
  clear T_
  have T_ := hide (row_lat (unhide RZ) hb)
  clear RZ
  have RZ := hide (unhide T_)
  clear T_
  have T_ := hide (row_lat (unhide RG) hb)
  clear RG
  have RG := hide (unhide T_)
  clear T_
  have T_ := hide ((unhide OZ).later hb)
  clear OZ
  have OZ := hide (unhide T_)
  clear T_
  have T_ := hide ((unhide OG).later hb)
  clear OG
  have OG := hide (unhide T_)
  clear T_
  have T_ := hide ((unhide OH).later hb)
  clear OH
  have OH := hide (unhide T_)
  clear T_
  have T_ := hide (row_lat (unhide RH) hb)
  clear RH
  have RH := hide (unhide T_)
  clear T_
  clear hb K
  go_wp2
  go_ret
  exact ⟨rfl, (unhide L).bel⟩

set_option maxRecDepth 100000 in
theorem lifted (os : Os) (started : os.Started) (H : Type) (enc : TypeId × Value → H) :
    ReturnsInHanded {} Tryz.checked os 4 .any (fun w args => (Rows.fnExactStepSpec.pre enc Tryz.prog Tryz.f4 [] false w args ∧ laidMetH Tryz.prog Rows.fnExactStepRow.laid w) ∧ sizedMet enc Tryz.prog Tryz.f4 (OpenSpec.ofChange Rows.fnExactStepSpec) false w args)
      (Rows.fnExactStepSpec.post enc Tryz.prog Tryz.f4 false true false false) := by
  refine returnsInHanded_of_change_and (C := Tryz.checked) (X := fun w _ => laidMetH Tryz.prog Rows.fnExactStepRow.laid w) (fun _ _ _ hh h => h.of_heap hh) own started (by kernel_rfl) Tryz.func4
    (ChangeSpec.witness_shaped (enc := enc) (C := Tryz.checked) (os := os) (X := fun w _ => laidMetH Tryz.prog Rows.fnExactStepRow.laid w) false (World.laidAll Tryz.prog os Rows.fnExactStepRow.laid) #[.agg #[.slice none 0 0, .slice none 0 0, .bool false, .bool false, .bool false, .bool false, .slice none 0 0, .slice none 0 0, .int .i64 0]] 8 (World.laidAll_os _ _ _)
      (World.shaped_of_ZipB (by kernel_rfl) (by kernel_rfl)) (by kernel_rfl) (by kernel_rfl) (by kernel_rfl)
      (by rw [MakeChecks.laidMetH_plain _ _ _ (by kernel_rfl)]; exact laidMet_laidAll _ (by kernel_rfl) (by kernel_rfl))) ?_
  intro W base args ds gs before hval0 hW _ _ hL _
  have hval : ∀ (j : Nat) t v, Tryz.f4.params[j]? = some t → args[j]? = some v → Value.okWide Tryz.prog W .any base t v := hval0
  have hW' := hW
  obtain ⟨p, q, hA0, hV, rfl, hfz, hnd⟩ := hW
  have hA : DataW.TrodAll enc Tryz.prog W 0 (fun _ => true) true Tryz.f4.params.toList args.toList ds p := hA0
  rw [Tryz.params4] at hA hval
  obtain ⟨v0, vs0, d0, ds0, p0, q0, hargs, rfl, rfl, h0, r0⟩ := trodAll_cons hA
  obtain ⟨rfl, rfl, rfl⟩ := trodAll_nil r0
  obtain rfl : args = #[v0] := by cases args; simp_all
  have kV := hV
  obtain ⟨gv, tv, cv, fv, dv, pv, rfl, _⟩ := trodVars_one hV
  have k0 := h0
  have lt0 : ∀ x ∈ p0, x.block < W.heap.size := by obtain ⟨m, hm⟩ := k0; exact DataW.trod_lt m _ _ _ hm
  obtain ⟨x0, e0, rfl, g0, y0⟩ := open_mv (hval 0 31 v0 rfl rfl) h0
  clear hA0 hval0
  refine (walk x0 e0 y0 W g0 (tab_of_laid hL)).mono fun e W' ⟨he, bel⟩ => ?_
  subst he
  exact ⟨_, rfl, _, _, _, [], _, _, hW', trodAll_mk1 (shut_bool Tryz.underlying4 _), (trodAll_cons_mk (Below.trod laidOut (by kernel_rfl) (of_decide_eq_true (by kernel_rfl)) k0 bel lt0) trodAll_mk0), bel.trodVars laidOut (by kernel_rfl) kV, bel.frame _, fun h => by cases h⟩

theorem proved : Rows.FnExactStepSaid :=
  OpenClaim.holds_of_wide 4 Tryz.f4 rfl rfl rfl rfl rfl rfl rfl ⟨rfl, rfl, rfl, rfl, rfl⟩ rfl rfl rfl rfl rfl (by kernel_rfl) Tryz.func4 (by kernel_rfl)
    (of_decide_eq_true (by kernel_rfl)) (by unfold Func.isWrapper; first | (rw [if_pos (by decide +kernel)]; kernel_rfl) | (rw [if_neg (by decide +kernel)]; exact ⟨rfl, rfl⟩))
    (fun os started H enc _ => lifted os started H enc)
end Go.Proofs.YtjpbjbnialehbaaGreatDoor.fnExactStep

namespace Go.Proofs.YtjpbjbnialehbaaGreatDoor
theorem fnExactStep_holds : Rows.FnExactStepCardSaid :=
  Claim7.holds_tied_plain_at .later [] [.data] true (true, "99ab23aef5ec0494d262286fe57031b47249114345069df735d97cb6b7f69c35") false
    fnExactStep.proved (fun _ h => by cases h) (by kernel_rfl) (fun _ h => by cases h) fnExactStep_row_tie rfl ⟨rfl, rfl⟩ (by kernel_rfl) rfl
    (fun f fn hf hfn => by
      obtain rfl : f = 4 := Option.some.inj ((show Tryz.prog.funcNamed "loop.example/g00329/laws.FnExactStep" = some 4 by kernel_rfl).symm.trans hf) |>.symm
      obtain rfl : fn = Tryz.f4 := (Option.some.inj (Tryz.func4.symm.trans hfn)).symm
      exact ⟨by kernel_rfl, fun j t ht => by
        rw [Tryz.params4] at ht
        have hm : t ∈ [31] := by simpa using Array.mem_of_getElem? ht
        have hall : ([31].all fun u => !Tryz.prog.wantsStandIn u) = true := by kernel_rfl
        exact (show Tryz.prog.wantsStandIn t = false by simpa using List.all_eq_true.1 hall t hm)⟩)
    (by kernel_rfl)
#print axioms fnExactStep_holds
end Go.Proofs.YtjpbjbnialehbaaGreatDoor
