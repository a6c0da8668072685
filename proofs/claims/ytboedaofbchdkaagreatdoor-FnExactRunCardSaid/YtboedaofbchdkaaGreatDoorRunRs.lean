/- For every machine and every number the law on Run answers true: the program answers just the machine that the model answers behind so many steps, it writes into nothing that came in, and what it answers owns its memory. No condition but what the card ties: the table of first words is as the program lays it. -/
import Derived.Test.YtboedaofbchdkaaGreatDoorRows
import Derived.Test.YtboedaofbchdkaaGreatDoorRsW
import Derived.Test.YtboedaofbchdkaaGreatDoorRsX
import Derived.Test.YtboedaofbchdkaaGreatDoorRsY
import Derived.Deep.RegionHeld
import Derived.Test.YtboedaofbchdkaaGreatDoorTie
import Derived.Test.YtboedaofbchdkaaGreatDoorCards
import Derived.SevenTiedAt
import Derived.Lay
import Derived.MakeChecks
import Derived.OpenVars
import Derived.WalkKit
import Derived.ProofKit
import Derived.OpenShut
import Derived.ShutString
import Derived.ChangeOld
import Derived.Below
namespace Go.Proofs.YtboedaofbchdkaaGreatDoor.fnExactRun
open Go.ChangeShapes Go.WideShapes Go.ChangeAt Go.RowKit
open Go.ChangeMaps (open_string shut_string)
set_option linter.unusedVariables false
set_option maxRecDepth 8000

set_option maxHeartbeats 8000000 in
theorem walk (x : Mv) (d : Md) (hl : x.lens) (n : Int) (hn : (Lit.int .i64 n).wf = true) (W : World) (hr : RdM W x d) (ht : Tab W) : Calls Tryz.prog 3 #[.agg x.cs, .int .i64 n] W fun e W' => e = .returned (.bool true) ∧ Below W.heap.size W W' := by
  have L := hide (lw_new hr)
  have HR := hide hr
  have TB := hide ht
  have Z := hide (szM_any x (W.alloc (.cells x.cs 24)) hl)
  have ES0 := hide (fun (h : d.small) => small_rn (x.ms d) x.st n h)
  have SS := hide (fun (y : Mv) v (fy : y.fl = x.fl) (hs : y.small) (hz : y.nz) (r : RdM v y d) => (show RsIs y n ((x.ms d).rn x.st n).1.d (((x.ms d).rn x.st n).1.fl ((x.ms d).rn x.st n).2) v from by
    have q := runS_any y d n v hs hz r
    rw [ms_of_fl d fy, fl_st fy] at q
    exact q))
  have II := hide (fun (y : Mv) v (fy : y.fl = x.fl) (hs : y.small) (hz : y.nz) (r : RdM v y d) (tb : Tab v) => (show RnIs y n ((x.ms d).rn x.st n).1.d (((x.ms d).rn x.st n).1.fl ((x.ms d).rn x.st n).2) v from by
    have q := runI_any y d n v hs hz r tb
    rw [ms_of_fl d fy, fl_st fy] at q
    exact q))
  unfold RsIs at SS
  unfold RnIs at II
  generalize ((x.ms d).rn x.st n).1.fl ((x.ms d).rn x.st n).2 = F2 at SS II
  generalize ((x.ms d).rn x.st n).1.d = D2 at SS II ES0
  clear hr hl ht hn
  go_enter Tryz.func3, Tryz.ntmps3
  go_wp2_with (first | (refine wpList_load_row rfl 24 _ rfl W.heap.size rfl 24 x.cs (0, 0) _ (uh L).bx Tryz.underlying24 rfl (by kernel_rfl) ?_))
  refine (uh Z).mono ?_
  rintro e w1 ⟨l, rfl, hs, hb⟩
  have T_ := hide ((uh L).later hb)
  clear L
  have L := hide (uh T_)
  clear T_
  clear hb Z
  by_cases hlt : l < 0
  · clear hs
    go_wp2
    go_ret
    exact ⟨rfl, (uh L).bel⟩
  have HS := hide (hs (by omega))
  have DS := hide (small_md (uh L).rd (uh HS))
  have ES := hide (uh ES0 (uh DS))
  clear hs ES0
  have K := hide (toM_any x d w1 (uh HS) (uh L).rd)
  go_wp2_with (first | (refine wpList_load_row rfl 24 _ rfl W.heap.size rfl 24 x.cs (0, 0) _ (uh L).bx Tryz.underlying24 rfl (by kernel_rfl) ?_))
  refine (uh K).mono ?_
  rintro e w2 ⟨y, rfl, fy, oy, hb⟩
  have T_ := hide ((uh L).later hb)
  clear L
  have L := hide (uh T_)
  clear T_
  clear hb K
  have K := hide (uh SS y w2 fy (small_mv oy.rd (uh DS)) oy.nz oy.rd)
  have HW := hide (uh L).lt
  clear fy oy SS
  go_wp2_with fail
  refine (uh K).mono ?_
  rintro e w3 ⟨s, rfl, fs, os, hb⟩
  have FS := hide fs
  have HW3 := hide (Nat.lt_of_lt_of_le (uh HW) hb.size)
  have PS := hide (fun b (e : s.at b) => (show W.heap.size < b ∧ b < w3.heap.size by have h1 := os.lo e; have h2 := uh HW; omega))
  have T_ := hide ((uh L).later hb)
  clear L
  have L := hide (uh T_)
  clear T_
  have OS := hide os
  have RS := hide (heap_alloc_last w3 (.cells s.cs 26))
  have T_ := hide ((uh L).later (below_new w3 (.cells s.cs 26)))
  clear L
  have L := hide (uh T_)
  clear T_
  have T_ := hide ((uh OS).later (below_new w3 (.cells s.cs 26)))
  clear OS
  have OS := hide (uh T_)
  clear T_
  clear hb os fs K HW
  have K := hide (toM_any x d (w3.alloc (.cells s.cs 26)) (uh HS) (uh L).rd)
  go_wp2_with (first | (refine wpList_store_new rfl 26 _ _ rfl s.cs rfl rfl _ (by kernel_rfl) rfl (Mv.cs_one _) ?_) | (refine wpList_load_row rfl 24 _ rfl W.heap.size rfl 24 x.cs (0, 0) _ (uh L).bx Tryz.underlying24 rfl (by kernel_rfl) ?_))
  refine (uh K).mono ?_
  rintro e w4 ⟨z, rfl, fz, oz, hb⟩
  have FZ := hide fz
  have HW4 := hide (show w3.heap.size < w4.heap.size by have h1 := hb.size; have h2 := alloc_size w3 (.cells s.cs 26); omega)
  have PZ := hide (fun b (e : z.at b) => (show w3.heap.size < b ∧ b < w4.heap.size by have h1 := oz.lo e; have h2 := alloc_size w3 (.cells s.cs 26); omega))
  have T_ := hide ((uh L).later hb)
  clear L
  have L := hide (uh T_)
  clear T_
  have T_ := hide ((uh OS).later hb)
  clear OS
  have OS := hide (uh T_)
  clear T_
  have T_ := hide (row_lat (uh RS) hb)
  clear RS
  have RS := hide (uh T_)
  clear T_
  have OZ := hide oz
  have RZ := hide (heap_alloc_last w4 (.cells z.cs 26))
  have T_ := hide ((uh L).later (below_new w4 (.cells z.cs 26)))
  clear L
  have L := hide (uh T_)
  clear T_
  have T_ := hide ((uh OS).later (below_new w4 (.cells z.cs 26)))
  clear OS
  have OS := hide (uh T_)
  clear T_
  have T_ := hide (row_lat (uh RS) (below_new w4 (.cells z.cs 26)))
  clear RS
  have RS := hide (uh T_)
  clear T_
  have T_ := hide ((uh OZ).later (below_new w4 (.cells z.cs 26)))
  clear OZ
  have OZ := hide (uh T_)
  clear T_
  clear hb oz fz K
  have K := hide (uh II z (w4.alloc (.cells z.cs 26)) (uh FZ) (small_mv (uh OZ).rd (uh DS)) (uh OZ).nz (uh OZ).rd ((uh TB).later (uh L).bel))
  go_wp2_with (first | (refine wpList_store_new rfl 26 _ _ rfl z.cs rfl rfl _ (by kernel_rfl) rfl (Mv.cs_one _) ?_) | (refine wpList_load_row rfl 26 _ rfl w4.heap.size rfl 26 z.cs (0, 0) _ (uh RZ) Tryz.underlying26 rfl (by kernel_rfl) ?_))
  refine (uh K).mono ?_
  rintro e w5 ⟨g, rfl, fg, og, hb⟩
  have FG := hide fg
  have HW5 := hide (show w4.heap.size < w5.heap.size by have h1 := hb.size; have h2 := alloc_size w4 (.cells z.cs 26); omega)
  have PG := hide (fun b (e : g.at b) => (show w4.heap.size < b ∧ b < w5.heap.size by have h1 := og.lo e; have h2 := alloc_size w4 (.cells z.cs 26); omega))
  have T_ := hide ((uh L).later hb)
  clear L
  have L := hide (uh T_)
  clear T_
  have T_ := hide ((uh OS).later hb)
  clear OS
  have OS := hide (uh T_)
  clear T_
  have T_ := hide (row_lat (uh RS) hb)
  clear RS
  have RS := hide (uh T_)
  clear T_
  have T_ := hide ((uh OZ).later hb)
  clear OZ
  have OZ := hide (uh T_)
  clear T_
  have T_ := hide (row_lat (uh RZ) hb)
  clear RZ
  have RZ := hide (uh T_)
  clear T_
  have OG := hide og
  have RG := hide (heap_alloc_last w5 (.cells g.cs 26))
  have T_ := hide ((uh L).later (below_new w5 (.cells g.cs 26)))
  clear L
  have L := hide (uh T_)
  clear T_
  have T_ := hide ((uh OS).later (below_new w5 (.cells g.cs 26)))
  clear OS
  have OS := hide (uh T_)
  clear T_
  have T_ := hide (row_lat (uh RS) (below_new w5 (.cells g.cs 26)))
  clear RS
  have RS := hide (uh T_)
  clear T_
  have T_ := hide ((uh OZ).later (below_new w5 (.cells g.cs 26)))
  clear OZ
  have OZ := hide (uh T_)
  clear T_
  have T_ := hide (row_lat (uh RZ) (below_new w5 (.cells g.cs 26)))
  clear RZ
  have RZ := hide (uh T_)
  clear T_
  have T_ := hide ((uh OG).later (below_new w5 (.cells g.cs 26)))
  clear OG
  have OG := hide (uh T_)
  clear T_
  clear hb og fg K
  have K := hide (eqM_any g s D2 (w5.alloc (.cells g.cs 26)) ((uh FS).trans (uh FG).symm) (small_mv (uh OG).rd (uh ES)) (uh OG).rd (uh OS).rd)
  go_wp2_with (first | (refine wpList_store_new rfl 26 _ _ rfl g.cs rfl rfl _ (by kernel_rfl) rfl (Mv.cs_one _) ?_) | (refine wpList_load_row rfl 26 _ rfl w5.heap.size rfl 26 g.cs (0, 0) _ (uh RG) Tryz.underlying26 rfl (by kernel_rfl) ?_) | (refine wpList_load_row rfl 26 _ rfl w3.heap.size rfl 26 s.cs (0, 0) _ (uh RS) Tryz.underlying26 rfl (by kernel_rfl) ?_))
  refine (uh K).mono ?_
  rintro e w6 ⟨rfl, hb⟩
  have T_ := hide ((uh L).later hb)
  clear L
  have L := hide (uh T_)
  clear T_
  have T_ := hide ((uh OS).later hb)
  clear OS
  have OS := hide (uh T_)
  clear T_
  have T_ := hide (row_lat (uh RS) hb)
  clear RS
  have RS := hide (uh T_)
  clear T_
  have T_ := hide ((uh OZ).later hb)
  clear OZ
  have OZ := hide (uh T_)
  clear T_
  have T_ := hide (row_lat (uh RZ) hb)
  clear RZ
  have RZ := hide (uh T_)
  clear T_
  have T_ := hide ((uh OG).later hb)
  clear OG
  have OG := hide (uh T_)
  clear T_
  have T_ := hide (row_lat (uh RG) hb)
  clear RG
  have RG := hide (uh T_)
  clear T_
  clear hb K
  have K := hide (toM_any x d w6.drew (uh HS) ((uh L).later below_drew).rd)
  go_wp2_with fail
  refine wp_region_held_drew (S := fun w' => w'.heap[w4.heap.size]? = some (.cells z.cs 26 (0, 0)) ∧ w'.heap[W.heap.size]? = some (.cells x.cs 24 (0, 0))) (by kernel_rfl) ⟨uh RZ, (uh L).bx⟩ (fun hS => ?_)
  have HSS := hide hS
  clear hS
  refine tkA 0 (.agg z.cs) rfl (yields_load rfl 26 _ rfl w4.heap.size rfl 26 z.cs _ (fun w h => h.1) Tryz.underlying26 rfl (by kernel_rfl)) (uh HSS) ?_
  go_simp
  refine tkA 1 (.agg x.cs) rfl (yields_load rfl 24 _ rfl W.heap.size rfl 24 x.cs _ (fun w h => h.2) Tryz.underlying24 rfl (by kernel_rfl)) (uh HSS) ?_
  go_simp
  refine wpAnyH_ready (rs := [2]) (by kernel_rfl) (by simp) ?_
  refine AllReadyH.cons rfl (fun K2 hK => ?_) AllReadyH.nil
  go_simp
  refine (uh K).mono ?_
  rintro e w7 ⟨u, rfl, fu, ou, hb⟩
  have T_ := hide ((uh L).later below_drew)
  clear L
  have L := hide (uh T_)
  clear T_
  have T_ := hide ((uh OS).later below_drew)
  clear OS
  have OS := hide (uh T_)
  clear T_
  have T_ := hide (row_lat (uh RS) below_drew)
  clear RS
  have RS := hide (uh T_)
  clear T_
  have T_ := hide ((uh OZ).later below_drew)
  clear OZ
  have OZ := hide (uh T_)
  clear T_
  have T_ := hide (row_lat (uh RZ) below_drew)
  clear RZ
  have RZ := hide (uh T_)
  clear T_
  have T_ := hide ((uh OG).later below_drew)
  clear OG
  have OG := hide (uh T_)
  clear T_
  have T_ := hide (row_lat (uh RG) below_drew)
  clear RG
  have RG := hide (uh T_)
  clear T_
  have T_ := hide ((uh L).later hb)
  clear L
  have L := hide (uh T_)
  clear T_
  have T_ := hide ((uh OS).later hb)
  clear OS
  have OS := hide (uh T_)
  clear T_
  have T_ := hide (row_lat (uh RS) hb)
  clear RS
  have RS := hide (uh T_)
  clear T_
  have T_ := hide ((uh OZ).later hb)
  clear OZ
  have OZ := hide (uh T_)
  clear T_
  have T_ := hide (row_lat (uh RZ) hb)
  clear RZ
  have RZ := hide (uh T_)
  clear T_
  have T_ := hide ((uh OG).later hb)
  clear OG
  have OG := hide (uh T_)
  clear T_
  have T_ := hide (row_lat (uh RG) hb)
  clear RG
  have RG := hide (uh T_)
  clear T_
  have E6 := hide (eqM_any z u d w7 (fu.trans (uh FZ).symm) (small_mv (uh OZ).rd (uh DS)) (uh OZ).rd ou.rd)
  refine hK.out _ _ ⟨row_lat (uh HSS).1 hb, row_lat (uh HSS).2 hb⟩ (fun hS => ?_)
  have HSN := hide hS
  clear hS hb ou fu hK K2 K HSS
  refine wpAnyH_ready (rs := [3]) (by kernel_rfl) (by simp) ?_
  refine AllReadyH.cons rfl (fun K2 hK => ?_) AllReadyH.nil
  go_simp
  refine (uh E6).mono ?_
  rintro e w8 ⟨rfl, hb⟩
  have T_ := hide ((uh L).later hb)
  clear L
  have L := hide (uh T_)
  clear T_
  have T_ := hide ((uh OS).later hb)
  clear OS
  have OS := hide (uh T_)
  clear T_
  have T_ := hide (row_lat (uh RS) hb)
  clear RS
  have RS := hide (uh T_)
  clear T_
  have T_ := hide ((uh OZ).later hb)
  clear OZ
  have OZ := hide (uh T_)
  clear T_
  have T_ := hide (row_lat (uh RZ) hb)
  clear RZ
  have RZ := hide (uh T_)
  clear T_
  have T_ := hide ((uh OG).later hb)
  clear OG
  have OG := hide (uh T_)
  clear T_
  have T_ := hide (row_lat (uh RG) hb)
  clear RG
  have RG := hide (uh T_)
  clear T_
  refine hK.out _ _ ⟨row_lat (uh HSN).1 hb, row_lat (uh HSN).2 hb⟩ (fun hS => ?_)
  have HSS := hide hS
  clear hS hb hK K2 E6 HSN
  refine tkA 4 (.bool false) rfl (.inl ⟨by rfl, fun w _ => ?_⟩) (uh HSS) ?_
  · go_simp
  go_simp
  refine wpAnyH_done (by kernel_rfl) ?_ _
  clear HSS
  have K := hide (markM_any z d _ w8 (uh DS) (uh OZ))
  go_wp2_with (first | (refine wpList_load_row rfl 26 _ rfl w4.heap.size rfl 26 z.cs (0, 0) _ (uh RZ) Tryz.underlying26 rfl (by kernel_rfl) ?_))
  refine (uh K).mono ?_
  rintro e w9 ⟨rfl, om, t⟩
  clear OZ
  have T_ := hide ((uh L).tch (uh HR) t (fun b e => by have := uh PZ b e; have h3 := uh HW3; have h4 := uh HW4; have h5 := uh HW5; omega))
  clear L
  have L := hide (uh T_)
  clear T_
  have T_ := hide ((uh OS).tch t (fun b e1 e2 => by have := uh PS b e1; have := uh PZ b e2; have h3 := uh HW3; have h4 := uh HW4; have h5 := uh HW5; omega))
  clear OS
  have OS := hide (uh T_)
  clear T_
  have T_ := hide (row_tch (uh RS) t (fun e => by have := uh PZ _ e; have h3 := uh HW3; have h4 := uh HW4; have h5 := uh HW5; omega))
  clear RS
  have RS := hide (uh T_)
  clear T_
  have T_ := hide (row_tch (uh RZ) t (fun e => by have := uh PZ _ e; have h3 := uh HW3; have h4 := uh HW4; have h5 := uh HW5; omega))
  clear RZ
  have RZ := hide (uh T_)
  clear T_
  have T_ := hide ((uh OG).tch t (fun b e1 e2 => by have := uh PG b e1; have := uh PZ b e2; have h3 := uh HW3; have h4 := uh HW4; have h5 := uh HW5; omega))
  clear OG
  have OG := hide (uh T_)
  clear T_
  have T_ := hide (row_tch (uh RG) t (fun e => by have := uh PZ _ e; have h3 := uh HW3; have h4 := uh HW4; have h5 := uh HW5; omega))
  clear RG
  have RG := hide (uh T_)
  clear T_
  have OZ := hide om
  clear om t K
  have TP := hide (Md.tot_pos d)
  generalize d.tot = tt at TP ⊢
  have tp := uh TP
  clear TP
  have K := hide (eqM_any g s D2 w9 ((uh FS).trans (uh FG).symm) (small_mv (uh OG).rd (uh ES)) (uh OG).rd (uh OS).rd)
  have gm := row_m (uh RG)
  have sm := row_m (uh RS)
  have gr := row_r (uh RG)
  have sr := row_r (uh RS)
  have gn := row_n (uh RG)
  have sn := row_n (uh RS)
  have gz := row_z (uh RG)
  have sz := row_z (uh RS)
  have gv := row_v (uh RG)
  have sv := row_v (uh RS)
  have gc := row_c (uh RG)
  have sc := row_c (uh RS)
  have gi := row_i (uh RG)
  have si := row_i (uh RS)
  have go := row_o (uh RG)
  have so := row_o (uh RS)
  have gst := row_st (uh RG)
  have sst := row_st (uh RS)
  go_wp2_with fail
  refine (uh K).mono ?_
  rintro e w10 ⟨rfl, hb⟩
  have T_ := hide ((uh L).later hb)
  clear L
  have L := hide (uh T_)
  clear T_
  have T_ := hide ((uh OS).later hb)
  clear OS
  have OS := hide (uh T_)
  clear T_
  have T_ := hide (row_lat (uh RS) hb)
  clear RS
  have RS := hide (uh T_)
  clear T_
  have T_ := hide (row_lat (uh RZ) hb)
  clear RZ
  have RZ := hide (uh T_)
  clear T_
  have T_ := hide ((uh OG).later hb)
  clear OG
  have OG := hide (uh T_)
  clear T_
  have T_ := hide (row_lat (uh RG) hb)
  clear RG
  have RG := hide (uh T_)
  clear T_
  have T_ := hide ((uh OZ).later hb)
  clear OZ
  have OZ := hide (uh T_)
  clear T_
  clear hb K
  clear gm sm gr sr gn sn gz sz gv sv gc sc gi si go so gst sst
  have K := hide (markE_any g D2 _ w10 (uh ES) (uh OG))
  go_wp2_with (first | (refine wpList_load_row rfl 26 _ rfl w5.heap.size rfl 26 g.cs (0, 0) _ (uh RG) Tryz.underlying26 rfl (by kernel_rfl) ?_))
  refine (uh K).mono ?_
  rintro e w11 ⟨rfl, om, t⟩
  clear OG
  have T_ := hide ((uh L).tch (uh HR) t (fun b e => by have := uh PG b e; have h3 := uh HW3; have h4 := uh HW4; have h5 := uh HW5; omega))
  clear L
  have L := hide (uh T_)
  clear T_
  have T_ := hide ((uh OS).tch t (fun b e1 e2 => by have := uh PS b e1; have := uh PG b e2; have h3 := uh HW3; have h4 := uh HW4; have h5 := uh HW5; omega))
  clear OS
  have OS := hide (uh T_)
  clear T_
  have T_ := hide (row_tch (uh RS) t (fun e => by have := uh PG _ e; have h3 := uh HW3; have h4 := uh HW4; have h5 := uh HW5; omega))
  clear RS
  have RS := hide (uh T_)
  clear T_
  have T_ := hide (row_tch (uh RZ) t (fun e => by have := uh PG _ e; have h3 := uh HW3; have h4 := uh HW4; have h5 := uh HW5; omega))
  clear RZ
  have RZ := hide (uh T_)
  clear T_
  have T_ := hide (row_tch (uh RG) t (fun e => by have := uh PG _ e; have h3 := uh HW3; have h4 := uh HW4; have h5 := uh HW5; omega))
  clear RG
  have RG := hide (uh T_)
  clear T_
  have T_ := hide ((uh OZ).tch t (fun b e1 e2 => by have := uh PZ b e1; have := uh PG b e2; have h3 := uh HW3; have h4 := uh HW4; have h5 := uh HW5; omega))
  clear OZ
  have OZ := hide (uh T_)
  clear T_
  have OG := hide om
  clear om t K
  have TP := hide (Md.tot_pos D2)
  generalize htt : D2.tot = t2 at TP ⊢
  have TT := hide htt
  have tp2 := uh TP
  clear TP htt
  have K := hide (heldM_any g D2 w11 (uh ES) (uh OG).rd)
  rw [uh TT] at K
  go_wp2_with (first | (refine wpList_load_row rfl 26 _ rfl w5.heap.size rfl 26 g.cs (0, 0) _ (uh RG) Tryz.underlying26 rfl (by kernel_rfl) ?_))
  refine (uh K).mono ?_
  rintro e w12 ⟨rfl, hb⟩
  have T_ := hide ((uh L).later hb)
  clear L
  have L := hide (uh T_)
  clear T_
  have T_ := hide ((uh OS).later hb)
  clear OS
  have OS := hide (uh T_)
  clear T_
  have T_ := hide (row_lat (uh RS) hb)
  clear RS
  have RS := hide (uh T_)
  clear T_
  have T_ := hide (row_lat (uh RZ) hb)
  clear RZ
  have RZ := hide (uh T_)
  clear T_
  have T_ := hide (row_lat (uh RG) hb)
  clear RG
  have RG := hide (uh T_)
  clear T_
  have T_ := hide ((uh OZ).later hb)
  clear OZ
  have OZ := hide (uh T_)
  clear T_
  have T_ := hide ((uh OG).later hb)
  clear OG
  have OG := hide (uh T_)
  clear T_
  clear hb K
  have K := hide (toM_any x d w12 (uh HS) (uh L).rd)
  go_wp2_with (first | (refine wpList_load_row rfl 24 _ rfl W.heap.size rfl 24 x.cs (0, 0) _ (uh L).bx Tryz.underlying24 rfl (by kernel_rfl) ?_))
  refine (uh K).mono ?_
  rintro e w13 ⟨v, rfl, fv, ov, hb⟩
  have T_ := hide ((uh L).later hb)
  clear L
  have L := hide (uh T_)
  clear T_
  have T_ := hide ((uh OS).later hb)
  clear OS
  have OS := hide (uh T_)
  clear T_
  have T_ := hide (row_lat (uh RS) hb)
  clear RS
  have RS := hide (uh T_)
  clear T_
  have T_ := hide (row_lat (uh RZ) hb)
  clear RZ
  have RZ := hide (uh T_)
  clear T_
  have T_ := hide (row_lat (uh RG) hb)
  clear RG
  have RG := hide (uh T_)
  clear T_
  have T_ := hide ((uh OZ).later hb)
  clear OZ
  have OZ := hide (uh T_)
  clear T_
  have T_ := hide ((uh OG).later hb)
  clear OG
  have OG := hide (uh T_)
  clear T_
  clear hb K
  have K := hide (uh II v w13 fv (small_mv ov.rd (uh DS)) ov.nz ov.rd ((uh TB).later (uh L).bel))
  clear fv ov II
  go_wp2_with fail
  refine (uh K).mono ?_
  rintro e w14 ⟨h, rfl, fh, oh, hb⟩
  have FH := hide fh
  have T_ := hide ((uh L).later hb)
  clear L
  have L := hide (uh T_)
  clear T_
  have T_ := hide ((uh OS).later hb)
  clear OS
  have OS := hide (uh T_)
  clear T_
  have T_ := hide (row_lat (uh RS) hb)
  clear RS
  have RS := hide (uh T_)
  clear T_
  have T_ := hide (row_lat (uh RZ) hb)
  clear RZ
  have RZ := hide (uh T_)
  clear T_
  have T_ := hide (row_lat (uh RG) hb)
  clear RG
  have RG := hide (uh T_)
  clear T_
  have T_ := hide ((uh OZ).later hb)
  clear OZ
  have OZ := hide (uh T_)
  clear T_
  have T_ := hide ((uh OG).later hb)
  clear OG
  have OG := hide (uh T_)
  clear T_
  have OH := hide oh
  have RH := hide (heap_alloc_last w14 (.cells h.cs 26))
  have T_ := hide ((uh L).later (below_new w14 (.cells h.cs 26)))
  clear L
  have L := hide (uh T_)
  clear T_
  have T_ := hide ((uh OS).later (below_new w14 (.cells h.cs 26)))
  clear OS
  have OS := hide (uh T_)
  clear T_
  have T_ := hide (row_lat (uh RS) (below_new w14 (.cells h.cs 26)))
  clear RS
  have RS := hide (uh T_)
  clear T_
  have T_ := hide (row_lat (uh RZ) (below_new w14 (.cells h.cs 26)))
  clear RZ
  have RZ := hide (uh T_)
  clear T_
  have T_ := hide (row_lat (uh RG) (below_new w14 (.cells h.cs 26)))
  clear RG
  have RG := hide (uh T_)
  clear T_
  have T_ := hide ((uh OZ).later (below_new w14 (.cells h.cs 26)))
  clear OZ
  have OZ := hide (uh T_)
  clear T_
  have T_ := hide ((uh OG).later (below_new w14 (.cells h.cs 26)))
  clear OG
  have OG := hide (uh T_)
  clear T_
  have T_ := hide ((uh OH).later (below_new w14 (.cells h.cs 26)))
  clear OH
  have OH := hide (uh T_)
  clear T_
  clear hb oh fh K
  have K := hide (eqM_any h s D2 (w14.alloc (.cells h.cs 26)) ((uh FS).trans (uh FH).symm) (small_mv (uh OH).rd (uh ES)) (uh OH).rd (uh OS).rd)
  go_wp2_with (first | (refine wpList_store_new rfl 26 _ _ rfl h.cs rfl rfl _ (by kernel_rfl) rfl (Mv.cs_one _) ?_) | (refine wpList_load_row rfl 26 _ rfl w14.heap.size rfl 26 h.cs (0, 0) _ (uh RH) Tryz.underlying26 rfl (by kernel_rfl) ?_) | (refine wpList_load_row rfl 26 _ rfl w3.heap.size rfl 26 s.cs (0, 0) _ (uh RS) Tryz.underlying26 rfl (by kernel_rfl) ?_))
  refine (uh K).mono ?_
  rintro e w15 ⟨rfl, hb⟩
  have T_ := hide ((uh L).later hb)
  clear L
  have L := hide (uh T_)
  clear T_
  have T_ := hide ((uh OS).later hb)
  clear OS
  have OS := hide (uh T_)
  clear T_
  have T_ := hide (row_lat (uh RS) hb)
  clear RS
  have RS := hide (uh T_)
  clear T_
  have T_ := hide (row_lat (uh RZ) hb)
  clear RZ
  have RZ := hide (uh T_)
  clear T_
  have T_ := hide (row_lat (uh RG) hb)
  clear RG
  have RG := hide (uh T_)
  clear T_
  have T_ := hide ((uh OZ).later hb)
  clear OZ
  have OZ := hide (uh T_)
  clear T_
  have T_ := hide ((uh OG).later hb)
  clear OG
  have OG := hide (uh T_)
  clear T_
  have T_ := hide ((uh OH).later hb)
  clear OH
  have OH := hide (uh T_)
  clear T_
  have T_ := hide (row_lat (uh RH) hb)
  clear RH
  have RH := hide (uh T_)
  clear T_
  clear hb K
  have K := hide (heldM_any g D2 w15 (uh ES) (uh OG).rd)
  rw [uh TT] at K
  go_wp2_with (first | (refine wpList_load_row rfl 26 _ rfl w5.heap.size rfl 26 g.cs (0, 0) _ (uh RG) Tryz.underlying26 rfl (by kernel_rfl) ?_))
  refine (uh K).mono ?_
  rintro e w16 ⟨rfl, hb⟩
  have T_ := hide ((uh L).later hb)
  clear L
  have L := hide (uh T_)
  clear T_
  have T_ := hide ((uh OS).later hb)
  clear OS
  have OS := hide (uh T_)
  clear T_
  have T_ := hide (row_lat (uh RS) hb)
  clear RS
  have RS := hide (uh T_)
  clear T_
  have T_ := hide (row_lat (uh RZ) hb)
  clear RZ
  have RZ := hide (uh T_)
  clear T_
  have T_ := hide (row_lat (uh RG) hb)
  clear RG
  have RG := hide (uh T_)
  clear T_
  have T_ := hide ((uh OZ).later hb)
  clear OZ
  have OZ := hide (uh T_)
  clear T_
  have T_ := hide ((uh OG).later hb)
  clear OG
  have OG := hide (uh T_)
  clear T_
  have T_ := hide ((uh OH).later hb)
  clear OH
  have OH := hide (uh T_)
  clear T_
  have T_ := hide (row_lat (uh RH) hb)
  clear RH
  have RH := hide (uh T_)
  clear T_
  clear hb K
  go_wp2
  go_ret
  exact ⟨rfl, (uh L).bel⟩

set_option maxRecDepth 100000 in
theorem lifted (os : Os) (started : os.Started) (H : Type) (enc : TypeId × Value → H) :
    ReturnsInHanded {} Tryz.checked os 3 .any (fun w args => (Rows.fnExactRunSpec.pre enc Tryz.prog Tryz.f3 [] false w args ∧ laidMetH Tryz.prog Rows.fnExactRunRow.laid w) ∧ sizedMet enc Tryz.prog Tryz.f3 (OpenSpec.ofChange Rows.fnExactRunSpec) false w args)
      (Rows.fnExactRunSpec.post enc Tryz.prog Tryz.f3 false true false false) := by
  refine returnsInHanded_of_change_and (C := Tryz.checked) (X := fun w _ => laidMetH Tryz.prog Rows.fnExactRunRow.laid w) (fun _ _ _ hh h => h.of_heap hh) own started (by kernel_rfl) Tryz.func3
    (ChangeSpec.witness_shaped (enc := enc) (C := Tryz.checked) (os := os) (X := fun w _ => laidMetH Tryz.prog Rows.fnExactRunRow.laid w) false (World.laidAll Tryz.prog os Rows.fnExactRunRow.laid) #[.agg #[.slice none 0 0, .slice none 0 0, .bool false, .bool false, .bool false, .bool false, .slice none 0 0, .slice none 0 0, .int .i64 0], .int .i64 0] 8 (World.laidAll_os _ _ _)
      (World.shaped_of_ZipB (by kernel_rfl) (by kernel_rfl)) (by kernel_rfl) (by kernel_rfl) (by kernel_rfl)
      (by rw [MakeChecks.laidMetH_plain _ _ _ (by kernel_rfl)]; exact laidMet_laidAll _ (by kernel_rfl) (by kernel_rfl))) ?_
  intro W base args ds gs before hval0 hW _ _ hL _
  have hval : ∀ (j : Nat) t v, Tryz.f3.params[j]? = some t → args[j]? = some v → Value.okWide Tryz.prog W .any base t v := hval0
  have hW' := hW
  obtain ⟨p, q, hA0, hV, rfl, hfz, hnd⟩ := hW
  have hA : DataW.TrodAll enc Tryz.prog W 0 (fun _ => true) true Tryz.f3.params.toList args.toList ds p := hA0
  rw [Tryz.params3] at hA hval
  obtain ⟨v0, vs0, d0, ds0, p0, q0, hargs, rfl, rfl, h0, r0⟩ := trodAll_cons hA
  obtain ⟨v1, vs1, d1, ds1, p1, q1, rfl, rfl, rfl, h1, r1⟩ := trodAll_cons r0
  obtain ⟨rfl, rfl, rfl⟩ := trodAll_nil r1
  obtain rfl : args = #[v0, v1] := by cases args; simp_all
  have kV := hV
  obtain ⟨gv, tv, cv, fv, dv, pv, rfl, _⟩ := trodVars_one hV
  have k0 := h0
  have lt0 : ∀ x ∈ p0, x.block < W.heap.size := by obtain ⟨m, hm⟩ := k0; exact DataW.trod_lt m _ _ _ hm
  obtain ⟨x0, e0, rfl, g0, y0⟩ := open_mv (hval 0 24 v0 rfl rfl) h0
  have k1 := h1
  have lt1 : ∀ x ∈ p1, x.block < W.heap.size := by obtain ⟨m, hm⟩ := k1; exact DataW.trod_lt m _ _ _ hm
  obtain ⟨a1, rfl, _, _, w1⟩ := open_int Tryz.underlying3 (hval 1 3 v1 rfl rfl) h1
  clear hA0 hval0
  refine (walk x0 e0 y0 a1 w1 W g0 (tab_of_laid hL)).mono fun e W' ⟨he, bel⟩ => ?_
  subst he
  exact ⟨_, rfl, _, _, _, [], _, _, hW', trodAll_mk1 (shut_bool Tryz.underlying4 _), (trodAll_cons_mk (Below.trod laidOut (by kernel_rfl) (of_decide_eq_true (by kernel_rfl)) k0 bel lt0) (trodAll_cons_mk (Below.trod laidOut (by kernel_rfl) (of_decide_eq_true (by kernel_rfl)) k1 bel lt1) trodAll_mk0)), bel.trodVars laidOut (by kernel_rfl) kV, bel.frame _, fun h => by cases h⟩

theorem proved : Rows.FnExactRunSaid :=
  OpenClaim.holds_of_wide 3 Tryz.f3 rfl rfl rfl rfl rfl rfl rfl ⟨rfl, rfl, rfl, rfl, rfl⟩ rfl rfl rfl rfl rfl (by kernel_rfl) Tryz.func3 (by kernel_rfl)
    (of_decide_eq_true (by kernel_rfl)) (by unfold Func.isWrapper; first | (rw [if_pos (by decide +kernel)]; kernel_rfl) | (rw [if_neg (by decide +kernel)]; exact ⟨rfl, rfl⟩))
    (fun os started H enc _ => lifted os started H enc)
end Go.Proofs.YtboedaofbchdkaaGreatDoor.fnExactRun

namespace Go.Proofs.YtboedaofbchdkaaGreatDoor
theorem fnExactRun_holds : Rows.FnExactRunCardSaid :=
  Claim7.holds_tied_plain_at .later [] [.data] true (true, "005ccde0d58c54ef2445478c7a63189694e30beb92b07d86932893a92f771b67") false
    fnExactRun.proved (fun _ h => by cases h) (by kernel_rfl) (fun _ h => by cases h) fnExactRun_row_tie rfl ⟨rfl, rfl⟩ (by kernel_rfl) rfl
    (fun f fn hf hfn => by
      obtain rfl : f = 3 := Option.some.inj ((show Tryz.prog.funcNamed "loop.example/g00329/laws.FnExactRun" = some 3 by kernel_rfl).symm.trans hf) |>.symm
      obtain rfl : fn = Tryz.f3 := (Option.some.inj (Tryz.func3.symm.trans hfn)).symm
      exact ⟨by kernel_rfl, fun j t ht => by
        rw [Tryz.params3] at ht
        have hm : t ∈ [24, 3] := by simpa using Array.mem_of_getElem? ht
        have hall : ([24, 3].all fun u => !Tryz.prog.wantsStandIn u) = true := by kernel_rfl
        exact (show Tryz.prog.wantsStandIn t = false by simpa using List.all_eq_true.1 hall t hm)⟩)
    (by kernel_rfl)
#print axioms fnExactRun_holds
end Go.Proofs.YtboedaofbchdkaaGreatDoor
