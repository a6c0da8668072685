/- For every image, address, start and list of words the law on MachNew answers true: the program answers just the machine that the model answers; it writes into nothing that came in, and what it answers owns its memory. No condition. -/
import Derived.Test.YtfkmibgamkignaaRows
import Derived.Test.YtfkmibgamkignaaLawC
import Derived.WalkKit
import Derived.ProofKit
import Derived.OpenShut
import Derived.ShutString
import Derived.ChangeOld
import Derived.Below
namespace Go.Proofs.Ytfkmibgamkignaa.fnExactMachNew
open Go.ChangeShapes Go.WideShapes Go.ChangeAt Go.RowKit
open Go.ChangeMaps (open_string shut_string)
set_option linter.unusedVariables false
set_option maxRecDepth 8000

theorem own : ownKnob Try.prog.godebug = none := by kernel_rfl
theorem laidOut : laidOutB Try.prog = true := by kernel_rfl

set_option maxHeartbeats 8000000 in
theorem walk (ia : Option Addr) (il ic : Nat) (iz : List Int) (a : Int) (ha : (Lit.int .i64 a).wf = true) (st : Int) (hst : (Lit.int .i64 st).wf = true) (na : Option Addr) (nl nc : Nat) (nz : List Int) (W : World) (r0 : IsRow .i64 W ia il ic iz) (r3 : IsRow .i64 W na nl nc nz) :
    Calls Try.prog 6 #[.slice ia il ic, .int .i64 a, .int .i64 st, .slice na nl nc] W fun e W' => e = .returned (.bool true) ∧ Below W.heap.size W W' := by
  clear ha hst
  obtain ⟨ni, li, lic, micap, ri, _⟩ := rdN_of_row r0
  obtain ⟨nn, ln, lnc, mncap, rn, _⟩ := rdN_of_row r3
  unfold maxLen at micap mncap
  have hL : Lm W W ⟨ia, il, ic⟩ ⟨na, nl, nc⟩ ni nn := ⟨Below.refl _ _, ri, rn⟩
  have H0 := hide hL
  have L := hide hL
  clear hL r0 r3 ri rn
  by_cases hb1 : il ≤ 1048576
  rotate_left
  · have hb1' : 1048576 < il := by omega
    clear H0 L
    go_enter Try.func6, Try.ntmps6
    go_wp2
    go_ret
    exact ⟨rfl, Below.refl _ _⟩
  by_cases hb3 : nl ≤ 1048576
  rotate_left
  · have hb3' : 1048576 < nl := by omega
    clear H0 L
    go_enter Try.func6, Try.ntmps6
    go_wp2
    go_ret
    exact ⟨rfl, Below.refl _ _⟩
  have LI := hide li
  have LN := hide ln
  have ES := hide (small_new ni nn a st)
  clear micap mncap lic lnc li ln
  go_enter Try.func6, Try.ntmps6
  have K := hide (toIntS_sl ⟨ia, il, ic⟩ ni W (unhide LI) hb1 (unhide L).ri)
  go_wp2_with fail
  refine (unhide K).mono ?_
  rintro e w1 ⟨t1, rfl, ho, hb⟩
  have T_ := hide ((unhide L).later hb)
  clear L
  have L := hide (unhide T_)
  clear T_
  have N1 := hide ho
  clear hb ho K
  have K := hide (toIntS_sl ⟨na, nl, nc⟩ nn w1 (unhide LN) hb3 (unhide L).rn)
  go_wp2_with fail
  refine (unhide K).mono ?_
  rintro e w2 ⟨t2, rfl, ho, hb⟩
  have T_ := hide ((unhide L).later hb)
  clear L
  have L := hide (unhide T_)
  clear T_
  have T_ := hide ((unhide N1).later hb)
  clear N1
  have N1 := hide (unhide T_)
  clear T_
  have N2 := hide ho
  have SZ2 := hide (unhide L).bel.size
  clear hb ho K
  have K := hide (newS_any t1 t2 ni nn a st w2 (unhide N1).rdS (unhide N2).rdS (unhide N1).len (unhide N2).len (by have := (unhide N1).len; have := unhide LI; omega) (by have := (unhide N2).len; have := unhide LN; omega) (unhide N2).nz)
  go_wp2_with fail
  refine (unhide K).mono ?_
  rintro e w3 ⟨s, rfl, fv, ov, hb⟩
  have FS := hide fv
  have PS := hide (fun b (e : s.at b) => (show W.heap.size ≤ b ∧ b < w3.heap.size by have h1 := ov.lo e; have h2 := unhide SZ2; omega))
  have W3 := hide (show W.heap.size ≤ w3.heap.size from Nat.le_trans (unhide SZ2) hb.size)
  clear N1 N2
  have T_ := hide ((unhide L).later hb)
  clear L
  have L := hide (unhide T_)
  clear T_
  have OS := hide ov
  have RS := hide (heap_alloc_last w3 (.cells s.cs 28))
  have T_ := hide ((unhide L).later (below_new w3 (.cells s.cs 28)))
  clear L
  have L := hide (unhide T_)
  clear T_
  have T_ := hide ((unhide OS).later (below_new w3 (.cells s.cs 28)))
  clear OS
  have OS := hide (unhide T_)
  clear T_
  clear hb ov fv K SZ2
  have K := hide (toIntS_sl ⟨ia, il, ic⟩ ni (w3.alloc (.cells s.cs 28)) (unhide LI) hb1 (unhide L).ri)
  go_wp2_with (first | (refine wpList_store_new rfl 28 _ _ rfl s.cs rfl rfl _ (by kernel_rfl) rfl (Mv.cs_one _) ?_))
  refine (unhide K).mono ?_
  rintro e w4 ⟨t3, rfl, ho, hb⟩
  have T_ := hide ((unhide L).later hb)
  clear L
  have L := hide (unhide T_)
  clear T_
  have T_ := hide ((unhide OS).later hb)
  clear OS
  have OS := hide (unhide T_)
  clear T_
  have T_ := hide (row_lat (unhide RS) hb)
  clear RS
  have RS := hide (unhide T_)
  clear T_
  have N3 := hide ho
  have W4 := hide (show w3.heap.size < w4.heap.size by have h1 := hb.size; have h2 := alloc_size w3 (.cells s.cs 28); omega)
  have P3 := hide (fun b (e : t3.v.ownBlock = some b) => (show w3.heap.size < b ∧ b < w4.heap.size by have h1 := ho.lt e; have h2 := alloc_size w3 (.cells s.cs 28); omega))
  clear hb ho K
  have K := hide (toIntS_sl ⟨na, nl, nc⟩ nn w4 (unhide LN) hb3 (unhide L).rn)
  go_wp2_with fail
  refine (unhide K).mono ?_
  rintro e w5 ⟨t4, rfl, ho, hb⟩
  have T_ := hide ((unhide L).later hb)
  clear L
  have L := hide (unhide T_)
  clear T_
  have T_ := hide ((unhide OS).later hb)
  clear OS
  have OS := hide (unhide T_)
  clear T_
  have T_ := hide (row_lat (unhide RS) hb)
  clear RS
  have RS := hide (unhide T_)
  clear T_
  have T_ := hide ((unhide N3).later hb)
  clear N3
  have N3 := hide (unhide T_)
  clear T_
  have N4 := hide ho
  have W5 := hide (show w4.heap.size ≤ w5.heap.size from hb.size)
  have P4 := hide (fun b (e : t4.v.ownBlock = some b) => (show w4.heap.size ≤ b ∧ b < w5.heap.size from ho.lt e))
  clear hb ho K
  have K := hide (newI_any t3 t4 ni nn a st w5 (unhide N3).rdS (unhide N4).rdS (unhide N3).len (unhide N4).len (by have := (unhide N3).len; have := unhide LI; omega) (by have := (unhide N4).len; have := unhide LN; omega) (unhide N4).nz)
  go_wp2_with fail
  refine (unhide K).mono ?_
  rintro e w6 ⟨g, rfl, fv, ov, hb⟩
  have FG := hide fv
  have W6 := hide (show w5.heap.size ≤ w6.heap.size from hb.size)
  have PG := hide (fun b (e : g.at b) => (show w5.heap.size < b ∧ b < w6.heap.size by have h1 := ov.lo e; omega))
  have T_ := hide ((unhide L).later hb)
  clear L
  have L := hide (unhide T_)
  clear T_
  have T_ := hide ((unhide OS).later hb)
  clear OS
  have OS := hide (unhide T_)
  clear T_
  have T_ := hide (row_lat (unhide RS) hb)
  clear RS
  have RS := hide (unhide T_)
  clear T_
  have T_ := hide ((unhide N3).later hb)
  clear N3
  have N3 := hide (unhide T_)
  clear T_
  have T_ := hide ((unhide N4).later hb)
  clear N4
  have N4 := hide (unhide T_)
  clear T_
  have OG := hide ov
  have RG := hide (heap_alloc_last w6 (.cells g.cs 28))
  have T_ := hide ((unhide L).later (below_new w6 (.cells g.cs 28)))
  clear L
  have L := hide (unhide T_)
  clear T_
  have T_ := hide ((unhide OS).later (below_new w6 (.cells g.cs 28)))
  clear OS
  have OS := hide (unhide T_)
  clear T_
  have T_ := hide (row_lat (unhide RS) (below_new w6 (.cells g.cs 28)))
  clear RS
  have RS := hide (unhide T_)
  clear T_
  have T_ := hide ((unhide N3).later (below_new w6 (.cells g.cs 28)))
  clear N3
  have N3 := hide (unhide T_)
  clear T_
  have T_ := hide ((unhide N4).later (below_new w6 (.cells g.cs 28)))
  clear N4
  have N4 := hide (unhide T_)
  clear T_
  have T_ := hide ((unhide OG).later (below_new w6 (.cells g.cs 28)))
  clear OG
  have OG := hide (unhide T_)
  clear T_
  clear hb ov fv K
  have K := hide (eqM_any g s (newD ni a st nn) (w6.alloc (.cells g.cs 28)) ((unhide FS).trans (unhide FG).symm) (small_mv (unhide OG).rd (unhide ES)) (unhide OG).rd (unhide OS).rd)
  go_wp2_with (first | (refine wpList_store_new rfl 28 _ _ rfl g.cs rfl rfl _ (by kernel_rfl) rfl (Mv.cs_one _) ?_) | (refine wpList_load_row rfl 28 _ rfl w6.heap.size rfl 28 g.cs (0, 0) _ (unhide RG) Try.underlying28 rfl (by kernel_rfl) ?_) | (refine wpList_load_row rfl 28 _ rfl w3.heap.size rfl 28 s.cs (0, 0) _ (unhide RS) Try.underlying28 rfl (by kernel_rfl) ?_))
  refine (unhide K).mono ?_
  rintro e w7 ⟨rfl, hb⟩
  have T_ := hide ((unhide L).later hb)
  clear L
  have L := hide (unhide T_)
  clear T_
  have T_ := hide ((unhide OS).later hb)
  clear OS
  have OS := hide (unhide T_)
  clear T_
  have T_ := hide (row_lat (unhide RS) hb)
  clear RS
  have RS := hide (unhide T_)
  clear T_
  have T_ := hide ((unhide N3).later hb)
  clear N3
  have N3 := hide (unhide T_)
  clear T_
  have T_ := hide ((unhide N4).later hb)
  clear N4
  have N4 := hide (unhide T_)
  clear T_
  have T_ := hide ((unhide OG).later hb)
  clear OG
  have OG := hide (unhide T_)
  clear T_
  have T_ := hide (row_lat (unhide RG) hb)
  clear RG
  have RG := hide (unhide T_)
  clear T_
  clear hb K
  have K := hide (toIntS_sl ⟨ia, il, ic⟩ ni w7 (unhide LI) hb1 (unhide L).ri)
  go_wp2_with fail
  refine (unhide K).mono ?_
  rintro e w8 ⟨t5, rfl, ho, hb⟩
  have T_ := hide ((unhide L).later hb)
  clear L
  have L := hide (unhide T_)
  clear T_
  have T_ := hide ((unhide OS).later hb)
  clear OS
  have OS := hide (unhide T_)
  clear T_
  have T_ := hide (row_lat (unhide RS) hb)
  clear RS
  have RS := hide (unhide T_)
  clear T_
  have T_ := hide ((unhide N3).later hb)
  clear N3
  have N3 := hide (unhide T_)
  clear T_
  have T_ := hide ((unhide N4).later hb)
  clear N4
  have N4 := hide (unhide T_)
  clear T_
  have T_ := hide ((unhide OG).later hb)
  clear OG
  have OG := hide (unhide T_)
  clear T_
  have T_ := hide (row_lat (unhide RG) hb)
  clear RG
  have RG := hide (unhide T_)
  clear T_
  have K2 := hide (eqS_sl t3 t5 ni _ _ w8 (by have := unhide LI; omega) (unhide N3) ho)
  clear hb ho K
  go_wp2_with fail
  refine (unhide K2).mono ?_
  rintro e w9 ⟨rfl, hb⟩
  have T_ := hide ((unhide L).later hb)
  clear L
  have L := hide (unhide T_)
  clear T_
  have T_ := hide ((unhide OS).later hb)
  clear OS
  have OS := hide (unhide T_)
  clear T_
  have T_ := hide (row_lat (unhide RS) hb)
  clear RS
  have RS := hide (unhide T_)
  clear T_
  have T_ := hide ((unhide N3).later hb)
  clear N3
  have N3 := hide (unhide T_)
  clear T_
  have T_ := hide ((unhide N4).later hb)
  clear N4
  have N4 := hide (unhide T_)
  clear T_
  have T_ := hide ((unhide OG).later hb)
  clear OG
  have OG := hide (unhide T_)
  clear T_
  have T_ := hide (row_lat (unhide RG) hb)
  clear RG
  have RG := hide (unhide T_)
  clear T_
  clear hb K2
  have K := hide (toIntS_sl ⟨na, nl, nc⟩ nn w9 (unhide LN) hb3 (unhide L).rn)
  go_wp2_with fail
  refine (unhide K).mono ?_
  rintro e w10 ⟨t6, rfl, ho, hb⟩
  have T_ := hide ((unhide L).later hb)
  clear L
  have L := hide (unhide T_)
  clear T_
  have T_ := hide ((unhide OS).later hb)
  clear OS
  have OS := hide (unhide T_)
  clear T_
  have T_ := hide (row_lat (unhide RS) hb)
  clear RS
  have RS := hide (unhide T_)
  clear T_
  have T_ := hide ((unhide N3).later hb)
  clear N3
  have N3 := hide (unhide T_)
  clear T_
  have T_ := hide ((unhide N4).later hb)
  clear N4
  have N4 := hide (unhide T_)
  clear T_
  have T_ := hide ((unhide OG).later hb)
  clear OG
  have OG := hide (unhide T_)
  clear T_
  have T_ := hide (row_lat (unhide RG) hb)
  clear RG
  have RG := hide (unhide T_)
  clear T_
  have K2 := hide (eqS_sl t4 t6 nn _ _ w10 (by have := unhide LN; omega) (unhide N4) ho)
  clear hb ho K
  go_wp2_with fail
  refine (unhide K2).mono ?_
  rintro e w11 ⟨rfl, hb⟩
  have T_ := hide ((unhide L).later hb)
  clear L
  have L := hide (unhide T_)
  clear T_
  have T_ := hide ((unhide OS).later hb)
  clear OS
  have OS := hide (unhide T_)
  clear T_
  have T_ := hide (row_lat (unhide RS) hb)
  clear RS
  have RS := hide (unhide T_)
  clear T_
  have T_ := hide ((unhide N3).later hb)
  clear N3
  have N3 := hide (unhide T_)
  clear T_
  have T_ := hide ((unhide N4).later hb)
  clear N4
  have N4 := hide (unhide T_)
  clear T_
  have T_ := hide ((unhide OG).later hb)
  clear OG
  have OG := hide (unhide T_)
  clear T_
  have T_ := hide (row_lat (unhide RG) hb)
  clear RG
  have RG := hide (unhide T_)
  clear T_
  clear hb K2
  have K := hide (markL_own t3 ni _ 1 w11 (by have := unhide LI; omega) (by have := unhide LI; omega) (unhide N3))
  go_wp2_with fail
  refine (unhide K).mono ?_
  rintro e w12 ⟨rfl, om, gg⟩
  clear N3
  have T_ := hide ((unhide L).gb (unhide H0) gg (fun b e => by have := unhide P3 b e; have h3 := unhide W3; have h4 := unhide W4; have h5 := unhide W5; have h6 := unhide W6; omega))
  clear L
  have L := hide (unhide T_)
  clear T_
  have T_ := hide ((unhide OS).gb gg (fun b e e2 => by have := unhide P3 b e; have := unhide PS b e2; have h3 := unhide W3; have h4 := unhide W4; have h5 := unhide W5; have h6 := unhide W6; omega))
  clear OS
  have OS := hide (unhide T_)
  clear T_
  have T_ := hide (row_gb (unhide RS) gg (fun b e => by have := unhide P3 b e; have h3 := unhide W3; have h4 := unhide W4; have h5 := unhide W5; have h6 := unhide W6; omega))
  clear RS
  have RS := hide (unhide T_)
  clear T_
  have T_ := hide ((unhide N4).gb gg (fun b e e2 => by have := unhide P3 b e; have := unhide P4 b e2; have h3 := unhide W3; have h4 := unhide W4; have h5 := unhide W5; have h6 := unhide W6; omega))
  clear N4
  have N4 := hide (unhide T_)
  clear T_
  have T_ := hide ((unhide OG).gb gg (fun b e e2 => by have := unhide P3 b e; have := unhide PG b e2; have h3 := unhide W3; have h4 := unhide W4; have h5 := unhide W5; have h6 := unhide W6; omega))
  clear OG
  have OG := hide (unhide T_)
  clear T_
  have T_ := hide (row_gb (unhide RG) gg (fun b e => by have := unhide P3 b e; have h3 := unhide W3; have h4 := unhide W4; have h5 := unhide W5; have h6 := unhide W6; omega))
  clear RG
  have RG := hide (unhide T_)
  clear T_
  clear om gg K
  have K := hide (markL_own t4 nn _ (1 + ni.length) w12 (by have := unhide LN; omega) (by have := unhide LI; omega) (unhide N4))
  go_wp2_with fail
  refine (unhide K).mono ?_
  rintro e w13 ⟨rfl, om, gg⟩
  clear N4
  have T_ := hide ((unhide L).gb (unhide H0) gg (fun b e => by have := unhide P4 b e; have h3 := unhide W3; have h4 := unhide W4; have h5 := unhide W5; have h6 := unhide W6; omega))
  clear L
  have L := hide (unhide T_)
  clear T_
  have T_ := hide ((unhide OS).gb gg (fun b e e2 => by have := unhide P4 b e; have := unhide PS b e2; have h3 := unhide W3; have h4 := unhide W4; have h5 := unhide W5; have h6 := unhide W6; omega))
  clear OS
  have OS := hide (unhide T_)
  clear T_
  have T_ := hide (row_gb (unhide RS) gg (fun b e => by have := unhide P4 b e; have h3 := unhide W3; have h4 := unhide W4; have h5 := unhide W5; have h6 := unhide W6; omega))
  clear RS
  have RS := hide (unhide T_)
  clear T_
  have T_ := hide ((unhide OG).gb gg (fun b e e2 => by have := unhide P4 b e; have := unhide PG b e2; have h3 := unhide W3; have h4 := unhide W4; have h5 := unhide W5; have h6 := unhide W6; omega))
  clear OG
  have OG := hide (unhide T_)
  clear T_
  have T_ := hide (row_gb (unhide RG) gg (fun b e => by have := unhide P4 b e; have h3 := unhide W3; have h4 := unhide W4; have h5 := unhide W5; have h6 := unhide W6; omega))
  clear RG
  have RG := hide (unhide T_)
  clear T_
  clear om gg K
  generalize hkk : ((1 + ni.length : Nat) : Int) + (nn.length : Int) = kk
  have kp : 0 ≤ kk := by omega
  clear hkk
  have K := hide (eqM_any g s (newD ni a st nn) w13 ((unhide FS).trans (unhide FG).symm) (small_mv (unhide OG).rd (unhide ES)) (unhide OG).rd (unhide OS).rd)
  have gm := row_m (unhide RG)
  have sm := row_m (unhide RS)
  have gr := row_r (unhide RG)
  have sr := row_r (unhide RS)
  have gn := row_n (unhide RG)
  have sn := row_n (unhide RS)
  have gz := row_z (unhide RG)
  have sz := row_z (unhide RS)
  have gv := row_v (unhide RG)
  have sv := row_v (unhide RS)
  have gc := row_c (unhide RG)
  have sc := row_c (unhide RS)
  have gi := row_i (unhide RG)
  have si := row_i (unhide RS)
  have go := row_o (unhide RG)
  have so := row_o (unhide RS)
  have gst := row_st (unhide RG)
  have sst := row_st (unhide RS)
  go_wp2_with fail
  refine (unhide K).mono ?_
  rintro e w14 ⟨rfl, hb⟩
  have T_ := hide ((unhide L).later hb)
  clear L
  have L := hide (unhide T_)
  clear T_
  have T_ := hide ((unhide OS).later hb)
  clear OS
  have OS := hide (unhide T_)
  clear T_
  have T_ := hide (row_lat (unhide RS) hb)
  clear RS
  have RS := hide (unhide T_)
  clear T_
  have T_ := hide ((unhide OG).later hb)
  clear OG
  have OG := hide (unhide T_)
  clear T_
  have T_ := hide (row_lat (unhide RG) hb)
  clear RG
  have RG := hide (unhide T_)
  clear T_
  clear hb K
  clear gm sm gr sr gn sn gz sz gv sv gc sc gi si go so gst sst
  have K := hide (markM_any g (newD ni a st nn) _ w14 (unhide ES) (unhide OG))
  go_wp2_with (first | (refine wpList_load_row rfl 28 _ rfl w6.heap.size rfl 28 g.cs (0, 0) _ (unhide RG) Try.underlying28 rfl (by kernel_rfl) ?_))
  refine (unhide K).mono ?_
  rintro e w15 ⟨rfl, om, t⟩
  clear OG
  have T_ := hide ((unhide L).tch (unhide H0) t (fun b e => by have := unhide PG b e; have h3 := unhide W3; have h4 := unhide W4; have h5 := unhide W5; have h6 := unhide W6; omega))
  clear L
  have L := hide (unhide T_)
  clear T_
  have T_ := hide ((unhide OS).tch t (fun b e1 e2 => by have := unhide PS b e1; have := unhide PG b e2; have h3 := unhide W3; have h4 := unhide W4; have h5 := unhide W5; have h6 := unhide W6; omega))
  clear OS
  have OS := hide (unhide T_)
  clear T_
  have T_ := hide (row_tch (unhide RS) t (fun e => by have := unhide PG _ e; have h3 := unhide W3; have h4 := unhide W4; have h5 := unhide W5; have h6 := unhide W6; omega))
  clear RS
  have RS := hide (unhide T_)
  clear T_
  have T_ := hide (row_tch (unhide RG) t (fun e => by have := unhide PG _ e; have h3 := unhide W3; have h4 := unhide W4; have h5 := unhide W5; have h6 := unhide W6; omega))
  clear RG
  have RG := hide (unhide T_)
  clear T_
  have OG := hide om
  clear om t K
  have TP := hide (Md.tot_pos (newD ni a st nn))
  generalize htt : (newD ni a st nn).tot = t9 at TP ⊢
  have TT := hide htt
  have tp9 := unhide TP
  clear TP htt
  have K := hide (heldM_any g (newD ni a st nn) w15 (unhide ES) (unhide OG).rd)
  rw [unhide TT] at K
  go_wp2_with (first | (refine wpList_load_row rfl 28 _ rfl w6.heap.size rfl 28 g.cs (0, 0) _ (unhide RG) Try.underlying28 rfl (by kernel_rfl) ?_))
  refine (unhide K).mono ?_
  rintro e w16 ⟨rfl, hb⟩
  have T_ := hide ((unhide L).later hb)
  clear L
  have L := hide (unhide T_)
  clear T_
  have T_ := hide ((unhide OS).later hb)
  clear OS
  have OS := hide (unhide T_)
  clear T_
  have T_ := hide (row_lat (unhide RS) hb)
  clear RS
  have RS := hide (unhide T_)
  clear T_
  have T_ := hide (row_lat (unhide RG) hb)
  clear RG
  have RG := hide (unhide T_)
  clear T_
  have T_ := hide ((unhide OG).later hb)
  clear OG
  have OG := hide (unhide T_)
  clear T_
  clear hb K
  have K := hide (toIntS_sl ⟨ia, il, ic⟩ ni w16 (unhide LI) hb1 (unhide L).ri)
  go_wp2_with fail
  refine (unhide K).mono ?_
  rintro e w17 ⟨t7, rfl, ho, hb⟩
  have T_ := hide ((unhide L).later hb)
  clear L
  have L := hide (unhide T_)
  clear T_
  have T_ := hide ((unhide OS).later hb)
  clear OS
  have OS := hide (unhide T_)
  clear T_
  have T_ := hide (row_lat (unhide RS) hb)
  clear RS
  have RS := hide (unhide T_)
  clear T_
  have T_ := hide (row_lat (unhide RG) hb)
  clear RG
  have RG := hide (unhide T_)
  clear T_
  have T_ := hide ((unhide OG).later hb)
  clear OG
  have OG := hide (unhide T_)
  clear T_
  have N7 := hide ho
  clear hb ho K
  have K := hide (toIntS_sl ⟨na, nl, nc⟩ nn w17 (unhide LN) hb3 (unhide L).rn)
  go_wp2_with fail
  refine (unhide K).mono ?_
  rintro e w18 ⟨t8, rfl, ho, hb⟩
  have T_ := hide ((unhide L).later hb)
  clear L
  have L := hide (unhide T_)
  clear T_
  have T_ := hide ((unhide OS).later hb)
  clear OS
  have OS := hide (unhide T_)
  clear T_
  have T_ := hide (row_lat (unhide RS) hb)
  clear RS
  have RS := hide (unhide T_)
  clear T_
  have T_ := hide (row_lat (unhide RG) hb)
  clear RG
  have RG := hide (unhide T_)
  clear T_
  have T_ := hide ((unhide OG).later hb)
  clear OG
  have OG := hide (unhide T_)
  clear T_
  have T_ := hide ((unhide N7).later hb)
  clear N7
  have N7 := hide (unhide T_)
  clear T_
  have N8 := hide ho
  clear hb ho K
  have K := hide (newI_any t7 t8 ni nn a st w18 (unhide N7).rdS (unhide N8).rdS (unhide N7).len (unhide N8).len (by have := (unhide N7).len; have := unhide LI; omega) (by have := (unhide N8).len; have := unhide LN; omega) (unhide N8).nz)
  go_wp2_with fail
  refine (unhide K).mono ?_
  rintro e w19 ⟨h, rfl, fv, ov, hb⟩
  have FH := hide fv
  have T_ := hide ((unhide L).later hb)
  clear L
  have L := hide (unhide T_)
  clear T_
  have T_ := hide ((unhide OS).later hb)
  clear OS
  have OS := hide (unhide T_)
  clear T_
  have T_ := hide (row_lat (unhide RS) hb)
  clear RS
  have RS := hide (unhide T_)
  clear T_
  have T_ := hide (row_lat (unhide RG) hb)
  clear RG
  have RG := hide (unhide T_)
  clear T_
  have T_ := hide ((unhide OG).later hb)
  clear OG
  have OG := hide (unhide T_)
  clear T_
  have T_ := hide ((unhide N7).later hb)
  clear N7
  have N7 := hide (unhide T_)
  clear T_
  have T_ := hide ((unhide N8).later hb)
  clear N8
  have N8 := hide (unhide T_)
  clear T_
  have OH := hide ov
  have RH := hide (heap_alloc_last w19 (.cells h.cs 28))
  have T_ := hide ((unhide L).later (below_new w19 (.cells h.cs 28)))
  clear L
  have L := hide (unhide T_)
  clear T_
  have T_ := hide ((unhide OS).later (below_new w19 (.cells h.cs 28)))
  clear OS
  have OS := hide (unhide T_)
  clear T_
  have T_ := hide (row_lat (unhide RS) (below_new w19 (.cells h.cs 28)))
  clear RS
  have RS := hide (unhide T_)
  clear T_
  have T_ := hide (row_lat (unhide RG) (below_new w19 (.cells h.cs 28)))
  clear RG
  have RG := hide (unhide T_)
  clear T_
  have T_ := hide ((unhide OG).later (below_new w19 (.cells h.cs 28)))
  clear OG
  have OG := hide (unhide T_)
  clear T_
  have T_ := hide ((unhide N7).later (below_new w19 (.cells h.cs 28)))
  clear N7
  have N7 := hide (unhide T_)
  clear T_
  have T_ := hide ((unhide N8).later (below_new w19 (.cells h.cs 28)))
  clear N8
  have N8 := hide (unhide T_)
  clear T_
  have T_ := hide ((unhide OH).later (below_new w19 (.cells h.cs 28)))
  clear OH
  have OH := hide (unhide T_)
  clear T_
  clear hb ov fv K
  have K := hide (eqM_any h s (newD ni a st nn) (w19.alloc (.cells h.cs 28)) ((unhide FS).trans (unhide FH).symm) (small_mv (unhide OH).rd (unhide ES)) (unhide OH).rd (unhide OS).rd)
  go_wp2_with (first | (refine wpList_store_new rfl 28 _ _ rfl h.cs rfl rfl _ (by kernel_rfl) rfl (Mv.cs_one _) ?_) | (refine wpList_load_row rfl 28 _ rfl w19.heap.size rfl 28 h.cs (0, 0) _ (unhide RH) Try.underlying28 rfl (by kernel_rfl) ?_) | (refine wpList_load_row rfl 28 _ rfl w3.heap.size rfl 28 s.cs (0, 0) _ (unhide RS) Try.underlying28 rfl (by kernel_rfl) ?_))
  refine (unhide K).mono ?_
  rintro e w20 ⟨rfl, hb⟩
  have T_ := hide ((unhide L).later hb)
  clear L
  have L := hide (unhide T_)
  clear T_
  have T_ := hide ((unhide OS).later hb)
  clear OS
  have OS := hide (unhide T_)
  clear T_
  have T_ := hide (row_lat (unhide RS) hb)
  clear RS
  have RS := hide (unhide T_)
  clear T_
  have T_ := hide (row_lat (unhide RG) hb)
  clear RG
  have RG := hide (unhide T_)
  clear T_
  have T_ := hide ((unhide OG).later hb)
  clear OG
  have OG := hide (unhide T_)
  clear T_
  have T_ := hide ((unhide N7).later hb)
  clear N7
  have N7 := hide (unhide T_)
  clear T_
  have T_ := hide ((unhide N8).later hb)
  clear N8
  have N8 := hide (unhide T_)
  clear T_
  have T_ := hide ((unhide OH).later hb)
  clear OH
  have OH := hide (unhide T_)
  clear T_
  have T_ := hide (row_lat (unhide RH) hb)
  clear RH
  have RH := hide (unhide T_)
  clear T_
  clear hb K
  have K := hide (heldM_any g (newD ni a st nn) w20 (unhide ES) (unhide OG).rd)
  rw [unhide TT] at K
  go_wp2_with (first | (refine wpList_load_row rfl 28 _ rfl w6.heap.size rfl 28 g.cs (0, 0) _ (unhide RG) Try.underlying28 rfl (by kernel_rfl) ?_))
  refine (unhide K).mono ?_
  rintro e w21 ⟨rfl, hb⟩
  have T_ := hide ((unhide L).later hb)
  clear L
  have L := hide (unhide T_)
  clear T_
  have T_ := hide ((unhide OS).later hb)
  clear OS
  have OS := hide (unhide T_)
  clear T_
  have T_ := hide (row_lat (unhide RS) hb)
  clear RS
  have RS := hide (unhide T_)
  clear T_
  have T_ := hide (row_lat (unhide RG) hb)
  clear RG
  have RG := hide (unhide T_)
  clear T_
  have T_ := hide ((unhide OG).later hb)
  clear OG
  have OG := hide (unhide T_)
  clear T_
  have T_ := hide ((unhide N7).later hb)
  clear N7
  have N7 := hide (unhide T_)
  clear T_
  have T_ := hide ((unhide N8).later hb)
  clear N8
  have N8 := hide (unhide T_)
  clear T_
  have T_ := hide ((unhide OH).later hb)
  clear OH
  have OH := hide (unhide T_)
  clear T_
  have T_ := hide (row_lat (unhide RH) hb)
  clear RH
  have RH := hide (unhide T_)
  clear T_
  clear hb K
  go_wp2
  go_ret
  exact ⟨rfl, (unhide L).bel⟩

set_option maxRecDepth 100000 in
theorem lifted (os : Os) (started : os.Started) (H : Type) (enc : TypeId × Value → H) :
    ReturnsInHanded {} Try.checked os 6 .any (Rows.fnExactMachNewSpec.pre6 enc Try.prog Try.f6 Rows.fnExactMachNewRow.domain false) (Rows.fnExactMachNewSpec.post enc Try.prog Try.f6 false true false false) := by
  refine returnsInHanded_of_change (C := Try.checked) own started (by kernel_rfl) Try.func6
    (ChangeSpec.witness6 (enc := enc) (C := Try.checked) false ⟨#[], #[.slice none 0 0, .int .i64 0, .int .i64 0, .slice none 0 0], []⟩ 8 (by kernel_rfl) (by kernel_rfl) (by kernel_rfl) (by kernel_rfl)) ?_
  intro W base args ds gs before hval0 hW hcnd _
  have hval : ∀ (j : Nat) t v, Try.f6.params[j]? = some t → args[j]? = some v → Value.okWide Try.prog W .any base t v := hval0
  have hW' := hW
  obtain ⟨p, q, hA0, hV, rfl, hfz, hnd⟩ := hW
  have hA : DataW.TrodAll enc Try.prog W 0 (fun _ => true) true Try.f6.params.toList args.toList ds p := hA0
  rw [Try.params6] at hA hval
  obtain ⟨v0, vs0, d0, ds0, p0, q0, hargs, rfl, rfl, h0, r0⟩ := trodAll_cons hA
  obtain ⟨v1, vs1, d1, ds1, p1, q1, rfl, rfl, rfl, h1, r1⟩ := trodAll_cons r0
  obtain ⟨v2, vs2, d2, ds2, p2, q2, rfl, rfl, rfl, h2, r2⟩ := trodAll_cons r1
  obtain ⟨v3, vs3, d3, ds3, p3, q3, rfl, rfl, rfl, h3, r3⟩ := trodAll_cons r2
  obtain ⟨rfl, rfl, rfl⟩ := trodAll_nil r3
  obtain rfl : args = #[v0, v1, v2, v3] := by cases args; simp_all
  obtain ⟨rfl, rfl⟩ := trodVars_none hV
  have k0 := h0
  have lt0 : ∀ x ∈ p0, x.block < W.heap.size := by obtain ⟨m, hm⟩ := k0; exact DataW.trod_lt m _ _ _ hm
  obtain ⟨a0, len0, cap0, rfl⟩ := okWide_slice Try.underlying24 (hval 0 24 v0 rfl rfl)
  obtain ⟨z0, w0⟩ : ∃ zs, IsRow .i64 W a0 len0 cap0 zs := by
    obtain ⟨fuel, hf⟩ := h0
    rcases open_ints Try.underlying24 Try.underlying3 (by kernel_rfl) hf with ⟨hcs, _⟩ | ⟨x, l, c, zs, hcs, _, hl, hm, hz, _, hcell, hwz⟩
    · simp [Value.cells] at hcs
      obtain ⟨rfl, rfl, rfl⟩ := hcs
      exact ⟨[], .inl ⟨rfl, rfl, rfl, rfl⟩⟩
    · simp [Value.cells] at hcs
      obtain ⟨rfl, rfl, rfl⟩ := hcs
      exact ⟨zs, .inr ⟨_, rfl, hl, hm, by simpa using hz, hcell, hwz⟩⟩
  have k1 := h1
  have lt1 : ∀ x ∈ p1, x.block < W.heap.size := by obtain ⟨m, hm⟩ := k1; exact DataW.trod_lt m _ _ _ hm
  obtain ⟨a1, rfl, _, _, w1⟩ := open_int Try.underlying3 (hval 1 3 v1 rfl rfl) h1
  have k2 := h2
  have lt2 : ∀ x ∈ p2, x.block < W.heap.size := by obtain ⟨m, hm⟩ := k2; exact DataW.trod_lt m _ _ _ hm
  obtain ⟨a2, rfl, _, _, w2⟩ := open_int Try.underlying3 (hval 2 3 v2 rfl rfl) h2
  have k3 := h3
  have lt3 : ∀ x ∈ p3, x.block < W.heap.size := by obtain ⟨m, hm⟩ := k3; exact DataW.trod_lt m _ _ _ hm
  obtain ⟨a3, len3, cap3, rfl⟩ := okWide_slice Try.underlying24 (hval 3 24 v3 rfl rfl)
  obtain ⟨z3, w3⟩ : ∃ zs, IsRow .i64 W a3 len3 cap3 zs := by
    obtain ⟨fuel, hf⟩ := h3
    rcases open_ints Try.underlying24 Try.underlying3 (by kernel_rfl) hf with ⟨hcs, _⟩ | ⟨x, l, c, zs, hcs, _, hl, hm, hz, _, hcell, hwz⟩
    · simp [Value.cells] at hcs
      obtain ⟨rfl, rfl, rfl⟩ := hcs
      exact ⟨[], .inl ⟨rfl, rfl, rfl, rfl⟩⟩
    · simp [Value.cells] at hcs
      obtain ⟨rfl, rfl, rfl⟩ := hcs
      exact ⟨zs, .inr ⟨_, rfl, hl, hm, by simpa using hz, hcell, hwz⟩⟩
  clear hA0 hval0
  refine (walk a0 len0 cap0 z0 a1 w1 a2 w2 a3 len3 cap3 z3 W w0 w3).mono fun e W' ⟨he, bel⟩ => ?_
  subst he
  exact ⟨_, rfl, _, _, _, [], _, [], hW', trodAll_mk1 (shut_bool Try.underlying4 _), (trodAll_cons_mk (Below.trod laidOut (by kernel_rfl) (of_decide_eq_true (by kernel_rfl)) k0 bel lt0) (trodAll_cons_mk (Below.trod laidOut (by kernel_rfl) (of_decide_eq_true (by kernel_rfl)) k1 bel lt1) (trodAll_cons_mk (Below.trod laidOut (by kernel_rfl) (of_decide_eq_true (by kernel_rfl)) k2 bel lt2) (trodAll_cons_mk (Below.trod laidOut (by kernel_rfl) (of_decide_eq_true (by kernel_rfl)) k3 bel lt3) trodAll_mk0)))), rfl, bel.frame _, fun h => by cases h⟩

theorem over : Rows.fnExactMachNewRow.holds Try.pinned (OpenSpec.ofChange Rows.fnExactMachNewSpec) :=
  OpenClaim.holds_of_wide 6 Try.f6 rfl rfl rfl rfl rfl rfl rfl ⟨rfl, rfl, rfl, rfl, rfl⟩ rfl rfl rfl rfl rfl (by kernel_rfl) Try.func6 (by kernel_rfl)
    (of_decide_eq_true (by kernel_rfl)) (by unfold Func.isWrapper; first | (rw [if_pos (by decide +kernel)]; kernel_rfl) | (rw [if_neg (by decide +kernel)]; exact ⟨rfl, rfl⟩))
    (fun os started H enc _ => lifted os started H enc)

theorem proved : Rows.FnExactMachNewSaid := over
end Go.Proofs.Ytfkmibgamkignaa.fnExactMachNew

namespace Go.Proofs.Ytfkmibgamkignaa
theorem fnExactMachNew_holds : Rows.FnExactMachNewSaid := fnExactMachNew.proved
#print axioms fnExactMachNew_holds
end Go.Proofs.Ytfkmibgamkignaa
