/- For every term, numbers of sections, names and their numbers the program's Worth answers as the model's and writes into no argument: the law FnExactWorth returns true at every argument (where the term and the names hold more than 1048576 letters and parts, or a list of numbers is longer, the law itself answers true); the condition is what the card ties: the tables opWords and regWords are as the text of the program lays them. -/
import Derived.Test.YtkolflcjkofleaaDoorRows
import Derived.Test.YtkolflcjkofleaaDoorTxA
import Derived.Test.YtkolflcjkofleaaDoorTxC
import Derived.Test.YtkolflcjkofleaaDoorTxG
import Derived.Test.YtkolflcjkofleaaDoorTie
import Derived.Test.YtkolflcjkofleaaDoorCards
import Derived.SevenTiedAt
import Derived.Lay
import Derived.MakeChecks
import Derived.OpenVars
import Derived.WalkKit
import Derived.ProofKit
import Derived.OpenShut
import Derived.ShutString
import Derived.ChangeOld
import Derived.Below
namespace Go.Proofs.YtkolflcjkofleaaDoor.fnExactWorth
open Go.ChangeShapes Go.WideShapes Go.ChangeAt Go.RowKit
open Go.ChangeMaps (open_string shut_string)
set_option linter.unusedVariables false
set_option maxRecDepth 8000

set_option maxHeartbeats 8000000 in
theorem walk (e : Ex) (b : Option Addr) (cap : Nat) (a1 : Option Addr) (n1 c1 : Nat) (z1 : List Int) (a2 : Option Addr) (n2 c2 : Nat) (L : List ByteArray) (a3 : Option Addr) (n3 c3 : Nat) (z3 : List Int) (w : World) (hr : RdX w 0 e b) (hf : Fit e) (h1 : IsRow .i64 w a1 n1 c1 z1) (h2 : IsU w a2 n2 L) (h3 : IsRow .i64 w a3 n3 c3 z3) (ht : TabK w) : Calls Tryd.prog 9 #[.agg (e.cs b cap), .slice a1 n1 c1, .slice a2 n2 c2, .slice a3 n3 c3] w fun r w' => r = .returned (.bool true) ∧ Below w.heap.size w w' := by
  obtain ⟨bs, hl1, hm1, hr1⟩ := rdn_of_row h1
  obtain ⟨vs, hl3, hm3, hr3⟩ := rdn_of_row h3
  obtain ⟨hl2, hm2, hz2, hr2⟩ := h2
  clear h1 h3 z1 z3
  subst hl1 hl2 hl3
  have B0 := hide (below_new w (.cells (e.cs b cap) 44))
  have G0 := hide (show (w.alloc (.cells (e.cs b cap) 44)).heap[w.heap.size]? = some (.cells (e.cs b cap) 44 (0, 0)) from Array.getElem?_push_size)
  by_cases hb1 : (1048576 : Int) < (bs.length : Int)
  · unfold Ex.cs at B0 ⊢
    go_enter Tryd.func9, Tryd.ntmps9
    go_wp2
    go_ret
    exact ⟨rfl, unhide B0⟩
  have hb1' : ¬ (1048576 : Nat) < bs.length := by omega
  by_cases hb3 : (1048576 : Int) < (vs.length : Int)
  · unfold Ex.cs at B0 ⊢
    go_enter Tryd.func9, Tryd.ntmps9
    go_wp2
    go_ret
    exact ⟨rfl, unhide B0⟩
  have hb3' : ¬ (1048576 : Nat) < vs.length := by omega
  have SZ := hide (szX_any e b cap 1048576 _ (hr.later (unhide B0)) hf (by omega) (by omega))
  have SS := hide (fun (left : Nat) (h : left ≤ 1048576) wr (hb : Below w.heap.size w wr) => szStrS_any a2 L.length c2 left L wr rfl hm2 h hz2 (hr2.later hb))
  have TX := hide (fun (h : e.sz ≤ 1048576) wr (hb : Below w.heap.size w wr) => toX_any e b cap wr (hr.later hb) h)
  have T1 := hide (fun wr (hb : Below w.heap.size w wr) => toIntS_any a1 bs.length c1 bs wr rfl (by omega) (hr1.later hb))
  have T3 := hide (fun wr (hb : Below w.heap.size w wr) => toIntS_any a3 vs.length c3 vs wr rfl (by omega) (hr3.later hb))
  have T2 := hide (fun (h : L.length ≤ 1048576) wr (hb : Below w.heap.size w wr) => toStrS_any a2 L.length c2 L wr rfl h (hr2.later hb))
  have WS := hide (fun (h : L.length ≤ 1048576) (hz : e.sz ≤ 1048576) c cp gb gn gv wr (h0 : RdX wr 0 e c) (hv : Ev wr gb gn gv bs L vs) => worthA_any bs L vs (by omega) (by omega) (by omega) e c cp gb gn gv bs.length L.length vs.length wr h0 hv hz)
  have WI := hide (fun (h : L.length ≤ 1048576) (hz : e.sz ≤ 1048576) c cp x1 x2 x3 wr (hb : Below w.heap.size w wr) (h0 : RdX wr 0 e c) (q1 : RdN wr x1 bs) (q2 : RdU wr x2 L) (q3 : RdN wr x3 vs) => worthI_any bs L vs (by omega) (by omega) (by omega) e c cp x1 x2 x3 bs.length L.length vs.length wr h0 hz (ht.next hb) q1 q2 q3)
  have EX := hide (fun (hz : e.sz ≤ 1048576) c d cp dp wr (q1 : RdX wr 0 e c) (q2 : RdX wr 0 e d) => eqX_same e c d cp dp wr q1 q2 hz)
  have Q1 := hide (fun c d cp dp wr (q1 : RdN wr c bs) (q2 : RdN wr d bs) => eqIntS_same c d bs.length cp dp bs wr rfl (by omega) q1 q2)
  have Q3 := hide (fun c d cp dp wr (q1 : RdN wr c vs) (q2 : RdN wr d vs) => eqIntS_same c d vs.length cp dp vs wr rfl (by omega) q1 q2)
  have Q2 := hide (fun (h : L.length ≤ 1048576) c d cp dp wr (q1 : RdU wr c L) (q2 : RdU wr d L) => eqStrS_same c d L.length cp dp L wr rfl (by omega) q1 q2)
  have R1 := hide (fun wr B g n c (h : OwnN wr B (.slice (some ⟨g, 0, none⟩) n c) bs) => h.rd1)
  have R3 := hide (fun wr B g n c (h : OwnN wr B (.slice (some ⟨g, 0, none⟩) n c) vs) => h.rd1)
  have R2 := hide (fun wr B g c (h : OwnS wr B (.slice (some ⟨g, 0, none⟩) L.length c) L) => rdu_of_own h)
  have RX := hide (fun wr B c (h : NewX wr B e c) => h.rd.lower (Nat.zero_le _) _ _)
  unfold InR at WS WI
  clear ht hr hf hr1 hr2 hr3 hm1 hm2 hm3 hz2
  generalize (worthA bs L vs e).getD 0 = zz at *
  generalize (worthA bs L vs e).isSome = qq at *
  generalize hz : e.sz = z at *
  unfold Ex.cs at SZ TX WS WI EX B0 G0 ⊢
  generalize hw0 : w.alloc (.cells #[.int .i64 e.k, .int .i64 e.n, .string e.s, .slice b e.l.length cap] 44) = W at *
  generalize e.k = ek at *
  generalize e.n = en at *
  generalize e.s = es at *
  generalize e.l.length = el at *
  generalize hn1 : bs.length = n1 at *
  generalize hn2 : L.length = n2 at *
  generalize hn3 : vs.length = n3 at *
  have HN := hide (And.intro hn1 (And.intro hn2 hn3))
  clear hn1 hn2 hn3
  go_enter Tryd.func9, Tryd.ntmps9
  go_wp2_with (first | (refine wpList_load_row rfl 44 _ rfl w.heap.size rfl 44 #[.int .i64 ek, .int .i64 en, .string es, .slice b el cap] (0, 0) _ (unhide G0) Tryd.underlying44 rfl (by kernel_rfl) ?_) | (simp only [hw0]))
  refine (unhide SZ).mono ?_
  rintro r w1 ⟨rfl, hbb⟩
  have B1 := hide ((unhide B0).trans (hbb.mono (unhide B0).size))
  have G1 := hide (row_keep (unhide G0) hbb)
  clear hbb B0 G0
  clear SZ
  unfold lessX
  by_cases hneg : (1048576 : Int) - (z : Int) < 0
  · rw [if_pos hneg]
    go_wp2
    go_ret
    exact ⟨rfl, unhide B1⟩
  rw [if_neg hneg]
  have hz1 : z ≤ 1048576 := by omega
  obtain ⟨lf, hlf⟩ : ∃ lf : Nat, (1048576 : Int) - (z : Int) = (lf : Int) := ⟨1048576 - z, by omega⟩
  rw [hlf]
  have hlf1 : lf ≤ 1048576 := by omega
  have hlf2 : ¬ ((lf : Int) < 0) := by omega
  have S1 := hide (unhide SS lf hlf1 w1 (unhide B1))
  have TX := hide (unhide TX hz1)
  have WS := hide (fun h => unhide WS h hz1)
  have WI := hide (fun h => unhide WI h hz1)
  have EX := hide (unhide EX hz1)
  clear SS hneg hlf
  go_wp2_with fail
  refine (unhide S1).mono ?_
  rintro r w2 ⟨hor, hbb⟩
  clear S1
  have B2 := hide ((unhide B1).trans (hbb.mono (unhide B1).size))
  have G2 := hide (row_keep (unhide G1) hbb)
  clear hbb B1 G1
  rcases hor with rfl | ⟨hle, rfl⟩
  · go_wp2
    go_ret
    exact ⟨rfl, unhide B2⟩
  have hL : n2 ≤ 1048576 := by omega
  have T2 := hide (unhide T2 hL)
  have WS := hide (unhide WS hL)
  have WI := hide (unhide WI hL)
  have Q2 := hide (unhide Q2 hL)
  generalize hll : (lf - (n2 + szU L) : Nat) = ll at *
  have hl0 : ¬ ((ll : Int) < 0) := by omega
  clear hll hle
  have A2 := hide (unhide TX w2 (unhide B2))
  go_wp2_with (refine wpList_load_row rfl 44 _ rfl w.heap.size rfl 44 #[.int .i64 ek, .int .i64 en, .string es, .slice b el cap] (0, 0) _ (unhide G2) Tryd.underlying44 rfl (by kernel_rfl) ?_)
  refine (unhide A2).mono ?_
  rintro r w3 ⟨d0, dp0, rfl, hnx, hbb⟩
  clear A2
  have X3 := hide (unhide RX _ _ _ hnx)
  clear hnx
  have B3 := hide ((unhide B2).trans (hbb.mono (unhide B2).size))
  have G3 := hide (row_keep (unhide G2) hbb)
  clear hbb B2 G2
  have A3 := hide (unhide T1 w3 (unhide B3))
  go_wp2_with fail
  refine (unhide A3).mono ?_
  rintro r w4 ⟨rfl, hon, hbb⟩
  clear A3
  have OA4 := hide hon
  clear hon
  have B4 := hide ((unhide B3).trans (hbb.mono (unhide B3).size))
  have G4 := hide (row_keep (unhide G3) hbb)
  have X4 := hide ((unhide X3).later hbb)
  clear hbb B3 G3 X3
  generalize w3.heap.size = ga at *
  have A4 := hide (unhide T2 w4 (unhide B4))
  go_wp2_with fail
  refine (unhide A4).mono ?_
  rintro r w5 ⟨rfl, hon, hbb⟩
  clear A4
  have OB5 := hide hon
  clear hon
  have B5 := hide ((unhide B4).trans (hbb.mono (unhide B4).size))
  have G5 := hide (row_keep (unhide G4) hbb)
  have X5 := hide ((unhide X4).later hbb)
  have OA5 := hide ((unhide OA4).later hbb)
  clear hbb B4 G4 X4 OA4
  generalize w4.heap.size = gb at *
  have A5 := hide (unhide T3 w5 (unhide B5))
  go_wp2_with fail
  refine (unhide A5).mono ?_
  rintro r w6 ⟨rfl, hon, hbb⟩
  clear A5
  have OC6 := hide hon
  clear hon
  have B6 := hide ((unhide B5).trans (hbb.mono (unhide B5).size))
  have G6 := hide (row_keep (unhide G5) hbb)
  have X6 := hide ((unhide X5).later hbb)
  have OA6 := hide ((unhide OA5).later hbb)
  have OB6 := hide ((unhide OB5).later hbb)
  clear hbb B5 G5 X5 OA5 OB5
  generalize w5.heap.size = gc at *
  have V6 := hide (ev_of (unhide OA6) (by have := unhide OB6; rw [← (unhide HN).2.1] at this; exact this) (unhide OC6))
  have A6 := hide (unhide WS d0 dp0 ga gb gc w6 (unhide X6) (unhide V6))
  clear V6
  go_wp2_with fail
  refine (unhide A6).mono ?_
  rintro r w7 ⟨rfl, hbb⟩
  clear A6 WS X6 OA6 OB6 OC6
  have B7 := hide ((unhide B6).trans (hbb.mono (unhide B6).size))
  have G7 := hide (row_keep (unhide G6) hbb)
  clear hbb B6 G6
  have A7 := hide (unhide TX w7 (unhide B7))
  go_wp2_with (refine wpList_load_row rfl 44 _ rfl w.heap.size rfl 44 #[.int .i64 ek, .int .i64 en, .string es, .slice b el cap] (0, 0) _ (unhide G7) Tryd.underlying44 rfl (by kernel_rfl) ?_)
  refine (unhide A7).mono ?_
  rintro r w8 ⟨d, dp, rfl, hnx, hbb⟩
  clear A7
  have X8 := hide (unhide RX _ _ _ hnx)
  clear hnx
  have B8 := hide ((unhide B7).trans (hbb.mono (unhide B7).size))
  have G8 := hide (row_keep (unhide G7) hbb)
  clear hbb B7 G7
  have hbb := below_new w8 (.cells #[.int .i64 ek, .int .i64 en, .string es, .slice d el dp] 26)
  have Y9 := hide (show (w8.alloc (.cells #[.int .i64 ek, .int .i64 en, .string es, .slice d el dp] 26)).heap[w8.heap.size]? = some (.cells #[.int .i64 ek, .int .i64 en, .string es, .slice d el dp] 26 (0, 0)) from Array.getElem?_push_size)
  have B9 := hide ((unhide B8).trans (hbb.mono (unhide B8).size))
  have G9 := hide (row_keep (unhide G8) hbb)
  have X9 := hide ((unhide X8).later hbb)
  clear hbb B8 G8 X8
  have A9 := hide (unhide T1 _ (unhide B9))
  go_wp2_with fail
  generalize w8.alloc (.cells #[.int .i64 ek, .int .i64 en, .string es, .slice d el dp] 26) = w9 at *
  generalize w8.heap.size = gx at *
  refine (unhide A9).mono ?_
  rintro r w10 ⟨rfl, hon, hbb⟩
  clear A9
  have OA10 := hide hon
  clear hon
  have B10 := hide ((unhide B9).trans (hbb.mono (unhide B9).size))
  have G10 := hide (row_keep (unhide G9) hbb)
  have Y10 := hide (row_keep (unhide Y9) hbb)
  have X10 := hide ((unhide X9).later hbb)
  clear hbb B9 G9 Y9 X9
  generalize w9.heap.size = g1 at *
  have A10 := hide (unhide T2 w10 (unhide B10))
  go_wp2_with fail
  refine (unhide A10).mono ?_
  rintro r w11 ⟨rfl, hon, hbb⟩
  clear A10
  have OB11 := hide hon
  clear hon
  have B11 := hide ((unhide B10).trans (hbb.mono (unhide B10).size))
  have G11 := hide (row_keep (unhide G10) hbb)
  have Y11 := hide (row_keep (unhide Y10) hbb)
  have X11 := hide ((unhide X10).later hbb)
  have OA11 := hide ((unhide OA10).later hbb)
  clear hbb B10 G10 Y10 X10 OA10
  generalize w10.heap.size = g2 at *
  have A11 := hide (unhide T3 w11 (unhide B11))
  go_wp2_with fail
  refine (unhide A11).mono ?_
  rintro r w12 ⟨rfl, hon, hbb⟩
  clear A11
  have OC12 := hide hon
  clear hon
  have B12 := hide ((unhide B11).trans (hbb.mono (unhide B11).size))
  have G12 := hide (row_keep (unhide G11) hbb)
  have Y12 := hide (row_keep (unhide Y11) hbb)
  have X12 := hide ((unhide X11).later hbb)
  have OA12 := hide ((unhide OA11).later hbb)
  have OB12 := hide ((unhide OB11).later hbb)
  clear hbb B11 G11 Y11 X11 OA11 OB11
  generalize w11.heap.size = g3 at *
  have A12 := hide (unhide WI d dp (some ⟨g1, 0, none⟩) (some ⟨g2, 0, none⟩) (some ⟨g3, 0, none⟩) w12 (unhide B12) (unhide X12) (unhide R1 _ _ _ _ _ (unhide OA12)) (unhide R2 _ _ _ _ (by have := unhide OB12; exact this)) (unhide R3 _ _ _ _ _ (unhide OC12)))
  go_wp2_with (refine wpList_load_row rfl 26 _ rfl gx rfl 26 #[.int .i64 ek, .int .i64 en, .string es, .slice d el dp] (0, 0) _ (unhide Y12) Tryd.underlying26 rfl (by kernel_rfl) ?_)
  refine (unhide A12).mono ?_
  rintro r w13 ⟨rfl, hbb⟩
  clear A12 WI
  have B13 := hide ((unhide B12).trans (hbb.mono (unhide B12).size))
  have G13 := hide (row_keep (unhide G12) hbb)
  have Y13 := hide (row_keep (unhide Y12) hbb)
  have X13 := hide ((unhide X12).later hbb)
  have OA13 := hide ((unhide OA12).later hbb)
  have OB13 := hide ((unhide OB12).later hbb)
  have OC13 := hide ((unhide OC12).later hbb)
  clear hbb B12 G12 Y12 X12 OA12 OB12 OC12
  have hbb := below_drew (w := w13)
  have B14 := hide ((unhide B13).trans (hbb.mono (unhide B13).size))
  have G14 := hide (row_keep (unhide G13) hbb)
  have Y14 := hide (row_keep (unhide Y13) hbb)
  have X14 := hide ((unhide X13).later hbb)
  have OA14 := hide ((unhide OA13).later hbb)
  have OB14 := hide ((unhide OB13).later hbb)
  have OC14 := hide ((unhide OC13).later hbb)
  clear hbb B13 G13 Y13 X13 OA13 OB13 OC13
  have D0 := hide (show (fun w' => w'.heap[gx]? = some (.cells #[.int .i64 ek, .int .i64 en, .string es, .slice d el dp] 26 (0, 0)) ∧ w'.heap[w.heap.size]? = some (.cells #[.int .i64 ek, .int .i64 en, .string es, .slice b el cap] 44 (0, 0))) w13.drew from ⟨unhide Y14, unhide G14⟩)
  have A14 := hide (unhide TX _ (unhide B14))
  cases qq
  all_goals
    go_wp2_with fail
    refine wp_region_held_drew (S := fun w' => w'.heap[gx]? = some (.cells #[.int .i64 ek, .int .i64 en, .string es, .slice d el dp] 26 (0, 0)) ∧ w'.heap[w.heap.size]? = some (.cells #[.int .i64 ek, .int .i64 en, .string es, .slice b el cap] 44 (0, 0))) (by kernel_rfl) (unhide D0) (fun hS => ?_)
    have HS := hide hS
    clear hS
    generalize w13.drew = w14 at *
    refine wpAnyH_take (i := 0) (v := .agg #[.int .i64 ek, .int .i64 en, .string es, .slice d el dp]) rfl (by kernel_rfl) (by kernel_rfl) (by kernel_rfl) (fun _ _ _ h => h) (yields_loadG (by rfl) 26 _ rfl gx rfl 26 #[.int .i64 ek, .int .i64 en, .string es, .slice d el dp] _ (fun w h => h.1) Tryd.underlying26 rfl (by kernel_rfl)) (unhide HS) ?_
    go_simp
    refine wpAnyH_take (i := 1) (v := .agg #[.int .i64 ek, .int .i64 en, .string es, .slice b el cap]) rfl (by kernel_rfl) (by kernel_rfl) (by kernel_rfl) (fun _ _ _ h => h) (yields_loadG (by rfl) 44 _ rfl w.heap.size rfl 44 #[.int .i64 ek, .int .i64 en, .string es, .slice b el cap] _ (fun w h => h.2) Tryd.underlying44 rfl (by kernel_rfl)) (unhide HS) ?_
    go_simp
    refine wpAnyH_ready (rs := [2]) (by kernel_rfl) (by simp) ?_
    refine AllReadyH.cons rfl (fun K2 hK => ?_) AllReadyH.nil
    go_simp
    refine (unhide A14).mono ?_
    rintro r w15 ⟨c7, cp7, rfl, n7, hbb⟩
    have Z15 := hide (unhide RX _ _ _ n7)
    clear n7 A14
    have B15 := hide ((unhide B14).trans (hbb.mono (unhide B14).size))
    have G15 := hide (row_keep (unhide G14) hbb)
    have Y15 := hide (row_keep (unhide Y14) hbb)
    have X15 := hide ((unhide X14).later hbb)
    have OA15 := hide ((unhide OA14).later hbb)
    have OB15 := hide ((unhide OB14).later hbb)
    have OC15 := hide ((unhide OC14).later hbb)
    clear hbb B14 G14 Y14 X14 OA14 OB14 OC14
    refine hK.out _ _ (⟨unhide Y15, unhide G15⟩) (fun hS => ?_)
    clear HS
    have HS := hide hS
    clear hS hK K2
    have A15 := hide (unhide EX d c7 dp cp7 w15 (unhide X15) (unhide Z15))
    refine wpAnyH_ready (rs := [3]) (by kernel_rfl) (by simp) ?_
    refine AllReadyH.cons rfl (fun K2 hK => ?_) AllReadyH.nil
    go_simp
    refine (unhide A15).mono ?_
    rintro r w16 ⟨rfl, hbb⟩
    clear A15
    have B16 := hide ((unhide B15).trans (hbb.mono (unhide B15).size))
    have G16 := hide (row_keep (unhide G15) hbb)
    have Y16 := hide (row_keep (unhide Y15) hbb)
    have X16 := hide ((unhide X15).later hbb)
    have OA16 := hide ((unhide OA15).later hbb)
    have OB16 := hide ((unhide OB15).later hbb)
    have OC16 := hide ((unhide OC15).later hbb)
    have Z16 := hide ((unhide Z15).later hbb)
    clear hbb B15 G15 Y15 X15 OA15 OB15 OC15 Z15
    refine hK.out _ _ (⟨unhide Y16, unhide G16⟩) (fun hS => ?_)
    clear HS
    have HS := hide hS
    clear hS hK K2
    refine wpAnyH_take (i := 4) (v := .bool false) rfl (by kernel_rfl) (by kernel_rfl) (by kernel_rfl) (fun _ _ _ h => h) (Or.inl ⟨by rfl, fun w hc => ?_⟩) (unhide HS) ?_
    · clear hc; go_simp
    go_simp
    refine wpAnyH_done (by kernel_rfl) ?_ _
    clear HS
    have A16 := hide (unhide T1 _ (unhide B16))
    go_wp2_with fail
    refine (unhide A16).mono ?_
    rintro r w17 ⟨rfl, hon, hbb⟩
    clear A16
    have P17 := hide hon
    clear hon
    have B17 := hide ((unhide B16).trans (hbb.mono (unhide B16).size))
    have G17 := hide (row_keep (unhide G16) hbb)
    have Y17 := hide (row_keep (unhide Y16) hbb)
    have X17 := hide ((unhide X16).later hbb)
    have OA17 := hide ((unhide OA16).later hbb)
    have OB17 := hide ((unhide OB16).later hbb)
    have OC17 := hide ((unhide OC16).later hbb)
    have Z17 := hide ((unhide Z16).later hbb)
    clear hbb B16 G16 Y16 X16 OA16 OB16 OC16 Z16
    generalize w16.heap.size = q16 at *
    have A17 := hide (unhide Q1 (some ⟨g1, 0, none⟩) (some ⟨q16, 0, none⟩) n1 n1 w17 (unhide R1 _ _ _ _ _ (unhide OA17)) (unhide R1 _ _ _ _ _ (unhide P17)))
    clear P17
    go_wp2_with fail
    refine (unhide A17).mono ?_
    rintro r w18 ⟨rfl, hbb⟩
    clear A17
    have B18 := hide ((unhide B17).trans (hbb.mono (unhide B17).size))
    have G18 := hide (row_keep (unhide G17) hbb)
    have Y18 := hide (row_keep (unhide Y17) hbb)
    have X18 := hide ((unhide X17).later hbb)
    have OA18 := hide ((unhide OA17).later hbb)
    have OB18 := hide ((unhide OB17).later hbb)
    have OC18 := hide ((unhide OC17).later hbb)
    have Z18 := hide ((unhide Z17).later hbb)
    clear hbb B17 G17 Y17 X17 OA17 OB17 OC17 Z17
    have A18 := hide (unhide T2 _ (unhide B18))
    go_wp2_with fail
    refine (unhide A18).mono ?_
    rintro r w19 ⟨rfl, hon, hbb⟩
    clear A18
    have P19 := hide hon
    clear hon
    have B19 := hide ((unhide B18).trans (hbb.mono (unhide B18).size))
    have G19 := hide (row_keep (unhide G18) hbb)
    have Y19 := hide (row_keep (unhide Y18) hbb)
    have X19 := hide ((unhide X18).later hbb)
    have OA19 := hide ((unhide OA18).later hbb)
    have OB19 := hide ((unhide OB18).later hbb)
    have OC19 := hide ((unhide OC18).later hbb)
    have Z19 := hide ((unhide Z18).later hbb)
    clear hbb B18 G18 Y18 X18 OA18 OB18 OC18 Z18
    generalize w18.heap.size = q18 at *
    have A19 := hide (unhide Q2 (some ⟨g2, 0, none⟩) (some ⟨q18, 0, none⟩) n2 n2 w19 (unhide R2 _ _ _ _ (unhide OB19)) (unhide R2 _ _ _ _ (unhide P19)))
    clear P19
    go_wp2_with fail
    refine (unhide A19).mono ?_
    rintro r w20 ⟨rfl, hbb⟩
    clear A19
    have B20 := hide ((unhide B19).trans (hbb.mono (unhide B19).size))
    have G20 := hide (row_keep (unhide G19) hbb)
    have Y20 := hide (row_keep (unhide Y19) hbb)
    have X20 := hide ((unhide X19).later hbb)
    have OA20 := hide ((unhide OA19).later hbb)
    have OB20 := hide ((unhide OB19).later hbb)
    have OC20 := hide ((unhide OC19).later hbb)
    have Z20 := hide ((unhide Z19).later hbb)
    clear hbb B19 G19 Y19 X19 OA19 OB19 OC19 Z19
    have A20 := hide (unhide T3 _ (unhide B20))
    go_wp2_with fail
    refine (unhide A20).mono ?_
    rintro r w21 ⟨rfl, hon, hbb⟩
    clear A20
    have P21 := hide hon
    clear hon
    have B21 := hide ((unhide B20).trans (hbb.mono (unhide B20).size))
    have G21 := hide (row_keep (unhide G20) hbb)
    have Y21 := hide (row_keep (unhide Y20) hbb)
    have X21 := hide ((unhide X20).later hbb)
    have OA21 := hide ((unhide OA20).later hbb)
    have OB21 := hide ((unhide OB20).later hbb)
    have OC21 := hide ((unhide OC20).later hbb)
    have Z21 := hide ((unhide Z20).later hbb)
    clear hbb B20 G20 Y20 X20 OA20 OB20 OC20 Z20
    generalize w20.heap.size = q20 at *
    have A21 := hide (unhide Q3 (some ⟨g3, 0, none⟩) (some ⟨q20, 0, none⟩) n3 n3 w21 (unhide R3 _ _ _ _ _ (unhide OC21)) (unhide R3 _ _ _ _ _ (unhide P21)))
    clear P21
    go_wp2_with fail
    refine (unhide A21).mono ?_
    rintro r w22 ⟨rfl, hbb⟩
    clear A21
    have B22 := hide ((unhide B21).trans (hbb.mono (unhide B21).size))
    have G22 := hide (row_keep (unhide G21) hbb)
    have Y22 := hide (row_keep (unhide Y21) hbb)
    have X22 := hide ((unhide X21).later hbb)
    have OA22 := hide ((unhide OA21).later hbb)
    have OB22 := hide ((unhide OB21).later hbb)
    have OC22 := hide ((unhide OC21).later hbb)
    have Z22 := hide ((unhide Z21).later hbb)
    clear hbb B21 G21 Y21 X21 OA21 OB21 OC21 Z21
    go_wp2
    go_ret
    exact ⟨rfl, unhide B22⟩

set_option maxRecDepth 100000 in
theorem lifted (os : Os) (started : os.Started) (H : Type) (enc : TypeId × Value → H) :
    ReturnsInHanded {} Tryd.checked os 9 .any (fun w args => (Rows.fnExactWorthSpec.pre enc Tryd.prog Tryd.f9 [] false w args ∧ laidMetH Tryd.prog Rows.fnExactWorthRow.laid w) ∧ sizedMet enc Tryd.prog Tryd.f9 (OpenSpec.ofChange Rows.fnExactWorthSpec) false w args)
      (Rows.fnExactWorthSpec.post enc Tryd.prog Tryd.f9 false true false false) := by
  refine returnsInHanded_of_change_and (C := Tryd.checked) (X := fun w _ => laidMetH Tryd.prog Rows.fnExactWorthRow.laid w) (fun _ _ _ hh h => h.of_heap hh) own started (by kernel_rfl) Tryd.func9
    (ChangeSpec.witness_shaped (enc := enc) (C := Tryd.checked) (os := os) (X := fun w _ => laidMetH Tryd.prog Rows.fnExactWorthRow.laid w) false (World.laidAll Tryd.prog os Rows.fnExactWorthRow.laid) #[.agg #[.int .i64 0, .int .i64 0, .string ByteArray.empty, .slice none 0 0], .slice none 0 0, .slice none 0 0, .slice none 0 0] 8 (World.laidAll_os _ _ _)
      (World.shaped_of_ZipB (by kernel_rfl) (by kernel_rfl)) (by kernel_rfl) (by kernel_rfl) (by kernel_rfl)
      (by rw [MakeChecks.laidMetH_plain _ _ _ (by kernel_rfl)]; exact laidMet_laidAll _ (by kernel_rfl) (by kernel_rfl))) ?_
  intro W base args ds gs before hval0 hW _ _ hL _
  have hval : ∀ (j : Nat) t v, Tryd.f9.params[j]? = some t → args[j]? = some v → Value.okWide Tryd.prog W .any base t v := hval0
  have hW' := hW
  obtain ⟨p, q, hA0, hV, rfl, hfz, hnd⟩ := hW
  have hA : DataW.TrodAll enc Tryd.prog W 0 (fun _ => true) true Tryd.f9.params.toList args.toList ds p := hA0
  rw [Tryd.params9] at hA hval
  obtain ⟨v0, vs0, d0, ds0, p0, q0, hargs, rfl, rfl, h0, r0⟩ := trodAll_cons hA
  obtain ⟨v1, vs1, d1, ds1, p1, q1, rfl, rfl, rfl, h1, r1⟩ := trodAll_cons r0
  obtain ⟨v2, vs2, d2, ds2, p2, q2, rfl, rfl, rfl, h2, r2⟩ := trodAll_cons r1
  obtain ⟨v3, vs3, d3, ds3, p3, q3, rfl, rfl, rfl, h3, r3⟩ := trodAll_cons r2
  obtain ⟨rfl, rfl, rfl⟩ := trodAll_nil r3
  obtain rfl : args = #[v0, v1, v2, v3] := by cases args; simp_all
  have kV := hV
  obtain ⟨gv, tv, cv, fv, dv, pv, gu, tu, cu, fu, du, pu, rfl, _⟩ := trodVars_two hV
  have k0 := h0
  have lt0 : ∀ x ∈ p0, x.block < W.heap.size := by obtain ⟨m, hm⟩ := k0; exact DataW.trod_lt m _ _ _ hm
  obtain ⟨o0, b0, c0, rfl, g0, f0⟩ := open_ex (hval 0 44 v0 rfl rfl) h0
  have k1 := h1
  have lt1 : ∀ x ∈ p1, x.block < W.heap.size := by obtain ⟨m, hm⟩ := k1; exact DataW.trod_lt m _ _ _ hm
  obtain ⟨a1, len1, cap1, rfl⟩ := okWide_slice Tryd.underlying30 (hval 1 30 v1 rfl rfl)
  obtain ⟨z1, w1⟩ : ∃ zs, IsRow .i64 W a1 len1 cap1 zs := by
    obtain ⟨fuel, hf⟩ := h1
    rcases open_ints Tryd.underlying30 Tryd.underlying3 (by kernel_rfl) hf with ⟨hcs, _⟩ | ⟨x, l, c, zs, hcs, _, hl, hm, hz, _, hcell, hwz⟩
    · simp [Value.cells] at hcs
      obtain ⟨rfl, rfl, rfl⟩ := hcs
      exact ⟨[], .inl ⟨rfl, rfl, rfl, rfl⟩⟩
    · simp [Value.cells] at hcs
      obtain ⟨rfl, rfl, rfl⟩ := hcs
      exact ⟨zs, .inr ⟨_, rfl, hl, hm, by simpa using hz, hcell, hwz⟩⟩
  have k2 := h2
  have lt2 : ∀ x ∈ p2, x.block < W.heap.size := by obtain ⟨m, hm⟩ := k2; exact DataW.trod_lt m _ _ _ hm
  obtain ⟨a2, len2, cap2, z2, rfl, w2⟩ := open_strs (hval 2 31 v2 rfl rfl) h2
  have k3 := h3
  have lt3 : ∀ x ∈ p3, x.block < W.heap.size := by obtain ⟨m, hm⟩ := k3; exact DataW.trod_lt m _ _ _ hm
  obtain ⟨a3, len3, cap3, rfl⟩ := okWide_slice Tryd.underlying30 (hval 3 30 v3 rfl rfl)
  obtain ⟨z3, w3⟩ : ∃ zs, IsRow .i64 W a3 len3 cap3 zs := by
    obtain ⟨fuel, hf⟩ := h3
    rcases open_ints Tryd.underlying30 Tryd.underlying3 (by kernel_rfl) hf with ⟨hcs, _⟩ | ⟨x, l, c, zs, hcs, _, hl, hm, hz, _, hcell, hwz⟩
    · simp [Value.cells] at hcs
      obtain ⟨rfl, rfl, rfl⟩ := hcs
      exact ⟨[], .inl ⟨rfl, rfl, rfl, rfl⟩⟩
    · simp [Value.cells] at hcs
      obtain ⟨rfl, rfl, rfl⟩ := hcs
      exact ⟨zs, .inr ⟨_, rfl, hl, hm, by simpa using hz, hcell, hwz⟩⟩
  clear hA0 hval0
  refine (walk o0 b0 c0 a1 len1 cap1 z1 a2 len2 cap2 z2 a3 len3 cap3 z3 W g0 f0 w1 w2 w3 (tab_of_laid hL)).mono fun e W' ⟨he, bel⟩ => ?_
  subst he
  exact ⟨_, rfl, _, _, _, [], _, _, hW', trodAll_mk1 (shut_bool Tryd.underlying4 _), (trodAll_cons_mk (Below.trod laidOut (by kernel_rfl) (of_decide_eq_true (by kernel_rfl)) k0 bel lt0) (trodAll_cons_mk (Below.trod laidOut (by kernel_rfl) (of_decide_eq_true (by kernel_rfl)) k1 bel lt1) (trodAll_cons_mk (Below.trod laidOut (by kernel_rfl) (of_decide_eq_true (by kernel_rfl)) k2 bel lt2) (trodAll_cons_mk (Below.trod laidOut (by kernel_rfl) (of_decide_eq_true (by kernel_rfl)) k3 bel lt3) trodAll_mk0)))), bel.trodVars laidOut (by kernel_rfl) kV, bel.frame _, fun h => by cases h⟩

theorem proved : Rows.FnExactWorthSaid :=
  OpenClaim.holds_of_wide 9 Tryd.f9 rfl rfl rfl rfl rfl rfl rfl ⟨rfl, rfl, rfl, rfl, rfl⟩ rfl rfl rfl rfl rfl (by kernel_rfl) Tryd.func9 (by kernel_rfl)
    (of_decide_eq_true (by kernel_rfl)) (by unfold Func.isWrapper; first | (rw [if_pos (by decide +kernel)]; kernel_rfl) | (rw [if_neg (by decide +kernel)]; exact ⟨rfl, rfl⟩))
    (fun os started H enc _ => lifted os started H enc)
end Go.Proofs.YtkolflcjkofleaaDoor.fnExactWorth

namespace Go.Proofs.YtkolflcjkofleaaDoor
theorem fnExactWorth_holds : Rows.FnExactWorthCardSaid :=
  Claim7.holds_tied_plain_at .later [] [.data, .data] true (true, "bb0bc1b0fb6fad9ee741dbe94bc6d927b19996896d356a68a721711bb659e7ab") true
    fnExactWorth.proved (fun _ h => by cases h) (by kernel_rfl) (fun _ h => by cases h) fnExactWorth_row_tie rfl ⟨rfl, rfl⟩ (by kernel_rfl) rfl
    (fun f fn hf hfn => by
      obtain rfl : f = 9 := Option.some.inj ((show Tryd.prog.funcNamed "loop.example/g00329/laws.FnExactWorth" = some 9 by kernel_rfl).symm.trans hf) |>.symm
      obtain rfl : fn = Tryd.f9 := (Option.some.inj (Tryd.func9.symm.trans hfn)).symm
      exact ⟨by kernel_rfl, fun j t ht => by
        rw [Tryd.params9] at ht
        have hm : t ∈ [44, 30, 31, 30] := by simpa using Array.mem_of_getElem? ht
        have hall : ([44, 30, 31, 30].all fun u => !Tryd.prog.wantsStandIn u) = true := by kernel_rfl
        exact (show Tryd.prog.wantsStandIn t = false by simpa using List.all_eq_true.1 hall t hm)⟩)
    (by kernel_rfl)
#print axioms fnExactWorth_holds
end Go.Proofs.YtkolflcjkofleaaDoor
