/- For every term, right or not, the program's Fold answers as the model's, writes into no argument, and what it answers lies in memory of its own: the law FnExactFold returns true at every argument (where the term holds more than 1048576 letters and parts the law itself answers true); the condition is what the card ties: the tables opWords and regWords are as the text of the program lays them. -/
import Derived.Test.YtkolflcjkofleaaDoorRows
import Derived.Test.YtkolflcjkofleaaDoorTxA
import Derived.Test.YtkolflcjkofleaaDoorTxB
import Derived.Test.YtkolflcjkofleaaDoorTxC
import Derived.Test.YtkolflcjkofleaaDoorTxD
import Derived.Test.YtkolflcjkofleaaDoorTxG
import Derived.Test.YtkolflcjkofleaaDoorTxH
import Derived.Test.YtkolflcjkofleaaDoorTxI
import Derived.Test.YtkolflcjkofleaaDoorTxJ
import Derived.Test.YtkolflcjkofleaaDoorTie
import Derived.Test.YtkolflcjkofleaaDoorCards
import Derived.SevenTiedAt
import Derived.Lay
import Derived.MakeChecks
import Derived.OpenVars
import Derived.WalkKit
import Derived.ProofKit
import Derived.OpenShut
import Derived.ShutString
import Derived.ChangeOld
import Derived.Below
namespace Go.Proofs.YtkolflcjkofleaaDoor.fnExactFold
open Go.ChangeShapes Go.WideShapes Go.ChangeAt Go.RowKit
open Go.ChangeMaps (open_string shut_string)
set_option linter.unusedVariables false
set_option maxRecDepth 8000

set_option maxHeartbeats 8000000 in
theorem walk (e : Ex) (b : Option Addr) (cap : Nat) (w : World) (hr : RdX w 0 e b) (hf : Fit e) (ht : TabK w) : Calls Tryd.prog 6 #[.agg (e.cs b cap)] w fun r w' => r = .returned (.bool true) ∧ Below w.heap.size w w' := by
  have B0 := hide (below_new w (.cells (e.cs b cap) 44))
  have G0 := hide (show (w.alloc (.cells (e.cs b cap) 44)).heap[w.heap.size]? = some (.cells (e.cs b cap) 44 (0, 0)) from Array.getElem?_push_size)
  have SZ := hide (szX_any e b cap 1048576 _ (hr.later (unhide B0)) hf (by omega) (by omega))
  have TX := hide (fun (h : e.sz ≤ 1048576) wr (hb : Below w.heap.size w wr) => toX_any e b cap wr (hr.later hb) h)
  have hfz : e.sz ≤ 1048576 → (foldA e).sz ≤ 1048576 := fun h => by
    unfold foldA
    split
    · rename_i ho
      exact Nat.le_trans (ok_sz 6 _ (fold_ok 6 e ho)) (by decide)
    · exact h
  have FS := hide (fun (h : e.sz ≤ 1048576) c cp wr (q : RdX wr 0 e c) => foldA_any e c cp wr q h)
  have FI := hide (fun (h : e.sz ≤ 1048576) c cp wr (hb : Below w.heap.size w wr) (q : ∃ F, OwX wr e c F ∧ F.Nodup) => (by obtain ⟨F, q1, q2⟩ := q; exact foldI_any e c cp F wr q1 q2 h (ht.next hb) : Calls Tryd.prog 12 #[.agg (e.cs c cp)] wr (XoR (foldA e) wr)))
  have EX := hide (fun (h : e.sz ≤ 1048576) c d cp dp wr (q1 : RdX wr 0 e c) (q2 : RdX wr 0 e d) => eqX_same e c d cp dp wr q1 q2 h)
  have EF := hide (fun (h : e.sz ≤ 1048576) c d cp dp wr (q1 : RdX wr 0 (foldA e) c) (q2 : RdX wr 0 (foldA e) d) => eqX_same (foldA e) c d cp dp wr q1 q2 (hfz h))
  have MX := hide (fun (h : e.sz ≤ 1048576) (a : Option Addr) (cap B C : Nat) (wr : World) (q : HalfX wr B C e a) (hB : B ≤ wr.heap.size) => markX_keep e a cap 1 B C wr q hB (by omega) (by have := ct_szF e; omega))
  have MF := hide (fun (h : e.sz ≤ 1048576) (a : Option Addr) (cap B C : Nat) (wr : World) (q : HalfX wr B C (foldA e) a) (hB : B ≤ wr.heap.size) => markX_keep (foldA e) a cap 1 B C wr q hB (by omega) (by have := ct_szF (foldA e); have := hfz h; omega))
  have HF := hide (fun (h : e.sz ≤ 1048576) (a : Option Addr) (cap : Nat) (y : Ex) (wr : World) (hm : MkX (foldA e) 1 y) (q : RdX wr 0 y a) => heldX_any (foldA e) a cap 1 y wr hm q (by omega) (by have := ct_szF (foldA e); have := hfz h; omega) (foldA e).k (foldA e).n (foldA e).s)
  have hm0 : (0 : Int) ≤ ((1 + 3 * (foldA e).ct : Nat) : Int) := by omega
  have hk0 : (0 : Int) ≤ ((1 + 3 * e.ct : Nat) : Int) := by omega
  unfold GiR at FS
  unfold XoR at FI
  generalize ((1 + 3 * (foldA e).ct : Nat) : Int) = mm at *
  generalize ((1 + 3 * e.ct : Nat) : Int) = kk at *
  have hm1 : ¬ mm < 0 := by omega
  have hk1 : ¬ kk < 0 := by omega
  clear hfz hr hf ht
  generalize foldA e = E at *
  generalize hz : e.sz = z at *
  unfold Ex.cs at SZ TX FS FI EX EF MX MF B0 G0 ⊢
  generalize hw0 : w.alloc (.cells #[.int .i64 e.k, .int .i64 e.n, .string e.s, .slice b e.l.length cap] 44) = W at *
  generalize e.k = ek at *
  generalize e.n = en at *
  generalize e.s = es at *
  generalize e.l.length = el at *
  generalize E.k = fk at *
  generalize E.n = fn at *
  generalize E.s = fs at *
  generalize E.l.length = fl at *
  go_enter Tryd.func6, Tryd.ntmps6
  go_wp2_with (first | (refine wpList_load_row rfl 44 _ rfl w.heap.size rfl 44 #[.int .i64 ek, .int .i64 en, .string es, .slice b el cap] (0, 0) _ (unhide G0) Tryd.underlying44 rfl (by kernel_rfl) ?_) | (simp only [hw0]))
  refine (unhide SZ).mono ?_
  rintro r w1 ⟨rfl, hbb⟩
  have B1 := hide ((unhide B0).trans (hbb.mono (unhide B0).size))
  have G1 := hide (row_keep (unhide G0) hbb)
  clear hbb B0 G0
  clear SZ
  unfold lessX
  by_cases hneg : (1048576 : Int) - (z : Int) < 0
  · rw [if_pos hneg]
    go_wp2
    go_ret
    exact ⟨rfl, unhide B1⟩
  rw [if_neg hneg]
  have hz1 : z ≤ 1048576 := by omega
  have TX := hide (unhide TX hz1)
  have FS := hide (unhide FS hz1)
  have FI := hide (unhide FI hz1)
  have EX := hide (unhide EX hz1)
  have EF := hide (unhide EF hz1)
  have MX := hide (unhide MX hz1)
  have MF := hide (unhide MF hz1)
  have HF := hide (unhide HF hz1)
  have A1 := hide (unhide TX w1 (unhide B1))
  go_wp2_with (refine wpList_load_row rfl 44 _ rfl w.heap.size rfl 44 #[.int .i64 ek, .int .i64 en, .string es, .slice b el cap] (0, 0) _ (unhide G1) Tryd.underlying44 rfl (by kernel_rfl) ?_)
  refine (unhide A1).mono ?_
  rintro r w2 ⟨d, dp, rfl, hnx, hbb⟩
  clear A1
  have X2 := hide (show RdX w2 0 e d from hnx.rd.lower (Nat.zero_le _) _ _)
  clear hnx
  have B2 := hide ((unhide B1).trans (hbb.mono (unhide B1).size))
  have G2 := hide (row_keep (unhide G1) hbb)
  clear hbb B1 G1
  have A2 := hide (unhide FS d dp w2 (unhide X2))
  go_wp2_with fail
  refine (unhide A2).mono ?_
  rintro r w3 ⟨c, cp, rfl, hpx, hbb⟩
  clear A2 X2
  have N3 := hide ((hpx.new (B := w2.heap.size) (fun q h => h)).half)
  have hn3 : w.heap.size ≤ w2.heap.size := (unhide B2).size
  have hs3 := hbb.size
  clear hpx
  have B3 := hide ((unhide B2).trans (hbb.mono (unhide B2).size))
  have G3 := hide (row_keep (unhide G2) hbb)
  clear hbb B2 G2
  generalize w2.heap.size = bn at *
  generalize hcn : w3.heap.size = cn at N3
  have hcn2 : cn ≤ w3.heap.size := Nat.le_of_eq hcn.symm
  clear hcn
  have hbb := below_new w3 (.cells #[.int .i64 fk, .int .i64 fn, .string fs, .slice c fl cp] 26)
  have P4 := hide (show (w3.alloc (.cells #[.int .i64 fk, .int .i64 fn, .string fs, .slice c fl cp] 26)).heap[w3.heap.size]? = some (.cells #[.int .i64 fk, .int .i64 fn, .string fs, .slice c fl cp] 26 (0, 0)) from Array.getElem?_push_size)
  have hl4 : w3.heap.size < (w3.alloc (.cells #[.int .i64 fk, .int .i64 fn, .string fs, .slice c fl cp] 26)).heap.size := by simp
  have B4 := hide ((unhide B3).trans (hbb.mono (unhide B3).size))
  have G4 := hide (row_keep (unhide G3) hbb)
  have N4 := hide ((unhide N3).later hbb)
  clear hbb B3 G3 N3
  have A4 := hide (unhide TX _ (unhide B4))
  go_wp2_with (refine wpList_load_row rfl 44 _ rfl w.heap.size rfl 44 #[.int .i64 ek, .int .i64 en, .string es, .slice b el cap] (0, 0) _ (unhide G4) Tryd.underlying44 rfl (by kernel_rfl) ?_)
  generalize w3.alloc (.cells #[.int .i64 fk, .int .i64 fn, .string fs, .slice c fl cp] 26) = w4 at *
  generalize w3.heap.size = g0 at *
  refine (unhide A4).mono ?_
  rintro r w5 ⟨d, dp, rfl, hnx, hbb⟩
  clear A4
  have X5 := hide hnx.half
  clear hnx
  have hs5 := hbb.size
  have B5 := hide ((unhide B4).trans (hbb.mono (unhide B4).size))
  have G5 := hide (row_keep (unhide G4) hbb)
  have P5 := hide (row_keep (unhide P4) hbb)
  have N5 := hide ((unhide N4).later hbb)
  clear hbb B4 G4 P4 N4
  generalize hbx : w4.heap.size = bx at *
  generalize hcx : w5.heap.size = cx at X5
  have hcx2 : cx ≤ w5.heap.size := Nat.le_of_eq hcx.symm
  clear hcx hbx
  have hbb := below_new w5 (.cells #[.int .i64 ek, .int .i64 en, .string es, .slice d el dp] 26)
  have Y6 := hide (show (w5.alloc (.cells #[.int .i64 ek, .int .i64 en, .string es, .slice d el dp] 26)).heap[w5.heap.size]? = some (.cells #[.int .i64 ek, .int .i64 en, .string es, .slice d el dp] 26 (0, 0)) from Array.getElem?_push_size)
  have hl6 : w5.heap.size < (w5.alloc (.cells #[.int .i64 ek, .int .i64 en, .string es, .slice d el dp] 26)).heap.size := by simp
  have B6 := hide ((unhide B5).trans (hbb.mono (unhide B5).size))
  have G6 := hide (row_keep (unhide G5) hbb)
  have P6 := hide (row_keep (unhide P5) hbb)
  have N6 := hide ((unhide N5).later hbb)
  have X6 := hide ((unhide X5).later hbb)
  clear hbb B5 G5 P5 N5 X5
  have A6 := hide (unhide FI d dp _ (unhide B6) (by obtain ⟨F, q1, q2, _⟩ := unhide X6; exact ⟨F, q1, q2⟩))
  go_wp2_with (refine wpList_load_row rfl 26 _ rfl w5.heap.size rfl 26 #[.int .i64 ek, .int .i64 en, .string es, .slice d el dp] (0, 0) _ (unhide Y6) Tryd.underlying26 rfl (by kernel_rfl) ?_)
  generalize w5.alloc (.cells #[.int .i64 ek, .int .i64 en, .string es, .slice d el dp] 26) = w6 at *
  generalize w5.heap.size = g1 at *
  refine (unhide A6).mono ?_
  rintro r w7 ⟨f, fp, rfl, hnx, hbb⟩
  clear A6
  have M7 := hide hnx.half
  clear hnx
  have hs7 := hbb.size
  have B7 := hide ((unhide B6).trans (hbb.mono (unhide B6).size))
  have G7 := hide (row_keep (unhide G6) hbb)
  have P7 := hide (row_keep (unhide P6) hbb)
  have Y7 := hide (row_keep (unhide Y6) hbb)
  have N7 := hide ((unhide N6).later hbb)
  have X7 := hide ((unhide X6).later hbb)
  clear hbb B6 G6 P6 Y6 N6 X6
  generalize hbm : w6.heap.size = bm at *
  generalize hcm : w7.heap.size = cm at M7
  have hcm2 : cm ≤ w7.heap.size := Nat.le_of_eq hcm.symm
  clear hcm hbm
  have hbb := below_new w7 (.cells #[.int .i64 fk, .int .i64 fn, .string fs, .slice f fl fp] 26)
  have K8 := hide (show (w7.alloc (.cells #[.int .i64 fk, .int .i64 fn, .string fs, .slice f fl fp] 26)).heap[w7.heap.size]? = some (.cells #[.int .i64 fk, .int .i64 fn, .string fs, .slice f fl fp] 26 (0, 0)) from Array.getElem?_push_size)
  have hl8 : w7.heap.size < (w7.alloc (.cells #[.int .i64 fk, .int .i64 fn, .string fs, .slice f fl fp] 26)).heap.size := by simp
  have B8 := hide ((unhide B7).trans (hbb.mono (unhide B7).size))
  have G8 := hide (row_keep (unhide G7) hbb)
  have P8 := hide (row_keep (unhide P7) hbb)
  have Y8 := hide (row_keep (unhide Y7) hbb)
  have N8 := hide ((unhide N7).later hbb)
  have X8 := hide ((unhide X7).later hbb)
  have M8 := hide ((unhide M7).later hbb)
  clear hbb B7 G7 P7 Y7 N7 X7 M7
  go_wp2_with (first | (refine wpList_load_row rfl 26 _ rfl w7.heap.size rfl 26 #[.int .i64 fk, .int .i64 fn, .string fs, .slice f fl fp] (0, 0) _ (unhide K8) Tryd.underlying26 rfl (by kernel_rfl) ?_) | (refine wpList_load_row rfl 26 _ rfl g0 rfl 26 #[.int .i64 fk, .int .i64 fn, .string fs, .slice c fl cp] (0, 0) _ (unhide P8) Tryd.underlying26 rfl (by kernel_rfl) ?_))
  generalize w7.alloc (.cells #[.int .i64 fk, .int .i64 fn, .string fs, .slice f fl fp] 26) = w8 at *
  generalize w7.heap.size = g2 at *
  refine (unhide EF f c fp cp w8 (unhide M8).rd (unhide N8).rd).mono ?_
  rintro r w9 ⟨rfl, hbb⟩
  have B9 := hide ((unhide B8).trans (hbb.mono (unhide B8).size))
  have G9 := hide (row_keep (unhide G8) hbb)
  have P9 := hide (row_keep (unhide P8) hbb)
  have Y9 := hide (row_keep (unhide Y8) hbb)
  have K9 := hide (row_keep (unhide K8) hbb)
  have N9 := hide ((unhide N8).later hbb)
  have X9 := hide ((unhide X8).later hbb)
  have M9 := hide ((unhide M8).later hbb)
  clear hbb B8 G8 P8 Y8 K8 N8 X8 M8
  go_wp2_with fail
  have hbb := below_drew (w := w9)
  have B10 := hide ((unhide B9).trans (hbb.mono (unhide B9).size))
  have G10 := hide (row_keep (unhide G9) hbb)
  have P10 := hide (row_keep (unhide P9) hbb)
  have Y10 := hide (row_keep (unhide Y9) hbb)
  have K10 := hide (row_keep (unhide K9) hbb)
  have N10 := hide ((unhide N9).later hbb)
  have X10 := hide ((unhide X9).later hbb)
  have M10 := hide ((unhide M9).later hbb)
  clear hbb B9 G9 P9 Y9 K9 N9 X9 M9
  have D0 := hide (show (fun w' => w'.heap[g1]? = some (.cells #[.int .i64 ek, .int .i64 en, .string es, .slice d el dp] 26 (0, 0)) ∧ w'.heap[w.heap.size]? = some (.cells #[.int .i64 ek, .int .i64 en, .string es, .slice b el cap] 44 (0, 0))) w9.drew from ⟨unhide Y10, unhide G10⟩)
  have A10 := hide (unhide TX _ (unhide B10))
  refine wp_region_held_drew (S := fun w' => w'.heap[g1]? = some (.cells #[.int .i64 ek, .int .i64 en, .string es, .slice d el dp] 26 (0, 0)) ∧ w'.heap[w.heap.size]? = some (.cells #[.int .i64 ek, .int .i64 en, .string es, .slice b el cap] 44 (0, 0))) (by kernel_rfl) (unhide D0) (fun hS => ?_)
  have HS := hide hS
  clear hS
  generalize w9.drew = w10 at *
  refine wpAnyH_take (i := 0) (v := .agg #[.int .i64 ek, .int .i64 en, .string es, .slice d el dp]) rfl (by kernel_rfl) (by kernel_rfl) (by kernel_rfl) (fun _ _ _ h => h) (yields_loadG (by rfl) 26 _ rfl g1 rfl 26 #[.int .i64 ek, .int .i64 en, .string es, .slice d el dp] _ (fun w h => h.1) Tryd.underlying26 rfl (by kernel_rfl)) (unhide HS) ?_
  go_simp
  refine wpAnyH_take (i := 1) (v := .agg #[.int .i64 ek, .int .i64 en, .string es, .slice b el cap]) rfl (by kernel_rfl) (by kernel_rfl) (by kernel_rfl) (fun _ _ _ h => h) (yields_loadG (by rfl) 44 _ rfl w.heap.size rfl 44 #[.int .i64 ek, .int .i64 en, .string es, .slice b el cap] _ (fun w h => h.2) Tryd.underlying44 rfl (by kernel_rfl)) (unhide HS) ?_
  go_simp
  refine wpAnyH_ready (rs := [2]) (by kernel_rfl) (by simp) ?_
  refine AllReadyH.cons rfl (fun K2 hK => ?_) AllReadyH.nil
  go_simp
  refine (unhide A10).mono ?_
  rintro r w11 ⟨c7, cp7, rfl, n7, hbb⟩
  have Z11 := hide (show RdX w11 0 e c7 from n7.rd.lower (Nat.zero_le _) _ _)
  clear n7 A10
  have B11 := hide ((unhide B10).trans (hbb.mono (unhide B10).size))
  have G11 := hide (row_keep (unhide G10) hbb)
  have P11 := hide (row_keep (unhide P10) hbb)
  have Y11 := hide (row_keep (unhide Y10) hbb)
  have K11 := hide (row_keep (unhide K10) hbb)
  have N11 := hide ((unhide N10).later hbb)
  have X11 := hide ((unhide X10).later hbb)
  have M11 := hide ((unhide M10).later hbb)
  clear hbb B10 G10 P10 Y10 K10 N10 X10 M10
  refine hK.out _ _ (⟨unhide Y11, unhide G11⟩) (fun hS => ?_)
  clear HS
  have HS := hide hS
  clear hS hK K2
  have A11 := hide (unhide EX d c7 dp cp7 w11 (unhide X11).rd (unhide Z11))
  clear Z11
  refine wpAnyH_ready (rs := [3]) (by kernel_rfl) (by simp) ?_
  refine AllReadyH.cons rfl (fun K2 hK => ?_) AllReadyH.nil
  go_simp
  refine (unhide A11).mono ?_
  rintro r w12 ⟨rfl, hbb⟩
  clear A11
  have B12 := hide ((unhide B11).trans (hbb.mono (unhide B11).size))
  have G12 := hide (row_keep (unhide G11) hbb)
  have P12 := hide (row_keep (unhide P11) hbb)
  have Y12 := hide (row_keep (unhide Y11) hbb)
  have K12 := hide (row_keep (unhide K11) hbb)
  have N12 := hide ((unhide N11).later hbb)
  have X12 := hide ((unhide X11).later hbb)
  have M12 := hide ((unhide M11).later hbb)
  clear hbb B11 G11 P11 Y11 K11 N11 X11 M11
  refine hK.out _ _ (⟨unhide Y12, unhide G12⟩) (fun hS => ?_)
  clear HS
  have HS := hide hS
  clear hS hK K2
  refine wpAnyH_take (i := 4) (v := .bool false) rfl (by kernel_rfl) (by kernel_rfl) (by kernel_rfl) (fun _ _ _ h => h) (Or.inl ⟨by rfl, fun w hc => ?_⟩) (unhide HS) ?_
  · clear hc; go_simp
  go_simp
  refine wpAnyH_done (by kernel_rfl) ?_ _
  clear HS
  have hg0 : g0 < bx := by omega
  have hw12 : g2 < w12.heap.size := (Array.getElem?_eq_some_iff.1 (unhide K12)).1
  have hw12' : g1 < w12.heap.size := (Array.getElem?_eq_some_iff.1 (unhide Y12)).1
  have hwm : cm ≤ w12.heap.size := by omega
  go_wp2_with (refine wpList_load_row rfl 26 _ rfl g1 rfl 26 #[.int .i64 ek, .int .i64 en, .string es, .slice d el dp] (0, 0) _ (unhide Y12) Tryd.underlying26 rfl (by kernel_rfl) ?_)
  refine (unhide MX d dp bx cx w12 (unhide X12) (by omega)).mono ?_
  rintro r w13 ⟨y, rfl, _, _, hb13, hk13⟩
  have hs13 := hb13.size
  have B13 := hide ((unhide B12).trans (hb13.mono (by omega)))
  have N13 := hide ((unhide N12).below (hb13.mono (by omega)))
  have M13 := hide (show HalfX w13 bm cm E f by obtain ⟨F, q1, q2, q3⟩ := unhide M12; exact ⟨F, OwX.keep E f F (fun q hq => hk13 q (by have := (q3 q hq).1; omega) (by have := (q3 q hq).2; omega)) q1, q2, q3⟩)
  have G13 := hide ((hb13.block _ (by omega)).trans (unhide G12))
  have P13 := hide ((hb13.block _ hg0).trans (unhide P12))
  have K13 := hide ((hk13 _ (by omega) hw12).trans (unhide K12))
  clear hb13 hk13 B12 N12 M12 G12 P12 K12 X12 Y12 hw12'
  have k0 := Lib.cell_of_heap (unhide K13) 0
  have k1 := Lib.cell_of_heap (unhide K13) 1
  have k2 := Lib.cell_of_heap (unhide K13) 2
  have k3 := Lib.cell_of_heap (unhide K13) 3
  have p0 := Lib.cell_of_heap (unhide P13) 0
  have p1 := Lib.cell_of_heap (unhide P13) 1
  have p2 := Lib.cell_of_heap (unhide P13) 2
  have p3 := Lib.cell_of_heap (unhide P13) 3
  go_wp2_with fail
  clear k0 k1 k2 k3 p0 p1 p2 p3
  refine (unhide EF f c fp cp w13 (unhide M13).rd (unhide N13).rd).mono ?_
  rintro r w14 ⟨rfl, hbb⟩
  have B14 := hide ((unhide B13).trans (hbb.mono (unhide B13).size))
  have G14 := hide (row_keep (unhide G13) hbb)
  have P14 := hide (row_keep (unhide P13) hbb)
  have K14 := hide (row_keep (unhide K13) hbb)
  have N14 := hide ((unhide N13).later hbb)
  have M14 := hide ((unhide M13).later hbb)
  clear hbb B13 G13 P13 K13 N13 M13
  have hw14 : g2 < w14.heap.size := (Array.getElem?_eq_some_iff.1 (unhide K14)).1
  go_wp2_with (refine wpList_load_row rfl 26 _ rfl g2 rfl 26 #[.int .i64 fk, .int .i64 fn, .string fs, .slice f fl fp] (0, 0) _ (unhide K14) Tryd.underlying26 rfl (by kernel_rfl) ?_)
  refine (unhide MF f fp bm cm w14 (unhide M14) (by omega)).mono ?_
  rintro r w15 ⟨y2, rfl, hmk, hh15, hb15, hk15⟩
  have B15 := hide ((unhide B14).trans (hb15.mono (by omega)))
  have N15 := hide ((unhide N14).below (hb15.mono (by omega)))
  have M15 := hide hh15
  have G15 := hide ((hb15.block _ (by omega)).trans (unhide G14))
  have P15 := hide ((hb15.block _ (by omega)).trans (unhide P14))
  have K15 := hide ((hk15 _ (by omega) hw14).trans (unhide K14))
  have MK := hide hmk
  clear hmk hh15 hb15 hk15 B14 N14 M14 G14 P14 K14 hw14
  go_wp2_with (refine wpList_load_row rfl 26 _ rfl g2 rfl 26 #[.int .i64 fk, .int .i64 fn, .string fs, .slice f fl fp] (0, 0) _ (unhide K15) Tryd.underlying26 rfl (by kernel_rfl) ?_)
  refine (unhide HF f fp y2 w15 (unhide MK) (unhide M15).rd).mono ?_
  rintro r w16 ⟨rfl, hbb⟩
  have B16 := hide ((unhide B15).trans (hbb.mono (unhide B15).size))
  have G16 := hide (row_keep (unhide G15) hbb)
  have P16 := hide (row_keep (unhide P15) hbb)
  have K16 := hide (row_keep (unhide K15) hbb)
  have N16 := hide ((unhide N15).later hbb)
  have M16 := hide ((unhide M15).later hbb)
  clear hbb B15 G15 P15 K15 N15 M15
  have A16 := hide (unhide TX w16 (unhide B16))
  go_wp2_with (refine wpList_load_row rfl 44 _ rfl w.heap.size rfl 44 #[.int .i64 ek, .int .i64 en, .string es, .slice b el cap] (0, 0) _ (unhide G16) Tryd.underlying44 rfl (by kernel_rfl) ?_)
  refine (unhide A16).mono ?_
  rintro r w17 ⟨d2, dp2, rfl, hnx, hbb⟩
  clear A16
  have V17 := hide (show ∃ F, OwX w17 e d2 F ∧ F.Nodup by obtain ⟨F, q1, q2, _⟩ := hnx; exact ⟨F, q1, q2⟩)
  clear hnx
  have B17 := hide ((unhide B16).trans (hbb.mono (unhide B16).size))
  have G17 := hide (row_keep (unhide G16) hbb)
  have P17 := hide (row_keep (unhide P16) hbb)
  have K17 := hide (row_keep (unhide K16) hbb)
  have N17 := hide ((unhide N16).later hbb)
  have M17 := hide ((unhide M16).later hbb)
  clear hbb B16 G16 P16 K16 N16 M16
  have A17 := hide (unhide FI d2 dp2 w17 (unhide B17) (unhide V17))
  clear V17
  go_wp2_with fail
  refine (unhide A17).mono ?_
  rintro r w18 ⟨f2, fp2, rfl, hnx, hbb⟩
  clear A17
  have T18 := hide hnx.half
  clear hnx
  have B18 := hide ((unhide B17).trans (hbb.mono (unhide B17).size))
  have G18 := hide (row_keep (unhide G17) hbb)
  have P18 := hide (row_keep (unhide P17) hbb)
  have K18 := hide (row_keep (unhide K17) hbb)
  have N18 := hide ((unhide N17).later hbb)
  have M18 := hide ((unhide M17).later hbb)
  clear hbb B17 G17 P17 K17 N17 M17
  have hbb := below_new w18 (.cells #[.int .i64 fk, .int .i64 fn, .string fs, .slice f2 fl fp2] 26)
  have H19 := hide (show (w18.alloc (.cells #[.int .i64 fk, .int .i64 fn, .string fs, .slice f2 fl fp2] 26)).heap[w18.heap.size]? = some (.cells #[.int .i64 fk, .int .i64 fn, .string fs, .slice f2 fl fp2] 26 (0, 0)) from Array.getElem?_push_size)
  have hl19 : w18.heap.size < (w18.alloc (.cells #[.int .i64 fk, .int .i64 fn, .string fs, .slice f2 fl fp2] 26)).heap.size := by simp
  have B19 := hide ((unhide B18).trans (hbb.mono (unhide B18).size))
  have G19 := hide (row_keep (unhide G18) hbb)
  have P19 := hide (row_keep (unhide P18) hbb)
  have K19 := hide (row_keep (unhide K18) hbb)
  have N19 := hide ((unhide N18).later hbb)
  have M19 := hide ((unhide M18).later hbb)
  have T19 := hide ((unhide T18).later hbb)
  clear hbb B18 G18 P18 K18 N18 M18 T18
  go_wp2_with (first | (refine wpList_load_row rfl 26 _ rfl w18.heap.size rfl 26 #[.int .i64 fk, .int .i64 fn, .string fs, .slice f2 fl fp2] (0, 0) _ (unhide H19) Tryd.underlying26 rfl (by kernel_rfl) ?_) | (refine wpList_load_row rfl 26 _ rfl g0 rfl 26 #[.int .i64 fk, .int .i64 fn, .string fs, .slice c fl cp] (0, 0) _ (unhide P19) Tryd.underlying26 rfl (by kernel_rfl) ?_))
  generalize w18.alloc (.cells #[.int .i64 fk, .int .i64 fn, .string fs, .slice f2 fl fp2] 26) = w19 at *
  generalize w18.heap.size = g3 at *
  refine (unhide EF f2 c fp2 cp w19 (unhide T19).rd (unhide N19).rd).mono ?_
  rintro r w20 ⟨rfl, hbb⟩
  have B20 := hide ((unhide B19).trans (hbb.mono (unhide B19).size))
  have G20 := hide (row_keep (unhide G19) hbb)
  have P20 := hide (row_keep (unhide P19) hbb)
  have K20 := hide (row_keep (unhide K19) hbb)
  have H20 := hide (row_keep (unhide H19) hbb)
  have N20 := hide ((unhide N19).later hbb)
  have M20 := hide ((unhide M19).later hbb)
  have T20 := hide ((unhide T19).later hbb)
  clear hbb B19 G19 P19 K19 H19 N19 M19 T19
  go_wp2_with (refine wpList_load_row rfl 26 _ rfl g2 rfl 26 #[.int .i64 fk, .int .i64 fn, .string fs, .slice f fl fp] (0, 0) _ (unhide K20) Tryd.underlying26 rfl (by kernel_rfl) ?_)
  refine (unhide HF f fp y2 w20 (unhide MK) (unhide M20).rd).mono ?_
  rintro r w21 ⟨rfl, hbb⟩
  have B21 := hide ((unhide B20).trans (hbb.mono (unhide B20).size))
  have G21 := hide (row_keep (unhide G20) hbb)
  have P21 := hide (row_keep (unhide P20) hbb)
  have K21 := hide (row_keep (unhide K20) hbb)
  have H21 := hide (row_keep (unhide H20) hbb)
  have N21 := hide ((unhide N20).later hbb)
  have M21 := hide ((unhide M20).later hbb)
  have T21 := hide ((unhide T20).later hbb)
  clear hbb B20 G20 P20 K20 H20 N20 M20 T20
  go_wp2
  go_ret
  exact ⟨rfl, unhide B21⟩

set_option maxRecDepth 100000 in
theorem lifted (os : Os) (started : os.Started) (H : Type) (enc : TypeId × Value → H) :
    ReturnsInHanded {} Tryd.checked os 6 .any (fun w args => (Rows.fnExactFoldSpec.pre enc Tryd.prog Tryd.f6 [] false w args ∧ laidMetH Tryd.prog Rows.fnExactFoldRow.laid w) ∧ sizedMet enc Tryd.prog Tryd.f6 (OpenSpec.ofChange Rows.fnExactFoldSpec) false w args)
      (Rows.fnExactFoldSpec.post enc Tryd.prog Tryd.f6 false true false false) := by
  refine returnsInHanded_of_change_and (C := Tryd.checked) (X := fun w _ => laidMetH Tryd.prog Rows.fnExactFoldRow.laid w) (fun _ _ _ hh h => h.of_heap hh) own started (by kernel_rfl) Tryd.func6
    (ChangeSpec.witness_shaped (enc := enc) (C := Tryd.checked) (os := os) (X := fun w _ => laidMetH Tryd.prog Rows.fnExactFoldRow.laid w) false (World.laidAll Tryd.prog os Rows.fnExactFoldRow.laid) #[.agg #[.int .i64 0, .int .i64 0, .string ByteArray.empty, .slice none 0 0]] 8 (World.laidAll_os _ _ _)
      (World.shaped_of_ZipB (by kernel_rfl) (by kernel_rfl)) (by kernel_rfl) (by kernel_rfl) (by kernel_rfl)
      (by rw [MakeChecks.laidMetH_plain _ _ _ (by kernel_rfl)]; exact laidMet_laidAll _ (by kernel_rfl) (by kernel_rfl))) ?_
  intro W base args ds gs before hval0 hW _ _ hL _
  have hval : ∀ (j : Nat) t v, Tryd.f6.params[j]? = some t → args[j]? = some v → Value.okWide Tryd.prog W .any base t v := hval0
  have hW' := hW
  obtain ⟨p, q, hA0, hV, rfl, hfz, hnd⟩ := hW
  have hA : DataW.TrodAll enc Tryd.prog W 0 (fun _ => true) true Tryd.f6.params.toList args.toList ds p := hA0
  rw [Tryd.params6] at hA hval
  obtain ⟨v0, vs0, d0, ds0, p0, q0, hargs, rfl, rfl, h0, r0⟩ := trodAll_cons hA
  obtain ⟨rfl, rfl, rfl⟩ := trodAll_nil r0
  obtain rfl : args = #[v0] := by cases args; simp_all
  have kV := hV
  obtain ⟨gv, tv, cv, fv, dv, pv, gu, tu, cu, fu, du, pu, rfl, _⟩ := trodVars_two hV
  have k0 := h0
  have lt0 : ∀ x ∈ p0, x.block < W.heap.size := by obtain ⟨m, hm⟩ := k0; exact DataW.trod_lt m _ _ _ hm
  obtain ⟨o0, b0, c0, rfl, g0, f0⟩ := open_ex (hval 0 44 v0 rfl rfl) h0
  clear hA0 hval0
  refine (walk o0 b0 c0 W g0 f0 (tab_of_laid hL)).mono fun e W' ⟨he, bel⟩ => ?_
  subst he
  exact ⟨_, rfl, _, _, _, [], _, _, hW', trodAll_mk1 (shut_bool Tryd.underlying4 _), (trodAll_cons_mk (Below.trod laidOut (by kernel_rfl) (of_decide_eq_true (by kernel_rfl)) k0 bel lt0) trodAll_mk0), bel.trodVars laidOut (by kernel_rfl) kV, bel.frame _, fun h => by cases h⟩

theorem proved : Rows.FnExactFoldSaid :=
  OpenClaim.holds_of_wide 6 Tryd.f6 rfl rfl rfl rfl rfl rfl rfl ⟨rfl, rfl, rfl, rfl, rfl⟩ rfl rfl rfl rfl rfl (by kernel_rfl) Tryd.func6 (by kernel_rfl)
    (of_decide_eq_true (by kernel_rfl)) (by unfold Func.isWrapper; first | (rw [if_pos (by decide +kernel)]; kernel_rfl) | (rw [if_neg (by decide +kernel)]; exact ⟨rfl, rfl⟩))
    (fun os started H enc _ => lifted os started H enc)
end Go.Proofs.YtkolflcjkofleaaDoor.fnExactFold

namespace Go.Proofs.YtkolflcjkofleaaDoor
theorem fnExactFold_holds : Rows.FnExactFoldCardSaid :=
  Claim7.holds_tied_plain_at .later [] [.data, .data] true (true, "bb0bc1b0fb6fad9ee741dbe94bc6d927b19996896d356a68a721711bb659e7ab") true
    fnExactFold.proved (fun _ h => by cases h) (by kernel_rfl) (fun _ h => by cases h) fnExactFold_row_tie rfl ⟨rfl, rfl⟩ (by kernel_rfl) rfl
    (fun f fn hf hfn => by
      obtain rfl : f = 6 := Option.some.inj ((show Tryd.prog.funcNamed "loop.example/g00329/laws.FnExactFold" = some 6 by kernel_rfl).symm.trans hf) |>.symm
      obtain rfl : fn = Tryd.f6 := (Option.some.inj (Tryd.func6.symm.trans hfn)).symm
      exact ⟨by kernel_rfl, fun j t ht => by
        rw [Tryd.params6] at ht
        have hm : t ∈ [44] := by simpa using Array.mem_of_getElem? ht
        have hall : ([44].all fun u => !Tryd.prog.wantsStandIn u) = true := by kernel_rfl
        exact (show Tryd.prog.wantsStandIn t = false by simpa using List.all_eq_true.1 hall t hm)⟩)
    (by kernel_rfl)
#print axioms fnExactFold_holds
end Go.Proofs.YtkolflcjkofleaaDoor
