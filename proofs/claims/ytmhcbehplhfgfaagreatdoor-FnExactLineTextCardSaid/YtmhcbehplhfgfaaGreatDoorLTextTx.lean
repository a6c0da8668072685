/- For every line the program's LineText answers as the model's and writes into no argument: the law FnExactLineText returns true at every argument (where the line's texts and lists together hold more than 1048576 letters and parts it answers true with no call of the program); the tables that the card lists are as the program's text lays them. -/
import Derived.Test.YtmhcbehplhfgfaaGreatDoorRows
import Derived.Test.YtmhcbehplhfgfaaGreatDoorTxA
import Derived.Test.YtmhcbehplhfgfaaGreatDoorTxB
import Derived.Test.YtmhcbehplhfgfaaGreatDoorTxC
import Derived.Test.YtmhcbehplhfgfaaGreatDoorTxD
import Derived.Test.YtmhcbehplhfgfaaGreatDoorTxE
import Derived.Test.YtmhcbehplhfgfaaGreatDoorTxF
import Derived.Test.YtmhcbehplhfgfaaGreatDoorTxG
import Derived.Test.YtmhcbehplhfgfaaGreatDoorTxH
import Derived.Test.YtmhcbehplhfgfaaGreatDoorTxI
import Derived.Test.YtmhcbehplhfgfaaGreatDoorTxJ
import Derived.Test.YtmhcbehplhfgfaaGreatDoorTxK
import Derived.Test.YtmhcbehplhfgfaaGreatDoorTxL
import Derived.Test.YtmhcbehplhfgfaaGreatDoorTxM
import Derived.Test.YtmhcbehplhfgfaaGreatDoorTxN
import Derived.Test.YtmhcbehplhfgfaaGreatDoorTxO
import Derived.Test.YtmhcbehplhfgfaaGreatDoorTxP
import Derived.Deep.RegionHeld
import Derived.OrdersHeld
import Derived.Test.YtmhcbehplhfgfaaGreatDoorTie
import Derived.Test.YtmhcbehplhfgfaaGreatDoorCards
import Derived.SevenTiedAt
import Derived.Lay
import Derived.MakeChecks
import Derived.OpenVars
import Derived.WalkKit
import Derived.ProofKit
import Derived.OpenShut
import Derived.ShutString
import Derived.ChangeOld
import Derived.Below

namespace Go.Proofs.YtmhcbehplhfgfaaGreatDoor.fnExactLineText
open Go.ChangeShapes Go.WideShapes Go.ChangeAt Go.RowKit
open Go.ChangeMaps (open_string shut_string)
set_option linter.unusedVariables false
set_option maxRecDepth 8000

set_option maxHeartbeats 16000000 in
theorem walk (x : Ln) (p : La) (w : World) (hr : RdL w x p) (hf : FtL x) (ht : TabL w) : Calls Tryz.prog 3 #[.agg (x.cs p)] w fun r w' => r = .returned (.bool true) ∧ Below w.heap.size w w' := by
  have hzl : x.zz ≤ 1048576 → (Ex.mk 0 0 E0 x.l).sz ≤ 1048576 := fun q => by
    have h2 := sz_is ⟨0, 0, E0, x.l⟩
    have h3 : (Ex.mk 0 0 E0 x.l).l = x.l := rfl
    have h4 : (Ex.mk 0 0 E0 x.l).s.size = 0 := rfl
    rw [h3, h4] at h2
    unfold Ln.zz at q
    omega
  have hB := below_new w (.cells (x.cs p) 28)
  have B0 := hide hB
  have G0 := hide (show (w.alloc (.cells (x.cs p) 28)).heap[w.heap.size]? = some (.cells (x.cs p) 28 (0, 0)) from Array.getElem?_push_size)
  have S0 := hide (szL_any x p 1048576 _ (hr.later hB) hf (by omega) (by omega))
  have TO := hide (fun (q : x.zz ≤ 1048576) wr (h : Below w.heap.size w wr) => toL_any x p wr (hr.later h) (SzL.of q) (hzl q))
  have SP := hide (fun (q : x.zz ≤ 1048576) wr (u1 : Option Addr) (u2 : Nat) (u3 : Option Addr) (u4 : Nat) (u5 : Option Addr) (u6 : Nat) (r : RdL wr x ⟨u1, u2, u3, u4, u5, u6⟩) => ltxS_any x ⟨u1, u2, u3, u4, u5, u6⟩ wr r (SzL.of q))
  have IM := hide (fun (q : x.zz ≤ 1048576) wr (h : Below w.heap.size w wr) (u1 : Option Addr) (u2 : Nat) (u3 : Option Addr) (u4 : Nat) (u5 : Option Addr) (u6 : Nat) (r : RdL wr x ⟨u1, u2, u3, u4, u5, u6⟩) => ltxI_any x ⟨u1, u2, u3, u4, u5, u6⟩ wr r (SzL.of q) (ht.next h))
  have EQ := hide (fun (q : x.zz ≤ 1048576) wr (u1 : Option Addr) (u2 : Nat) (u3 : Option Addr) (u4 : Nat) (u5 : Option Addr) (u6 : Nat) (v1 : Option Addr) (v2 : Nat) (v3 : Option Addr) (v4 : Nat) (v5 : Option Addr) (v6 : Nat) (r1 : RdL wr x ⟨u1, u2, u3, u4, u5, u6⟩) (r2 : RdL wr x ⟨v1, v2, v3, v4, v5, v6⟩) => eqL_same x ⟨u1, u2, u3, u4, u5, u6⟩ ⟨v1, v2, v3, v4, v5, v6⟩ wr r1 r2 (SzL.of q) (hzl q))
  clear hr hf ht hB hzl
  obtain ⟨p1, p2, p3, p4, p5, p6⟩ := p
  unfold Ln.cs at B0 G0 S0 TO SP IM EQ ⊢
  try simp only at B0 G0 S0 TO SP IM EQ ⊢
  generalize lnTx x = tx at *
  generalize x.zz = z at *
  generalize x.src.f = sf at *
  generalize x.src.r = sr at *
  generalize x.src.e.k = sk at *
  generalize x.src.e.n = sn at *
  generalize x.src.e.s = ss at *
  generalize x.src.e.l.length = sl at *
  generalize x.dst.f = df at *
  generalize x.dst.r = dr at *
  generalize x.dst.e.k = dk at *
  generalize x.dst.e.n = dn at *
  generalize x.dst.e.s = ds at *
  generalize x.dst.e.l.length = dl at *
  generalize x.k = k at *
  generalize x.s = s at *
  generalize x.op = op at *
  generalize x.n = n at *
  generalize x.l.length = ll at *
  generalize hw0 : w.alloc (.cells #[.int .i64 k, .string s, .int .i64 op, .int .i64 sf, .int .i64 sr, .int .i64 sk, .int .i64 sn, .string ss, .slice p1 sl p2, .int .i64 df, .int .i64 dr, .int .i64 dk, .int .i64 dn, .string ds, .slice p3 dl p4, .int .i64 n, .slice p5 ll p6] 28) = W at *
  unfold lessX at S0
  go_enter Tryz.func3, Tryz.ntmps3
  go_wp2_with (first | (refine wpList_load_row rfl 28 _ rfl w.heap.size rfl 28 #[.int .i64 k, .string s, .int .i64 op, .int .i64 sf, .int .i64 sr, .int .i64 sk, .int .i64 sn, .string ss, .slice p1 sl p2, .int .i64 df, .int .i64 dr, .int .i64 dk, .int .i64 dn, .string ds, .slice p3 dl p4, .int .i64 n, .slice p5 ll p6] (0, 0) _ (unhide G0) Tryz.underlying28 rfl (by kernel_rfl) ?_) | (simp only [hw0]))
  refine (unhide S0).mono ?_
  rintro r w1 ⟨rfl, hbb⟩
  have B1 := hide ((unhide B0).trans (hbb.mono (unhide B0).size))
  have G1 := hide (row_keep (unhide G0) hbb)
  clear hbb B0 G0
  clear S0
  by_cases hneg : (1048576 : Int) - (z : Int) < 0
  · rw [if_pos hneg]
    go_wp2
    go_ret
    exact ⟨rfl, unhide B1⟩
  rw [if_neg hneg]
  have hz1 : z ≤ 1048576 := by omega
  obtain ⟨lf, hlf⟩ : ∃ lf : Nat, (1048576 : Int) - (z : Int) = (lf : Int) := ⟨1048576 - z, by omega⟩
  rw [hlf]
  have hlf2 : ¬ ((lf : Int) < 0) := by omega
  have TO := hide (unhide TO hz1)
  have SP := hide (unhide SP hz1)
  have IM := hide (unhide IM hz1)
  have EQ := hide (unhide EQ hz1)
  clear hneg hlf hz1
  have A1 := hide (unhide TO w1 (unhide B1))
  go_wp2_with (refine wpList_load_row rfl 28 _ rfl w.heap.size rfl 28 #[.int .i64 k, .string s, .int .i64 op, .int .i64 sf, .int .i64 sr, .int .i64 sk, .int .i64 sn, .string ss, .slice p1 sl p2, .int .i64 df, .int .i64 dr, .int .i64 dk, .int .i64 dn, .string ds, .slice p3 dl p4, .int .i64 n, .slice p5 ll p6] (0, 0) _ (unhide G1) Tryz.underlying28 rfl (by kernel_rfl) ?_)
  refine (unhide A1).mono ?_
  rintro r w2 ⟨⟨a1, a2, a3, a4, a5, a6⟩, rfl, hn, hbb⟩
  have X2 := hide (unhide SP w2 a1 a2 a3 a4 a5 a6 (hn.rd))
  clear A1 hn
  have B2 := hide ((unhide B1).trans (hbb.mono (unhide B1).size))
  have G2 := hide (row_keep (unhide G1) hbb)
  clear hbb B1 G1
  go_wp2_with fail
  refine (unhide X2).mono ?_
  rintro r w3 ⟨rfl, hbb⟩
  clear X2
  have B3 := hide ((unhide B2).trans (hbb.mono (unhide B2).size))
  have G3 := hide (row_keep (unhide G2) hbb)
  clear hbb B2 G2
  have A3 := hide (unhide TO w3 (unhide B3))
  go_wp2_with (refine wpList_load_row rfl 28 _ rfl w.heap.size rfl 28 #[.int .i64 k, .string s, .int .i64 op, .int .i64 sf, .int .i64 sr, .int .i64 sk, .int .i64 sn, .string ss, .slice p1 sl p2, .int .i64 df, .int .i64 dr, .int .i64 dk, .int .i64 dn, .string ds, .slice p3 dl p4, .int .i64 n, .slice p5 ll p6] (0, 0) _ (unhide G3) Tryz.underlying28 rfl (by kernel_rfl) ?_)
  refine (unhide A3).mono ?_
  rintro r w4 ⟨⟨e1, e2, e3, e4, e5, e6⟩, rfl, hn, hbb⟩
  have X4 := hide (hn.rd)
  clear A3 hn
  have B4 := hide ((unhide B3).trans (hbb.mono (unhide B3).size))
  have G4 := hide (row_keep (unhide G3) hbb)
  clear hbb B3 G3
  have hbb := below_new w4 (.cells #[.int .i64 k, .string s, .int .i64 op, .int .i64 sf, .int .i64 sr, .int .i64 sk, .int .i64 sn, .string ss, .slice e1 sl e2, .int .i64 df, .int .i64 dr, .int .i64 dk, .int .i64 dn, .string ds, .slice e3 dl e4, .int .i64 n, .slice e5 ll e6] 37)
  have H5 := hide (show (w4.alloc (.cells #[.int .i64 k, .string s, .int .i64 op, .int .i64 sf, .int .i64 sr, .int .i64 sk, .int .i64 sn, .string ss, .slice e1 sl e2, .int .i64 df, .int .i64 dr, .int .i64 dk, .int .i64 dn, .string ds, .slice e3 dl e4, .int .i64 n, .slice e5 ll e6] 37)).heap[w4.heap.size]? = some (.cells #[.int .i64 k, .string s, .int .i64 op, .int .i64 sf, .int .i64 sr, .int .i64 sk, .int .i64 sn, .string ss, .slice e1 sl e2, .int .i64 df, .int .i64 dr, .int .i64 dk, .int .i64 dn, .string ds, .slice e3 dl e4, .int .i64 n, .slice e5 ll e6] 37 (0, 0)) from Array.getElem?_push_size)
  have B5 := hide ((unhide B4).trans (hbb.mono (unhide B4).size))
  have G5 := hide (row_keep (unhide G4) hbb)
  have X5 := hide ((unhide X4).later hbb)
  clear hbb B4 G4 X4
  have A5 := hide (unhide IM _ (unhide B5) e1 e2 e3 e4 e5 e6 (unhide X5))
  go_wp2_with (refine wpList_load_row rfl 37 _ rfl w4.heap.size rfl 37 #[.int .i64 k, .string s, .int .i64 op, .int .i64 sf, .int .i64 sr, .int .i64 sk, .int .i64 sn, .string ss, .slice e1 sl e2, .int .i64 df, .int .i64 dr, .int .i64 dk, .int .i64 dn, .string ds, .slice e3 dl e4, .int .i64 n, .slice e5 ll e6] (0, 0) _ (unhide H5) Tryz.underlying37 rfl (by kernel_rfl) ?_)
  generalize w4.alloc (.cells #[.int .i64 k, .string s, .int .i64 op, .int .i64 sf, .int .i64 sr, .int .i64 sk, .int .i64 sn, .string ss, .slice e1 sl e2, .int .i64 df, .int .i64 dr, .int .i64 dk, .int .i64 dn, .string ds, .slice e3 dl e4, .int .i64 n, .slice e5 ll e6] 37) = w5 at *
  generalize w4.heap.size = g0 at *
  refine (unhide A5).mono ?_
  rintro r w6 ⟨rfl, hbb⟩
  clear A5
  have B6 := hide ((unhide B5).trans (hbb.mono (unhide B5).size))
  have G6 := hide (row_keep (unhide G5) hbb)
  have H6 := hide (row_keep (unhide H5) hbb)
  have X6 := hide ((unhide X5).later hbb)
  clear hbb B5 G5 H5 X5
  go_wp2_with fail
  have hbb := below_drew (w := w6)
  have B7 := hide ((unhide B6).trans (hbb.mono (unhide B6).size))
  have G7 := hide (row_keep (unhide G6) hbb)
  have H7 := hide (row_keep (unhide H6) hbb)
  have X7 := hide ((unhide X6).later hbb)
  clear hbb B6 G6 H6 X6
  have D0 := hide (show (fun w' => w'.heap[w.heap.size]? = some (.cells #[.int .i64 k, .string s, .int .i64 op, .int .i64 sf, .int .i64 sr, .int .i64 sk, .int .i64 sn, .string ss, .slice p1 sl p2, .int .i64 df, .int .i64 dr, .int .i64 dk, .int .i64 dn, .string ds, .slice p3 dl p4, .int .i64 n, .slice p5 ll p6] 28 (0, 0)) ∧ w'.heap[g0]? = some (.cells #[.int .i64 k, .string s, .int .i64 op, .int .i64 sf, .int .i64 sr, .int .i64 sk, .int .i64 sn, .string ss, .slice e1 sl e2, .int .i64 df, .int .i64 dr, .int .i64 dk, .int .i64 dn, .string ds, .slice e3 dl e4, .int .i64 n, .slice e5 ll e6] 37 (0, 0))) w6.drew from ⟨unhide G7, unhide H7⟩)
  refine wp_region_held_drew (S := fun w' => w'.heap[w.heap.size]? = some (.cells #[.int .i64 k, .string s, .int .i64 op, .int .i64 sf, .int .i64 sr, .int .i64 sk, .int .i64 sn, .string ss, .slice p1 sl p2, .int .i64 df, .int .i64 dr, .int .i64 dk, .int .i64 dn, .string ds, .slice p3 dl p4, .int .i64 n, .slice p5 ll p6] 28 (0, 0)) ∧ w'.heap[g0]? = some (.cells #[.int .i64 k, .string s, .int .i64 op, .int .i64 sf, .int .i64 sr, .int .i64 sk, .int .i64 sn, .string ss, .slice e1 sl e2, .int .i64 df, .int .i64 dr, .int .i64 dk, .int .i64 dn, .string ds, .slice e3 dl e4, .int .i64 n, .slice e5 ll e6] 37 (0, 0))) (by kernel_rfl) (unhide D0) (fun hS => ?_)
  have HS := hide hS
  clear hS D0
  generalize w6.drew = w7 at *
  refine wpAnyH_take (i := 0) (v := .agg #[.int .i64 k, .string s, .int .i64 op, .int .i64 sf, .int .i64 sr, .int .i64 sk, .int .i64 sn, .string ss, .slice e1 sl e2, .int .i64 df, .int .i64 dr, .int .i64 dk, .int .i64 dn, .string ds, .slice e3 dl e4, .int .i64 n, .slice e5 ll e6]) rfl (by kernel_rfl) (by kernel_rfl) (by kernel_rfl) (fun _ _ _ h => h) (yields_loadG (by rfl) 37 _ rfl g0 rfl 37 #[.int .i64 k, .string s, .int .i64 op, .int .i64 sf, .int .i64 sr, .int .i64 sk, .int .i64 sn, .string ss, .slice e1 sl e2, .int .i64 df, .int .i64 dr, .int .i64 dk, .int .i64 dn, .string ds, .slice e3 dl e4, .int .i64 n, .slice e5 ll e6] _ (fun w h => h.2) Tryz.underlying37 rfl (by kernel_rfl)) (unhide HS) ?_
  go_simp
  refine wpAnyH_take (i := 1) (v := .agg #[.int .i64 k, .string s, .int .i64 op, .int .i64 sf, .int .i64 sr, .int .i64 sk, .int .i64 sn, .string ss, .slice p1 sl p2, .int .i64 df, .int .i64 dr, .int .i64 dk, .int .i64 dn, .string ds, .slice p3 dl p4, .int .i64 n, .slice p5 ll p6]) rfl (by kernel_rfl) (by kernel_rfl) (by kernel_rfl) (fun _ _ _ h => h) (yields_loadG (by rfl) 28 _ rfl w.heap.size rfl 28 #[.int .i64 k, .string s, .int .i64 op, .int .i64 sf, .int .i64 sr, .int .i64 sk, .int .i64 sn, .string ss, .slice p1 sl p2, .int .i64 df, .int .i64 dr, .int .i64 dk, .int .i64 dn, .string ds, .slice p3 dl p4, .int .i64 n, .slice p5 ll p6] _ (fun w h => h.1) Tryz.underlying28 rfl (by kernel_rfl)) (unhide HS) ?_
  go_simp
  refine wpAnyH_ready (rs := [2]) (by kernel_rfl) (by simp) ?_
  refine AllReadyH.cons rfl (fun K2 hK => ?_) AllReadyH.nil
  go_simp
  refine (unhide TO w7 (unhide B7)).mono ?_
  rintro r w8 ⟨⟨d1, d2, d3, d4, d5, d6⟩, rfl, hn, hbb⟩
  have Y8 := hide (hn.rd)
  clear hn
  have B8 := hide ((unhide B7).trans (hbb.mono (unhide B7).size))
  have G8 := hide (row_keep (unhide G7) hbb)
  have H8 := hide (row_keep (unhide H7) hbb)
  have X8 := hide ((unhide X7).later hbb)
  clear hbb B7 G7 H7 X7
  refine hK.out _ _ (⟨unhide G8, unhide H8⟩) (fun hS => ?_)
  clear HS
  have HS := hide hS
  clear hS hK K2
  refine wpAnyH_ready (rs := [3]) (by kernel_rfl) (by simp) ?_
  refine AllReadyH.cons rfl (fun K2 hK => ?_) AllReadyH.nil
  go_simp
  refine (unhide EQ w8 e1 e2 e3 e4 e5 e6 d1 d2 d3 d4 d5 d6 (unhide X8) (unhide Y8)).mono ?_
  rintro r w9 ⟨rfl, hbb⟩
  clear Y8
  have B9 := hide ((unhide B8).trans (hbb.mono (unhide B8).size))
  have G9 := hide (row_keep (unhide G8) hbb)
  have H9 := hide (row_keep (unhide H8) hbb)
  have X9 := hide ((unhide X8).later hbb)
  clear hbb B8 G8 H8 X8
  refine hK.out _ _ (⟨unhide G9, unhide H9⟩) (fun hS => ?_)
  clear HS
  have HS := hide hS
  clear hS hK K2
  refine wpAnyH_take (i := 4) (v := .bool false) rfl (by kernel_rfl) (by kernel_rfl) (by kernel_rfl) (fun _ _ _ h => h) (Or.inl ⟨by rfl, fun w hc => ?_⟩) (unhide HS) ?_
  · clear hc; go_simp
  go_simp
  refine wpAnyH_done (by kernel_rfl) ?_ _
  clear HS
  go_wp2
  go_ret
  exact ⟨rfl, unhide B9⟩

set_option maxRecDepth 100000 in
theorem lifted (os : Os) (started : os.Started) (H : Type) (enc : TypeId × Value → H) :
    ReturnsInHanded {} Tryz.checked os 3 .any (fun w args => (Rows.fnExactLineTextSpec.pre enc Tryz.prog Tryz.f3 [] false w args ∧ laidMetH Tryz.prog Rows.fnExactLineTextRow.laid w) ∧ sizedMet enc Tryz.prog Tryz.f3 (OpenSpec.ofChange Rows.fnExactLineTextSpec) false w args)
      (Rows.fnExactLineTextSpec.post enc Tryz.prog Tryz.f3 false true false false) := by
  refine returnsInHanded_of_change_and (C := Tryz.checked) (X := fun w _ => laidMetH Tryz.prog Rows.fnExactLineTextRow.laid w) (fun _ _ _ hh h => h.of_heap hh) own started (by kernel_rfl) Tryz.func3
    (ChangeSpec.witness_shaped (enc := enc) (C := Tryz.checked) (os := os) (X := fun w _ => laidMetH Tryz.prog Rows.fnExactLineTextRow.laid w) false (World.laidAll Tryz.prog os Rows.fnExactLineTextRow.laid) #[.agg #[.int .i64 0, .string ByteArray.empty, .int .i64 0, .int .i64 0, .int .i64 0, .int .i64 0, .int .i64 0, .string ByteArray.empty, .slice none 0 0, .int .i64 0, .int .i64 0, .int .i64 0, .int .i64 0, .string ByteArray.empty, .slice none 0 0, .int .i64 0, .slice none 0 0]] 8 (World.laidAll_os _ _ _)
      (World.shaped_of_ZipB (by kernel_rfl) (by kernel_rfl)) (by kernel_rfl) (by kernel_rfl) (by kernel_rfl)
      (by rw [MakeChecks.laidMetH_plain _ _ _ (by kernel_rfl)]; exact laidMet_laidAll _ (by kernel_rfl) (by kernel_rfl))) ?_
  intro W base args ds gs before hval0 hW _ _ hL _
  have hval : ∀ (j : Nat) t v, Tryz.f3.params[j]? = some t → args[j]? = some v → Value.okWide Tryz.prog W .any base t v := hval0
  have hW' := hW
  obtain ⟨p, q, hA0, hV, rfl, hfz, hnd⟩ := hW
  have hA : DataW.TrodAll enc Tryz.prog W 0 (fun _ => true) true Tryz.f3.params.toList args.toList ds p := hA0
  rw [Tryz.params3] at hA hval
  obtain ⟨v0, vs0, d0, ds0, p0, q0, hargs, rfl, rfl, h0, r0⟩ := trodAll_cons hA
  obtain ⟨rfl, rfl, rfl⟩ := trodAll_nil r0
  obtain rfl : args = #[v0] := by cases args; simp_all
  have kV := hV
  obtain ⟨dv, du, dt, ds, dr, rfl⟩ := varsL_5 hV
  have k0 := h0
  have lt0 : ∀ x ∈ p0, x.block < W.heap.size := by obtain ⟨m, hm⟩ := k0; exact DataW.trod_lt m _ _ _ hm
  obtain ⟨o0, b0, rfl, g0, f0⟩ := open_ln (hval 0 28 v0 rfl rfl) h0
  clear hA0 hval0
  refine (walk o0 b0 W g0 f0 (tabl_of hL)).mono fun e W' ⟨he, bel⟩ => ?_
  subst he
  exact ⟨_, rfl, _, _, _, [], _, _, hW', trodAll_mk1 (shut_bool Tryz.underlying4 _), (trodAll_cons_mk (Below.trod laidOut (by kernel_rfl) (of_decide_eq_true (by kernel_rfl)) k0 bel lt0) trodAll_mk0), bel.trodVars laidOut (by kernel_rfl) kV, bel.frame _, fun h => by cases h⟩

theorem proved : Rows.FnExactLineTextSaid :=
  OpenClaim.holds_of_wide 3 Tryz.f3 rfl rfl rfl rfl rfl rfl rfl ⟨rfl, rfl, rfl, rfl, rfl⟩ rfl rfl rfl rfl rfl (by kernel_rfl) Tryz.func3 (by kernel_rfl)
    (of_decide_eq_true (by kernel_rfl)) (by unfold Func.isWrapper; first | (rw [if_pos (by decide +kernel)]; kernel_rfl) | (rw [if_neg (by decide +kernel)]; exact ⟨rfl, rfl⟩))
    (fun os started H enc _ => lifted os started H enc)
end Go.Proofs.YtmhcbehplhfgfaaGreatDoor.fnExactLineText

namespace Go.Proofs.YtmhcbehplhfgfaaGreatDoor
theorem fnExactLineText_holds : Rows.FnExactLineTextCardSaid :=
  Claim7.holds_tied_plain_at .later [] [.data, .data, .data, .data, .data, .data, .data, .data] true (true, "1723f40c447a0654c857d5c288e3146627512ac64e55e56146a8fdfcbc0e57dd") true
    fnExactLineText.proved (fun _ h => by cases h) (by kernel_rfl) (fun _ h => by cases h) fnExactLineText_row_tie rfl ⟨rfl, rfl⟩ (by kernel_rfl) rfl
    (fun f fn hf hfn => by
      obtain rfl : f = 3 := Option.some.inj ((show Tryz.prog.funcNamed "loop.example/g00329/laws.FnExactLineText" = some 3 by kernel_rfl).symm.trans hf) |>.symm
      obtain rfl : fn = Tryz.f3 := (Option.some.inj (Tryz.func3.symm.trans hfn)).symm
      exact ⟨by kernel_rfl, fun j t ht => by
        rw [Tryz.params3] at ht
        have hm : t ∈ [28] := by simpa using Array.mem_of_getElem? ht
        have hall : ([28].all fun u => !Tryz.prog.wantsStandIn u) = true := by kernel_rfl
        exact (show Tryz.prog.wantsStandIn t = false by simpa using List.all_eq_true.1 hall t hm)⟩)
    (by kernel_rfl)
#print axioms fnExactLineText_holds
end Go.Proofs.YtmhcbehplhfgfaaGreatDoor
