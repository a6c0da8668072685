/- For every slice of bytes: what the program puts in the place of names in a term drawn of it is the same term as the model has, which is nothing or right, and what it says another drawn term is worth, with the bases, names and values drawn beside it, is what the model says, a word: the law FnPutIn returns true at every argument (of more than 1048576 bytes the law itself answers true); the condition is what the card ties: the tables opWords and regWords are as the text of the program lays them. -/
import Derived.Test.YtkolflcjkofleaaDoorRows
import Derived.Test.YtkolflcjkofleaaDoorTxA
import Derived.Test.YtkolflcjkofleaaDoorTxC
import Derived.Test.YtkolflcjkofleaaDoorTxE
import Derived.Test.YtkolflcjkofleaaDoorTxF
import Derived.Test.YtkolflcjkofleaaDoorTxG
import Derived.Test.YtkolflcjkofleaaDoorTxH
import Derived.Test.YtkolflcjkofleaaDoorTxI
import Derived.Test.YtkolflcjkofleaaDoorTxK
import Derived.Test.YtkolflcjkofleaaDoorTxL
import Derived.Deep.RegionHeld
import Derived.OrdersHeld
import Derived.Test.YtkolflcjkofleaaDoorTie
import Derived.Test.YtkolflcjkofleaaDoorCards
import Derived.SevenTiedAt
import Derived.Lay
import Derived.MakeChecks
import Derived.OpenVars
import Derived.WalkKit
import Derived.ProofKit
import Derived.OpenShut
import Derived.ShutString
import Derived.ChangeOld
import Derived.Below
namespace Go.Proofs.YtkolflcjkofleaaDoor.fnPutIn
open Go.ChangeShapes Go.WideShapes Go.ChangeAt Go.RowKit
open Go.ChangeMaps (open_string shut_string)
set_option linter.unusedVariables false
set_option maxRecDepth 8000

theorem putA_szQ (here : Ex) (L : List ByteArray) (vals : List Ex) (e : Ex) : (putA here L vals e).sz ≤ 1048576 := by
  unfold putA
  split
  · rename_i h
    exact Nat.le_trans (ok_sz 6 _ h.2.2.2.2) (by decide)
  · show zX.sz ≤ 1048576
    unfold zX
    rw [sz_leaf]
    decide
theorem putA_okQ (here : Ex) (L : List ByteArray) (vals : List Ex) (e : Ex) : (putA here L vals e).k = 0 ∨ okF 6 false (putA here L vals e) = true := by
  unfold putA
  split
  · rename_i h
    exact .inr h.2.2.2.2
  · exact .inl rfl
theorem worthA_inQ (bs : List Int) (L : List ByteArray) (vs : List Int) (e : Ex) : 0 ≤ (worthA bs L vs e).getD 0 ∧ (worthA bs L vs e).getD 0 ≤ 65535 := by
  cases h : worthA bs L vs e with
  | none => exact ⟨by decide, by decide⟩
  | some v =>
    unfold worthA at h
    split at h
    · rename_i ho
      exact worth_in (seW_in bs) (glW_in L vs) 6 e v ho h
    · cases h
theorem rds_twoQ {w : World} {g : Nat} {t : TypeId} (h : w.heap[g]? = some (.cells #[.string ⟨#[97]⟩, .string ⟨#[98]⟩] t (0, 0))) : RdS w g [⟨#[97]⟩, ⟨#[98]⟩] := by
  intro j hj
  have hj : j < 2 := hj
  have : j = 0 ∨ j = 1 := by omega
  rcases this with rfl | rfl <;> exact Lib.cell_of_heap h _
theorem rds_ghQ {w : World} {g : Nat} {t : TypeId} (h : w.heap[g]? = some (.cells #[.string ⟨#[103]⟩, .string ⟨#[104]⟩] t (0, 0))) : RdS w g [⟨#[103]⟩, ⟨#[104]⟩] := by
  intro j hj
  have hj : j < 2 := hj
  have : j = 0 ∨ j = 1 := by omega
  rcases this with rfl | rfl <;> exact Lib.cell_of_heap h _
theorem rdu_ghQ {w : World} {g : Nat} {t : TypeId} (h : w.heap[g]? = some (.cells #[.string ⟨#[103]⟩, .string ⟨#[104]⟩] t (0, 0))) : RdU w (some ⟨g, 0, none⟩) [⟨#[103]⟩, ⟨#[104]⟩] := by
  refine .inr ⟨g, 0, rfl, (Array.getElem?_eq_some_iff.1 h).1, fun i hi => ?_⟩
  have hi : i < 2 := hi
  have : i = 0 ∨ i = 1 := by omega
  rcases this with rfl | rfl
  · exact Lib.cell_of_heap h 0
  · exact Lib.cell_of_heap h 1
theorem evQ {w : World} {g1 g2 g3 : Nat} {L1 L3 : List Int} {t : TypeId} (h1 : RdN w (some ⟨g1, 0, none⟩) L1) (n1 : 0 < L1.length) (h2 : w.heap[g2]? = some (.cells #[.string ⟨#[103]⟩, .string ⟨#[104]⟩] t (0, 0))) (h3 : RdN w (some ⟨g3, 0, none⟩) L3) (n3 : 0 < L3.length) : Ev w g1 g2 g3 L1 [⟨#[103]⟩, ⟨#[104]⟩] L3 := by
  rcases h1 with rfl | ⟨b, off, e, hlt, hc⟩
  · cases n1
  rcases h3 with rfl | ⟨b3, off3, e3, hlt3, hc3⟩
  · cases n3
  cases e
  cases e3
  exact ⟨fun i hi => by have := hc i hi; rwa [Nat.zero_add] at this, rds_ghQ h2, fun i hi => by have := hc3 i hi; rwa [Nat.zero_add] at this, hlt, (Array.getElem?_eq_some_iff.1 h2).1, hlt3⟩
set_option maxHeartbeats 16000000 in
theorem walk (a : Option Addr) (len cap : Nat) (zs : List Int) (w : World) (hrow : IsRow .u8 w a len cap zs) (ht : TabK w) : Calls Tryd.prog 5 #[.slice a len cap] w fun e w' => e = .returned (.bool true) ∧ Below w.heap.size w w' := by
  obtain ⟨xs, hl, hlc, hcm, hr⟩ := rd_of_row hrow
  clear hrow
  have hlm : len ≤ 9223372036854775807 := by unfold maxLen at hcm; omega
  have EV := hide (fun wr (h : Below w.heap.size w wr) => ht.next h)
  have RX := hide (fun wr (h : Below w.heap.size w wr) => hr.later h)
  clear ht hr
  by_cases hbig : (1048576 : Int) < (len : Int)
  · have hb1 : decide ((1048576 : Int) < (len : Int)) = true := decide_eq_true hbig
    have BG := hide (big_any a len cap w hlm)
    rw [hb1] at BG
    go_enter Tryd.func5, Tryd.ntmps5
    go_wp2_with (first | (go_at_call 10; refine (unhide BG).mono ?_; rintro e w' ⟨rfl, hw'⟩; rw [hw']; clear hw' w'))
    go_ret
    exact ⟨rfl, Below.refl _ _⟩
  have hb1 : decide ((1048576 : Int) < (len : Int)) = false := decide_eq_false hbig
  have hm : len ≤ 1048576 := by omega
  have BG := hide (big_any a len cap w hlm)
  rw [hb1] at BG
  have D1 := hide (drawPut_any a len cap xs w hl hm (unhide RX w (Below.refl _ _)))
  have D2 := hide (fun wr (h : Below w.heap.size w wr) => drawWorth_any a len cap xs wr hl hm (unhide RX wr h))
  clear RX hl
  go_enter Tryd.func5, Tryd.ntmps5
  go_wp2_with (first | (go_at_call 10; refine (unhide BG).mono ?_; rintro e w' ⟨rfl, hw'⟩; rw [hw']; clear hw' w'))
  refine (unhide D1).mono ?_
  rintro e w1 ⟨x, y, c, d, cp, dp, gn, gv, off, cv, vals, rfl, hzx, hzy, hvl, hzv, hx, hy, hn, hv, hb1'⟩
  have B1 := hide hb1'
  have X1 := hide hx
  have Y1 := hide hy
  have U1 := hide hn
  have V1 := hide hv
  clear hx hy hn hv hb1' D1 BG hb1
  have PI := hide (fun wr (hb : Below w.heap.size w wr) (r0 : RdX wr 0 x c) (r1 : RdX wr 0 y d) (r2 : wr.heap[gn]? = some (.cells #[.string ⟨#[97]⟩, .string ⟨#[98]⟩] 9 (0, 0))) (r3 : RdX wr 0 ⟨0, 0, E0, vals⟩ (some ⟨gv, off, none⟩)) => (putI_any y [⟨#[97]⟩, ⟨#[98]⟩] vals x c d cp dp (some ⟨gn, 0, none⟩) 2 gv off cv wr r0 r1 (rdu_two r2) r3 (by omega) (by omega) (by decide) (by omega) (fun i hi => Nat.le_trans (hzv i hi) (by omega)) (unhide EV wr hb) : Calls Tryd.prog 22 #[.agg (x.cs c cp), .agg (y.cs d dp), .slice (some ⟨gn, 0, none⟩) 2 2, .slice (some ⟨gv, off, none⟩) vals.length cv] wr (XoR (putA y [⟨#[97]⟩, ⟨#[98]⟩] vals x) wr)))
  have PS := hide (fun wr (r0 : RdX wr 0 x c) (r1 : RdX wr 0 y d) (r2 : wr.heap[gn]? = some (.cells #[.string ⟨#[97]⟩, .string ⟨#[98]⟩] 9 (0, 0))) (r3 : RdX wr 0 ⟨0, 0, E0, vals⟩ (some ⟨gv, off, none⟩)) => (putA_any y [⟨#[97]⟩, ⟨#[98]⟩] vals x c d (some ⟨gv, off, none⟩) cp dp gn cv wr r0 ⟨r1, rds_twoQ r2, (Array.getElem?_eq_some_iff.1 r2).1, r3⟩ (by omega) (by omega) (by decide) (by omega) (fun i hi => Nat.le_trans (hzv i hi) (by omega)) : Calls Tryd.prog 25 #[.agg (x.cs c cp), .agg (y.cs d dp), .slice (some ⟨gn, 0, none⟩) 2 2, .slice (some ⟨gv, off, none⟩) vals.length cv] wr (GiR (putA y [⟨#[97]⟩, ⟨#[98]⟩] vals x) (Up wr) wr)))
  have hE := putA_szQ y [⟨#[97]⟩, ⟨#[98]⟩] vals x
  have hK := putA_okQ y [⟨#[97]⟩, ⟨#[98]⟩] vals x
  generalize putA y [⟨#[97]⟩, ⟨#[98]⟩] vals x = E at *
  have SA := hide (fun d d2 dp dp2 wr (q1 : ∃ F, OwX wr E d F) (q2 : ∃ F, OwX wr E d2 F) => sameI_any E E d d2 dp dp2 wr q1 q2 hE)
  rw [sameX_self] at SA
  have OE := hide (fun d dp wr (hb : Below w.heap.size w wr) (q : RdX wr 0 E d) => okI_any E d dp wr q hE (unhide EV wr hb))
  unfold XoR at PI
  unfold GiR at PS
  unfold Ex.cs at PI PS SA OE ⊢
  have HK := hide (show E.k ≠ 0 → okF 6 false E = true from fun h => hK.resolve_left h)
  generalize okF 6 false E = p at *
  clear hE hK hzx hzy hzv hvl
  generalize x.k = ek at *
  generalize x.n = en at *
  generalize x.s = es at *
  generalize x.l.length = el at *
  generalize y.k = yk at *
  generalize y.n = yn at *
  generalize y.s = sy at *
  generalize y.l.length = yl at *
  generalize E.k = fk at *
  generalize E.n = fn at *
  generalize E.s = fs at *
  generalize E.l.length = fl at *
  generalize vals.length = vl at *
  obtain ⟨b2, g2x, g2y, z2⟩ := two_resF w1 (.cells #[.int .i64 ek, .int .i64 en, .string es, .slice c el cp] 26) (.cells #[.int .i64 yk, .int .i64 yn, .string sy, .slice d yl dp] 26)
  have G2 := hide g2x
  have H2 := hide g2y
  clear g2x g2y z2
  have B2 := hide ((unhide B1).trans (b2.mono (unhide B1).size))
  have U2 := hide (row_keep (unhide U1) b2)
  have X2 := hide ((unhide X1).later b2)
  have Y2 := hide ((unhide Y1).later b2)
  have V2 := hide ((unhide V1).later b2)
  clear b2 B1 U1 X1 Y1 V1
  have A2 := hide (unhide PI _ (unhide B2) (unhide X2) (unhide Y2) (unhide U2) (unhide V2))
  go_wp2_with (first | (refine wpList_load_row rfl 26 _ rfl w1.heap.size rfl 26 #[.int .i64 ek, .int .i64 en, .string es, .slice c el cp] (0, 0) _ (unhide G2) Tryd.underlying26 rfl (by kernel_rfl) ?_) | (refine wpList_load_row rfl 26 _ rfl (w1.heap.size + 1) rfl 26 #[.int .i64 yk, .int .i64 yn, .string sy, .slice d yl dp] (0, 0) _ (unhide H2) Tryd.underlying26 rfl (by kernel_rfl) ?_))
  generalize (w1.alloc (.cells #[.int .i64 ek, .int .i64 en, .string es, .slice c el cp] 26)).alloc (.cells #[.int .i64 yk, .int .i64 yn, .string sy, .slice d yl dp] 26) = w2 at *
  obtain ⟨g1, hg1⟩ : ∃ g1, w1.heap.size + 1 = g1 := ⟨_, rfl⟩
  rw [hg1] at H2
  try rw [hg1]
  generalize w1.heap.size = g0 at *
  refine (unhide A2).mono ?_
  rintro r w3 ⟨c2, cp2, rfl, hnx, hbb⟩
  have E3 := hide hnx.half
  clear hnx A2 PI
  have B3 := hide ((unhide B2).trans (hbb.mono (unhide B2).size))
  have U3 := hide (row_keep (unhide U2) hbb)
  have G3 := hide (row_keep (unhide G2) hbb)
  have H3 := hide (row_keep (unhide H2) hbb)
  have X3 := hide ((unhide X2).later hbb)
  have Y3 := hide ((unhide Y2).later hbb)
  have V3 := hide ((unhide V2).later hbb)
  clear hbb B2 U2 G2 H2 X2 Y2 V2
  have hbb := below_new w3 (.cells #[.int .i64 fk, .int .i64 fn, .string fs, .slice c2 fl cp2] 26)
  have K4 := hide (show (w3.alloc (.cells #[.int .i64 fk, .int .i64 fn, .string fs, .slice c2 fl cp2] 26)).heap[w3.heap.size]? = some (.cells #[.int .i64 fk, .int .i64 fn, .string fs, .slice c2 fl cp2] 26 (0, 0)) from Array.getElem?_push_size)
  have B4 := hide ((unhide B3).trans (hbb.mono (unhide B3).size))
  have U4 := hide (row_keep (unhide U3) hbb)
  have G4 := hide (row_keep (unhide G3) hbb)
  have H4 := hide (row_keep (unhide H3) hbb)
  have X4 := hide ((unhide X3).later hbb)
  have Y4 := hide ((unhide Y3).later hbb)
  have V4 := hide ((unhide V3).later hbb)
  have E4 := hide ((unhide E3).later hbb)
  clear hbb B3 U3 G3 H3 X3 Y3 V3 E3
  have A4 := hide (unhide D2 _ (unhide B4))
  unfold Ex.cs at A4
  go_wp2_with fail
  generalize w3.alloc (.cells #[.int .i64 fk, .int .i64 fn, .string fs, .slice c2 fl cp2] 26) = w4 at *
  generalize w3.heap.size = g2 at *
  refine (unhide A4).mono ?_
  rintro r w5 ⟨z, c3, cp3, p1, k1, L1, p2, p3, k3, L3, rfl, hzz, hl1, ⟨hp1, hk1⟩, hl3, ⟨hp3, hk3⟩, hrz, hr1, hr2, hr3, hbb⟩
  clear A4 D2
  subst hl1 hl3
  have Z5 := hide hrz
  have M5 := hide hr1
  have O5 := hide hr2
  have Q5 := hide hr3
  clear hrz hr1 hr2 hr3
  have WI := hide (fun wr (hb : Below w.heap.size w wr) (r0 : RdX wr 0 z c3) (r1 : RdN wr (some ⟨p1, 0, none⟩) L1) (r2 : wr.heap[p2]? = some (.cells #[.string ⟨#[103]⟩, .string ⟨#[104]⟩] 9 (0, 0))) (r3 : RdN wr (some ⟨p3, 0, none⟩) L3) => (worthI_any L1 [⟨#[103]⟩, ⟨#[104]⟩] L3 (by omega) (by omega) (by decide) z c3 cp3 (some ⟨p1, 0, none⟩) (some ⟨p2, 0, none⟩) (some ⟨p3, 0, none⟩) 3 2 2 wr r0 (by omega) (unhide EV wr hb) r1 (rdu_ghQ r2) r3 : Calls Tryd.prog 14 #[.agg (z.cs c3 cp3), .slice (some ⟨p1, 0, none⟩) L1.length 3, .slice (some ⟨p2, 0, none⟩) 2 2, .slice (some ⟨p3, 0, none⟩) L3.length 2] wr (InR (worthA L1 [⟨#[103]⟩, ⟨#[104]⟩] L3 z) wr)))
  have WS := hide (fun wr (r0 : RdX wr 0 z c3) (r1 : RdN wr (some ⟨p1, 0, none⟩) L1) (r2 : wr.heap[p2]? = some (.cells #[.string ⟨#[103]⟩, .string ⟨#[104]⟩] 9 (0, 0))) (r3 : RdN wr (some ⟨p3, 0, none⟩) L3) => (worthA_any L1 [⟨#[103]⟩, ⟨#[104]⟩] L3 (by decide) (by omega) (by omega) z c3 cp3 p1 p2 p3 3 2 2 wr r0 (evQ r1 hp1 r2 r3 hp3) (by omega) : Calls Tryd.prog 24 #[.agg (z.cs c3 cp3), .slice (some ⟨p1, 0, none⟩) L1.length 3, .slice (some ⟨p2, 0, none⟩) 2 2, .slice (some ⟨p3, 0, none⟩) L3.length 2] wr (InR (worthA L1 [⟨#[103]⟩, ⟨#[104]⟩] L3 z) wr)))
  unfold InR at WI WS
  unfold Ex.cs at WI WS
  obtain ⟨hv0, hv1⟩ := worthA_inQ L1 [⟨#[103]⟩, ⟨#[104]⟩] L3 z
  generalize worthA L1 [⟨#[103]⟩, ⟨#[104]⟩] L3 z = o at *
  generalize o.getD 0 = v at *
  generalize o.isSome = q at *
  clear hzz hp1 hk1 hp3 hk3 EV
  generalize z.k = zk at *
  generalize z.n = zn at *
  generalize z.s = sz at *
  generalize z.l.length = zl at *
  generalize L1.length = k1 at *
  generalize L3.length = k3 at *
  have B5 := hide ((unhide B4).trans (hbb.mono (unhide B4).size))
  have U5 := hide (row_keep (unhide U4) hbb)
  have G5 := hide (row_keep (unhide G4) hbb)
  have H5 := hide (row_keep (unhide H4) hbb)
  have K5 := hide (row_keep (unhide K4) hbb)
  have X5 := hide ((unhide X4).later hbb)
  have Y5 := hide ((unhide Y4).later hbb)
  have V5 := hide ((unhide V4).later hbb)
  have E5 := hide ((unhide E4).later hbb)
  clear hbb B4 U4 G4 H4 K4 X4 Y4 V4 E4
  have hbb := below_new w5 (.cells #[.int .i64 zk, .int .i64 zn, .string sz, .slice c3 zl cp3] 26)
  have F6 := hide (show (w5.alloc (.cells #[.int .i64 zk, .int .i64 zn, .string sz, .slice c3 zl cp3] 26)).heap[w5.heap.size]? = some (.cells #[.int .i64 zk, .int .i64 zn, .string sz, .slice c3 zl cp3] 26 (0, 0)) from Array.getElem?_push_size)
  have B6 := hide ((unhide B5).trans (hbb.mono (unhide B5).size))
  have U6 := hide (row_keep (unhide U5) hbb)
  have G6 := hide (row_keep (unhide G5) hbb)
  have H6 := hide (row_keep (unhide H5) hbb)
  have K6 := hide (row_keep (unhide K5) hbb)
  have O6 := hide (row_keep (unhide O5) hbb)
  have X6 := hide ((unhide X5).later hbb)
  have Y6 := hide ((unhide Y5).later hbb)
  have V6 := hide ((unhide V5).later hbb)
  have E6 := hide ((unhide E5).later hbb)
  have Z6 := hide ((unhide Z5).later hbb)
  have M6 := hide ((unhide M5).later hbb)
  have Q6 := hide ((unhide Q5).later hbb)
  clear hbb B5 U5 G5 H5 K5 O5 X5 Y5 V5 E5 Z5 M5 Q5
  have A6 := hide (unhide WI _ (unhide B6) (unhide Z6) (unhide M6) (unhide O6) (unhide Q6))
  clear WI
  go_wp2_with (refine wpList_load_row rfl 26 _ rfl w5.heap.size rfl 26 #[.int .i64 zk, .int .i64 zn, .string sz, .slice c3 zl cp3] (0, 0) _ (unhide F6) Tryd.underlying26 rfl (by kernel_rfl) ?_)
  generalize w5.alloc (.cells #[.int .i64 zk, .int .i64 zn, .string sz, .slice c3 zl cp3] 26) = w6 at *
  generalize w5.heap.size = g3 at *
  refine (unhide A6).mono ?_
  rintro r w7 ⟨rfl, hbb⟩
  clear A6
  have B7 := hide ((unhide B6).trans (hbb.mono (unhide B6).size))
  have U7 := hide (row_keep (unhide U6) hbb)
  have G7 := hide (row_keep (unhide G6) hbb)
  have H7 := hide (row_keep (unhide H6) hbb)
  have K7 := hide (row_keep (unhide K6) hbb)
  have O7 := hide (row_keep (unhide O6) hbb)
  have F7 := hide (row_keep (unhide F6) hbb)
  have X7 := hide ((unhide X6).later hbb)
  have Y7 := hide ((unhide Y6).later hbb)
  have V7 := hide ((unhide V6).later hbb)
  have E7 := hide ((unhide E6).later hbb)
  have Z7 := hide ((unhide Z6).later hbb)
  have M7 := hide ((unhide M6).later hbb)
  have Q7 := hide ((unhide Q6).later hbb)
  clear hbb B6 U6 G6 H6 K6 O6 F6 X6 Y6 V6 E6 Z6 M6 Q6
  have A7 := hide (unhide WS w7 (unhide Z7) (unhide M7) (unhide O7) (unhide Q7))
  clear WS
  go_wp2_with (refine wpList_load_row rfl 26 _ rfl g3 rfl 26 #[.int .i64 zk, .int .i64 zn, .string sz, .slice c3 zl cp3] (0, 0) _ (unhide F7) Tryd.underlying26 rfl (by kernel_rfl) ?_)
  refine (unhide A7).mono ?_
  rintro r w8 ⟨rfl, hbb⟩
  clear A7 Z7 M7 Q7 O7 F7
  have B8 := hide ((unhide B7).trans (hbb.mono (unhide B7).size))
  have U8 := hide (row_keep (unhide U7) hbb)
  have G8 := hide (row_keep (unhide G7) hbb)
  have H8 := hide (row_keep (unhide H7) hbb)
  have K8 := hide (row_keep (unhide K7) hbb)
  have X8 := hide ((unhide X7).later hbb)
  have Y8 := hide ((unhide Y7).later hbb)
  have V8 := hide ((unhide V7).later hbb)
  have E8 := hide ((unhide E7).later hbb)
  clear hbb B7 U7 G7 H7 K7 X7 Y7 V7 E7
  go_wp2_with fail
  have hbb := below_drew (w := w8)
  have B9 := hide ((unhide B8).trans (hbb.mono (unhide B8).size))
  have U9 := hide (row_keep (unhide U8) hbb)
  have G9 := hide (row_keep (unhide G8) hbb)
  have H9 := hide (row_keep (unhide H8) hbb)
  have K9 := hide (row_keep (unhide K8) hbb)
  have X9 := hide ((unhide X8).later hbb)
  have Y9 := hide ((unhide Y8).later hbb)
  have V9 := hide ((unhide V8).later hbb)
  have E9 := hide ((unhide E8).later hbb)
  clear hbb B8 U8 G8 H8 K8 X8 Y8 V8 E8
  have D0 := hide (show (fun w' => w'.heap[g0]? = some (.cells #[.int .i64 ek, .int .i64 en, .string es, .slice c el cp] 26 (0, 0)) ∧ w'.heap[g1]? = some (.cells #[.int .i64 yk, .int .i64 yn, .string sy, .slice d yl dp] 26 (0, 0)) ∧ w'.heap[g2]? = some (.cells #[.int .i64 fk, .int .i64 fn, .string fs, .slice c2 fl cp2] 26 (0, 0))) w8.drew from ⟨unhide G9, unhide H9, unhide K9⟩)
  refine wp_region_held_drew (S := fun w' => w'.heap[g0]? = some (.cells #[.int .i64 ek, .int .i64 en, .string es, .slice c el cp] 26 (0, 0)) ∧ w'.heap[g1]? = some (.cells #[.int .i64 yk, .int .i64 yn, .string sy, .slice d yl dp] 26 (0, 0)) ∧ w'.heap[g2]? = some (.cells #[.int .i64 fk, .int .i64 fn, .string fs, .slice c2 fl cp2] 26 (0, 0))) (by kernel_rfl) (unhide D0) (fun hS => ?_)
  have HS := hide hS
  clear hS D0
  generalize w8.drew = w9 at *
  refine wpAnyH_take (i := 0) (v := .agg #[.int .i64 fk, .int .i64 fn, .string fs, .slice c2 fl cp2]) rfl (by kernel_rfl) (by kernel_rfl) (by kernel_rfl) (fun _ _ _ h => h) (yields_loadG (by rfl) 26 _ rfl g2 rfl 26 #[.int .i64 fk, .int .i64 fn, .string fs, .slice c2 fl cp2] _ (fun w h => h.2.2) Tryd.underlying26 rfl (by kernel_rfl)) (unhide HS) ?_
  go_simp
  refine wpAnyH_take (i := 1) (v := .agg #[.int .i64 ek, .int .i64 en, .string es, .slice c el cp]) rfl (by kernel_rfl) (by kernel_rfl) (by kernel_rfl) (fun _ _ _ h => h) (yields_loadG (by rfl) 26 _ rfl g0 rfl 26 #[.int .i64 ek, .int .i64 en, .string es, .slice c el cp] _ (fun w h => h.1) Tryd.underlying26 rfl (by kernel_rfl)) (unhide HS) ?_
  go_simp
  refine wpAnyH_take (i := 2) (v := .agg #[.int .i64 yk, .int .i64 yn, .string sy, .slice d yl dp]) rfl (by kernel_rfl) (by kernel_rfl) (by kernel_rfl) (fun _ _ _ h => h) (yields_loadG (by rfl) 26 _ rfl g1 rfl 26 #[.int .i64 yk, .int .i64 yn, .string sy, .slice d yl dp] _ (fun w h => h.2.1) Tryd.underlying26 rfl (by kernel_rfl)) (unhide HS) ?_
  go_simp
  refine wpAnyH_take (i := 3) (v := .slice (some ⟨gn, 0, none⟩) 2 2) rfl (by kernel_rfl) (by kernel_rfl) (by kernel_rfl) (fun _ _ _ h => h) (Or.inl ⟨by rfl, fun w hc => ?_⟩) (unhide HS) ?_
  · clear hc; go_simp
  go_simp
  refine wpAnyH_take (i := 4) (v := .slice (some ⟨gv, off, none⟩) vl cv) rfl (by kernel_rfl) (by kernel_rfl) (by kernel_rfl) (fun _ _ _ h => h) (Or.inl ⟨by rfl, fun w hc => ?_⟩) (unhide HS) ?_
  · clear hc; go_simp
  go_simp
  refine wpAnyH_ready (rs := [5]) (by kernel_rfl) (by simp) ?_
  refine AllReadyH.cons rfl (fun K2 hK => ?_) AllReadyH.nil
  go_simp
  refine (unhide PS w9 (unhide X9) (unhide Y9) (unhide U9) (unhide V9)).mono ?_
  rintro r w10 ⟨c4, cp4, rfl, hpx, hbb⟩
  have Z10 := hide (show ∃ F, OwX w10 E c4 F by obtain ⟨F, q, _⟩ := hpx; exact ⟨F, q⟩)
  clear hpx X9 Y9 U9 V9
  have B10 := hide ((unhide B9).trans (hbb.mono (unhide B9).size))
  have G10 := hide (row_keep (unhide G9) hbb)
  have H10 := hide (row_keep (unhide H9) hbb)
  have K10 := hide (row_keep (unhide K9) hbb)
  have E10 := hide ((unhide E9).later hbb)
  clear hbb B9 G9 H9 K9 E9
  refine hK.out _ _ (⟨unhide G10, unhide H10, unhide K10⟩) (fun hS => ?_)
  clear HS
  have HS := hide hS
  clear hS hK K2
  refine wpAnyH_ready (rs := [6]) (by kernel_rfl) (by simp) ?_
  refine AllReadyH.cons rfl (fun K2 hK => ?_) AllReadyH.nil
  go_simp
  refine (unhide SA c2 c4 cp2 cp4 w10 (by obtain ⟨F, q1, _, _⟩ := unhide E10; exact ⟨F, q1⟩) (unhide Z10)).mono ?_
  rintro r w11 ⟨rfl, hbb⟩
  clear Z10
  have B11 := hide ((unhide B10).trans (hbb.mono (unhide B10).size))
  have G11 := hide (row_keep (unhide G10) hbb)
  have H11 := hide (row_keep (unhide H10) hbb)
  have K11 := hide (row_keep (unhide K10) hbb)
  have E11 := hide ((unhide E10).later hbb)
  clear hbb B10 G10 H10 K10 E10
  refine hK.out _ _ (⟨unhide G11, unhide H11, unhide K11⟩) (fun hS => ?_)
  clear HS
  have HS := hide hS
  clear hS hK K2
  refine wpAnyH_take (i := 7) (v := .bool true) rfl (by kernel_rfl) (by kernel_rfl) (by kernel_rfl) (fun _ _ _ h => h) (Or.inl ⟨by rfl, fun w hc => ?_⟩) (unhide HS) ?_
  · clear hc; go_simp
  go_simp
  refine wpAnyH_take (i := 8) (v := .bool q) rfl (by kernel_rfl) (by kernel_rfl) (by kernel_rfl) (fun _ _ _ h => h) (Or.inl ⟨by rfl, fun w hc => ?_⟩) (unhide HS) ?_
  · clear hc; go_simp
  go_simp
  refine wpAnyH_take (i := 9) (v := .bool q) rfl (by kernel_rfl) (by kernel_rfl) (by kernel_rfl) (fun _ _ _ h => h) (Or.inl ⟨by rfl, fun w hc => ?_⟩) (unhide HS) ?_
  · clear hc; go_simp
  go_simp
  refine wpAnyH_take (i := 10) (v := .bool true) rfl (by kernel_rfl) (by kernel_rfl) (by kernel_rfl) (fun _ _ _ h => h) (Or.inl ⟨by rfl, fun w hc => ?_⟩) (unhide HS) ?_
  · clear hc; go_simp
  go_simp
  refine wpAnyH_take (i := 11) (v := .bool true) rfl (by kernel_rfl) (by kernel_rfl) (by kernel_rfl) (fun _ _ _ h => h) (Or.inl ⟨by rfl, fun w hc => ?_⟩) (unhide HS) ?_
  · clear hc; go_simp
  go_simp
  refine wpAnyH_take (i := 12) (v := .bool true) rfl (by kernel_rfl) (by kernel_rfl) (by kernel_rfl) (fun _ _ _ h => h) (Or.inl ⟨by rfl, fun w hc => ?_⟩) (unhide HS) ?_
  · clear hc; go_simp
  go_simp
  refine wpAnyH_take (i := 13) (v := .int .i64 v) rfl (by kernel_rfl) (by kernel_rfl) (by kernel_rfl) (fun _ _ _ h => h) (Or.inl ⟨by rfl, fun w hc => ?_⟩) (unhide HS) ?_
  · clear hc; go_simp
  go_simp
  refine wpAnyH_take (i := 14) (v := .int .i64 v) rfl (by kernel_rfl) (by kernel_rfl) (by kernel_rfl) (fun _ _ _ h => h) (Or.inl ⟨by rfl, fun w hc => ?_⟩) (unhide HS) ?_
  · clear hc; go_simp
  go_simp
  refine wpAnyH_take (i := 15) (v := .bool true) rfl (by kernel_rfl) (by kernel_rfl) (by kernel_rfl) (fun _ _ _ h => h) (Or.inl ⟨by rfl, fun w hc => ?_⟩) (unhide HS) ?_
  · clear hc; go_simp
  go_simp
  refine wpAnyH_take (i := 16) (v := .bool true) rfl (by kernel_rfl) (by kernel_rfl) (by kernel_rfl) (fun _ _ _ h => h) (Or.inl ⟨by rfl, fun w hc => ?_⟩) (unhide HS) ?_
  · clear hc; go_simp
  go_simp
  refine wpAnyH_take (i := 17) (v := .bool true) rfl (by kernel_rfl) (by kernel_rfl) (by kernel_rfl) (fun _ _ _ h => h) (Or.inl ⟨by rfl, fun w hc => ?_⟩) (unhide HS) ?_
  · clear hc; go_simp
  go_simp
  refine wpAnyH_take (i := 18) (v := .pointer (some ⟨g2, 0, none⟩)) rfl (by kernel_rfl) (by kernel_rfl) (by kernel_rfl) (fun _ _ _ h => h) (Or.inl ⟨by rfl, fun w hc => ?_⟩) (unhide HS) ?_
  · clear hc; go_simp
  go_simp
  refine wpAnyH_take (i := 19) (v := .int .i64 fk) rfl (by kernel_rfl) (by kernel_rfl) (by kernel_rfl) (fun _ _ _ h => h) (Or.inl ⟨by rfl, fun w hc => ?_⟩) (unhide HS) ?_
  · have k0 := Lib.cell_of_heap hc.2.2 0; clear hc; go_simp
  go_simp
  by_cases hk0 : fk = 0
  · subst hk0
    refine wpAnyH_take (i := 20) (v := .bool true) rfl (by kernel_rfl) (by kernel_rfl) (by kernel_rfl) (fun _ _ _ h => h) (Or.inl ⟨by rfl, fun w hc => ?_⟩) (unhide HS) ?_
    · clear hc; go_simp
    go_simp
    refine wpAnyH_take (i := 21) (v := .bool true) rfl (by kernel_rfl) (by kernel_rfl) (by kernel_rfl) (fun _ _ _ h => h) (Or.inl ⟨by rfl, fun w hc => ?_⟩) (unhide HS) ?_
    · clear hc; go_simp
    go_simp
    refine wpAnyH_take (i := 22) (v := undef) rfl (by kernel_rfl) (by kernel_rfl) (by kernel_rfl) (fun _ _ _ h => h) (Or.inr ⟨by rfl, rfl⟩) (unhide HS) ?_
    go_simp
    refine wpAnyH_take (i := 23) (v := undef) rfl (by kernel_rfl) (by kernel_rfl) (by kernel_rfl) (fun _ _ _ h => h) (Or.inr ⟨by rfl, rfl⟩) (unhide HS) ?_
    go_simp
    refine wpAnyH_take (i := 24) (v := .bool true) rfl (by kernel_rfl) (by kernel_rfl) (by kernel_rfl) (fun _ _ _ h => h) (Or.inl ⟨by rfl, fun w hc => ?_⟩) (unhide HS) ?_
    · clear hc; go_simp
    go_simp
    refine wpAnyH_take (i := 25) (v := .bool true) rfl (by kernel_rfl) (by kernel_rfl) (by kernel_rfl) (fun _ _ _ h => h) (Or.inl ⟨by rfl, fun w hc => ?_⟩) (unhide HS) ?_
    · clear hc; go_simp
    go_simp
    refine wpAnyH_take (i := 26) (v := .bool true) rfl (by kernel_rfl) (by kernel_rfl) (by kernel_rfl) (fun _ _ _ h => h) (Or.inl ⟨by rfl, fun w hc => ?_⟩) (unhide HS) ?_
    · clear hc; go_simp
    go_simp
    refine wpAnyH_take (i := 27) (v := .int .i64 v) rfl (by kernel_rfl) (by kernel_rfl) (by kernel_rfl) (fun _ _ _ h => h) (Or.inl ⟨by rfl, fun w hc => ?_⟩) (unhide HS) ?_
    · clear hc; go_simp
    go_simp
    refine wpAnyH_take (i := 28) (v := .bool true) rfl (by kernel_rfl) (by kernel_rfl) (by kernel_rfl) (fun _ _ _ h => h) (Or.inl ⟨by rfl, fun w hc => ?_⟩) (unhide HS) ?_
    · clear hc; have hv0 := hv0; go_simp
    go_simp
    refine wpAnyH_take (i := 29) (v := .bool true) rfl (by kernel_rfl) (by kernel_rfl) (by kernel_rfl) (fun _ _ _ h => h) (Or.inl ⟨by rfl, fun w hc => ?_⟩) (unhide HS) ?_
    · clear hc; go_simp
    go_simp
    refine wpAnyH_take (i := 30) (v := .bool true) rfl (by kernel_rfl) (by kernel_rfl) (by kernel_rfl) (fun _ _ _ h => h) (Or.inl ⟨by rfl, fun w hc => ?_⟩) (unhide HS) ?_
    · clear hc; go_simp
    go_simp
    refine wpAnyH_take (i := 31) (v := .int .i64 v) rfl (by kernel_rfl) (by kernel_rfl) (by kernel_rfl) (fun _ _ _ h => h) (Or.inl ⟨by rfl, fun w hc => ?_⟩) (unhide HS) ?_
    · clear hc; go_simp
    go_simp
    refine wpAnyH_take (i := 32) (v := .bool true) rfl (by kernel_rfl) (by kernel_rfl) (by kernel_rfl) (fun _ _ _ h => h) (Or.inl ⟨by rfl, fun w hc => ?_⟩) (unhide HS) ?_
    · clear hc; have hv1 := hv1; go_simp
    go_simp
    refine wpAnyH_take (i := 33) (v := .bool true) rfl (by kernel_rfl) (by kernel_rfl) (by kernel_rfl) (fun _ _ _ h => h) (Or.inl ⟨by rfl, fun w hc => ?_⟩) (unhide HS) ?_
    · clear hc; go_simp
    go_simp
    refine wpAnyH_take (i := 34) (v := .bool true) rfl (by kernel_rfl) (by kernel_rfl) (by kernel_rfl) (fun _ _ _ h => h) (Or.inl ⟨by rfl, fun w hc => ?_⟩) (unhide HS) ?_
    · clear hc; go_simp
    go_simp
    refine wpAnyH_done (by kernel_rfl) ?_ _
    clear HS
    go_wp2
    go_ret
    exact ⟨rfl, unhide B11⟩
  refine wpAnyH_take (i := 20) (v := .bool false) rfl (by kernel_rfl) (by kernel_rfl) (by kernel_rfl) (fun _ _ _ h => h) (Or.inl ⟨by rfl, fun w hc => ?_⟩) (unhide HS) ?_
  · clear hc; go_simp
  go_simp
  refine wpAnyH_take (i := 21) (v := .bool false) rfl (by kernel_rfl) (by kernel_rfl) (by kernel_rfl) (fun _ _ _ h => h) (Or.inl ⟨by rfl, fun w hc => ?_⟩) (unhide HS) ?_
  · clear hc; go_simp
  go_simp
  refine wpAnyH_take (i := 22) (v := .agg #[.int .i64 fk, .int .i64 fn, .string fs, .slice c2 fl cp2]) rfl (by kernel_rfl) (by kernel_rfl) (by kernel_rfl) (fun _ _ _ h => h) (yields_loadG (by rfl) 26 _ rfl g2 rfl 26 #[.int .i64 fk, .int .i64 fn, .string fs, .slice c2 fl cp2] _ (fun w h => h.2.2) Tryd.underlying26 rfl (by kernel_rfl)) (unhide HS) ?_
  go_simp
  refine wpAnyH_ready (rs := [23]) (by kernel_rfl) (by simp) ?_
  refine AllReadyH.cons rfl (fun K2 hK => ?_) AllReadyH.nil
  go_simp
  refine (unhide OE c2 cp2 w11 (unhide B11) (unhide E11).rd).mono ?_
  rintro r w12 ⟨rfl, hbb⟩
  have B12 := hide ((unhide B11).trans (hbb.mono (unhide B11).size))
  have G12 := hide (row_keep (unhide G11) hbb)
  have H12 := hide (row_keep (unhide H11) hbb)
  have K12 := hide (row_keep (unhide K11) hbb)
  have E12 := hide ((unhide E11).later hbb)
  clear hbb B11 G11 H11 K11 E11
  refine hK.out _ _ (⟨unhide G12, unhide H12, unhide K12⟩) (fun hS => ?_)
  clear HS
  have HS := hide hS
  clear hS hK K2
  have hpt := unhide HK hk0
  subst hpt
  refine wpAnyH_take (i := 24) (v := .bool true) rfl (by kernel_rfl) (by kernel_rfl) (by kernel_rfl) (fun _ _ _ h => h) (Or.inl ⟨by rfl, fun w hc => ?_⟩) (unhide HS) ?_
  · clear hc; go_simp
  go_simp
  refine wpAnyH_take (i := 25) (v := .bool true) rfl (by kernel_rfl) (by kernel_rfl) (by kernel_rfl) (fun _ _ _ h => h) (Or.inl ⟨by rfl, fun w hc => ?_⟩) (unhide HS) ?_
  · clear hc; go_simp
  go_simp
  refine wpAnyH_take (i := 26) (v := .bool true) rfl (by kernel_rfl) (by kernel_rfl) (by kernel_rfl) (fun _ _ _ h => h) (Or.inl ⟨by rfl, fun w hc => ?_⟩) (unhide HS) ?_
  · clear hc; go_simp
  go_simp
  refine wpAnyH_take (i := 27) (v := .int .i64 v) rfl (by kernel_rfl) (by kernel_rfl) (by kernel_rfl) (fun _ _ _ h => h) (Or.inl ⟨by rfl, fun w hc => ?_⟩) (unhide HS) ?_
  · clear hc; go_simp
  go_simp
  refine wpAnyH_take (i := 28) (v := .bool true) rfl (by kernel_rfl) (by kernel_rfl) (by kernel_rfl) (fun _ _ _ h => h) (Or.inl ⟨by rfl, fun w hc => ?_⟩) (unhide HS) ?_
  · clear hc; have hv0 := hv0; go_simp
  go_simp
  refine wpAnyH_take (i := 29) (v := .bool true) rfl (by kernel_rfl) (by kernel_rfl) (by kernel_rfl) (fun _ _ _ h => h) (Or.inl ⟨by rfl, fun w hc => ?_⟩) (unhide HS) ?_
  · clear hc; go_simp
  go_simp
  refine wpAnyH_take (i := 30) (v := .bool true) rfl (by kernel_rfl) (by kernel_rfl) (by kernel_rfl) (fun _ _ _ h => h) (Or.inl ⟨by rfl, fun w hc => ?_⟩) (unhide HS) ?_
  · clear hc; go_simp
  go_simp
  refine wpAnyH_take (i := 31) (v := .int .i64 v) rfl (by kernel_rfl) (by kernel_rfl) (by kernel_rfl) (fun _ _ _ h => h) (Or.inl ⟨by rfl, fun w hc => ?_⟩) (unhide HS) ?_
  · clear hc; go_simp
  go_simp
  refine wpAnyH_take (i := 32) (v := .bool true) rfl (by kernel_rfl) (by kernel_rfl) (by kernel_rfl) (fun _ _ _ h => h) (Or.inl ⟨by rfl, fun w hc => ?_⟩) (unhide HS) ?_
  · clear hc; have hv1 := hv1; go_simp
  go_simp
  refine wpAnyH_take (i := 33) (v := .bool true) rfl (by kernel_rfl) (by kernel_rfl) (by kernel_rfl) (fun _ _ _ h => h) (Or.inl ⟨by rfl, fun w hc => ?_⟩) (unhide HS) ?_
  · clear hc; go_simp
  go_simp
  refine wpAnyH_take (i := 34) (v := .bool true) rfl (by kernel_rfl) (by kernel_rfl) (by kernel_rfl) (fun _ _ _ h => h) (Or.inl ⟨by rfl, fun w hc => ?_⟩) (unhide HS) ?_
  · clear hc; go_simp
  go_simp
  refine wpAnyH_done (by kernel_rfl) ?_ _
  clear HS
  go_wp2
  go_ret
  exact ⟨rfl, unhide B12⟩

set_option maxRecDepth 100000 in
theorem lifted (os : Os) (started : os.Started) (H : Type) (enc : TypeId × Value → H) :
    ReturnsInHanded {} Tryd.checked os 5 .any (fun w args => (Rows.fnPutInSpec.pre enc Tryd.prog Tryd.f5 [] false w args ∧ laidMetH Tryd.prog Rows.fnPutInRow.laid w) ∧ sizedMet enc Tryd.prog Tryd.f5 (OpenSpec.ofChange Rows.fnPutInSpec) false w args)
      (Rows.fnPutInSpec.post enc Tryd.prog Tryd.f5 false true false false) := by
  refine returnsInHanded_of_change_and (C := Tryd.checked) (X := fun w _ => laidMetH Tryd.prog Rows.fnPutInRow.laid w) (fun _ _ _ hh h => h.of_heap hh) own started (by kernel_rfl) Tryd.func5
    (ChangeSpec.witness_shaped (enc := enc) (C := Tryd.checked) (os := os) (X := fun w _ => laidMetH Tryd.prog Rows.fnPutInRow.laid w) false (World.laidAll Tryd.prog os Rows.fnPutInRow.laid) #[.slice none 0 0] 8 (World.laidAll_os _ _ _)
      (World.shaped_of_ZipB (by kernel_rfl) (by kernel_rfl)) (by kernel_rfl) (by kernel_rfl) (by kernel_rfl)
      (by rw [MakeChecks.laidMetH_plain _ _ _ (by kernel_rfl)]; exact laidMet_laidAll _ (by kernel_rfl) (by kernel_rfl))) ?_
  intro W base args ds gs before hval0 hW _ _ hL _
  have hval : ∀ (j : Nat) t v, Tryd.f5.params[j]? = some t → args[j]? = some v → Value.okWide Tryd.prog W .any base t v := hval0
  have hW' := hW
  obtain ⟨p, q, hA0, hV, rfl, hfz, hnd⟩ := hW
  have hA : DataW.TrodAll enc Tryd.prog W 0 (fun _ => true) true Tryd.f5.params.toList args.toList ds p := hA0
  rw [Tryd.params5] at hA hval
  obtain ⟨v0, vs0, d0, ds0, p0, q0, hargs, rfl, rfl, h0, r0⟩ := trodAll_cons hA
  obtain ⟨rfl, rfl, rfl⟩ := trodAll_nil r0
  obtain rfl : args = #[v0] := by cases args; simp_all
  have kV := hV
  obtain ⟨gv, tv, cv, fv, dv, pv, gu, tu, cu, fu, du, pu, rfl, _⟩ := trodVars_two hV
  have k0 := h0
  have lt0 : ∀ x ∈ p0, x.block < W.heap.size := by obtain ⟨m, hm⟩ := k0; exact DataW.trod_lt m _ _ _ hm
  obtain ⟨a0, len0, cap0, rfl⟩ := okWide_slice Tryd.underlying22 (hval 0 22 v0 rfl rfl)
  obtain ⟨z0, w0⟩ : ∃ zs, IsRow .u8 W a0 len0 cap0 zs := by
    obtain ⟨fuel, hf⟩ := h0
    rcases open_ints Tryd.underlying22 Tryd.underlying5 (by kernel_rfl) hf with ⟨hcs, _⟩ | ⟨x, l, c, zs, hcs, _, hl, hm, hz, _, hcell, hwz⟩
    · simp [Value.cells] at hcs
      obtain ⟨rfl, rfl, rfl⟩ := hcs
      exact ⟨[], .inl ⟨rfl, rfl, rfl, rfl⟩⟩
    · simp [Value.cells] at hcs
      obtain ⟨rfl, rfl, rfl⟩ := hcs
      exact ⟨zs, .inr ⟨_, rfl, hl, hm, by simpa using hz, hcell, hwz⟩⟩
  clear hA0 hval0
  refine (walk a0 len0 cap0 z0 W w0 (tab_of_laid hL)).mono fun e W' ⟨he, bel⟩ => ?_
  subst he
  exact ⟨_, rfl, _, _, _, [], _, _, hW', trodAll_mk1 (shut_bool Tryd.underlying4 _), (trodAll_cons_mk (Below.trod laidOut (by kernel_rfl) (of_decide_eq_true (by kernel_rfl)) k0 bel lt0) trodAll_mk0), bel.trodVars laidOut (by kernel_rfl) kV, bel.frame _, fun h => by cases h⟩

theorem proved : Rows.FnPutInSaid :=
  OpenClaim.holds_of_wide 5 Tryd.f5 rfl rfl rfl rfl rfl rfl rfl ⟨rfl, rfl, rfl, rfl, rfl⟩ rfl rfl rfl rfl rfl (by kernel_rfl) Tryd.func5 (by kernel_rfl)
    (of_decide_eq_true (by kernel_rfl)) (by unfold Func.isWrapper; first | (rw [if_pos (by decide +kernel)]; kernel_rfl) | (rw [if_neg (by decide +kernel)]; exact ⟨rfl, rfl⟩))
    (fun os started H enc _ => lifted os started H enc)
end Go.Proofs.YtkolflcjkofleaaDoor.fnPutIn

namespace Go.Proofs.YtkolflcjkofleaaDoor
theorem fnPutIn_holds : Rows.FnPutInCardSaid :=
  Claim7.holds_tied_plain_at .later [] [.data, .data] true (true, "bb0bc1b0fb6fad9ee741dbe94bc6d927b19996896d356a68a721711bb659e7ab") true
    fnPutIn.proved (fun _ h => by cases h) (by kernel_rfl) (fun _ h => by cases h) fnPutIn_row_tie rfl ⟨rfl, rfl⟩ (by kernel_rfl) rfl
    (fun f fn hf hfn => by
      obtain rfl : f = 5 := Option.some.inj ((show Tryd.prog.funcNamed "loop.example/g00329/laws.FnPutIn" = some 5 by kernel_rfl).symm.trans hf) |>.symm
      obtain rfl : fn = Tryd.f5 := (Option.some.inj (Tryd.func5.symm.trans hfn)).symm
      exact ⟨by kernel_rfl, fun j t ht => by
        rw [Tryd.params5] at ht
        have hm : t ∈ [22] := by simpa using Array.mem_of_getElem? ht
        have hall : ([22].all fun u => !Tryd.prog.wantsStandIn u) = true := by kernel_rfl
        exact (show Tryd.prog.wantsStandIn t = false by simpa using List.all_eq_true.1 hall t hm)⟩)
    (by kernel_rfl)
#print axioms fnPutIn_holds
end Go.Proofs.YtkolflcjkofleaaDoor
