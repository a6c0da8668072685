/- For every two terms, list of texts and list of terms: the program puts the terms in as the model does, keeps what it was given and hands out nothing of it: the law FnExactPut returns true at every argument (of more than 1048576 the law itself answers true); the condition is what the card ties: the tables opWords and regWords are as the text of the program lays them. -/
import Derived.Test.YtkolflcjkofleaaDoorRows
import Derived.Test.YtkolflcjkofleaaDoorTxA
import Derived.Test.YtkolflcjkofleaaDoorTxC
import Derived.Test.YtkolflcjkofleaaDoorTxD
import Derived.Test.YtkolflcjkofleaaDoorTxE
import Derived.Test.YtkolflcjkofleaaDoorTxH
import Derived.Test.YtkolflcjkofleaaDoorTxI
import Derived.Test.YtkolflcjkofleaaDoorTxJ
import Derived.Deep.CutRange
import Derived.Test.YtkolflcjkofleaaDoorTie
import Derived.Test.YtkolflcjkofleaaDoorCards
import Derived.SevenTiedAt
import Derived.Lay
import Derived.MakeChecks
import Derived.OpenVars
import Derived.WalkKit
import Derived.ProofKit
import Derived.OpenShut
import Derived.ShutString
import Derived.ChangeOld
import Derived.Below
namespace Go.Proofs.YtkolflcjkofleaaDoor.fnExactPut
open Go.ChangeShapes Go.WideShapes Go.ChangeAt Go.RowKit
open Go.ChangeMaps (open_string shut_string)
set_option linter.unusedVariables false
set_option maxRecDepth 8000

theorem putA_sz (here : Ex) (L : List ByteArray) (vals : List Ex) (e : Ex) : (putA here L vals e).sz ≤ 1048576 := by
  unfold putA
  split
  · rename_i h
    exact Nat.le_trans (ok_sz 6 _ h.2.2.2.2) (by decide)
  · show zX.sz ≤ 1048576
    unfold zX
    rw [sz_leaf]
    decide
theorem box2 (w : World) (o o2 : Obj) : Below w.heap.size w ((w.alloc o).alloc o2) ∧ ((w.alloc o).alloc o2).heap[w.heap.size]? = some o ∧ ((w.alloc o).alloc o2).heap[w.heap.size + 1]? = some o2 := two_resG w o o2
theorem own_same {w w' : World} {B g n cap : Nat} {L : List ByteArray} (h : OwnS w B (.slice (some ⟨g, 0, none⟩) n cap) L) (hb : w'.heap[g]? = w.heap[g]?) : OwnS w' B (.slice (some ⟨g, 0, none⟩) n cap) L := by
  obtain ⟨q1, ⟨e, _⟩ | ⟨g', cap', cur, e, e2, e3, e4⟩⟩ := h
  · cases e
  · cases e
    exact ⟨q1, .inr ⟨_, _, cur, rfl, e2, hb.trans e3, e4⟩⟩
set_option maxHeartbeats 32000000 in
theorem walk (e : Ex) (b : Option Addr) (cap : Nat) (h : Ex) (hb : Option Addr) (hcp : Nat) (a2 : Option Addr) (n2 c2 : Nat) (L : List ByteArray) (V0 : Ex) (a3 : Option Addr) (c3 : Nat) (w : World) (hr : RdX w 0 e b) (hf : Fit e) (hr1 : RdX w 0 h hb) (hf1 : Fit h) (h2 : IsU w a2 n2 L) (hr3' : RdX w 0 V0 a3) (hf3' : Fit V0) (ht : TabK w) : Calls Tryd.prog 8 #[.agg (e.cs b cap), .agg (h.cs hb hcp), .slice a2 n2 c2, .slice a3 V0.l.length c3] w fun r w' => r = .returned (.bool true) ∧ Below w.heap.size w w' := by
  obtain ⟨hl2, hm2, hz2, hr2⟩ := h2
  subst hl2
  have hr3 : RdX w 0 ⟨0, 0, E0, V0.l⟩ a3 := (RdX_eq w 0 ⟨0, 0, E0, V0.l⟩ a3).2 ((RdX_eq w 0 V0 a3).1 hr3')
  have hf3 : Fit ⟨0, 0, E0, V0.l⟩ := (Fit_eq ⟨0, 0, E0, V0.l⟩).2 ⟨show E0.size ≤ 9223372036854775807 by decide, ((Fit_eq V0).1 hf3').2⟩
  generalize V0.l = vals at *
  clear hr3' hf3' V0
  obtain ⟨V, hV⟩ : ∃ V : Ex, V = ⟨0, 0, E0, vals⟩ := ⟨_, rfl⟩
  have hVl : V.l = vals := by rw [hV]
  have hVs : V.sz = vals.length + szX vals := by rw [hV, sz_is]; show 0 + vals.length + szX vals = _; omega
  rw [← hV] at hr3 hf3
  have T0 := box2 w (.cells (e.cs b cap) 44) (.cells (h.cs hb hcp) 44)
  have B0 := hide T0.1
  have GA0 := hide T0.2.1
  have GH0 := hide T0.2.2
  have S1 := hide (szX_any e b cap 1048576 _ (hr.later T0.1) hf (by omega) (by omega))
  have S2 := hide (fun (left : Nat) (q : left ≤ 1048576) wr (hbb : Below w.heap.size w wr) => szX_any h hb hcp left wr (hr1.later hbb) hf1 (by omega) (by omega))
  have S3 := hide (fun (left : Nat) (q : left ≤ 1048576) wr (hbb : Below w.heap.size w wr) => szStrS_any a2 L.length c2 left L wr rfl hm2 q hz2 (hr2.later hbb))
  have S4 := hide (fun (left : Nat) (q : left ≤ 1048576) wr (hbb : Below w.heap.size w wr) => szXS_of V (fun i hi => szX_any _) a3 c3 left wr (hr3.later hbb) hf3 (by omega) (by omega))
  have TX := hide (fun (q : e.sz ≤ 1048576) wr (hbb : Below w.heap.size w wr) => toX_any e b cap wr (hr.later hbb) q)
  have TH := hide (fun (q : h.sz ≤ 1048576) wr (hbb : Below w.heap.size w wr) => toX_any h hb hcp wr (hr1.later hbb) q)
  have TS := hide (fun (q : L.length ≤ 1048576) wr (hbb : Below w.heap.size w wr) => toStrS_any a2 L.length c2 L wr rfl q (hr2.later hbb))
  have TV := hide (fun (q : V.sz ≤ 1048576) wr (hbb : Below w.heap.size w wr) => toXS_of V (fun i hi => toX_any _) a3 c3 wr (hr3.later hbb) q)
  have hzv : V.sz ≤ 1048576 → vals.length ≤ 1048576 ∧ ∀ i, i < vals.length → (xAt vals i).sz ≤ 1048576 := fun q => ⟨by omega, fun i hi => by have := sz_part hi; omega⟩
  have PS := hide (fun (q0 : e.sz ≤ 1048576) (q1 : h.sz ≤ 1048576) (q2 : L.length ≤ 1048576) (q3 : V.sz ≤ 1048576) wr d dp d2 dp2 gn gv B C (r0 : RdX wr 0 e d) (r1 : RdX wr 0 h d2) (r2 : OwnS wr B (.slice (some ⟨gn, 0, none⟩) L.length C) L) (r3 : RdX wr 0 V (some ⟨gv, 0, none⟩)) => putA_any h L vals e d d2 (some ⟨gv, 0, none⟩) dp dp2 gn vals.length wr r0 ⟨r1, r2.cells, (World.ownsRow.lt r2 gn rfl).2, by rw [← hV]; exact r3⟩ q0 q1 (by omega) (hzv q3).1 (hzv q3).2)
  have PI := hide (fun (q0 : e.sz ≤ 1048576) (q1 : h.sz ≤ 1048576) (q2 : L.length ≤ 1048576) (q3 : V.sz ≤ 1048576) wr (hbb : Below w.heap.size w wr) d dp d2 dp2 gn gv B C (r0 : RdX wr 0 e d) (r1 : RdX wr 0 h d2) (r2 : OwnS wr B (.slice (some ⟨gn, 0, none⟩) L.length C) L) (r3 : RdX wr 0 V (some ⟨gv, 0, none⟩)) => putI_any h L vals e d d2 dp dp2 (some ⟨gn, 0, none⟩) L.length gv 0 vals.length wr r0 r1 (rdu_of_own r2) (by rw [← hV]; exact r3) q0 q1 q2 (hzv q3).1 (hzv q3).2 (ht.next hbb))
  unfold GiR at PS
  unfold XoR at PI
  have hE := putA_sz h L vals e
  generalize putA h L vals e = E at *
  have EE := hide (fun c d cp dp wr (q1 : RdX wr 0 E c) (q2 : RdX wr 0 E d) => eqX_same E c d cp dp wr q1 q2 hE)
  have EX := hide (fun (q : e.sz ≤ 1048576) c d cp dp wr (q1 : RdX wr 0 e c) (q2 : RdX wr 0 e d) => eqX_same e c d cp dp wr q1 q2 q)
  have EH := hide (fun (q : h.sz ≤ 1048576) c d cp dp wr (q1 : RdX wr 0 h c) (q2 : RdX wr 0 h d) => eqX_same h c d cp dp wr q1 q2 q)
  have ES := hide (fun (q : L.length ≤ 1048576) c d cp dp wr (q1 : RdU wr c L) (q2 : RdU wr d L) => eqStrS_same c d L.length cp dp L wr rfl (by omega) q1 q2)
  have EV := hide (fun (q : V.sz ≤ 1048576) c d cp dp wr (q1 : RdX wr 0 V c) (q2 : RdX wr 0 V d) => eqXS_of V (fun i hi => eqX_same _) c d cp dp wr q1 q2 q)
  have hce := ct_szF e
  have hch := ct_szF h
  have hcv := ct_szF V
  have hcE := ct_szF E
  have MX := hide (fun (q : e.sz ≤ 1048576) (a : Option Addr) (cap B C : Nat) (wr : World) (o : HalfX wr B C e a) (hB : B ≤ wr.heap.size) => markX_keep e a cap 1 B C wr o hB (by omega) (by omega))
  have MH := hide (fun (q0 : e.sz ≤ 1048576) (q : h.sz ≤ 1048576) (a : Option Addr) (cap B C : Nat) (wr : World) (o : HalfX wr B C h a) (hB : B ≤ wr.heap.size) => markX_keep h a cap (1 + 3 * e.ct) B C wr o hB (by omega) (by omega))
  have MS := hide (fun (q0 : e.sz ≤ 1048576) (q1 : h.sz ≤ 1048576) (q2 : L.length ≤ 1048576) (g B : Nat) (wr : World) (o : OwnS wr B (.slice (some ⟨g, 0, none⟩) L.length L.length) L) => markStrS_any g L.length L.length (1 + 3 * e.ct + 3 * h.ct) _ B wr (by omega) (by omega) o)
  have MV := hide (fun (qq : e.sz + h.sz + L.length + V.sz ≤ 1048576) (g B : Nat) (F : List Nat) (wr : World) (o : OwX wr V (some ⟨g, 0, none⟩) F) (hn : F.Nodup) (hF : ∀ x ∈ F, B ≤ x) (hB : B ≤ wr.heap.size) => markXS_any V (some ⟨g, 0, none⟩) V.l.length (1 + 3 * e.ct + 3 * h.ct + L.length) F B wr o hn hF hB (by omega) (by omega))
  have MF := hide (fun (a : Option Addr) (cap B C : Nat) (wr : World) (q : HalfX wr B C E a) (hB : B ≤ wr.heap.size) => markX_keep E a cap 1 B C wr q hB (by omega) (by omega))
  have HF := hide (fun (a : Option Addr) (cap : Nat) (y : Ex) (wr : World) (hm : MkX E 1 y) (q : RdX wr 0 y a) => heldX_any E a cap 1 y wr hm q (by omega) (by omega) E.k E.n E.s)
  have hm0 : (0 : Int) ≤ ((1 + 3 * E.ct : Nat) : Int) := by omega
  have hk0 : (0 : Int) ≤ ((1 + 3 * e.ct + 3 * h.ct + L.length + 3 * V.ct : Nat) : Int) := by omega
  have hVz : V.l.length + szX V.l = V.sz := by rw [hVs, hVl]
  rw [hVz] at S4
  rw [← hVl] at PS PI ⊢
  clear hVl hVs hVz hV
  clear hce hch hcv hcE hE hr hf hr1 hf1 hr2 hr3 hf3 ht hzv hm2 hz2 T0
  generalize ((1 + 3 * E.ct : Nat) : Int) = mm at *
  generalize ((1 + 3 * e.ct + 3 * h.ct + L.length + 3 * V.ct : Nat) : Int) = kk at *
  generalize 1 + 3 * e.ct + 3 * h.ct + L.length = k3 at *
  generalize 1 + 3 * e.ct + 3 * h.ct = k2 at *
  generalize 1 + 3 * e.ct = k1 at *
  have hm1 : ¬ mm < 0 := by omega
  have hk1 : ¬ kk < 0 := by omega
  generalize e.sz = ze at *
  generalize h.sz = zh at *
  generalize V.sz = zv at *
  unfold Ex.cs at S1 S2 TX TH PS PI EE EX EH MX MH MF B0 GA0 GH0 ⊢
  generalize hw0 : (w.alloc (.cells #[.int .i64 e.k, .int .i64 e.n, .string e.s, .slice b e.l.length cap] 44)).alloc (.cells #[.int .i64 h.k, .int .i64 h.n, .string h.s, .slice hb h.l.length hcp] 44) = W at *
  generalize e.k = ek at *
  generalize e.n = en at *
  generalize e.s = es at *
  generalize e.l.length = el at *
  generalize h.k = hk at *
  generalize h.n = hn at *
  generalize h.s = hs at *
  generalize h.l.length = hl at *
  generalize E.k = fk at *
  generalize E.n = fn at *
  generalize E.s = fs at *
  generalize E.l.length = fl at *
  generalize V.l.length = vl at *
  go_enter Tryd.func8, Tryd.ntmps8
  go_wp2_with (first | (refine wpList_load_row rfl 44 _ rfl w.heap.size rfl 44 #[.int .i64 ek, .int .i64 en, .string es, .slice b el cap] (0, 0) _ (unhide GA0) Tryd.underlying44 rfl (by kernel_rfl) ?_) | (simp only [hw0]))
  refine (unhide S1).mono ?_
  rintro r w1 ⟨rfl, hbb⟩
  have B1 := hide ((unhide B0).trans (hbb.mono (unhide B0).size))
  have GA1 := hide (row_keep (unhide GA0) hbb)
  have GH1 := hide (row_keep (unhide GH0) hbb)
  clear hbb B0 GA0 GH0
  clear S1
  unfold lessX
  by_cases hneg : (1048576 : Int) - (ze : Int) < 0
  · rw [if_pos hneg]
    go_wp2
    go_ret
    exact ⟨rfl, unhide B1⟩
  rw [if_neg hneg]
  obtain ⟨l1, hl1⟩ : ∃ l1 : Nat, (1048576 : Int) - (ze : Int) = (l1 : Int) := ⟨1048576 - ze, by omega⟩
  rw [hl1]
  have hp1 : ¬ ((l1 : Int) < 0) := by omega
  have A1 := hide (unhide S2 l1 (by omega) w1 (unhide B1))
  clear hneg S2
  go_wp2_with (refine wpList_load_row rfl 44 _ rfl (w.heap.size + 1) rfl 44 #[.int .i64 hk, .int .i64 hn, .string hs, .slice hb hl hcp] (0, 0) _ (unhide GH1) Tryd.underlying44 rfl (by kernel_rfl) ?_)
  refine (unhide A1).mono ?_
  rintro r w2 ⟨rfl, hbb⟩
  clear A1
  have B2 := hide ((unhide B1).trans (hbb.mono (unhide B1).size))
  have GA2 := hide (row_keep (unhide GA1) hbb)
  have GH2 := hide (row_keep (unhide GH1) hbb)
  clear hbb B1 GA1 GH1
  unfold lessX
  by_cases hneg : (l1 : Int) - (zh : Int) < 0
  · rw [if_pos hneg]
    go_wp2
    go_ret
    exact ⟨rfl, unhide B2⟩
  rw [if_neg hneg]
  obtain ⟨l2, hl2⟩ : ∃ l2 : Nat, (l1 : Int) - (zh : Int) = (l2 : Int) := ⟨l1 - zh, by omega⟩
  rw [hl2]
  have hp2 : ¬ ((l2 : Int) < 0) := by omega
  have A2 := hide (unhide S3 l2 (by omega) w2 (unhide B2))
  clear hneg S3
  go_wp2_with fail
  refine (unhide A2).mono ?_
  rintro r w3 ⟨hor, hbb⟩
  clear A2
  have B3 := hide ((unhide B2).trans (hbb.mono (unhide B2).size))
  have GA3 := hide (row_keep (unhide GA2) hbb)
  have GH3 := hide (row_keep (unhide GH2) hbb)
  clear hbb B2 GA2 GH2
  rcases hor with rfl | ⟨hle, rfl⟩
  · go_wp2
    go_ret
    exact ⟨rfl, unhide B3⟩
  generalize hl3 : (l2 - (L.length + szU L) : Nat) = l3 at *
  have hp3 : ¬ ((l3 : Int) < 0) := by omega
  have A3 := hide (unhide S4 l3 (by omega) w3 (unhide B3))
  clear S4
  go_wp2_with fail
  refine (unhide A3).mono ?_
  rintro r w4 ⟨rfl, hbb⟩
  clear A3
  have B4 := hide ((unhide B3).trans (hbb.mono (unhide B3).size))
  have GA4 := hide (row_keep (unhide GA3) hbb)
  have GH4 := hide (row_keep (unhide GH3) hbb)
  clear hbb B3 GA3 GH3
  unfold lessX
  by_cases hneg : (l3 : Int) - (zv : Int) < 0
  · rw [if_pos hneg]
    go_wp2
    go_ret
    exact ⟨rfl, unhide B4⟩
  rw [if_neg hneg]
  obtain ⟨l4, hl4⟩ : ∃ l4 : Nat, (l3 : Int) - (zv : Int) = (l4 : Int) := ⟨l3 - zv, by omega⟩
  rw [hl4]
  have hp4 : ¬ ((l4 : Int) < 0) := by omega
  have qa : ze ≤ 1048576 := by omega
  have qb : zh ≤ 1048576 := by omega
  have qc : L.length ≤ 1048576 := by omega
  have qd : zv ≤ 1048576 := by omega
  have qq : ze + zh + L.length + zv ≤ 1048576 := by omega
  have TX := hide (unhide TX qa)
  have TH := hide (unhide TH qb)
  have TS := hide (unhide TS qc)
  have TV := hide (unhide TV qd)
  have PS := hide (unhide PS qa qb qc qd)
  have PI := hide (unhide PI qa qb qc qd)
  have EX := hide (unhide EX qa)
  have EH := hide (unhide EH qb)
  have ES := hide (unhide ES qc)
  have EV := hide (unhide EV qd)
  have MX := hide (unhide MX qa)
  have MH := hide (unhide MH qa qb)
  have MS := hide (unhide MS qa qb qc)
  have MV := hide (unhide MV qq)
  clear hneg hle hl1 hl2 hl3 hl4 qa qb qc qd qq
  go_wp2_with fail
  go_cut [10] from 40 to 48 (fun v wc => ∃ (g : Nat) (c : Option Addr) (cp bn cn : Nat), v = .pointer (some ⟨g, 0, none⟩) ∧ wc.heap[g]? = some (.cells #[.int .i64 fk, .int .i64 fn, .string fs, .slice c fl cp] 26 (0, 0)) ∧ HalfX wc bn cn E c ∧ cn ≤ wc.heap.size ∧ Below w4.heap.size w4 wc)
  case first =>
    rename_i J K hJ hM
    have hbb := below_drew (w := w4)
    have D5 := hide hbb
    have B5 := hide ((unhide B4).trans (hbb.mono (unhide B4).size))
    have GA5 := hide (row_keep (unhide GA4) hbb)
    have GH5 := hide (row_keep (unhide GH4) hbb)
    clear hbb
    refine wp_region_held_drew (S := fun w' => w'.heap[w.heap.size]? = some (.cells #[.int .i64 ek, .int .i64 en, .string es, .slice b el cap] 44 (0, 0)) ∧ w'.heap[w.heap.size + 1]? = some (.cells #[.int .i64 hk, .int .i64 hn, .string hs, .slice hb hl hcp] 44 (0, 0))) (by kernel_rfl) ⟨unhide GA5, unhide GH5⟩ (fun hS => ?_)
    have HS := hide hS
    clear hS
    generalize w4.drew = w5 at *
    refine wpAnyH_take (i := 0) (v := .agg #[.int .i64 ek, .int .i64 en, .string es, .slice b el cap]) rfl (by kernel_rfl) (by kernel_rfl) (by kernel_rfl) (fun _ _ _ h => h) (yields_loadG (by rfl) 44 _ rfl w.heap.size rfl 44 #[.int .i64 ek, .int .i64 en, .string es, .slice b el cap] _ (fun w h => h.1) Tryd.underlying44 rfl (by kernel_rfl)) (unhide HS) ?_
    go_simp
    refine wpAnyH_take (i := 2) (v := .agg #[.int .i64 hk, .int .i64 hn, .string hs, .slice hb hl hcp]) rfl (by kernel_rfl) (by kernel_rfl) (by kernel_rfl) (fun _ _ _ h => h) (yields_loadG (by rfl) 44 _ rfl (w.heap.size + 1) rfl 44 #[.int .i64 hk, .int .i64 hn, .string hs, .slice hb hl hcp] _ (fun w h => h.2) Tryd.underlying44 rfl (by kernel_rfl)) (unhide HS) ?_
    go_simp
    refine wpAnyH_take (i := 4) (v := .slice a2 L.length c2) rfl (by kernel_rfl) (by kernel_rfl) (by kernel_rfl) (fun _ _ _ h => h) (Or.inl ⟨by rfl, fun w hc => ?_⟩) (unhide HS) ?_
    · clear hc; go_simp
    go_simp
    refine wpAnyH_take (i := 6) (v := .slice a3 vl c3) rfl (by kernel_rfl) (by kernel_rfl) (by kernel_rfl) (fun _ _ _ h => h) (Or.inl ⟨by rfl, fun w hc => ?_⟩) (unhide HS) ?_
    · clear hc; go_simp
    go_simp
    refine wpAnyH_ready (rs := [1, 9]) (by kernel_rfl) (by simp) ?_
    refine AllReadyH.cons rfl (fun K2 hK => ?_) (AllReadyH.cons rfl (fun K2 hK => ?_) AllReadyH.nil)
    · go_simp
      refine (unhide TX w5 (unhide B5)).mono ?_
      rintro r w6 ⟨d, dp, rfl, hnx, hbb⟩
      have X6 := hide (show RdX w6 0 e d from hnx.rd.lower (Nat.zero_le _) _ _)
      clear hnx
      have B6 := hide ((unhide B5).trans (hbb.mono (unhide B5).size))
      have D6 := hide ((unhide D5).trans (hbb.mono (unhide D5).size))
      have GA6 := hide (row_keep (unhide GA5) hbb)
      have GH6 := hide (row_keep (unhide GH5) hbb)
      clear hbb B5 D5 GA5 GH5
      refine hK.out _ _ (⟨unhide GA6, unhide GH6⟩) (fun hS => ?_)
      clear HS
      have HS := hide hS
      clear hS hK K2
      refine wpAnyH_ready (rs := [3, 9]) (by kernel_rfl) (by simp) ?_
      refine AllReadyH.cons rfl (fun K2 hK => ?_) (AllReadyH.cons rfl (fun K2 hK => ?_) AllReadyH.nil)
      · go_simp
        refine (unhide TH w6 (unhide B6)).mono ?_
        rintro r w7 ⟨d2, dp2, rfl, hnx, hbb⟩
        have Y7 := hide (show RdX w7 0 h d2 from hnx.rd.lower (Nat.zero_le _) _ _)
        clear hnx
        have B7 := hide ((unhide B6).trans (hbb.mono (unhide B6).size))
        have D7 := hide ((unhide D6).trans (hbb.mono (unhide D6).size))
        have GA7 := hide (row_keep (unhide GA6) hbb)
        have GH7 := hide (row_keep (unhide GH6) hbb)
        have X7 := hide ((unhide X6).later hbb)
        clear hbb B6 D6 GA6 GH6 X6
        refine hK.out _ _ (⟨unhide GA7, unhide GH7⟩) (fun hS => ?_)
        clear HS
        have HS := hide hS
        clear hS hK K2
        refine wpAnyH_ready (rs := [5, 9]) (by kernel_rfl) (by simp) ?_
        refine AllReadyH.cons rfl (fun K2 hK => ?_) (AllReadyH.cons rfl (fun K2 hK => ?_) AllReadyH.nil)
        · go_simp
          refine (unhide TS w7 (unhide B7)).mono ?_
          rintro r w8 ⟨rfl, hnx, hbb⟩
          have U8 := hide hnx
          clear hnx
          have B8 := hide ((unhide B7).trans (hbb.mono (unhide B7).size))
          have D8 := hide ((unhide D7).trans (hbb.mono (unhide D7).size))
          have GA8 := hide (row_keep (unhide GA7) hbb)
          have GH8 := hide (row_keep (unhide GH7) hbb)
          have X8 := hide ((unhide X7).later hbb)
          have Y8 := hide ((unhide Y7).later hbb)
          clear hbb B7 D7 GA7 GH7 X7 Y7
          generalize w7.heap.size = gn at *
          refine hK.out _ _ (⟨unhide GA8, unhide GH8⟩) (fun hS => ?_)
          clear HS
          have HS := hide hS
          clear hS hK K2
          refine wpAnyH_ready (rs := [7, 9]) (by kernel_rfl) (by simp) ?_
          refine AllReadyH.cons rfl (fun K2 hK => ?_) (AllReadyH.cons rfl (fun K2 hK => ?_) AllReadyH.nil)
          · go_simp
            refine (unhide TV w8 (unhide B8)).mono ?_
            rintro r w9 ⟨rfl, hnx, hbb⟩
            have V9 := hide (show RdX w9 0 V (some ⟨w8.heap.size, 0, none⟩) from hnx.rd.lower (Nat.zero_le _) _ _)
            clear hnx
            have B9 := hide ((unhide B8).trans (hbb.mono (unhide B8).size))
            have D9 := hide ((unhide D8).trans (hbb.mono (unhide D8).size))
            have GA9 := hide (row_keep (unhide GA8) hbb)
            have GH9 := hide (row_keep (unhide GH8) hbb)
            have X9 := hide ((unhide X8).later hbb)
            have Y9 := hide ((unhide Y8).later hbb)
            have U9 := hide ((unhide U8).later hbb)
            clear hbb B8 D8 GA8 GH8 X8 Y8 U8
            generalize w8.heap.size = gv at *
            refine hK.out _ _ (⟨unhide GA9, unhide GH9⟩) (fun hS => ?_)
            clear HS
            have HS := hide hS
            clear hS hK K2
            refine wpAnyH_ready (rs := [8, 9]) (by kernel_rfl) (by simp) ?_
            refine AllReadyH.cons rfl (fun K2 hK => ?_) (AllReadyH.cons rfl (fun K2 hK => ?_) AllReadyH.nil)
            · go_simp
              refine (unhide PS w9 d dp d2 dp2 gn gv _ _ (unhide X9) (unhide Y9) (unhide U9) (unhide V9)).mono ?_
              rintro r w10 ⟨c, cp, rfl, hnx, hbb⟩
              have N10 := hide ((hnx.new (B := w9.heap.size) (fun q h => h)).half)
              have hs8 := hbb.size
              clear hnx X9 Y9 U9 V9
              have B10 := hide ((unhide B9).trans (hbb.mono (unhide B9).size))
              have D10 := hide ((unhide D9).trans (hbb.mono (unhide D9).size))
              have GA10 := hide (row_keep (unhide GA9) hbb)
              have GH10 := hide (row_keep (unhide GH9) hbb)
              clear hbb B9 D9 GA9 GH9
              have hz8 := Nat.le_refl w10.heap.size
              generalize w9.heap.size = bn at *
              generalize hcx : w10.heap.size = cn at N10
              have hz9 : cn ≤ w10.heap.size := Nat.le_of_eq hcx.symm
              clear hcx hz8
              refine hK.out _ _ (⟨unhide GA10, unhide GH10⟩) (fun hS => ?_)
              clear HS
              have HS := hide hS
              clear hS hK K2
              refine wpAnyH_ready (rs := [9]) (by kernel_rfl) (by simp) ?_
              refine AllReadyH.cons rfl (fun K2 hK => ?_) AllReadyH.nil
              go_simp
              have hbb := below_new w10 (.cells #[.int .i64 0, .int .i64 0, .string ⟨#[]⟩, .slice none 0 0] 26)
              have A11 := hide (show (w10.alloc (.cells #[.int .i64 0, .int .i64 0, .string ⟨#[]⟩, .slice none 0 0] 26)).heap[w10.heap.size]? = some (.cells #[.int .i64 0, .int .i64 0, .string ⟨#[]⟩, .slice none 0 0] 26 (0, 0)) from Array.getElem?_push_size)
              have gaD : w4.heap.size ≤ w10.heap.size := (unhide D10).size
              have gaS := hbb.size
              have gaH := (Array.getElem?_eq_some_iff.1 (unhide GH10)).1
              have B11 := hide ((unhide B10).trans (hbb.mono (unhide B10).size))
              have D11 := hide ((unhide D10).trans (hbb.mono (unhide D10).size))
              have GA11 := hide (row_keep (unhide GA10) hbb)
              have GH11 := hide (row_keep (unhide GH10) hbb)
              have N11 := hide ((unhide N10).later hbb)
              clear hbb B10 D10 GA10 GH10 N10
              generalize w10.alloc (.cells #[.int .i64 0, .int .i64 0, .string ⟨#[]⟩, .slice none 0 0] 26) = w11 at *
              generalize w10.heap.size = ga at *
              refine hK.out _ _ (⟨unhide GA11, unhide GH11⟩) (fun hS => ?_)
              clear HS
              have HS := hide hS
              clear hS hK K2
              refine wpAnyH_ready (rs := [10]) (by kernel_rfl) (by simp) ?_
              refine AllReadyH.cons rfl (fun K2 hK => ?_) AllReadyH.nil
              rw [if_pos (by rfl)]
              refine wp_store_row 26 _ _ rfl ga #[.int .i64 fk, .int .i64 fn, .string fs, .slice c fl cp] rfl rfl 26 _ (unhide A11) szE rfl (ex_one _ _ _ _ _ _) ?_
              have hgr := grownBy_row (W := w11) (g := ga) #[.int .i64 fk, .int .i64 fn, .string fs, .slice c fl cp]
              have hsz := hgr.size
              have D12 := hide ((unhide D11).grown hgr (unhide D11).size (fun q e => by cases e; omega))
              have Y12 := hide (setRow_heap w11 ga _ #[.int .i64 fk, .int .i64 fn, .string fs, .slice c fl cp] 26 _ (unhide A11))
              have N12 := hide ((unhide N11).beyond hgr (by omega))
              have GA12 := hide ((hgr.block _ (Array.getElem?_eq_some_iff.1 (unhide GA11)).1 (fun e => by simp at e; omega)).trans (unhide GA11))
              have GH12 := hide ((hgr.block _ (Array.getElem?_eq_some_iff.1 (unhide GH11)).1 (fun e => by simp at e; omega)).trans (unhide GH11))
              refine hK.out _ _ ⟨unhide GA12, unhide GH12⟩ (fun hS => ?_)
              clear HS hS hK K2 hgr
              clear A11 N11 GA11 GH11 D11 B11
              refine wpAnyH_done (by kernel_rfl) ?_ _
              generalize w11.setRow ga #[.int .i64 fk, .int .i64 fn, .string fs, .slice c fl cp] = w12 at *
              refine hM _ _ (Met.intro (hJ _ _ ?_))
              (repeat apply Exists.intro)
              refine ⟨?_, rfl⟩
              exact ⟨ga, c, cp, bn, cn, rfl, unhide Y12, unhide N12, by omega, unhide D12⟩
            · go_simp
              have hbb := below_new w9 (.cells #[.int .i64 0, .int .i64 0, .string ⟨#[]⟩, .slice none 0 0] 26)
              have A10 := hide (show (w9.alloc (.cells #[.int .i64 0, .int .i64 0, .string ⟨#[]⟩, .slice none 0 0] 26)).heap[w9.heap.size]? = some (.cells #[.int .i64 0, .int .i64 0, .string ⟨#[]⟩, .slice none 0 0] 26 (0, 0)) from Array.getElem?_push_size)
              have gaD : w4.heap.size ≤ w9.heap.size := (unhide D9).size
              have gaS := hbb.size
              have gaH := (Array.getElem?_eq_some_iff.1 (unhide GH9)).1
              have B10 := hide ((unhide B9).trans (hbb.mono (unhide B9).size))
              have D10 := hide ((unhide D9).trans (hbb.mono (unhide D9).size))
              have GA10 := hide (row_keep (unhide GA9) hbb)
              have GH10 := hide (row_keep (unhide GH9) hbb)
              have X10 := hide ((unhide X9).later hbb)
              have Y10 := hide ((unhide Y9).later hbb)
              have U10 := hide ((unhide U9).later hbb)
              have V10 := hide ((unhide V9).later hbb)
              clear hbb B9 D9 GA9 GH9 X9 Y9 U9 V9
              generalize w9.alloc (.cells #[.int .i64 0, .int .i64 0, .string ⟨#[]⟩, .slice none 0 0] 26) = w10 at *
              generalize w9.heap.size = ga at *
              refine hK.out _ _ (⟨unhide GA10, unhide GH10⟩) (fun hS => ?_)
              clear HS
              have HS := hide hS
              clear hS hK K2
              refine wpAnyH_ready (rs := [8]) (by kernel_rfl) (by simp) ?_
              refine AllReadyH.cons rfl (fun K2 hK => ?_) AllReadyH.nil
              go_simp
              refine (unhide PS w10 d dp d2 dp2 gn gv _ _ (unhide X10) (unhide Y10) (unhide U10) (unhide V10)).mono ?_
              rintro r w11 ⟨c, cp, rfl, hnx, hbb⟩
              have N11 := hide ((hnx.new (B := w10.heap.size) (fun q h => h)).half)
              have hs8 := hbb.size
              have ha8 := (Array.getElem?_eq_some_iff.1 (unhide A10)).1
              clear hnx X10 Y10 U10 V10
              have B11 := hide ((unhide B10).trans (hbb.mono (unhide B10).size))
              have D11 := hide ((unhide D10).trans (hbb.mono (unhide D10).size))
              have GA11 := hide (row_keep (unhide GA10) hbb)
              have GH11 := hide (row_keep (unhide GH10) hbb)
              have A11 := hide (row_keep (unhide A10) hbb)
              clear hbb B10 D10 GA10 GH10 A10
              have hz8 := Nat.le_refl w11.heap.size
              generalize w10.heap.size = bn at *
              generalize hcx : w11.heap.size = cn at N11
              have hz9 : cn ≤ w11.heap.size := Nat.le_of_eq hcx.symm
              clear hcx hz8
              refine hK.out _ _ (⟨unhide GA11, unhide GH11⟩) (fun hS => ?_)
              clear HS
              have HS := hide hS
              clear hS hK K2
              refine wpAnyH_ready (rs := [10]) (by kernel_rfl) (by simp) ?_
              refine AllReadyH.cons rfl (fun K2 hK => ?_) AllReadyH.nil
              rw [if_pos (by rfl)]
              refine wp_store_row 26 _ _ rfl ga #[.int .i64 fk, .int .i64 fn, .string fs, .slice c fl cp] rfl rfl 26 _ (unhide A11) szE rfl (ex_one _ _ _ _ _ _) ?_
              have hgr := grownBy_row (W := w11) (g := ga) #[.int .i64 fk, .int .i64 fn, .string fs, .slice c fl cp]
              have hsz := hgr.size
              have D12 := hide ((unhide D11).grown hgr (unhide D11).size (fun q e => by cases e; omega))
              have Y12 := hide (setRow_heap w11 ga _ #[.int .i64 fk, .int .i64 fn, .string fs, .slice c fl cp] 26 _ (unhide A11))
              have N12 := hide ((unhide N11).drawn hgr (by omega))
              have GA12 := hide ((hgr.block _ (Array.getElem?_eq_some_iff.1 (unhide GA11)).1 (fun e => by simp at e; omega)).trans (unhide GA11))
              have GH12 := hide ((hgr.block _ (Array.getElem?_eq_some_iff.1 (unhide GH11)).1 (fun e => by simp at e; omega)).trans (unhide GH11))
              refine hK.out _ _ ⟨unhide GA12, unhide GH12⟩ (fun hS => ?_)
              clear HS hS hK K2 hgr
              clear A11 N11 GA11 GH11 D11 B11
              refine wpAnyH_done (by kernel_rfl) ?_ _
              generalize w11.setRow ga #[.int .i64 fk, .int .i64 fn, .string fs, .slice c fl cp] = w12 at *
              refine hM _ _ (Met.intro (hJ _ _ ?_))
              (repeat apply Exists.intro)
              refine ⟨?_, rfl⟩
              exact ⟨ga, c, cp, bn, cn, rfl, unhide Y12, unhide N12, by omega, unhide D12⟩
          · go_simp
            have hbb := below_new w8 (.cells #[.int .i64 0, .int .i64 0, .string ⟨#[]⟩, .slice none 0 0] 26)
            have A9 := hide (show (w8.alloc (.cells #[.int .i64 0, .int .i64 0, .string ⟨#[]⟩, .slice none 0 0] 26)).heap[w8.heap.size]? = some (.cells #[.int .i64 0, .int .i64 0, .string ⟨#[]⟩, .slice none 0 0] 26 (0, 0)) from Array.getElem?_push_size)
            have gaD : w4.heap.size ≤ w8.heap.size := (unhide D8).size
            have gaS := hbb.size
            have gaH := (Array.getElem?_eq_some_iff.1 (unhide GH8)).1
            have B9 := hide ((unhide B8).trans (hbb.mono (unhide B8).size))
            have D9 := hide ((unhide D8).trans (hbb.mono (unhide D8).size))
            have GA9 := hide (row_keep (unhide GA8) hbb)
            have GH9 := hide (row_keep (unhide GH8) hbb)
            have X9 := hide ((unhide X8).later hbb)
            have Y9 := hide ((unhide Y8).later hbb)
            have U9 := hide ((unhide U8).later hbb)
            clear hbb B8 D8 GA8 GH8 X8 Y8 U8
            generalize w8.alloc (.cells #[.int .i64 0, .int .i64 0, .string ⟨#[]⟩, .slice none 0 0] 26) = w9 at *
            generalize w8.heap.size = ga at *
            refine hK.out _ _ (⟨unhide GA9, unhide GH9⟩) (fun hS => ?_)
            clear HS
            have HS := hide hS
            clear hS hK K2
            refine wpAnyH_ready (rs := [7]) (by kernel_rfl) (by simp) ?_
            refine AllReadyH.cons rfl (fun K2 hK => ?_) AllReadyH.nil
            go_simp
            refine (unhide TV w9 (unhide B9)).mono ?_
            rintro r w10 ⟨rfl, hnx, hbb⟩
            have V10 := hide (show RdX w10 0 V (some ⟨w9.heap.size, 0, none⟩) from hnx.rd.lower (Nat.zero_le _) _ _)
            clear hnx
            have B10 := hide ((unhide B9).trans (hbb.mono (unhide B9).size))
            have D10 := hide ((unhide D9).trans (hbb.mono (unhide D9).size))
            have GA10 := hide (row_keep (unhide GA9) hbb)
            have GH10 := hide (row_keep (unhide GH9) hbb)
            have A10 := hide (row_keep (unhide A9) hbb)
            have X10 := hide ((unhide X9).later hbb)
            have Y10 := hide ((unhide Y9).later hbb)
            have U10 := hide ((unhide U9).later hbb)
            clear hbb B9 D9 GA9 GH9 A9 X9 Y9 U9
            generalize w9.heap.size = gv at *
            refine hK.out _ _ (⟨unhide GA10, unhide GH10⟩) (fun hS => ?_)
            clear HS
            have HS := hide hS
            clear hS hK K2
            refine wpAnyH_ready (rs := [8]) (by kernel_rfl) (by simp) ?_
            refine AllReadyH.cons rfl (fun K2 hK => ?_) AllReadyH.nil
            go_simp
            refine (unhide PS w10 d dp d2 dp2 gn gv _ _ (unhide X10) (unhide Y10) (unhide U10) (unhide V10)).mono ?_
            rintro r w11 ⟨c, cp, rfl, hnx, hbb⟩
            have N11 := hide ((hnx.new (B := w10.heap.size) (fun q h => h)).half)
            have hs8 := hbb.size
            have ha8 := (Array.getElem?_eq_some_iff.1 (unhide A10)).1
            clear hnx X10 Y10 U10 V10
            have B11 := hide ((unhide B10).trans (hbb.mono (unhide B10).size))
            have D11 := hide ((unhide D10).trans (hbb.mono (unhide D10).size))
            have GA11 := hide (row_keep (unhide GA10) hbb)
            have GH11 := hide (row_keep (unhide GH10) hbb)
            have A11 := hide (row_keep (unhide A10) hbb)
            clear hbb B10 D10 GA10 GH10 A10
            have hz8 := Nat.le_refl w11.heap.size
            generalize w10.heap.size = bn at *
            generalize hcx : w11.heap.size = cn at N11
            have hz9 : cn ≤ w11.heap.size := Nat.le_of_eq hcx.symm
            clear hcx hz8
            refine hK.out _ _ (⟨unhide GA11, unhide GH11⟩) (fun hS => ?_)
            clear HS
            have HS := hide hS
            clear hS hK K2
            refine wpAnyH_ready (rs := [10]) (by kernel_rfl) (by simp) ?_
            refine AllReadyH.cons rfl (fun K2 hK => ?_) AllReadyH.nil
            rw [if_pos (by rfl)]
            refine wp_store_row 26 _ _ rfl ga #[.int .i64 fk, .int .i64 fn, .string fs, .slice c fl cp] rfl rfl 26 _ (unhide A11) szE rfl (ex_one _ _ _ _ _ _) ?_
            have hgr := grownBy_row (W := w11) (g := ga) #[.int .i64 fk, .int .i64 fn, .string fs, .slice c fl cp]
            have hsz := hgr.size
            have D12 := hide ((unhide D11).grown hgr (unhide D11).size (fun q e => by cases e; omega))
            have Y12 := hide (setRow_heap w11 ga _ #[.int .i64 fk, .int .i64 fn, .string fs, .slice c fl cp] 26 _ (unhide A11))
            have N12 := hide ((unhide N11).drawn hgr (by omega))
            have GA12 := hide ((hgr.block _ (Array.getElem?_eq_some_iff.1 (unhide GA11)).1 (fun e => by simp at e; omega)).trans (unhide GA11))
            have GH12 := hide ((hgr.block _ (Array.getElem?_eq_some_iff.1 (unhide GH11)).1 (fun e => by simp at e; omega)).trans (unhide GH11))
            refine hK.out _ _ ⟨unhide GA12, unhide GH12⟩ (fun hS => ?_)
            clear HS hS hK K2 hgr
            clear A11 N11 GA11 GH11 D11 B11
            refine wpAnyH_done (by kernel_rfl) ?_ _
            generalize w11.setRow ga #[.int .i64 fk, .int .i64 fn, .string fs, .slice c fl cp] = w12 at *
            refine hM _ _ (Met.intro (hJ _ _ ?_))
            (repeat apply Exists.intro)
            refine ⟨?_, rfl⟩
            exact ⟨ga, c, cp, bn, cn, rfl, unhide Y12, unhide N12, by omega, unhide D12⟩
        · go_simp
          have hbb := below_new w7 (.cells #[.int .i64 0, .int .i64 0, .string ⟨#[]⟩, .slice none 0 0] 26)
          have A8 := hide (show (w7.alloc (.cells #[.int .i64 0, .int .i64 0, .string ⟨#[]⟩, .slice none 0 0] 26)).heap[w7.heap.size]? = some (.cells #[.int .i64 0, .int .i64 0, .string ⟨#[]⟩, .slice none 0 0] 26 (0, 0)) from Array.getElem?_push_size)
          have gaD : w4.heap.size ≤ w7.heap.size := (unhide D7).size
          have gaS := hbb.size
          have gaH := (Array.getElem?_eq_some_iff.1 (unhide GH7)).1
          have B8 := hide ((unhide B7).trans (hbb.mono (unhide B7).size))
          have D8 := hide ((unhide D7).trans (hbb.mono (unhide D7).size))
          have GA8 := hide (row_keep (unhide GA7) hbb)
          have GH8 := hide (row_keep (unhide GH7) hbb)
          have X8 := hide ((unhide X7).later hbb)
          have Y8 := hide ((unhide Y7).later hbb)
          clear hbb B7 D7 GA7 GH7 X7 Y7
          generalize w7.alloc (.cells #[.int .i64 0, .int .i64 0, .string ⟨#[]⟩, .slice none 0 0] 26) = w8 at *
          generalize w7.heap.size = ga at *
          refine hK.out _ _ (⟨unhide GA8, unhide GH8⟩) (fun hS => ?_)
          clear HS
          have HS := hide hS
          clear hS hK K2
          refine wpAnyH_ready (rs := [5]) (by kernel_rfl) (by simp) ?_
          refine AllReadyH.cons rfl (fun K2 hK => ?_) AllReadyH.nil
          go_simp
          refine (unhide TS w8 (unhide B8)).mono ?_
          rintro r w9 ⟨rfl, hnx, hbb⟩
          have U9 := hide hnx
          clear hnx
          have B9 := hide ((unhide B8).trans (hbb.mono (unhide B8).size))
          have D9 := hide ((unhide D8).trans (hbb.mono (unhide D8).size))
          have GA9 := hide (row_keep (unhide GA8) hbb)
          have GH9 := hide (row_keep (unhide GH8) hbb)
          have A9 := hide (row_keep (unhide A8) hbb)
          have X9 := hide ((unhide X8).later hbb)
          have Y9 := hide ((unhide Y8).later hbb)
          clear hbb B8 D8 GA8 GH8 A8 X8 Y8
          generalize w8.heap.size = gn at *
          refine hK.out _ _ (⟨unhide GA9, unhide GH9⟩) (fun hS => ?_)
          clear HS
          have HS := hide hS
          clear hS hK K2
          refine wpAnyH_ready (rs := [7]) (by kernel_rfl) (by simp) ?_
          refine AllReadyH.cons rfl (fun K2 hK => ?_) AllReadyH.nil
          go_simp
          refine (unhide TV w9 (unhide B9)).mono ?_
          rintro r w10 ⟨rfl, hnx, hbb⟩
          have V10 := hide (show RdX w10 0 V (some ⟨w9.heap.size, 0, none⟩) from hnx.rd.lower (Nat.zero_le _) _ _)
          clear hnx
          have B10 := hide ((unhide B9).trans (hbb.mono (unhide B9).size))
          have D10 := hide ((unhide D9).trans (hbb.mono (unhide D9).size))
          have GA10 := hide (row_keep (unhide GA9) hbb)
          have GH10 := hide (row_keep (unhide GH9) hbb)
          have A10 := hide (row_keep (unhide A9) hbb)
          have X10 := hide ((unhide X9).later hbb)
          have Y10 := hide ((unhide Y9).later hbb)
          have U10 := hide ((unhide U9).later hbb)
          clear hbb B9 D9 GA9 GH9 A9 X9 Y9 U9
          generalize w9.heap.size = gv at *
          refine hK.out _ _ (⟨unhide GA10, unhide GH10⟩) (fun hS => ?_)
          clear HS
          have HS := hide hS
          clear hS hK K2
          refine wpAnyH_ready (rs := [8]) (by kernel_rfl) (by simp) ?_
          refine AllReadyH.cons rfl (fun K2 hK => ?_) AllReadyH.nil
          go_simp
          refine (unhide PS w10 d dp d2 dp2 gn gv _ _ (unhide X10) (unhide Y10) (unhide U10) (unhide V10)).mono ?_
          rintro r w11 ⟨c, cp, rfl, hnx, hbb⟩
          have N11 := hide ((hnx.new (B := w10.heap.size) (fun q h => h)).half)
          have hs8 := hbb.size
          have ha8 := (Array.getElem?_eq_some_iff.1 (unhide A10)).1
          clear hnx X10 Y10 U10 V10
          have B11 := hide ((unhide B10).trans (hbb.mono (unhide B10).size))
          have D11 := hide ((unhide D10).trans (hbb.mono (unhide D10).size))
          have GA11 := hide (row_keep (unhide GA10) hbb)
          have GH11 := hide (row_keep (unhide GH10) hbb)
          have A11 := hide (row_keep (unhide A10) hbb)
          clear hbb B10 D10 GA10 GH10 A10
          have hz8 := Nat.le_refl w11.heap.size
          generalize w10.heap.size = bn at *
          generalize hcx : w11.heap.size = cn at N11
          have hz9 : cn ≤ w11.heap.size := Nat.le_of_eq hcx.symm
          clear hcx hz8
          refine hK.out _ _ (⟨unhide GA11, unhide GH11⟩) (fun hS => ?_)
          clear HS
          have HS := hide hS
          clear hS hK K2
          refine wpAnyH_ready (rs := [10]) (by kernel_rfl) (by simp) ?_
          refine AllReadyH.cons rfl (fun K2 hK => ?_) AllReadyH.nil
          rw [if_pos (by rfl)]
          refine wp_store_row 26 _ _ rfl ga #[.int .i64 fk, .int .i64 fn, .string fs, .slice c fl cp] rfl rfl 26 _ (unhide A11) szE rfl (ex_one _ _ _ _ _ _) ?_
          have hgr := grownBy_row (W := w11) (g := ga) #[.int .i64 fk, .int .i64 fn, .string fs, .slice c fl cp]
          have hsz := hgr.size
          have D12 := hide ((unhide D11).grown hgr (unhide D11).size (fun q e => by cases e; omega))
          have Y12 := hide (setRow_heap w11 ga _ #[.int .i64 fk, .int .i64 fn, .string fs, .slice c fl cp] 26 _ (unhide A11))
          have N12 := hide ((unhide N11).drawn hgr (by omega))
          have GA12 := hide ((hgr.block _ (Array.getElem?_eq_some_iff.1 (unhide GA11)).1 (fun e => by simp at e; omega)).trans (unhide GA11))
          have GH12 := hide ((hgr.block _ (Array.getElem?_eq_some_iff.1 (unhide GH11)).1 (fun e => by simp at e; omega)).trans (unhide GH11))
          refine hK.out _ _ ⟨unhide GA12, unhide GH12⟩ (fun hS => ?_)
          clear HS hS hK K2 hgr
          clear A11 N11 GA11 GH11 D11 B11
          refine wpAnyH_done (by kernel_rfl) ?_ _
          generalize w11.setRow ga #[.int .i64 fk, .int .i64 fn, .string fs, .slice c fl cp] = w12 at *
          refine hM _ _ (Met.intro (hJ _ _ ?_))
          (repeat apply Exists.intro)
          refine ⟨?_, rfl⟩
          exact ⟨ga, c, cp, bn, cn, rfl, unhide Y12, unhide N12, by omega, unhide D12⟩
      · go_simp
        have hbb := below_new w6 (.cells #[.int .i64 0, .int .i64 0, .string ⟨#[]⟩, .slice none 0 0] 26)
        have A7 := hide (show (w6.alloc (.cells #[.int .i64 0, .int .i64 0, .string ⟨#[]⟩, .slice none 0 0] 26)).heap[w6.heap.size]? = some (.cells #[.int .i64 0, .int .i64 0, .string ⟨#[]⟩, .slice none 0 0] 26 (0, 0)) from Array.getElem?_push_size)
        have gaD : w4.heap.size ≤ w6.heap.size := (unhide D6).size
        have gaS := hbb.size
        have gaH := (Array.getElem?_eq_some_iff.1 (unhide GH6)).1
        have B7 := hide ((unhide B6).trans (hbb.mono (unhide B6).size))
        have D7 := hide ((unhide D6).trans (hbb.mono (unhide D6).size))
        have GA7 := hide (row_keep (unhide GA6) hbb)
        have GH7 := hide (row_keep (unhide GH6) hbb)
        have X7 := hide ((unhide X6).later hbb)
        clear hbb B6 D6 GA6 GH6 X6
        generalize w6.alloc (.cells #[.int .i64 0, .int .i64 0, .string ⟨#[]⟩, .slice none 0 0] 26) = w7 at *
        generalize w6.heap.size = ga at *
        refine hK.out _ _ (⟨unhide GA7, unhide GH7⟩) (fun hS => ?_)
        clear HS
        have HS := hide hS
        clear hS hK K2
        refine wpAnyH_ready (rs := [3]) (by kernel_rfl) (by simp) ?_
        refine AllReadyH.cons rfl (fun K2 hK => ?_) AllReadyH.nil
        go_simp
        refine (unhide TH w7 (unhide B7)).mono ?_
        rintro r w8 ⟨d2, dp2, rfl, hnx, hbb⟩
        have Y8 := hide (show RdX w8 0 h d2 from hnx.rd.lower (Nat.zero_le _) _ _)
        clear hnx
        have B8 := hide ((unhide B7).trans (hbb.mono (unhide B7).size))
        have D8 := hide ((unhide D7).trans (hbb.mono (unhide D7).size))
        have GA8 := hide (row_keep (unhide GA7) hbb)
        have GH8 := hide (row_keep (unhide GH7) hbb)
        have A8 := hide (row_keep (unhide A7) hbb)
        have X8 := hide ((unhide X7).later hbb)
        clear hbb B7 D7 GA7 GH7 A7 X7
        refine hK.out _ _ (⟨unhide GA8, unhide GH8⟩) (fun hS => ?_)
        clear HS
        have HS := hide hS
        clear hS hK K2
        refine wpAnyH_ready (rs := [5]) (by kernel_rfl) (by simp) ?_
        refine AllReadyH.cons rfl (fun K2 hK => ?_) AllReadyH.nil
        go_simp
        refine (unhide TS w8 (unhide B8)).mono ?_
        rintro r w9 ⟨rfl, hnx, hbb⟩
        have U9 := hide hnx
        clear hnx
        have B9 := hide ((unhide B8).trans (hbb.mono (unhide B8).size))
        have D9 := hide ((unhide D8).trans (hbb.mono (unhide D8).size))
        have GA9 := hide (row_keep (unhide GA8) hbb)
        have GH9 := hide (row_keep (unhide GH8) hbb)
        have A9 := hide (row_keep (unhide A8) hbb)
        have X9 := hide ((unhide X8).later hbb)
        have Y9 := hide ((unhide Y8).later hbb)
        clear hbb B8 D8 GA8 GH8 A8 X8 Y8
        generalize w8.heap.size = gn at *
        refine hK.out _ _ (⟨unhide GA9, unhide GH9⟩) (fun hS => ?_)
        clear HS
        have HS := hide hS
        clear hS hK K2
        refine wpAnyH_ready (rs := [7]) (by kernel_rfl) (by simp) ?_
        refine AllReadyH.cons rfl (fun K2 hK => ?_) AllReadyH.nil
        go_simp
        refine (unhide TV w9 (unhide B9)).mono ?_
        rintro r w10 ⟨rfl, hnx, hbb⟩
        have V10 := hide (show RdX w10 0 V (some ⟨w9.heap.size, 0, none⟩) from hnx.rd.lower (Nat.zero_le _) _ _)
        clear hnx
        have B10 := hide ((unhide B9).trans (hbb.mono (unhide B9).size))
        have D10 := hide ((unhide D9).trans (hbb.mono (unhide D9).size))
        have GA10 := hide (row_keep (unhide GA9) hbb)
        have GH10 := hide (row_keep (unhide GH9) hbb)
        have A10 := hide (row_keep (unhide A9) hbb)
        have X10 := hide ((unhide X9).later hbb)
        have Y10 := hide ((unhide Y9).later hbb)
        have U10 := hide ((unhide U9).later hbb)
        clear hbb B9 D9 GA9 GH9 A9 X9 Y9 U9
        generalize w9.heap.size = gv at *
        refine hK.out _ _ (⟨unhide GA10, unhide GH10⟩) (fun hS => ?_)
        clear HS
        have HS := hide hS
        clear hS hK K2
        refine wpAnyH_ready (rs := [8]) (by kernel_rfl) (by simp) ?_
        refine AllReadyH.cons rfl (fun K2 hK => ?_) AllReadyH.nil
        go_simp
        refine (unhide PS w10 d dp d2 dp2 gn gv _ _ (unhide X10) (unhide Y10) (unhide U10) (unhide V10)).mono ?_
        rintro r w11 ⟨c, cp, rfl, hnx, hbb⟩
        have N11 := hide ((hnx.new (B := w10.heap.size) (fun q h => h)).half)
        have hs8 := hbb.size
        have ha8 := (Array.getElem?_eq_some_iff.1 (unhide A10)).1
        clear hnx X10 Y10 U10 V10
        have B11 := hide ((unhide B10).trans (hbb.mono (unhide B10).size))
        have D11 := hide ((unhide D10).trans (hbb.mono (unhide D10).size))
        have GA11 := hide (row_keep (unhide GA10) hbb)
        have GH11 := hide (row_keep (unhide GH10) hbb)
        have A11 := hide (row_keep (unhide A10) hbb)
        clear hbb B10 D10 GA10 GH10 A10
        have hz8 := Nat.le_refl w11.heap.size
        generalize w10.heap.size = bn at *
        generalize hcx : w11.heap.size = cn at N11
        have hz9 : cn ≤ w11.heap.size := Nat.le_of_eq hcx.symm
        clear hcx hz8
        refine hK.out _ _ (⟨unhide GA11, unhide GH11⟩) (fun hS => ?_)
        clear HS
        have HS := hide hS
        clear hS hK K2
        refine wpAnyH_ready (rs := [10]) (by kernel_rfl) (by simp) ?_
        refine AllReadyH.cons rfl (fun K2 hK => ?_) AllReadyH.nil
        rw [if_pos (by rfl)]
        refine wp_store_row 26 _ _ rfl ga #[.int .i64 fk, .int .i64 fn, .string fs, .slice c fl cp] rfl rfl 26 _ (unhide A11) szE rfl (ex_one _ _ _ _ _ _) ?_
        have hgr := grownBy_row (W := w11) (g := ga) #[.int .i64 fk, .int .i64 fn, .string fs, .slice c fl cp]
        have hsz := hgr.size
        have D12 := hide ((unhide D11).grown hgr (unhide D11).size (fun q e => by cases e; omega))
        have Y12 := hide (setRow_heap w11 ga _ #[.int .i64 fk, .int .i64 fn, .string fs, .slice c fl cp] 26 _ (unhide A11))
        have N12 := hide ((unhide N11).drawn hgr (by omega))
        have GA12 := hide ((hgr.block _ (Array.getElem?_eq_some_iff.1 (unhide GA11)).1 (fun e => by simp at e; omega)).trans (unhide GA11))
        have GH12 := hide ((hgr.block _ (Array.getElem?_eq_some_iff.1 (unhide GH11)).1 (fun e => by simp at e; omega)).trans (unhide GH11))
        refine hK.out _ _ ⟨unhide GA12, unhide GH12⟩ (fun hS => ?_)
        clear HS hS hK K2 hgr
        clear A11 N11 GA11 GH11 D11 B11
        refine wpAnyH_done (by kernel_rfl) ?_ _
        generalize w11.setRow ga #[.int .i64 fk, .int .i64 fn, .string fs, .slice c fl cp] = w12 at *
        refine hM _ _ (Met.intro (hJ _ _ ?_))
        (repeat apply Exists.intro)
        refine ⟨?_, rfl⟩
        exact ⟨ga, c, cp, bn, cn, rfl, unhide Y12, unhide N12, by omega, unhide D12⟩
    · go_simp
      have hbb := below_new w5 (.cells #[.int .i64 0, .int .i64 0, .string ⟨#[]⟩, .slice none 0 0] 26)
      have A6 := hide (show (w5.alloc (.cells #[.int .i64 0, .int .i64 0, .string ⟨#[]⟩, .slice none 0 0] 26)).heap[w5.heap.size]? = some (.cells #[.int .i64 0, .int .i64 0, .string ⟨#[]⟩, .slice none 0 0] 26 (0, 0)) from Array.getElem?_push_size)
      have gaD : w4.heap.size ≤ w5.heap.size := (unhide D5).size
      have gaS := hbb.size
      have gaH := (Array.getElem?_eq_some_iff.1 (unhide GH5)).1
      have B6 := hide ((unhide B5).trans (hbb.mono (unhide B5).size))
      have D6 := hide ((unhide D5).trans (hbb.mono (unhide D5).size))
      have GA6 := hide (row_keep (unhide GA5) hbb)
      have GH6 := hide (row_keep (unhide GH5) hbb)
      clear hbb B5 D5 GA5 GH5
      generalize w5.alloc (.cells #[.int .i64 0, .int .i64 0, .string ⟨#[]⟩, .slice none 0 0] 26) = w6 at *
      generalize w5.heap.size = ga at *
      refine hK.out _ _ (⟨unhide GA6, unhide GH6⟩) (fun hS => ?_)
      clear HS
      have HS := hide hS
      clear hS hK K2
      refine wpAnyH_ready (rs := [1]) (by kernel_rfl) (by simp) ?_
      refine AllReadyH.cons rfl (fun K2 hK => ?_) AllReadyH.nil
      go_simp
      refine (unhide TX w6 (unhide B6)).mono ?_
      rintro r w7 ⟨d, dp, rfl, hnx, hbb⟩
      have X7 := hide (show RdX w7 0 e d from hnx.rd.lower (Nat.zero_le _) _ _)
      clear hnx
      have B7 := hide ((unhide B6).trans (hbb.mono (unhide B6).size))
      have D7 := hide ((unhide D6).trans (hbb.mono (unhide D6).size))
      have GA7 := hide (row_keep (unhide GA6) hbb)
      have GH7 := hide (row_keep (unhide GH6) hbb)
      have A7 := hide (row_keep (unhide A6) hbb)
      clear hbb B6 D6 GA6 GH6 A6
      refine hK.out _ _ (⟨unhide GA7, unhide GH7⟩) (fun hS => ?_)
      clear HS
      have HS := hide hS
      clear hS hK K2
      refine wpAnyH_ready (rs := [3]) (by kernel_rfl) (by simp) ?_
      refine AllReadyH.cons rfl (fun K2 hK => ?_) AllReadyH.nil
      go_simp
      refine (unhide TH w7 (unhide B7)).mono ?_
      rintro r w8 ⟨d2, dp2, rfl, hnx, hbb⟩
      have Y8 := hide (show RdX w8 0 h d2 from hnx.rd.lower (Nat.zero_le _) _ _)
      clear hnx
      have B8 := hide ((unhide B7).trans (hbb.mono (unhide B7).size))
      have D8 := hide ((unhide D7).trans (hbb.mono (unhide D7).size))
      have GA8 := hide (row_keep (unhide GA7) hbb)
      have GH8 := hide (row_keep (unhide GH7) hbb)
      have A8 := hide (row_keep (unhide A7) hbb)
      have X8 := hide ((unhide X7).later hbb)
      clear hbb B7 D7 GA7 GH7 A7 X7
      refine hK.out _ _ (⟨unhide GA8, unhide GH8⟩) (fun hS => ?_)
      clear HS
      have HS := hide hS
      clear hS hK K2
      refine wpAnyH_ready (rs := [5]) (by kernel_rfl) (by simp) ?_
      refine AllReadyH.cons rfl (fun K2 hK => ?_) AllReadyH.nil
      go_simp
      refine (unhide TS w8 (unhide B8)).mono ?_
      rintro r w9 ⟨rfl, hnx, hbb⟩
      have U9 := hide hnx
      clear hnx
      have B9 := hide ((unhide B8).trans (hbb.mono (unhide B8).size))
      have D9 := hide ((unhide D8).trans (hbb.mono (unhide D8).size))
      have GA9 := hide (row_keep (unhide GA8) hbb)
      have GH9 := hide (row_keep (unhide GH8) hbb)
      have A9 := hide (row_keep (unhide A8) hbb)
      have X9 := hide ((unhide X8).later hbb)
      have Y9 := hide ((unhide Y8).later hbb)
      clear hbb B8 D8 GA8 GH8 A8 X8 Y8
      generalize w8.heap.size = gn at *
      refine hK.out _ _ (⟨unhide GA9, unhide GH9⟩) (fun hS => ?_)
      clear HS
      have HS := hide hS
      clear hS hK K2
      refine wpAnyH_ready (rs := [7]) (by kernel_rfl) (by simp) ?_
      refine AllReadyH.cons rfl (fun K2 hK => ?_) AllReadyH.nil
      go_simp
      refine (unhide TV w9 (unhide B9)).mono ?_
      rintro r w10 ⟨rfl, hnx, hbb⟩
      have V10 := hide (show RdX w10 0 V (some ⟨w9.heap.size, 0, none⟩) from hnx.rd.lower (Nat.zero_le _) _ _)
      clear hnx
      have B10 := hide ((unhide B9).trans (hbb.mono (unhide B9).size))
      have D10 := hide ((unhide D9).trans (hbb.mono (unhide D9).size))
      have GA10 := hide (row_keep (unhide GA9) hbb)
      have GH10 := hide (row_keep (unhide GH9) hbb)
      have A10 := hide (row_keep (unhide A9) hbb)
      have X10 := hide ((unhide X9).later hbb)
      have Y10 := hide ((unhide Y9).later hbb)
      have U10 := hide ((unhide U9).later hbb)
      clear hbb B9 D9 GA9 GH9 A9 X9 Y9 U9
      generalize w9.heap.size = gv at *
      refine hK.out _ _ (⟨unhide GA10, unhide GH10⟩) (fun hS => ?_)
      clear HS
      have HS := hide hS
      clear hS hK K2
      refine wpAnyH_ready (rs := [8]) (by kernel_rfl) (by simp) ?_
      refine AllReadyH.cons rfl (fun K2 hK => ?_) AllReadyH.nil
      go_simp
      refine (unhide PS w10 d dp d2 dp2 gn gv _ _ (unhide X10) (unhide Y10) (unhide U10) (unhide V10)).mono ?_
      rintro r w11 ⟨c, cp, rfl, hnx, hbb⟩
      have N11 := hide ((hnx.new (B := w10.heap.size) (fun q h => h)).half)
      have hs8 := hbb.size
      have ha8 := (Array.getElem?_eq_some_iff.1 (unhide A10)).1
      clear hnx X10 Y10 U10 V10
      have B11 := hide ((unhide B10).trans (hbb.mono (unhide B10).size))
      have D11 := hide ((unhide D10).trans (hbb.mono (unhide D10).size))
      have GA11 := hide (row_keep (unhide GA10) hbb)
      have GH11 := hide (row_keep (unhide GH10) hbb)
      have A11 := hide (row_keep (unhide A10) hbb)
      clear hbb B10 D10 GA10 GH10 A10
      have hz8 := Nat.le_refl w11.heap.size
      generalize w10.heap.size = bn at *
      generalize hcx : w11.heap.size = cn at N11
      have hz9 : cn ≤ w11.heap.size := Nat.le_of_eq hcx.symm
      clear hcx hz8
      refine hK.out _ _ (⟨unhide GA11, unhide GH11⟩) (fun hS => ?_)
      clear HS
      have HS := hide hS
      clear hS hK K2
      refine wpAnyH_ready (rs := [10]) (by kernel_rfl) (by simp) ?_
      refine AllReadyH.cons rfl (fun K2 hK => ?_) AllReadyH.nil
      rw [if_pos (by rfl)]
      refine wp_store_row 26 _ _ rfl ga #[.int .i64 fk, .int .i64 fn, .string fs, .slice c fl cp] rfl rfl 26 _ (unhide A11) szE rfl (ex_one _ _ _ _ _ _) ?_
      have hgr := grownBy_row (W := w11) (g := ga) #[.int .i64 fk, .int .i64 fn, .string fs, .slice c fl cp]
      have hsz := hgr.size
      have D12 := hide ((unhide D11).grown hgr (unhide D11).size (fun q e => by cases e; omega))
      have Y12 := hide (setRow_heap w11 ga _ #[.int .i64 fk, .int .i64 fn, .string fs, .slice c fl cp] 26 _ (unhide A11))
      have N12 := hide ((unhide N11).drawn hgr (by omega))
      have GA12 := hide ((hgr.block _ (Array.getElem?_eq_some_iff.1 (unhide GA11)).1 (fun e => by simp at e; omega)).trans (unhide GA11))
      have GH12 := hide ((hgr.block _ (Array.getElem?_eq_some_iff.1 (unhide GH11)).1 (fun e => by simp at e; omega)).trans (unhide GH11))
      refine hK.out _ _ ⟨unhide GA12, unhide GH12⟩ (fun hS => ?_)
      clear HS hS hK K2 hgr
      clear A11 N11 GA11 GH11 D11 B11
      refine wpAnyH_done (by kernel_rfl) ?_ _
      generalize w11.setRow ga #[.int .i64 fk, .int .i64 fn, .string fs, .slice c fl cp] = w12 at *
      refine hM _ _ (Met.intro (hJ _ _ ?_))
      (repeat apply Exists.intro)
      refine ⟨?_, rfl⟩
      exact ⟨ga, c, cp, bn, cn, rfl, unhide Y12, unhide N12, by omega, unhide D12⟩
  case rest =>
    obtain ⟨g0, c, cp, bn, cn, rfl, hpp, hnn, hcn, hbb⟩ := hcut
    generalize wc = w5 at *
    have P5 := hide hpp
    have N5 := hide hnn
    have hg0 : g0 < w5.heap.size := (Array.getElem?_eq_some_iff.1 hpp).1
    clear hpp hnn
    have B5 := hide ((unhide B4).trans (hbb.mono (unhide B4).size))
    have GA5 := hide (row_keep (unhide GA4) hbb)
    have GH5 := hide (row_keep (unhide GH4) hbb)
    clear hbb B4 GA4 GH4
    have hga : w.heap.size + 1 < w5.heap.size := (Array.getElem?_eq_some_iff.1 (unhide GH5)).1
    have A5 := hide (unhide TX w5 (unhide B5))
    go_wp2_with (refine wpList_load_row rfl 44 _ rfl w.heap.size rfl 44 #[.int .i64 ek, .int .i64 en, .string es, .slice b el cap] (0, 0) _ (unhide GA5) Tryd.underlying44 rfl (by kernel_rfl) ?_)
    refine (unhide A5).mono ?_
    rintro r w6 ⟨d, dp, rfl, hnx, hbb⟩
    clear A5
    have X6 := hide hnx.half
    clear hnx
    have hs6 := hbb.size
    have B6 := hide ((unhide B5).trans (hbb.mono (unhide B5).size))
    have GA6 := hide (row_keep (unhide GA5) hbb)
    have GH6 := hide (row_keep (unhide GH5) hbb)
    have P6 := hide (row_keep (unhide P5) hbb)
    have N6 := hide ((unhide N5).later hbb)
    clear hbb B5 GA5 GH5 P5 N5
    generalize hbx : w5.heap.size = bx at *
    generalize hcx : w6.heap.size = cx at X6
    have hc_cx : cx ≤ w6.heap.size := Nat.le_of_eq hcx.symm
    clear hcx hbx
    have hbb := below_new w6 (.cells #[.int .i64 ek, .int .i64 en, .string es, .slice d el dp] 26)
    have Y7 := hide (show (w6.alloc (.cells #[.int .i64 ek, .int .i64 en, .string es, .slice d el dp] 26)).heap[w6.heap.size]? = some (.cells #[.int .i64 ek, .int .i64 en, .string es, .slice d el dp] 26 (0, 0)) from Array.getElem?_push_size)
    have hl7 : w6.heap.size < (w6.alloc (.cells #[.int .i64 ek, .int .i64 en, .string es, .slice d el dp] 26)).heap.size := by simp
    have B7 := hide ((unhide B6).trans (hbb.mono (unhide B6).size))
    have GA7 := hide (row_keep (unhide GA6) hbb)
    have GH7 := hide (row_keep (unhide GH6) hbb)
    have P7 := hide (row_keep (unhide P6) hbb)
    have N7 := hide ((unhide N6).later hbb)
    have X7 := hide ((unhide X6).later hbb)
    clear hbb B6 GA6 GH6 P6 N6 X6
    have A7 := hide (unhide TH _ (unhide B7))
    go_wp2_with (refine wpList_load_row rfl 44 _ rfl (w.heap.size + 1) rfl 44 #[.int .i64 hk, .int .i64 hn, .string hs, .slice hb hl hcp] (0, 0) _ (unhide GH7) Tryd.underlying44 rfl (by kernel_rfl) ?_)
    generalize w6.alloc (.cells #[.int .i64 ek, .int .i64 en, .string es, .slice d el dp] 26) = w7 at *
    generalize w6.heap.size = g1 at *
    refine (unhide A7).mono ?_
    rintro r w8 ⟨d2, dp2, rfl, hnx, hbb⟩
    clear A7
    have H8 := hide hnx.half
    clear hnx
    have hs8 := hbb.size
    have B8 := hide ((unhide B7).trans (hbb.mono (unhide B7).size))
    have GA8 := hide (row_keep (unhide GA7) hbb)
    have GH8 := hide (row_keep (unhide GH7) hbb)
    have P8 := hide (row_keep (unhide P7) hbb)
    have Y8 := hide (row_keep (unhide Y7) hbb)
    have N8 := hide ((unhide N7).later hbb)
    have X8 := hide ((unhide X7).later hbb)
    clear hbb B7 GA7 GH7 P7 Y7 N7 X7
    generalize hbx : w7.heap.size = bh at *
    generalize hcx : w8.heap.size = ch at H8
    have hc_ch : ch ≤ w8.heap.size := Nat.le_of_eq hcx.symm
    clear hcx hbx
    have hbb := below_new w8 (.cells #[.int .i64 hk, .int .i64 hn, .string hs, .slice d2 hl dp2] 26)
    have Z9 := hide (show (w8.alloc (.cells #[.int .i64 hk, .int .i64 hn, .string hs, .slice d2 hl dp2] 26)).heap[w8.heap.size]? = some (.cells #[.int .i64 hk, .int .i64 hn, .string hs, .slice d2 hl dp2] 26 (0, 0)) from Array.getElem?_push_size)
    have hl9 : w8.heap.size < (w8.alloc (.cells #[.int .i64 hk, .int .i64 hn, .string hs, .slice d2 hl dp2] 26)).heap.size := by simp
    have B9 := hide ((unhide B8).trans (hbb.mono (unhide B8).size))
    have GA9 := hide (row_keep (unhide GA8) hbb)
    have GH9 := hide (row_keep (unhide GH8) hbb)
    have P9 := hide (row_keep (unhide P8) hbb)
    have Y9 := hide (row_keep (unhide Y8) hbb)
    have N9 := hide ((unhide N8).later hbb)
    have X9 := hide ((unhide X8).later hbb)
    have H9 := hide ((unhide H8).later hbb)
    clear hbb B8 GA8 GH8 P8 Y8 N8 X8 H8
    have A9 := hide (unhide TS _ (unhide B9))
    go_wp2_with fail
    generalize w8.alloc (.cells #[.int .i64 hk, .int .i64 hn, .string hs, .slice d2 hl dp2] 26) = w9 at *
    generalize w8.heap.size = g2 at *
    refine (unhide A9).mono ?_
    rintro r w10 ⟨rfl, hnx, hbb⟩
    clear A9
    have U10 := hide hnx
    have hlu := (World.ownsRow.lt hnx _ rfl).2
    clear hnx
    have hs10 := hbb.size
    have B10 := hide ((unhide B9).trans (hbb.mono (unhide B9).size))
    have GA10 := hide (row_keep (unhide GA9) hbb)
    have GH10 := hide (row_keep (unhide GH9) hbb)
    have P10 := hide (row_keep (unhide P9) hbb)
    have Y10 := hide (row_keep (unhide Y9) hbb)
    have Z10 := hide (row_keep (unhide Z9) hbb)
    have N10 := hide ((unhide N9).later hbb)
    have X10 := hide ((unhide X9).later hbb)
    have H10 := hide ((unhide H9).later hbb)
    clear hbb B9 GA9 GH9 P9 Y9 Z9 N9 X9 H9
    generalize w9.heap.size = gn at *
    have A10 := hide (unhide TV w10 (unhide B10))
    go_wp2_with fail
    refine (unhide A10).mono ?_
    rintro r w11 ⟨rfl, hnx, hbb⟩
    clear A10
    have V11 := hide hnx.half
    clear hnx
    have hs11 := hbb.size
    have B11 := hide ((unhide B10).trans (hbb.mono (unhide B10).size))
    have GA11 := hide (row_keep (unhide GA10) hbb)
    have GH11 := hide (row_keep (unhide GH10) hbb)
    have P11 := hide (row_keep (unhide P10) hbb)
    have Y11 := hide (row_keep (unhide Y10) hbb)
    have Z11 := hide (row_keep (unhide Z10) hbb)
    have N11 := hide ((unhide N10).later hbb)
    have X11 := hide ((unhide X10).later hbb)
    have H11 := hide ((unhide H10).later hbb)
    have U11 := hide ((unhide U10).later hbb)
    clear hbb B10 GA10 GH10 P10 Y10 Z10 N10 X10 H10 U10
    generalize hbx : w10.heap.size = gv at *
    generalize hcx : w11.heap.size = cv at V11
    have hc_cv : cv ≤ w11.heap.size := Nat.le_of_eq hcx.symm
    clear hcx hbx
    have A11 := hide (unhide PI w11 (unhide B11) d dp d2 dp2 gn gv _ _ (unhide X11).rd (unhide H11).rd (unhide U11) (unhide V11).rd)
    go_wp2_with (first | (refine wpList_load_row rfl 26 _ rfl g1 rfl 26 #[.int .i64 ek, .int .i64 en, .string es, .slice d el dp] (0, 0) _ (unhide Y11) Tryd.underlying26 rfl (by kernel_rfl) ?_) | (refine wpList_load_row rfl 26 _ rfl g2 rfl 26 #[.int .i64 hk, .int .i64 hn, .string hs, .slice d2 hl dp2] (0, 0) _ (unhide Z11) Tryd.underlying26 rfl (by kernel_rfl) ?_))
    refine (unhide A11).mono ?_
    rintro r w12 ⟨f, fp, rfl, hnx, hbb⟩
    clear A11
    have M12 := hide hnx.half
    clear hnx
    have hs12 := hbb.size
    have B12 := hide ((unhide B11).trans (hbb.mono (unhide B11).size))
    have GA12 := hide (row_keep (unhide GA11) hbb)
    have GH12 := hide (row_keep (unhide GH11) hbb)
    have P12 := hide (row_keep (unhide P11) hbb)
    have Y12 := hide (row_keep (unhide Y11) hbb)
    have Z12 := hide (row_keep (unhide Z11) hbb)
    have N12 := hide ((unhide N11).later hbb)
    have X12 := hide ((unhide X11).later hbb)
    have H12 := hide ((unhide H11).later hbb)
    have U12 := hide ((unhide U11).later hbb)
    have V12 := hide ((unhide V11).later hbb)
    clear hbb B11 GA11 GH11 P11 Y11 Z11 N11 X11 H11 U11 V11
    generalize hbx : w11.heap.size = bm at *
    generalize hcx : w12.heap.size = cm at M12
    have hc_cm : cm ≤ w12.heap.size := Nat.le_of_eq hcx.symm
    clear hcx hbx
    have hbb := below_new w12 (.cells #[.int .i64 fk, .int .i64 fn, .string fs, .slice f fl fp] 26)
    have K13 := hide (show (w12.alloc (.cells #[.int .i64 fk, .int .i64 fn, .string fs, .slice f fl fp] 26)).heap[w12.heap.size]? = some (.cells #[.int .i64 fk, .int .i64 fn, .string fs, .slice f fl fp] 26 (0, 0)) from Array.getElem?_push_size)
    have hl13 : w12.heap.size < (w12.alloc (.cells #[.int .i64 fk, .int .i64 fn, .string fs, .slice f fl fp] 26)).heap.size := by simp
    have B13 := hide ((unhide B12).trans (hbb.mono (unhide B12).size))
    have GA13 := hide (row_keep (unhide GA12) hbb)
    have GH13 := hide (row_keep (unhide GH12) hbb)
    have P13 := hide (row_keep (unhide P12) hbb)
    have Y13 := hide (row_keep (unhide Y12) hbb)
    have Z13 := hide (row_keep (unhide Z12) hbb)
    have N13 := hide ((unhide N12).later hbb)
    have X13 := hide ((unhide X12).later hbb)
    have H13 := hide ((unhide H12).later hbb)
    have U13 := hide ((unhide U12).later hbb)
    have V13 := hide ((unhide V12).later hbb)
    have M13 := hide ((unhide M12).later hbb)
    clear hbb B12 GA12 GH12 P12 Y12 Z12 N12 X12 H12 U12 V12 M12
    go_wp2_with (first | (refine wpList_load_row rfl 26 _ rfl w12.heap.size rfl 26 #[.int .i64 fk, .int .i64 fn, .string fs, .slice f fl fp] (0, 0) _ (unhide K13) Tryd.underlying26 rfl (by kernel_rfl) ?_) | (refine wpList_load_row rfl 26 _ rfl g0 rfl 26 #[.int .i64 fk, .int .i64 fn, .string fs, .slice c fl cp] (0, 0) _ (unhide P13) Tryd.underlying26 rfl (by kernel_rfl) ?_))
    generalize w12.alloc (.cells #[.int .i64 fk, .int .i64 fn, .string fs, .slice f fl fp] 26) = w13 at *
    generalize w12.heap.size = g5 at *
    refine (unhide EE f c fp cp w13 (unhide M13).rd (unhide N13).rd).mono ?_
    rintro r w14 ⟨rfl, hbb⟩
    have B14 := hide ((unhide B13).trans (hbb.mono (unhide B13).size))
    have GA14 := hide (row_keep (unhide GA13) hbb)
    have GH14 := hide (row_keep (unhide GH13) hbb)
    have P14 := hide (row_keep (unhide P13) hbb)
    have Y14 := hide (row_keep (unhide Y13) hbb)
    have Z14 := hide (row_keep (unhide Z13) hbb)
    have K14 := hide (row_keep (unhide K13) hbb)
    have N14 := hide ((unhide N13).later hbb)
    have X14 := hide ((unhide X13).later hbb)
    have H14 := hide ((unhide H13).later hbb)
    have U14 := hide ((unhide U13).later hbb)
    have V14 := hide ((unhide V13).later hbb)
    have M14 := hide ((unhide M13).later hbb)
    clear hbb B13 GA13 GH13 P13 Y13 Z13 K13 N13 X13 H13 U13 V13 M13
    go_wp2_with fail
    have hbb := below_drew (w := w14)
    have B15 := hide ((unhide B14).trans (hbb.mono (unhide B14).size))
    have GA15 := hide (row_keep (unhide GA14) hbb)
    have GH15 := hide (row_keep (unhide GH14) hbb)
    have P15 := hide (row_keep (unhide P14) hbb)
    have Y15 := hide (row_keep (unhide Y14) hbb)
    have Z15 := hide (row_keep (unhide Z14) hbb)
    have K15 := hide (row_keep (unhide K14) hbb)
    have N15 := hide ((unhide N14).later hbb)
    have X15 := hide ((unhide X14).later hbb)
    have H15 := hide ((unhide H14).later hbb)
    have U15 := hide ((unhide U14).later hbb)
    have V15 := hide ((unhide V14).later hbb)
    have M15 := hide ((unhide M14).later hbb)
    clear hbb B14 GA14 GH14 P14 Y14 Z14 K14 N14 X14 H14 U14 V14 M14
    have D0 := hide (show (fun w' => w'.heap[g1]? = some (.cells #[.int .i64 ek, .int .i64 en, .string es, .slice d el dp] 26 (0, 0)) ∧ w'.heap[w.heap.size]? = some (.cells #[.int .i64 ek, .int .i64 en, .string es, .slice b el cap] 44 (0, 0))) w14.drew from ⟨unhide Y15, unhide GA15⟩)
    have A15 := hide (unhide TX _ (unhide B15))
    refine wp_region_held_drew (S := fun w' => w'.heap[g1]? = some (.cells #[.int .i64 ek, .int .i64 en, .string es, .slice d el dp] 26 (0, 0)) ∧ w'.heap[w.heap.size]? = some (.cells #[.int .i64 ek, .int .i64 en, .string es, .slice b el cap] 44 (0, 0))) (by kernel_rfl) (unhide D0) (fun hS => ?_)
    clear D0
    have HS := hide hS
    clear hS
    generalize w14.drew = w15 at *
    refine wpAnyH_take (i := 0) (v := .agg #[.int .i64 ek, .int .i64 en, .string es, .slice d el dp]) rfl (by kernel_rfl) (by kernel_rfl) (by kernel_rfl) (fun _ _ _ h => h) (yields_loadG (by rfl) 26 _ rfl g1 rfl 26 #[.int .i64 ek, .int .i64 en, .string es, .slice d el dp] _ (fun w h => h.1) Tryd.underlying26 rfl (by kernel_rfl)) (unhide HS) ?_
    go_simp
    refine wpAnyH_take (i := 1) (v := .agg #[.int .i64 ek, .int .i64 en, .string es, .slice b el cap]) rfl (by kernel_rfl) (by kernel_rfl) (by kernel_rfl) (fun _ _ _ h => h) (yields_loadG (by rfl) 44 _ rfl w.heap.size rfl 44 #[.int .i64 ek, .int .i64 en, .string es, .slice b el cap] _ (fun w h => h.2) Tryd.underlying44 rfl (by kernel_rfl)) (unhide HS) ?_
    go_simp
    refine wpAnyH_ready (rs := [2]) (by kernel_rfl) (by simp) ?_
    refine AllReadyH.cons rfl (fun K2 hK => ?_) AllReadyH.nil
    go_simp
    refine (unhide A15).mono ?_
    rintro r w16 ⟨c7, cp7, rfl, n7, hbb⟩
    have S16 := hide (show RdX w16 0 e c7 from n7.rd.lower (Nat.zero_le _) _ _)
    clear n7 A15
    have B16 := hide ((unhide B15).trans (hbb.mono (unhide B15).size))
    have GA16 := hide (row_keep (unhide GA15) hbb)
    have GH16 := hide (row_keep (unhide GH15) hbb)
    have P16 := hide (row_keep (unhide P15) hbb)
    have Y16 := hide (row_keep (unhide Y15) hbb)
    have Z16 := hide (row_keep (unhide Z15) hbb)
    have K16 := hide (row_keep (unhide K15) hbb)
    have N16 := hide ((unhide N15).later hbb)
    have X16 := hide ((unhide X15).later hbb)
    have H16 := hide ((unhide H15).later hbb)
    have U16 := hide ((unhide U15).later hbb)
    have V16 := hide ((unhide V15).later hbb)
    have M16 := hide ((unhide M15).later hbb)
    clear hbb B15 GA15 GH15 P15 Y15 Z15 K15 N15 X15 H15 U15 V15 M15
    refine hK.out _ _ (⟨unhide Y16, unhide GA16⟩) (fun hS => ?_)
    clear HS
    have HS := hide hS
    clear hS hK K2
    have A16 := hide (unhide EX d c7 dp cp7 w16 (unhide X16).rd (unhide S16))
    clear S16
    refine wpAnyH_ready (rs := [3]) (by kernel_rfl) (by simp) ?_
    refine AllReadyH.cons rfl (fun K2 hK => ?_) AllReadyH.nil
    go_simp
    refine (unhide A16).mono ?_
    rintro r w17 ⟨rfl, hbb⟩
    clear A16
    have B17 := hide ((unhide B16).trans (hbb.mono (unhide B16).size))
    have GA17 := hide (row_keep (unhide GA16) hbb)
    have GH17 := hide (row_keep (unhide GH16) hbb)
    have P17 := hide (row_keep (unhide P16) hbb)
    have Y17 := hide (row_keep (unhide Y16) hbb)
    have Z17 := hide (row_keep (unhide Z16) hbb)
    have K17 := hide (row_keep (unhide K16) hbb)
    have N17 := hide ((unhide N16).later hbb)
    have X17 := hide ((unhide X16).later hbb)
    have H17 := hide ((unhide H16).later hbb)
    have U17 := hide ((unhide U16).later hbb)
    have V17 := hide ((unhide V16).later hbb)
    have M17 := hide ((unhide M16).later hbb)
    clear hbb B16 GA16 GH16 P16 Y16 Z16 K16 N16 X16 H16 U16 V16 M16
    refine hK.out _ _ (⟨unhide Y17, unhide GA17⟩) (fun hS => ?_)
    clear HS
    have HS := hide hS
    clear hS hK K2
    refine wpAnyH_take (i := 4) (v := .bool false) rfl (by kernel_rfl) (by kernel_rfl) (by kernel_rfl) (fun _ _ _ h => h) (Or.inl ⟨by rfl, fun w hc => ?_⟩) (unhide HS) ?_
    · clear hc; go_simp
    go_simp
    refine wpAnyH_done (by kernel_rfl) ?_ _
    clear HS
    go_wp2_with fail
    have hbb := below_drew (w := w17)
    have B18 := hide ((unhide B17).trans (hbb.mono (unhide B17).size))
    have GA18 := hide (row_keep (unhide GA17) hbb)
    have GH18 := hide (row_keep (unhide GH17) hbb)
    have P18 := hide (row_keep (unhide P17) hbb)
    have Y18 := hide (row_keep (unhide Y17) hbb)
    have Z18 := hide (row_keep (unhide Z17) hbb)
    have K18 := hide (row_keep (unhide K17) hbb)
    have N18 := hide ((unhide N17).later hbb)
    have X18 := hide ((unhide X17).later hbb)
    have H18 := hide ((unhide H17).later hbb)
    have U18 := hide ((unhide U17).later hbb)
    have V18 := hide ((unhide V17).later hbb)
    have M18 := hide ((unhide M17).later hbb)
    clear hbb B17 GA17 GH17 P17 Y17 Z17 K17 N17 X17 H17 U17 V17 M17
    have D0 := hide (show (fun w' => w'.heap[g2]? = some (.cells #[.int .i64 hk, .int .i64 hn, .string hs, .slice d2 hl dp2] 26 (0, 0)) ∧ w'.heap[(w.heap.size + 1)]? = some (.cells #[.int .i64 hk, .int .i64 hn, .string hs, .slice hb hl hcp] 44 (0, 0))) w17.drew from ⟨unhide Z18, unhide GH18⟩)
    have A18 := hide (unhide TH _ (unhide B18))
    refine wp_region_held_drew (S := fun w' => w'.heap[g2]? = some (.cells #[.int .i64 hk, .int .i64 hn, .string hs, .slice d2 hl dp2] 26 (0, 0)) ∧ w'.heap[(w.heap.size + 1)]? = some (.cells #[.int .i64 hk, .int .i64 hn, .string hs, .slice hb hl hcp] 44 (0, 0))) (by kernel_rfl) (unhide D0) (fun hS => ?_)
    clear D0
    have HS := hide hS
    clear hS
    generalize w17.drew = w18 at *
    refine wpAnyH_take (i := 0) (v := .agg #[.int .i64 hk, .int .i64 hn, .string hs, .slice d2 hl dp2]) rfl (by kernel_rfl) (by kernel_rfl) (by kernel_rfl) (fun _ _ _ h => h) (yields_loadG (by rfl) 26 _ rfl g2 rfl 26 #[.int .i64 hk, .int .i64 hn, .string hs, .slice d2 hl dp2] _ (fun w h => h.1) Tryd.underlying26 rfl (by kernel_rfl)) (unhide HS) ?_
    go_simp
    refine wpAnyH_take (i := 1) (v := .agg #[.int .i64 hk, .int .i64 hn, .string hs, .slice hb hl hcp]) rfl (by kernel_rfl) (by kernel_rfl) (by kernel_rfl) (fun _ _ _ h => h) (yields_loadG (by rfl) 44 _ rfl (w.heap.size + 1) rfl 44 #[.int .i64 hk, .int .i64 hn, .string hs, .slice hb hl hcp] _ (fun w h => h.2) Tryd.underlying44 rfl (by kernel_rfl)) (unhide HS) ?_
    go_simp
    refine wpAnyH_ready (rs := [2]) (by kernel_rfl) (by simp) ?_
    refine AllReadyH.cons rfl (fun K2 hK => ?_) AllReadyH.nil
    go_simp
    refine (unhide A18).mono ?_
    rintro r w19 ⟨c7, cp7, rfl, n7, hbb⟩
    have S19 := hide (show RdX w19 0 h c7 from n7.rd.lower (Nat.zero_le _) _ _)
    clear n7 A18
    have B19 := hide ((unhide B18).trans (hbb.mono (unhide B18).size))
    have GA19 := hide (row_keep (unhide GA18) hbb)
    have GH19 := hide (row_keep (unhide GH18) hbb)
    have P19 := hide (row_keep (unhide P18) hbb)
    have Y19 := hide (row_keep (unhide Y18) hbb)
    have Z19 := hide (row_keep (unhide Z18) hbb)
    have K19 := hide (row_keep (unhide K18) hbb)
    have N19 := hide ((unhide N18).later hbb)
    have X19 := hide ((unhide X18).later hbb)
    have H19 := hide ((unhide H18).later hbb)
    have U19 := hide ((unhide U18).later hbb)
    have V19 := hide ((unhide V18).later hbb)
    have M19 := hide ((unhide M18).later hbb)
    clear hbb B18 GA18 GH18 P18 Y18 Z18 K18 N18 X18 H18 U18 V18 M18
    refine hK.out _ _ (⟨unhide Z19, unhide GH19⟩) (fun hS => ?_)
    clear HS
    have HS := hide hS
    clear hS hK K2
    have A19 := hide (unhide EH d2 c7 dp2 cp7 w19 (unhide H19).rd (unhide S19))
    clear S19
    refine wpAnyH_ready (rs := [3]) (by kernel_rfl) (by simp) ?_
    refine AllReadyH.cons rfl (fun K2 hK => ?_) AllReadyH.nil
    go_simp
    refine (unhide A19).mono ?_
    rintro r w20 ⟨rfl, hbb⟩
    clear A19
    have B20 := hide ((unhide B19).trans (hbb.mono (unhide B19).size))
    have GA20 := hide (row_keep (unhide GA19) hbb)
    have GH20 := hide (row_keep (unhide GH19) hbb)
    have P20 := hide (row_keep (unhide P19) hbb)
    have Y20 := hide (row_keep (unhide Y19) hbb)
    have Z20 := hide (row_keep (unhide Z19) hbb)
    have K20 := hide (row_keep (unhide K19) hbb)
    have N20 := hide ((unhide N19).later hbb)
    have X20 := hide ((unhide X19).later hbb)
    have H20 := hide ((unhide H19).later hbb)
    have U20 := hide ((unhide U19).later hbb)
    have V20 := hide ((unhide V19).later hbb)
    have M20 := hide ((unhide M19).later hbb)
    clear hbb B19 GA19 GH19 P19 Y19 Z19 K19 N19 X19 H19 U19 V19 M19
    refine hK.out _ _ (⟨unhide Z20, unhide GH20⟩) (fun hS => ?_)
    clear HS
    have HS := hide hS
    clear hS hK K2
    refine wpAnyH_take (i := 4) (v := .bool false) rfl (by kernel_rfl) (by kernel_rfl) (by kernel_rfl) (fun _ _ _ h => h) (Or.inl ⟨by rfl, fun w hc => ?_⟩) (unhide HS) ?_
    · clear hc; go_simp
    go_simp
    refine wpAnyH_done (by kernel_rfl) ?_ _
    clear HS
    have A20 := hide (unhide TS w20 (unhide B20))
    go_wp2_with fail
    refine (unhide A20).mono ?_
    rintro r w21 ⟨rfl, hnx, hbb⟩
    clear A20
    have S21 := hide (rdu_of_own hnx)
    clear hnx
    have B21 := hide ((unhide B20).trans (hbb.mono (unhide B20).size))
    have GA21 := hide (row_keep (unhide GA20) hbb)
    have GH21 := hide (row_keep (unhide GH20) hbb)
    have P21 := hide (row_keep (unhide P20) hbb)
    have Y21 := hide (row_keep (unhide Y20) hbb)
    have Z21 := hide (row_keep (unhide Z20) hbb)
    have K21 := hide (row_keep (unhide K20) hbb)
    have N21 := hide ((unhide N20).later hbb)
    have X21 := hide ((unhide X20).later hbb)
    have H21 := hide ((unhide H20).later hbb)
    have U21 := hide ((unhide U20).later hbb)
    have V21 := hide ((unhide V20).later hbb)
    have M21 := hide ((unhide M20).later hbb)
    clear hbb B20 GA20 GH20 P20 Y20 Z20 K20 N20 X20 H20 U20 V20 M20
    have A21 := hide (unhide ES (some ⟨gn, 0, none⟩) (some ⟨w20.heap.size, 0, none⟩) L.length L.length w21 (rdu_of_own (unhide U21)) (unhide S21))
    clear S21
    go_wp2_with fail
    refine (unhide A21).mono ?_
    rintro r w22 ⟨rfl, hbb⟩
    clear A21
    have B22 := hide ((unhide B21).trans (hbb.mono (unhide B21).size))
    have GA22 := hide (row_keep (unhide GA21) hbb)
    have GH22 := hide (row_keep (unhide GH21) hbb)
    have P22 := hide (row_keep (unhide P21) hbb)
    have Y22 := hide (row_keep (unhide Y21) hbb)
    have Z22 := hide (row_keep (unhide Z21) hbb)
    have K22 := hide (row_keep (unhide K21) hbb)
    have N22 := hide ((unhide N21).later hbb)
    have X22 := hide ((unhide X21).later hbb)
    have H22 := hide ((unhide H21).later hbb)
    have U22 := hide ((unhide U21).later hbb)
    have V22 := hide ((unhide V21).later hbb)
    have M22 := hide ((unhide M21).later hbb)
    clear hbb B21 GA21 GH21 P21 Y21 Z21 K21 N21 X21 H21 U21 V21 M21
    have A22 := hide (unhide TV w22 (unhide B22))
    go_wp2_with fail
    refine (unhide A22).mono ?_
    rintro r w23 ⟨rfl, hnx, hbb⟩
    clear A22
    have S23 := hide (show RdX w23 0 V (some ⟨w22.heap.size, 0, none⟩) from hnx.rd.lower (Nat.zero_le _) _ _)
    clear hnx
    have B23 := hide ((unhide B22).trans (hbb.mono (unhide B22).size))
    have GA23 := hide (row_keep (unhide GA22) hbb)
    have GH23 := hide (row_keep (unhide GH22) hbb)
    have P23 := hide (row_keep (unhide P22) hbb)
    have Y23 := hide (row_keep (unhide Y22) hbb)
    have Z23 := hide (row_keep (unhide Z22) hbb)
    have K23 := hide (row_keep (unhide K22) hbb)
    have N23 := hide ((unhide N22).later hbb)
    have X23 := hide ((unhide X22).later hbb)
    have H23 := hide ((unhide H22).later hbb)
    have U23 := hide ((unhide U22).later hbb)
    have V23 := hide ((unhide V22).later hbb)
    have M23 := hide ((unhide M22).later hbb)
    clear hbb B22 GA22 GH22 P22 Y22 Z22 K22 N22 X22 H22 U22 V22 M22
    have A23 := hide (unhide EV (some ⟨gv, 0, none⟩) (some ⟨w22.heap.size, 0, none⟩) vl vl w23 (unhide V23).rd (unhide S23))
    clear S23
    go_wp2_with fail
    refine (unhide A23).mono ?_
    rintro r w24 ⟨rfl, hbb⟩
    clear A23
    have B24 := hide ((unhide B23).trans (hbb.mono (unhide B23).size))
    have GA24 := hide (row_keep (unhide GA23) hbb)
    have GH24 := hide (row_keep (unhide GH23) hbb)
    have P24 := hide (row_keep (unhide P23) hbb)
    have Y24 := hide (row_keep (unhide Y23) hbb)
    have Z24 := hide (row_keep (unhide Z23) hbb)
    have K24 := hide (row_keep (unhide K23) hbb)
    have N24 := hide ((unhide N23).later hbb)
    have X24 := hide ((unhide X23).later hbb)
    have H24 := hide ((unhide H23).later hbb)
    have U24 := hide ((unhide U23).later hbb)
    have V24 := hide ((unhide V23).later hbb)
    have M24 := hide ((unhide M23).later hbb)
    clear hbb B23 GA23 GH23 P23 Y23 Z23 K23 N23 X23 H23 U23 V23 M23
    have hk24 : g5 < w24.heap.size := (Array.getElem?_eq_some_iff.1 (unhide K24)).1
    go_wp2_with (refine wpList_load_row rfl 26 _ rfl g1 rfl 26 #[.int .i64 ek, .int .i64 en, .string es, .slice d el dp] (0, 0) _ (unhide Y24) Tryd.underlying26 rfl (by kernel_rfl) ?_)
    refine (unhide MX d dp bx cx w24 (unhide X24) (by omega)).mono ?_
    rintro r w25 ⟨y, rfl, _, _, hb, hk⟩
    have hs25 := hb.size
    have B25 := hide ((unhide B24).trans (hb.mono (by omega)))
    have N25 := hide ((unhide N24).below (hb.mono (by omega)))
    have GA25 := hide ((hb.block _ (by omega)).trans (unhide GA24))
    have GH25 := hide ((hb.block _ (by omega)).trans (unhide GH24))
    have P25 := hide ((hb.block _ (by omega)).trans (unhide P24))
    have H25 := hide (show HalfX w25 bh ch h d2 by obtain ⟨F, q1, q2, q3⟩ := unhide H24; exact ⟨F, OwX.keep h d2 F (fun q hq => hk q (by have := (q3 q hq).1; omega) (by have := (q3 q hq).2; omega)) q1, q2, q3⟩)
    have V25 := hide (show HalfX w25 gv cv V (some ⟨gv, 0, none⟩) by obtain ⟨F, q1, q2, q3⟩ := unhide V24; exact ⟨F, OwX.keep V (some ⟨gv, 0, none⟩) F (fun q hq => hk q (by have := (q3 q hq).1; omega) (by have := (q3 q hq).2; omega)) q1, q2, q3⟩)
    have M25 := hide (show HalfX w25 bm cm E f by obtain ⟨F, q1, q2, q3⟩ := unhide M24; exact ⟨F, OwX.keep E f F (fun q hq => hk q (by have := (q3 q hq).1; omega) (by have := (q3 q hq).2; omega)) q1, q2, q3⟩)
    have Z25 := hide ((hk _ (by omega) (by omega)).trans (unhide Z24))
    have K25 := hide ((hk _ (by omega) (by omega)).trans (unhide K24))
    have U25 := hide (own_same (unhide U24) (hk gn (by omega) (by omega)))
    clear hb hk B24 N24 GA24 GH24 P24 H24 V24 M24 Z24 K24 U24 X24 Y24
    go_wp2_with (refine wpList_load_row rfl 26 _ rfl g2 rfl 26 #[.int .i64 hk, .int .i64 hn, .string hs, .slice d2 hl dp2] (0, 0) _ (unhide Z25) Tryd.underlying26 rfl (by kernel_rfl) ?_)
    refine (unhide MH d2 dp2 bh ch w25 (unhide H25) (by omega)).mono ?_
    rintro r w26 ⟨y1, rfl, _, _, hb, hk⟩
    have hs26 := hb.size
    have B26 := hide ((unhide B25).trans (hb.mono (by omega)))
    have N26 := hide ((unhide N25).below (hb.mono (by omega)))
    have GA26 := hide ((hb.block _ (by omega)).trans (unhide GA25))
    have GH26 := hide ((hb.block _ (by omega)).trans (unhide GH25))
    have P26 := hide ((hb.block _ (by omega)).trans (unhide P25))
    have V26 := hide (show HalfX w26 gv cv V (some ⟨gv, 0, none⟩) by obtain ⟨F, q1, q2, q3⟩ := unhide V25; exact ⟨F, OwX.keep V (some ⟨gv, 0, none⟩) F (fun q hq => hk q (by have := (q3 q hq).1; omega) (by have := (q3 q hq).2; omega)) q1, q2, q3⟩)
    have M26 := hide (show HalfX w26 bm cm E f by obtain ⟨F, q1, q2, q3⟩ := unhide M25; exact ⟨F, OwX.keep E f F (fun q hq => hk q (by have := (q3 q hq).1; omega) (by have := (q3 q hq).2; omega)) q1, q2, q3⟩)
    have K26 := hide ((hk _ (by omega) (by omega)).trans (unhide K25))
    have U26 := hide (own_same (unhide U25) (hk gn (by omega) (by omega)))
    clear hb hk B25 N25 GA25 GH25 P25 H25 V25 M25 Z25 K25 U25
    go_wp2_with fail
    refine (unhide MS gn _ w26 (unhide U26)).mono ?_
    rintro r w27 ⟨rfl, hgr⟩
    have hs27 := hgr.size
    have B27 := hide ((unhide B26).grown hgr (unhide B26).size (fun q e => by cases e; omega))
    have N27 := hide ((unhide N26).beyond hgr (by omega))
    have V27 := hide ((unhide V26).drawn hgr (by omega))
    have M27 := hide ((unhide M26).drawn hgr (by omega))
    have GA27 := hide ((hgr.block _ (by omega) (fun e => by simp at e; omega)).trans (unhide GA26))
    have GH27 := hide ((hgr.block _ (by omega) (fun e => by simp at e; omega)).trans (unhide GH26))
    have P27 := hide ((hgr.block _ (by omega) (fun e => by simp at e; omega)).trans (unhide P26))
    have K27 := hide ((hgr.block _ (by omega) (fun e => by simp at e; omega)).trans (unhide K26))
    clear hgr B26 N26 GA26 GH26 P26 V26 M26 K26 U26
    obtain ⟨F, q1, q2, q3⟩ := unhide V27
    go_wp2_with fail
    refine (unhide MV gv gv F w27 q1 q2 (fun x hx => (q3 x hx).1) (by omega)).mono ?_
    rintro r w28 ⟨y3, rfl, _, _, hb, hk⟩
    have hs28 := hb.size
    have hkk : ∀ q, cv ≤ q → q < w27.heap.size → w28.heap[q]? = w27.heap[q]? := fun q h1 h2 => hk q h2 (fun hq => by have := (q3 q hq).2; omega)
    have B28 := hide ((unhide B27).trans (hb.mono (by omega)))
    have N28 := hide ((unhide N27).below (hb.mono (by omega)))
    have GA28 := hide ((hb.block _ (by omega)).trans (unhide GA27))
    have GH28 := hide ((hb.block _ (by omega)).trans (unhide GH27))
    have P28 := hide ((hb.block _ (by omega)).trans (unhide P27))
    have M28 := hide (show HalfX w28 bm cm E f by obtain ⟨F, q1, q2, q3⟩ := unhide M27; exact ⟨F, OwX.keep E f F (fun q hq => hkk q (by have := (q3 q hq).1; omega) (by have := (q3 q hq).2; omega)) q1, q2, q3⟩)
    have K28 := hide ((hkk _ (by omega) (by omega)).trans (unhide K27))
    clear hb hk hkk q1 q2 q3 B27 N27 GA27 GH27 P27 V27 M27 K27
    have k0 := Lib.cell_of_heap (unhide K28) 0
    have k1 := Lib.cell_of_heap (unhide K28) 1
    have k2 := Lib.cell_of_heap (unhide K28) 2
    have k3 := Lib.cell_of_heap (unhide K28) 3
    have p0 := Lib.cell_of_heap (unhide P28) 0
    have p1 := Lib.cell_of_heap (unhide P28) 1
    have p2 := Lib.cell_of_heap (unhide P28) 2
    have p3 := Lib.cell_of_heap (unhide P28) 3
    go_wp2_with fail
    clear k0 k1 k2 k3 p0 p1 p2 p3
    refine (unhide EE f c fp cp w28 (unhide M28).rd (unhide N28).rd).mono ?_
    rintro r w29 ⟨rfl, hbb⟩
    have B29 := hide ((unhide B28).trans (hbb.mono (unhide B28).size))
    have GA29 := hide (row_keep (unhide GA28) hbb)
    have GH29 := hide (row_keep (unhide GH28) hbb)
    have P29 := hide (row_keep (unhide P28) hbb)
    have K29 := hide (row_keep (unhide K28) hbb)
    have N29 := hide ((unhide N28).later hbb)
    have M29 := hide ((unhide M28).later hbb)
    clear hbb B28 GA28 GH28 P28 K28 N28 M28
    have hk29 : g5 < w29.heap.size := (Array.getElem?_eq_some_iff.1 (unhide K29)).1
    go_wp2_with (refine wpList_load_row rfl 26 _ rfl g5 rfl 26 #[.int .i64 fk, .int .i64 fn, .string fs, .slice f fl fp] (0, 0) _ (unhide K29) Tryd.underlying26 rfl (by kernel_rfl) ?_)
    refine (unhide MF f fp bm cm w29 (unhide M29) (by omega)).mono ?_
    rintro r w30 ⟨y2, rfl, hmk, hh, hb, hk⟩
    have B30 := hide ((unhide B29).trans (hb.mono (by omega)))
    have N30 := hide ((unhide N29).below (hb.mono (by omega)))
    have M30 := hide hh
    have GA30 := hide ((hb.block _ (by omega)).trans (unhide GA29))
    have GH30 := hide ((hb.block _ (by omega)).trans (unhide GH29))
    have P30 := hide ((hb.block _ (by omega)).trans (unhide P29))
    have K30 := hide ((hk _ (by omega) hk29).trans (unhide K29))
    have MK := hide hmk
    clear hmk hh hb hk B29 N29 M29 GA29 GH29 P29 K29
    go_wp2_with (refine wpList_load_row rfl 26 _ rfl g5 rfl 26 #[.int .i64 fk, .int .i64 fn, .string fs, .slice f fl fp] (0, 0) _ (unhide K30) Tryd.underlying26 rfl (by kernel_rfl) ?_)
    refine (unhide HF f fp y2 w30 (unhide MK) (unhide M30).rd).mono ?_
    rintro r w31 ⟨rfl, hbb⟩
    have B31 := hide ((unhide B30).trans (hbb.mono (unhide B30).size))
    have GA31 := hide (row_keep (unhide GA30) hbb)
    have GH31 := hide (row_keep (unhide GH30) hbb)
    have P31 := hide (row_keep (unhide P30) hbb)
    have K31 := hide (row_keep (unhide K30) hbb)
    have N31 := hide ((unhide N30).later hbb)
    have M31 := hide ((unhide M30).later hbb)
    clear hbb B30 GA30 GH30 P30 K30 N30 M30
    go_wp2_with fail
    go_cut [19] from 117 to 125 (fun v wc => ∃ (g : Nat) (c : Option Addr) (cp bn cn : Nat), v = .pointer (some ⟨g, 0, none⟩) ∧ wc.heap[g]? = some (.cells #[.int .i64 fk, .int .i64 fn, .string fs, .slice c fl cp] 26 (0, 0)) ∧ HalfX wc bn cn E c ∧ cn ≤ wc.heap.size ∧ Below w31.heap.size w31 wc)
    case first =>
      rename_i J K hJ hM
      have hbb := below_drew (w := w31)
      have D32 := hide hbb
      have B32 := hide ((unhide B31).trans (hbb.mono (unhide B31).size))
      have GA32 := hide (row_keep (unhide GA31) hbb)
      have GH32 := hide (row_keep (unhide GH31) hbb)
      clear hbb
      refine wp_region_held_drew (S := fun w' => w'.heap[w.heap.size]? = some (.cells #[.int .i64 ek, .int .i64 en, .string es, .slice b el cap] 44 (0, 0)) ∧ w'.heap[w.heap.size + 1]? = some (.cells #[.int .i64 hk, .int .i64 hn, .string hs, .slice hb hl hcp] 44 (0, 0))) (by kernel_rfl) ⟨unhide GA32, unhide GH32⟩ (fun hS => ?_)
      have HS := hide hS
      clear hS
      generalize w31.drew = w32 at *
      refine wpAnyH_take (i := 0) (v := .agg #[.int .i64 ek, .int .i64 en, .string es, .slice b el cap]) rfl (by kernel_rfl) (by kernel_rfl) (by kernel_rfl) (fun _ _ _ h => h) (yields_loadG (by rfl) 44 _ rfl w.heap.size rfl 44 #[.int .i64 ek, .int .i64 en, .string es, .slice b el cap] _ (fun w h => h.1) Tryd.underlying44 rfl (by kernel_rfl)) (unhide HS) ?_
      go_simp
      refine wpAnyH_take (i := 2) (v := .agg #[.int .i64 hk, .int .i64 hn, .string hs, .slice hb hl hcp]) rfl (by kernel_rfl) (by kernel_rfl) (by kernel_rfl) (fun _ _ _ h => h) (yields_loadG (by rfl) 44 _ rfl (w.heap.size + 1) rfl 44 #[.int .i64 hk, .int .i64 hn, .string hs, .slice hb hl hcp] _ (fun w h => h.2) Tryd.underlying44 rfl (by kernel_rfl)) (unhide HS) ?_
      go_simp
      refine wpAnyH_take (i := 4) (v := .slice a2 L.length c2) rfl (by kernel_rfl) (by kernel_rfl) (by kernel_rfl) (fun _ _ _ h => h) (Or.inl ⟨by rfl, fun w hc => ?_⟩) (unhide HS) ?_
      · clear hc; go_simp
      go_simp
      refine wpAnyH_take (i := 6) (v := .slice a3 vl c3) rfl (by kernel_rfl) (by kernel_rfl) (by kernel_rfl) (fun _ _ _ h => h) (Or.inl ⟨by rfl, fun w hc => ?_⟩) (unhide HS) ?_
      · clear hc; go_simp
      go_simp
      refine wpAnyH_ready (rs := [1, 9]) (by kernel_rfl) (by simp) ?_
      refine AllReadyH.cons rfl (fun K2 hK => ?_) (AllReadyH.cons rfl (fun K2 hK => ?_) AllReadyH.nil)
      · go_simp
        refine (unhide TX w32 (unhide B32)).mono ?_
        rintro r w33 ⟨d, dp, rfl, hnx, hbb⟩
        have X33 := hide (show RdX w33 0 e d from hnx.rd.lower (Nat.zero_le _) _ _)
        clear hnx
        have B33 := hide ((unhide B32).trans (hbb.mono (unhide B32).size))
        have D33 := hide ((unhide D32).trans (hbb.mono (unhide D32).size))
        have GA33 := hide (row_keep (unhide GA32) hbb)
        have GH33 := hide (row_keep (unhide GH32) hbb)
        clear hbb B32 D32 GA32 GH32
        refine hK.out _ _ (⟨unhide GA33, unhide GH33⟩) (fun hS => ?_)
        clear HS
        have HS := hide hS
        clear hS hK K2
        refine wpAnyH_ready (rs := [3, 9]) (by kernel_rfl) (by simp) ?_
        refine AllReadyH.cons rfl (fun K2 hK => ?_) (AllReadyH.cons rfl (fun K2 hK => ?_) AllReadyH.nil)
        · go_simp
          refine (unhide TH w33 (unhide B33)).mono ?_
          rintro r w34 ⟨d2, dp2, rfl, hnx, hbb⟩
          have Y34 := hide (show RdX w34 0 h d2 from hnx.rd.lower (Nat.zero_le _) _ _)
          clear hnx
          have B34 := hide ((unhide B33).trans (hbb.mono (unhide B33).size))
          have D34 := hide ((unhide D33).trans (hbb.mono (unhide D33).size))
          have GA34 := hide (row_keep (unhide GA33) hbb)
          have GH34 := hide (row_keep (unhide GH33) hbb)
          have X34 := hide ((unhide X33).later hbb)
          clear hbb B33 D33 GA33 GH33 X33
          refine hK.out _ _ (⟨unhide GA34, unhide GH34⟩) (fun hS => ?_)
          clear HS
          have HS := hide hS
          clear hS hK K2
          refine wpAnyH_ready (rs := [5, 9]) (by kernel_rfl) (by simp) ?_
          refine AllReadyH.cons rfl (fun K2 hK => ?_) (AllReadyH.cons rfl (fun K2 hK => ?_) AllReadyH.nil)
          · go_simp
            refine (unhide TS w34 (unhide B34)).mono ?_
            rintro r w35 ⟨rfl, hnx, hbb⟩
            have U35 := hide hnx
            clear hnx
            have B35 := hide ((unhide B34).trans (hbb.mono (unhide B34).size))
            have D35 := hide ((unhide D34).trans (hbb.mono (unhide D34).size))
            have GA35 := hide (row_keep (unhide GA34) hbb)
            have GH35 := hide (row_keep (unhide GH34) hbb)
            have X35 := hide ((unhide X34).later hbb)
            have Y35 := hide ((unhide Y34).later hbb)
            clear hbb B34 D34 GA34 GH34 X34 Y34
            generalize w34.heap.size = gn at *
            refine hK.out _ _ (⟨unhide GA35, unhide GH35⟩) (fun hS => ?_)
            clear HS
            have HS := hide hS
            clear hS hK K2
            refine wpAnyH_ready (rs := [7, 9]) (by kernel_rfl) (by simp) ?_
            refine AllReadyH.cons rfl (fun K2 hK => ?_) (AllReadyH.cons rfl (fun K2 hK => ?_) AllReadyH.nil)
            · go_simp
              refine (unhide TV w35 (unhide B35)).mono ?_
              rintro r w36 ⟨rfl, hnx, hbb⟩
              have V36 := hide (show RdX w36 0 V (some ⟨w35.heap.size, 0, none⟩) from hnx.rd.lower (Nat.zero_le _) _ _)
              clear hnx
              have B36 := hide ((unhide B35).trans (hbb.mono (unhide B35).size))
              have D36 := hide ((unhide D35).trans (hbb.mono (unhide D35).size))
              have GA36 := hide (row_keep (unhide GA35) hbb)
              have GH36 := hide (row_keep (unhide GH35) hbb)
              have X36 := hide ((unhide X35).later hbb)
              have Y36 := hide ((unhide Y35).later hbb)
              have U36 := hide ((unhide U35).later hbb)
              clear hbb B35 D35 GA35 GH35 X35 Y35 U35
              generalize w35.heap.size = gv at *
              refine hK.out _ _ (⟨unhide GA36, unhide GH36⟩) (fun hS => ?_)
              clear HS
              have HS := hide hS
              clear hS hK K2
              refine wpAnyH_ready (rs := [8, 9]) (by kernel_rfl) (by simp) ?_
              refine AllReadyH.cons rfl (fun K2 hK => ?_) (AllReadyH.cons rfl (fun K2 hK => ?_) AllReadyH.nil)
              · go_simp
                refine (unhide PI w36 (unhide B36) d dp d2 dp2 gn gv _ _ (unhide X36) (unhide Y36) (unhide U36) (unhide V36)).mono ?_
                rintro r w37 ⟨c, cp, rfl, hnx, hbb⟩
                have N37 := hide hnx.half
                have hs8 := hbb.size
                clear hnx X36 Y36 U36 V36
                have B37 := hide ((unhide B36).trans (hbb.mono (unhide B36).size))
                have D37 := hide ((unhide D36).trans (hbb.mono (unhide D36).size))
                have GA37 := hide (row_keep (unhide GA36) hbb)
                have GH37 := hide (row_keep (unhide GH36) hbb)
                clear hbb B36 D36 GA36 GH36
                have hz8 := Nat.le_refl w37.heap.size
                generalize w36.heap.size = bn at *
                generalize hcx : w37.heap.size = cn at N37
                have hz9 : cn ≤ w37.heap.size := Nat.le_of_eq hcx.symm
                clear hcx hz8
                refine hK.out _ _ (⟨unhide GA37, unhide GH37⟩) (fun hS => ?_)
                clear HS
                have HS := hide hS
                clear hS hK K2
                refine wpAnyH_ready (rs := [9]) (by kernel_rfl) (by simp) ?_
                refine AllReadyH.cons rfl (fun K2 hK => ?_) AllReadyH.nil
                go_simp
                have hbb := below_new w37 (.cells #[.int .i64 0, .int .i64 0, .string ⟨#[]⟩, .slice none 0 0] 26)
                have A38 := hide (show (w37.alloc (.cells #[.int .i64 0, .int .i64 0, .string ⟨#[]⟩, .slice none 0 0] 26)).heap[w37.heap.size]? = some (.cells #[.int .i64 0, .int .i64 0, .string ⟨#[]⟩, .slice none 0 0] 26 (0, 0)) from Array.getElem?_push_size)
                have gaD : w31.heap.size ≤ w37.heap.size := (unhide D37).size
                have gaS := hbb.size
                have gaH := (Array.getElem?_eq_some_iff.1 (unhide GH37)).1
                have B38 := hide ((unhide B37).trans (hbb.mono (unhide B37).size))
                have D38 := hide ((unhide D37).trans (hbb.mono (unhide D37).size))
                have GA38 := hide (row_keep (unhide GA37) hbb)
                have GH38 := hide (row_keep (unhide GH37) hbb)
                have N38 := hide ((unhide N37).later hbb)
                clear hbb B37 D37 GA37 GH37 N37
                generalize w37.alloc (.cells #[.int .i64 0, .int .i64 0, .string ⟨#[]⟩, .slice none 0 0] 26) = w38 at *
                generalize w37.heap.size = ga at *
                refine hK.out _ _ (⟨unhide GA38, unhide GH38⟩) (fun hS => ?_)
                clear HS
                have HS := hide hS
                clear hS hK K2
                refine wpAnyH_ready (rs := [10]) (by kernel_rfl) (by simp) ?_
                refine AllReadyH.cons rfl (fun K2 hK => ?_) AllReadyH.nil
                rw [if_pos (by rfl)]
                refine wp_store_row 26 _ _ rfl ga #[.int .i64 fk, .int .i64 fn, .string fs, .slice c fl cp] rfl rfl 26 _ (unhide A38) szE rfl (ex_one _ _ _ _ _ _) ?_
                have hgr := grownBy_row (W := w38) (g := ga) #[.int .i64 fk, .int .i64 fn, .string fs, .slice c fl cp]
                have hsz := hgr.size
                have D39 := hide ((unhide D38).grown hgr (unhide D38).size (fun q e => by cases e; omega))
                have Y39 := hide (setRow_heap w38 ga _ #[.int .i64 fk, .int .i64 fn, .string fs, .slice c fl cp] 26 _ (unhide A38))
                have N39 := hide ((unhide N38).beyond hgr (by omega))
                have GA39 := hide ((hgr.block _ (Array.getElem?_eq_some_iff.1 (unhide GA38)).1 (fun e => by simp at e; omega)).trans (unhide GA38))
                have GH39 := hide ((hgr.block _ (Array.getElem?_eq_some_iff.1 (unhide GH38)).1 (fun e => by simp at e; omega)).trans (unhide GH38))
                refine hK.out _ _ ⟨unhide GA39, unhide GH39⟩ (fun hS => ?_)
                clear HS hS hK K2 hgr
                clear A38 N38 GA38 GH38 D38 B38
                refine wpAnyH_done (by kernel_rfl) ?_ _
                generalize w38.setRow ga #[.int .i64 fk, .int .i64 fn, .string fs, .slice c fl cp] = w39 at *
                refine hM _ _ (Met.intro (hJ _ _ ?_))
                (repeat apply Exists.intro)
                refine ⟨?_, rfl⟩
                exact ⟨ga, c, cp, bn, cn, rfl, unhide Y39, unhide N39, by omega, unhide D39⟩
              · go_simp
                have hbb := below_new w36 (.cells #[.int .i64 0, .int .i64 0, .string ⟨#[]⟩, .slice none 0 0] 26)
                have A37 := hide (show (w36.alloc (.cells #[.int .i64 0, .int .i64 0, .string ⟨#[]⟩, .slice none 0 0] 26)).heap[w36.heap.size]? = some (.cells #[.int .i64 0, .int .i64 0, .string ⟨#[]⟩, .slice none 0 0] 26 (0, 0)) from Array.getElem?_push_size)
                have gaD : w31.heap.size ≤ w36.heap.size := (unhide D36).size
                have gaS := hbb.size
                have gaH := (Array.getElem?_eq_some_iff.1 (unhide GH36)).1
                have B37 := hide ((unhide B36).trans (hbb.mono (unhide B36).size))
                have D37 := hide ((unhide D36).trans (hbb.mono (unhide D36).size))
                have GA37 := hide (row_keep (unhide GA36) hbb)
                have GH37 := hide (row_keep (unhide GH36) hbb)
                have X37 := hide ((unhide X36).later hbb)
                have Y37 := hide ((unhide Y36).later hbb)
                have U37 := hide ((unhide U36).later hbb)
                have V37 := hide ((unhide V36).later hbb)
                clear hbb B36 D36 GA36 GH36 X36 Y36 U36 V36
                generalize w36.alloc (.cells #[.int .i64 0, .int .i64 0, .string ⟨#[]⟩, .slice none 0 0] 26) = w37 at *
                generalize w36.heap.size = ga at *
                refine hK.out _ _ (⟨unhide GA37, unhide GH37⟩) (fun hS => ?_)
                clear HS
                have HS := hide hS
                clear hS hK K2
                refine wpAnyH_ready (rs := [8]) (by kernel_rfl) (by simp) ?_
                refine AllReadyH.cons rfl (fun K2 hK => ?_) AllReadyH.nil
                go_simp
                refine (unhide PI w37 (unhide B37) d dp d2 dp2 gn gv _ _ (unhide X37) (unhide Y37) (unhide U37) (unhide V37)).mono ?_
                rintro r w38 ⟨c, cp, rfl, hnx, hbb⟩
                have N38 := hide hnx.half
                have hs8 := hbb.size
                have ha8 := (Array.getElem?_eq_some_iff.1 (unhide A37)).1
                clear hnx X37 Y37 U37 V37
                have B38 := hide ((unhide B37).trans (hbb.mono (unhide B37).size))
                have D38 := hide ((unhide D37).trans (hbb.mono (unhide D37).size))
                have GA38 := hide (row_keep (unhide GA37) hbb)
                have GH38 := hide (row_keep (unhide GH37) hbb)
                have A38 := hide (row_keep (unhide A37) hbb)
                clear hbb B37 D37 GA37 GH37 A37
                have hz8 := Nat.le_refl w38.heap.size
                generalize w37.heap.size = bn at *
                generalize hcx : w38.heap.size = cn at N38
                have hz9 : cn ≤ w38.heap.size := Nat.le_of_eq hcx.symm
                clear hcx hz8
                refine hK.out _ _ (⟨unhide GA38, unhide GH38⟩) (fun hS => ?_)
                clear HS
                have HS := hide hS
                clear hS hK K2
                refine wpAnyH_ready (rs := [10]) (by kernel_rfl) (by simp) ?_
                refine AllReadyH.cons rfl (fun K2 hK => ?_) AllReadyH.nil
                rw [if_pos (by rfl)]
                refine wp_store_row 26 _ _ rfl ga #[.int .i64 fk, .int .i64 fn, .string fs, .slice c fl cp] rfl rfl 26 _ (unhide A38) szE rfl (ex_one _ _ _ _ _ _) ?_
                have hgr := grownBy_row (W := w38) (g := ga) #[.int .i64 fk, .int .i64 fn, .string fs, .slice c fl cp]
                have hsz := hgr.size
                have D39 := hide ((unhide D38).grown hgr (unhide D38).size (fun q e => by cases e; omega))
                have Y39 := hide (setRow_heap w38 ga _ #[.int .i64 fk, .int .i64 fn, .string fs, .slice c fl cp] 26 _ (unhide A38))
                have N39 := hide ((unhide N38).drawn hgr (by omega))
                have GA39 := hide ((hgr.block _ (Array.getElem?_eq_some_iff.1 (unhide GA38)).1 (fun e => by simp at e; omega)).trans (unhide GA38))
                have GH39 := hide ((hgr.block _ (Array.getElem?_eq_some_iff.1 (unhide GH38)).1 (fun e => by simp at e; omega)).trans (unhide GH38))
                refine hK.out _ _ ⟨unhide GA39, unhide GH39⟩ (fun hS => ?_)
                clear HS hS hK K2 hgr
                clear A38 N38 GA38 GH38 D38 B38
                refine wpAnyH_done (by kernel_rfl) ?_ _
                generalize w38.setRow ga #[.int .i64 fk, .int .i64 fn, .string fs, .slice c fl cp] = w39 at *
                refine hM _ _ (Met.intro (hJ _ _ ?_))
                (repeat apply Exists.intro)
                refine ⟨?_, rfl⟩
                exact ⟨ga, c, cp, bn, cn, rfl, unhide Y39, unhide N39, by omega, unhide D39⟩
            · go_simp
              have hbb := below_new w35 (.cells #[.int .i64 0, .int .i64 0, .string ⟨#[]⟩, .slice none 0 0] 26)
              have A36 := hide (show (w35.alloc (.cells #[.int .i64 0, .int .i64 0, .string ⟨#[]⟩, .slice none 0 0] 26)).heap[w35.heap.size]? = some (.cells #[.int .i64 0, .int .i64 0, .string ⟨#[]⟩, .slice none 0 0] 26 (0, 0)) from Array.getElem?_push_size)
              have gaD : w31.heap.size ≤ w35.heap.size := (unhide D35).size
              have gaS := hbb.size
              have gaH := (Array.getElem?_eq_some_iff.1 (unhide GH35)).1
              have B36 := hide ((unhide B35).trans (hbb.mono (unhide B35).size))
              have D36 := hide ((unhide D35).trans (hbb.mono (unhide D35).size))
              have GA36 := hide (row_keep (unhide GA35) hbb)
              have GH36 := hide (row_keep (unhide GH35) hbb)
              have X36 := hide ((unhide X35).later hbb)
              have Y36 := hide ((unhide Y35).later hbb)
              have U36 := hide ((unhide U35).later hbb)
              clear hbb B35 D35 GA35 GH35 X35 Y35 U35
              generalize w35.alloc (.cells #[.int .i64 0, .int .i64 0, .string ⟨#[]⟩, .slice none 0 0] 26) = w36 at *
              generalize w35.heap.size = ga at *
              refine hK.out _ _ (⟨unhide GA36, unhide GH36⟩) (fun hS => ?_)
              clear HS
              have HS := hide hS
              clear hS hK K2
              refine wpAnyH_ready (rs := [7]) (by kernel_rfl) (by simp) ?_
              refine AllReadyH.cons rfl (fun K2 hK => ?_) AllReadyH.nil
              go_simp
              refine (unhide TV w36 (unhide B36)).mono ?_
              rintro r w37 ⟨rfl, hnx, hbb⟩
              have V37 := hide (show RdX w37 0 V (some ⟨w36.heap.size, 0, none⟩) from hnx.rd.lower (Nat.zero_le _) _ _)
              clear hnx
              have B37 := hide ((unhide B36).trans (hbb.mono (unhide B36).size))
              have D37 := hide ((unhide D36).trans (hbb.mono (unhide D36).size))
              have GA37 := hide (row_keep (unhide GA36) hbb)
              have GH37 := hide (row_keep (unhide GH36) hbb)
              have A37 := hide (row_keep (unhide A36) hbb)
              have X37 := hide ((unhide X36).later hbb)
              have Y37 := hide ((unhide Y36).later hbb)
              have U37 := hide ((unhide U36).later hbb)
              clear hbb B36 D36 GA36 GH36 A36 X36 Y36 U36
              generalize w36.heap.size = gv at *
              refine hK.out _ _ (⟨unhide GA37, unhide GH37⟩) (fun hS => ?_)
              clear HS
              have HS := hide hS
              clear hS hK K2
              refine wpAnyH_ready (rs := [8]) (by kernel_rfl) (by simp) ?_
              refine AllReadyH.cons rfl (fun K2 hK => ?_) AllReadyH.nil
              go_simp
              refine (unhide PI w37 (unhide B37) d dp d2 dp2 gn gv _ _ (unhide X37) (unhide Y37) (unhide U37) (unhide V37)).mono ?_
              rintro r w38 ⟨c, cp, rfl, hnx, hbb⟩
              have N38 := hide hnx.half
              have hs8 := hbb.size
              have ha8 := (Array.getElem?_eq_some_iff.1 (unhide A37)).1
              clear hnx X37 Y37 U37 V37
              have B38 := hide ((unhide B37).trans (hbb.mono (unhide B37).size))
              have D38 := hide ((unhide D37).trans (hbb.mono (unhide D37).size))
              have GA38 := hide (row_keep (unhide GA37) hbb)
              have GH38 := hide (row_keep (unhide GH37) hbb)
              have A38 := hide (row_keep (unhide A37) hbb)
              clear hbb B37 D37 GA37 GH37 A37
              have hz8 := Nat.le_refl w38.heap.size
              generalize w37.heap.size = bn at *
              generalize hcx : w38.heap.size = cn at N38
              have hz9 : cn ≤ w38.heap.size := Nat.le_of_eq hcx.symm
              clear hcx hz8
              refine hK.out _ _ (⟨unhide GA38, unhide GH38⟩) (fun hS => ?_)
              clear HS
              have HS := hide hS
              clear hS hK K2
              refine wpAnyH_ready (rs := [10]) (by kernel_rfl) (by simp) ?_
              refine AllReadyH.cons rfl (fun K2 hK => ?_) AllReadyH.nil
              rw [if_pos (by rfl)]
              refine wp_store_row 26 _ _ rfl ga #[.int .i64 fk, .int .i64 fn, .string fs, .slice c fl cp] rfl rfl 26 _ (unhide A38) szE rfl (ex_one _ _ _ _ _ _) ?_
              have hgr := grownBy_row (W := w38) (g := ga) #[.int .i64 fk, .int .i64 fn, .string fs, .slice c fl cp]
              have hsz := hgr.size
              have D39 := hide ((unhide D38).grown hgr (unhide D38).size (fun q e => by cases e; omega))
              have Y39 := hide (setRow_heap w38 ga _ #[.int .i64 fk, .int .i64 fn, .string fs, .slice c fl cp] 26 _ (unhide A38))
              have N39 := hide ((unhide N38).drawn hgr (by omega))
              have GA39 := hide ((hgr.block _ (Array.getElem?_eq_some_iff.1 (unhide GA38)).1 (fun e => by simp at e; omega)).trans (unhide GA38))
              have GH39 := hide ((hgr.block _ (Array.getElem?_eq_some_iff.1 (unhide GH38)).1 (fun e => by simp at e; omega)).trans (unhide GH38))
              refine hK.out _ _ ⟨unhide GA39, unhide GH39⟩ (fun hS => ?_)
              clear HS hS hK K2 hgr
              clear A38 N38 GA38 GH38 D38 B38
              refine wpAnyH_done (by kernel_rfl) ?_ _
              generalize w38.setRow ga #[.int .i64 fk, .int .i64 fn, .string fs, .slice c fl cp] = w39 at *
              refine hM _ _ (Met.intro (hJ _ _ ?_))
              (repeat apply Exists.intro)
              refine ⟨?_, rfl⟩
              exact ⟨ga, c, cp, bn, cn, rfl, unhide Y39, unhide N39, by omega, unhide D39⟩
          · go_simp
            have hbb := below_new w34 (.cells #[.int .i64 0, .int .i64 0, .string ⟨#[]⟩, .slice none 0 0] 26)
            have A35 := hide (show (w34.alloc (.cells #[.int .i64 0, .int .i64 0, .string ⟨#[]⟩, .slice none 0 0] 26)).heap[w34.heap.size]? = some (.cells #[.int .i64 0, .int .i64 0, .string ⟨#[]⟩, .slice none 0 0] 26 (0, 0)) from Array.getElem?_push_size)
            have gaD : w31.heap.size ≤ w34.heap.size := (unhide D34).size
            have gaS := hbb.size
            have gaH := (Array.getElem?_eq_some_iff.1 (unhide GH34)).1
            have B35 := hide ((unhide B34).trans (hbb.mono (unhide B34).size))
            have D35 := hide ((unhide D34).trans (hbb.mono (unhide D34).size))
            have GA35 := hide (row_keep (unhide GA34) hbb)
            have GH35 := hide (row_keep (unhide GH34) hbb)
            have X35 := hide ((unhide X34).later hbb)
            have Y35 := hide ((unhide Y34).later hbb)
            clear hbb B34 D34 GA34 GH34 X34 Y34
            generalize w34.alloc (.cells #[.int .i64 0, .int .i64 0, .string ⟨#[]⟩, .slice none 0 0] 26) = w35 at *
            generalize w34.heap.size = ga at *
            refine hK.out _ _ (⟨unhide GA35, unhide GH35⟩) (fun hS => ?_)
            clear HS
            have HS := hide hS
            clear hS hK K2
            refine wpAnyH_ready (rs := [5]) (by kernel_rfl) (by simp) ?_
            refine AllReadyH.cons rfl (fun K2 hK => ?_) AllReadyH.nil
            go_simp
            refine (unhide TS w35 (unhide B35)).mono ?_
            rintro r w36 ⟨rfl, hnx, hbb⟩
            have U36 := hide hnx
            clear hnx
            have B36 := hide ((unhide B35).trans (hbb.mono (unhide B35).size))
            have D36 := hide ((unhide D35).trans (hbb.mono (unhide D35).size))
            have GA36 := hide (row_keep (unhide GA35) hbb)
            have GH36 := hide (row_keep (unhide GH35) hbb)
            have A36 := hide (row_keep (unhide A35) hbb)
            have X36 := hide ((unhide X35).later hbb)
            have Y36 := hide ((unhide Y35).later hbb)
            clear hbb B35 D35 GA35 GH35 A35 X35 Y35
            generalize w35.heap.size = gn at *
            refine hK.out _ _ (⟨unhide GA36, unhide GH36⟩) (fun hS => ?_)
            clear HS
            have HS := hide hS
            clear hS hK K2
            refine wpAnyH_ready (rs := [7]) (by kernel_rfl) (by simp) ?_
            refine AllReadyH.cons rfl (fun K2 hK => ?_) AllReadyH.nil
            go_simp
            refine (unhide TV w36 (unhide B36)).mono ?_
            rintro r w37 ⟨rfl, hnx, hbb⟩
            have V37 := hide (show RdX w37 0 V (some ⟨w36.heap.size, 0, none⟩) from hnx.rd.lower (Nat.zero_le _) _ _)
            clear hnx
            have B37 := hide ((unhide B36).trans (hbb.mono (unhide B36).size))
            have D37 := hide ((unhide D36).trans (hbb.mono (unhide D36).size))
            have GA37 := hide (row_keep (unhide GA36) hbb)
            have GH37 := hide (row_keep (unhide GH36) hbb)
            have A37 := hide (row_keep (unhide A36) hbb)
            have X37 := hide ((unhide X36).later hbb)
            have Y37 := hide ((unhide Y36).later hbb)
            have U37 := hide ((unhide U36).later hbb)
            clear hbb B36 D36 GA36 GH36 A36 X36 Y36 U36
            generalize w36.heap.size = gv at *
            refine hK.out _ _ (⟨unhide GA37, unhide GH37⟩) (fun hS => ?_)
            clear HS
            have HS := hide hS
            clear hS hK K2
            refine wpAnyH_ready (rs := [8]) (by kernel_rfl) (by simp) ?_
            refine AllReadyH.cons rfl (fun K2 hK => ?_) AllReadyH.nil
            go_simp
            refine (unhide PI w37 (unhide B37) d dp d2 dp2 gn gv _ _ (unhide X37) (unhide Y37) (unhide U37) (unhide V37)).mono ?_
            rintro r w38 ⟨c, cp, rfl, hnx, hbb⟩
            have N38 := hide hnx.half
            have hs8 := hbb.size
            have ha8 := (Array.getElem?_eq_some_iff.1 (unhide A37)).1
            clear hnx X37 Y37 U37 V37
            have B38 := hide ((unhide B37).trans (hbb.mono (unhide B37).size))
            have D38 := hide ((unhide D37).trans (hbb.mono (unhide D37).size))
            have GA38 := hide (row_keep (unhide GA37) hbb)
            have GH38 := hide (row_keep (unhide GH37) hbb)
            have A38 := hide (row_keep (unhide A37) hbb)
            clear hbb B37 D37 GA37 GH37 A37
            have hz8 := Nat.le_refl w38.heap.size
            generalize w37.heap.size = bn at *
            generalize hcx : w38.heap.size = cn at N38
            have hz9 : cn ≤ w38.heap.size := Nat.le_of_eq hcx.symm
            clear hcx hz8
            refine hK.out _ _ (⟨unhide GA38, unhide GH38⟩) (fun hS => ?_)
            clear HS
            have HS := hide hS
            clear hS hK K2
            refine wpAnyH_ready (rs := [10]) (by kernel_rfl) (by simp) ?_
            refine AllReadyH.cons rfl (fun K2 hK => ?_) AllReadyH.nil
            rw [if_pos (by rfl)]
            refine wp_store_row 26 _ _ rfl ga #[.int .i64 fk, .int .i64 fn, .string fs, .slice c fl cp] rfl rfl 26 _ (unhide A38) szE rfl (ex_one _ _ _ _ _ _) ?_
            have hgr := grownBy_row (W := w38) (g := ga) #[.int .i64 fk, .int .i64 fn, .string fs, .slice c fl cp]
            have hsz := hgr.size
            have D39 := hide ((unhide D38).grown hgr (unhide D38).size (fun q e => by cases e; omega))
            have Y39 := hide (setRow_heap w38 ga _ #[.int .i64 fk, .int .i64 fn, .string fs, .slice c fl cp] 26 _ (unhide A38))
            have N39 := hide ((unhide N38).drawn hgr (by omega))
            have GA39 := hide ((hgr.block _ (Array.getElem?_eq_some_iff.1 (unhide GA38)).1 (fun e => by simp at e; omega)).trans (unhide GA38))
            have GH39 := hide ((hgr.block _ (Array.getElem?_eq_some_iff.1 (unhide GH38)).1 (fun e => by simp at e; omega)).trans (unhide GH38))
            refine hK.out _ _ ⟨unhide GA39, unhide GH39⟩ (fun hS => ?_)
            clear HS hS hK K2 hgr
            clear A38 N38 GA38 GH38 D38 B38
            refine wpAnyH_done (by kernel_rfl) ?_ _
            generalize w38.setRow ga #[.int .i64 fk, .int .i64 fn, .string fs, .slice c fl cp] = w39 at *
            refine hM _ _ (Met.intro (hJ _ _ ?_))
            (repeat apply Exists.intro)
            refine ⟨?_, rfl⟩
            exact ⟨ga, c, cp, bn, cn, rfl, unhide Y39, unhide N39, by omega, unhide D39⟩
        · go_simp
          have hbb := below_new w33 (.cells #[.int .i64 0, .int .i64 0, .string ⟨#[]⟩, .slice none 0 0] 26)
          have A34 := hide (show (w33.alloc (.cells #[.int .i64 0, .int .i64 0, .string ⟨#[]⟩, .slice none 0 0] 26)).heap[w33.heap.size]? = some (.cells #[.int .i64 0, .int .i64 0, .string ⟨#[]⟩, .slice none 0 0] 26 (0, 0)) from Array.getElem?_push_size)
          have gaD : w31.heap.size ≤ w33.heap.size := (unhide D33).size
          have gaS := hbb.size
          have gaH := (Array.getElem?_eq_some_iff.1 (unhide GH33)).1
          have B34 := hide ((unhide B33).trans (hbb.mono (unhide B33).size))
          have D34 := hide ((unhide D33).trans (hbb.mono (unhide D33).size))
          have GA34 := hide (row_keep (unhide GA33) hbb)
          have GH34 := hide (row_keep (unhide GH33) hbb)
          have X34 := hide ((unhide X33).later hbb)
          clear hbb B33 D33 GA33 GH33 X33
          generalize w33.alloc (.cells #[.int .i64 0, .int .i64 0, .string ⟨#[]⟩, .slice none 0 0] 26) = w34 at *
          generalize w33.heap.size = ga at *
          refine hK.out _ _ (⟨unhide GA34, unhide GH34⟩) (fun hS => ?_)
          clear HS
          have HS := hide hS
          clear hS hK K2
          refine wpAnyH_ready (rs := [3]) (by kernel_rfl) (by simp) ?_
          refine AllReadyH.cons rfl (fun K2 hK => ?_) AllReadyH.nil
          go_simp
          refine (unhide TH w34 (unhide B34)).mono ?_
          rintro r w35 ⟨d2, dp2, rfl, hnx, hbb⟩
          have Y35 := hide (show RdX w35 0 h d2 from hnx.rd.lower (Nat.zero_le _) _ _)
          clear hnx
          have B35 := hide ((unhide B34).trans (hbb.mono (unhide B34).size))
          have D35 := hide ((unhide D34).trans (hbb.mono (unhide D34).size))
          have GA35 := hide (row_keep (unhide GA34) hbb)
          have GH35 := hide (row_keep (unhide GH34) hbb)
          have A35 := hide (row_keep (unhide A34) hbb)
          have X35 := hide ((unhide X34).later hbb)
          clear hbb B34 D34 GA34 GH34 A34 X34
          refine hK.out _ _ (⟨unhide GA35, unhide GH35⟩) (fun hS => ?_)
          clear HS
          have HS := hide hS
          clear hS hK K2
          refine wpAnyH_ready (rs := [5]) (by kernel_rfl) (by simp) ?_
          refine AllReadyH.cons rfl (fun K2 hK => ?_) AllReadyH.nil
          go_simp
          refine (unhide TS w35 (unhide B35)).mono ?_
          rintro r w36 ⟨rfl, hnx, hbb⟩
          have U36 := hide hnx
          clear hnx
          have B36 := hide ((unhide B35).trans (hbb.mono (unhide B35).size))
          have D36 := hide ((unhide D35).trans (hbb.mono (unhide D35).size))
          have GA36 := hide (row_keep (unhide GA35) hbb)
          have GH36 := hide (row_keep (unhide GH35) hbb)
          have A36 := hide (row_keep (unhide A35) hbb)
          have X36 := hide ((unhide X35).later hbb)
          have Y36 := hide ((unhide Y35).later hbb)
          clear hbb B35 D35 GA35 GH35 A35 X35 Y35
          generalize w35.heap.size = gn at *
          refine hK.out _ _ (⟨unhide GA36, unhide GH36⟩) (fun hS => ?_)
          clear HS
          have HS := hide hS
          clear hS hK K2
          refine wpAnyH_ready (rs := [7]) (by kernel_rfl) (by simp) ?_
          refine AllReadyH.cons rfl (fun K2 hK => ?_) AllReadyH.nil
          go_simp
          refine (unhide TV w36 (unhide B36)).mono ?_
          rintro r w37 ⟨rfl, hnx, hbb⟩
          have V37 := hide (show RdX w37 0 V (some ⟨w36.heap.size, 0, none⟩) from hnx.rd.lower (Nat.zero_le _) _ _)
          clear hnx
          have B37 := hide ((unhide B36).trans (hbb.mono (unhide B36).size))
          have D37 := hide ((unhide D36).trans (hbb.mono (unhide D36).size))
          have GA37 := hide (row_keep (unhide GA36) hbb)
          have GH37 := hide (row_keep (unhide GH36) hbb)
          have A37 := hide (row_keep (unhide A36) hbb)
          have X37 := hide ((unhide X36).later hbb)
          have Y37 := hide ((unhide Y36).later hbb)
          have U37 := hide ((unhide U36).later hbb)
          clear hbb B36 D36 GA36 GH36 A36 X36 Y36 U36
          generalize w36.heap.size = gv at *
          refine hK.out _ _ (⟨unhide GA37, unhide GH37⟩) (fun hS => ?_)
          clear HS
          have HS := hide hS
          clear hS hK K2
          refine wpAnyH_ready (rs := [8]) (by kernel_rfl) (by simp) ?_
          refine AllReadyH.cons rfl (fun K2 hK => ?_) AllReadyH.nil
          go_simp
          refine (unhide PI w37 (unhide B37) d dp d2 dp2 gn gv _ _ (unhide X37) (unhide Y37) (unhide U37) (unhide V37)).mono ?_
          rintro r w38 ⟨c, cp, rfl, hnx, hbb⟩
          have N38 := hide hnx.half
          have hs8 := hbb.size
          have ha8 := (Array.getElem?_eq_some_iff.1 (unhide A37)).1
          clear hnx X37 Y37 U37 V37
          have B38 := hide ((unhide B37).trans (hbb.mono (unhide B37).size))
          have D38 := hide ((unhide D37).trans (hbb.mono (unhide D37).size))
          have GA38 := hide (row_keep (unhide GA37) hbb)
          have GH38 := hide (row_keep (unhide GH37) hbb)
          have A38 := hide (row_keep (unhide A37) hbb)
          clear hbb B37 D37 GA37 GH37 A37
          have hz8 := Nat.le_refl w38.heap.size
          generalize w37.heap.size = bn at *
          generalize hcx : w38.heap.size = cn at N38
          have hz9 : cn ≤ w38.heap.size := Nat.le_of_eq hcx.symm
          clear hcx hz8
          refine hK.out _ _ (⟨unhide GA38, unhide GH38⟩) (fun hS => ?_)
          clear HS
          have HS := hide hS
          clear hS hK K2
          refine wpAnyH_ready (rs := [10]) (by kernel_rfl) (by simp) ?_
          refine AllReadyH.cons rfl (fun K2 hK => ?_) AllReadyH.nil
          rw [if_pos (by rfl)]
          refine wp_store_row 26 _ _ rfl ga #[.int .i64 fk, .int .i64 fn, .string fs, .slice c fl cp] rfl rfl 26 _ (unhide A38) szE rfl (ex_one _ _ _ _ _ _) ?_
          have hgr := grownBy_row (W := w38) (g := ga) #[.int .i64 fk, .int .i64 fn, .string fs, .slice c fl cp]
          have hsz := hgr.size
          have D39 := hide ((unhide D38).grown hgr (unhide D38).size (fun q e => by cases e; omega))
          have Y39 := hide (setRow_heap w38 ga _ #[.int .i64 fk, .int .i64 fn, .string fs, .slice c fl cp] 26 _ (unhide A38))
          have N39 := hide ((unhide N38).drawn hgr (by omega))
          have GA39 := hide ((hgr.block _ (Array.getElem?_eq_some_iff.1 (unhide GA38)).1 (fun e => by simp at e; omega)).trans (unhide GA38))
          have GH39 := hide ((hgr.block _ (Array.getElem?_eq_some_iff.1 (unhide GH38)).1 (fun e => by simp at e; omega)).trans (unhide GH38))
          refine hK.out _ _ ⟨unhide GA39, unhide GH39⟩ (fun hS => ?_)
          clear HS hS hK K2 hgr
          clear A38 N38 GA38 GH38 D38 B38
          refine wpAnyH_done (by kernel_rfl) ?_ _
          generalize w38.setRow ga #[.int .i64 fk, .int .i64 fn, .string fs, .slice c fl cp] = w39 at *
          refine hM _ _ (Met.intro (hJ _ _ ?_))
          (repeat apply Exists.intro)
          refine ⟨?_, rfl⟩
          exact ⟨ga, c, cp, bn, cn, rfl, unhide Y39, unhide N39, by omega, unhide D39⟩
      · go_simp
        have hbb := below_new w32 (.cells #[.int .i64 0, .int .i64 0, .string ⟨#[]⟩, .slice none 0 0] 26)
        have A33 := hide (show (w32.alloc (.cells #[.int .i64 0, .int .i64 0, .string ⟨#[]⟩, .slice none 0 0] 26)).heap[w32.heap.size]? = some (.cells #[.int .i64 0, .int .i64 0, .string ⟨#[]⟩, .slice none 0 0] 26 (0, 0)) from Array.getElem?_push_size)
        have gaD : w31.heap.size ≤ w32.heap.size := (unhide D32).size
        have gaS := hbb.size
        have gaH := (Array.getElem?_eq_some_iff.1 (unhide GH32)).1
        have B33 := hide ((unhide B32).trans (hbb.mono (unhide B32).size))
        have D33 := hide ((unhide D32).trans (hbb.mono (unhide D32).size))
        have GA33 := hide (row_keep (unhide GA32) hbb)
        have GH33 := hide (row_keep (unhide GH32) hbb)
        clear hbb B32 D32 GA32 GH32
        generalize w32.alloc (.cells #[.int .i64 0, .int .i64 0, .string ⟨#[]⟩, .slice none 0 0] 26) = w33 at *
        generalize w32.heap.size = ga at *
        refine hK.out _ _ (⟨unhide GA33, unhide GH33⟩) (fun hS => ?_)
        clear HS
        have HS := hide hS
        clear hS hK K2
        refine wpAnyH_ready (rs := [1]) (by kernel_rfl) (by simp) ?_
        refine AllReadyH.cons rfl (fun K2 hK => ?_) AllReadyH.nil
        go_simp
        refine (unhide TX w33 (unhide B33)).mono ?_
        rintro r w34 ⟨d, dp, rfl, hnx, hbb⟩
        have X34 := hide (show RdX w34 0 e d from hnx.rd.lower (Nat.zero_le _) _ _)
        clear hnx
        have B34 := hide ((unhide B33).trans (hbb.mono (unhide B33).size))
        have D34 := hide ((unhide D33).trans (hbb.mono (unhide D33).size))
        have GA34 := hide (row_keep (unhide GA33) hbb)
        have GH34 := hide (row_keep (unhide GH33) hbb)
        have A34 := hide (row_keep (unhide A33) hbb)
        clear hbb B33 D33 GA33 GH33 A33
        refine hK.out _ _ (⟨unhide GA34, unhide GH34⟩) (fun hS => ?_)
        clear HS
        have HS := hide hS
        clear hS hK K2
        refine wpAnyH_ready (rs := [3]) (by kernel_rfl) (by simp) ?_
        refine AllReadyH.cons rfl (fun K2 hK => ?_) AllReadyH.nil
        go_simp
        refine (unhide TH w34 (unhide B34)).mono ?_
        rintro r w35 ⟨d2, dp2, rfl, hnx, hbb⟩
        have Y35 := hide (show RdX w35 0 h d2 from hnx.rd.lower (Nat.zero_le _) _ _)
        clear hnx
        have B35 := hide ((unhide B34).trans (hbb.mono (unhide B34).size))
        have D35 := hide ((unhide D34).trans (hbb.mono (unhide D34).size))
        have GA35 := hide (row_keep (unhide GA34) hbb)
        have GH35 := hide (row_keep (unhide GH34) hbb)
        have A35 := hide (row_keep (unhide A34) hbb)
        have X35 := hide ((unhide X34).later hbb)
        clear hbb B34 D34 GA34 GH34 A34 X34
        refine hK.out _ _ (⟨unhide GA35, unhide GH35⟩) (fun hS => ?_)
        clear HS
        have HS := hide hS
        clear hS hK K2
        refine wpAnyH_ready (rs := [5]) (by kernel_rfl) (by simp) ?_
        refine AllReadyH.cons rfl (fun K2 hK => ?_) AllReadyH.nil
        go_simp
        refine (unhide TS w35 (unhide B35)).mono ?_
        rintro r w36 ⟨rfl, hnx, hbb⟩
        have U36 := hide hnx
        clear hnx
        have B36 := hide ((unhide B35).trans (hbb.mono (unhide B35).size))
        have D36 := hide ((unhide D35).trans (hbb.mono (unhide D35).size))
        have GA36 := hide (row_keep (unhide GA35) hbb)
        have GH36 := hide (row_keep (unhide GH35) hbb)
        have A36 := hide (row_keep (unhide A35) hbb)
        have X36 := hide ((unhide X35).later hbb)
        have Y36 := hide ((unhide Y35).later hbb)
        clear hbb B35 D35 GA35 GH35 A35 X35 Y35
        generalize w35.heap.size = gn at *
        refine hK.out _ _ (⟨unhide GA36, unhide GH36⟩) (fun hS => ?_)
        clear HS
        have HS := hide hS
        clear hS hK K2
        refine wpAnyH_ready (rs := [7]) (by kernel_rfl) (by simp) ?_
        refine AllReadyH.cons rfl (fun K2 hK => ?_) AllReadyH.nil
        go_simp
        refine (unhide TV w36 (unhide B36)).mono ?_
        rintro r w37 ⟨rfl, hnx, hbb⟩
        have V37 := hide (show RdX w37 0 V (some ⟨w36.heap.size, 0, none⟩) from hnx.rd.lower (Nat.zero_le _) _ _)
        clear hnx
        have B37 := hide ((unhide B36).trans (hbb.mono (unhide B36).size))
        have D37 := hide ((unhide D36).trans (hbb.mono (unhide D36).size))
        have GA37 := hide (row_keep (unhide GA36) hbb)
        have GH37 := hide (row_keep (unhide GH36) hbb)
        have A37 := hide (row_keep (unhide A36) hbb)
        have X37 := hide ((unhide X36).later hbb)
        have Y37 := hide ((unhide Y36).later hbb)
        have U37 := hide ((unhide U36).later hbb)
        clear hbb B36 D36 GA36 GH36 A36 X36 Y36 U36
        generalize w36.heap.size = gv at *
        refine hK.out _ _ (⟨unhide GA37, unhide GH37⟩) (fun hS => ?_)
        clear HS
        have HS := hide hS
        clear hS hK K2
        refine wpAnyH_ready (rs := [8]) (by kernel_rfl) (by simp) ?_
        refine AllReadyH.cons rfl (fun K2 hK => ?_) AllReadyH.nil
        go_simp
        refine (unhide PI w37 (unhide B37) d dp d2 dp2 gn gv _ _ (unhide X37) (unhide Y37) (unhide U37) (unhide V37)).mono ?_
        rintro r w38 ⟨c, cp, rfl, hnx, hbb⟩
        have N38 := hide hnx.half
        have hs8 := hbb.size
        have ha8 := (Array.getElem?_eq_some_iff.1 (unhide A37)).1
        clear hnx X37 Y37 U37 V37
        have B38 := hide ((unhide B37).trans (hbb.mono (unhide B37).size))
        have D38 := hide ((unhide D37).trans (hbb.mono (unhide D37).size))
        have GA38 := hide (row_keep (unhide GA37) hbb)
        have GH38 := hide (row_keep (unhide GH37) hbb)
        have A38 := hide (row_keep (unhide A37) hbb)
        clear hbb B37 D37 GA37 GH37 A37
        have hz8 := Nat.le_refl w38.heap.size
        generalize w37.heap.size = bn at *
        generalize hcx : w38.heap.size = cn at N38
        have hz9 : cn ≤ w38.heap.size := Nat.le_of_eq hcx.symm
        clear hcx hz8
        refine hK.out _ _ (⟨unhide GA38, unhide GH38⟩) (fun hS => ?_)
        clear HS
        have HS := hide hS
        clear hS hK K2
        refine wpAnyH_ready (rs := [10]) (by kernel_rfl) (by simp) ?_
        refine AllReadyH.cons rfl (fun K2 hK => ?_) AllReadyH.nil
        rw [if_pos (by rfl)]
        refine wp_store_row 26 _ _ rfl ga #[.int .i64 fk, .int .i64 fn, .string fs, .slice c fl cp] rfl rfl 26 _ (unhide A38) szE rfl (ex_one _ _ _ _ _ _) ?_
        have hgr := grownBy_row (W := w38) (g := ga) #[.int .i64 fk, .int .i64 fn, .string fs, .slice c fl cp]
        have hsz := hgr.size
        have D39 := hide ((unhide D38).grown hgr (unhide D38).size (fun q e => by cases e; omega))
        have Y39 := hide (setRow_heap w38 ga _ #[.int .i64 fk, .int .i64 fn, .string fs, .slice c fl cp] 26 _ (unhide A38))
        have N39 := hide ((unhide N38).drawn hgr (by omega))
        have GA39 := hide ((hgr.block _ (Array.getElem?_eq_some_iff.1 (unhide GA38)).1 (fun e => by simp at e; omega)).trans (unhide GA38))
        have GH39 := hide ((hgr.block _ (Array.getElem?_eq_some_iff.1 (unhide GH38)).1 (fun e => by simp at e; omega)).trans (unhide GH38))
        refine hK.out _ _ ⟨unhide GA39, unhide GH39⟩ (fun hS => ?_)
        clear HS hS hK K2 hgr
        clear A38 N38 GA38 GH38 D38 B38
        refine wpAnyH_done (by kernel_rfl) ?_ _
        generalize w38.setRow ga #[.int .i64 fk, .int .i64 fn, .string fs, .slice c fl cp] = w39 at *
        refine hM _ _ (Met.intro (hJ _ _ ?_))
        (repeat apply Exists.intro)
        refine ⟨?_, rfl⟩
        exact ⟨ga, c, cp, bn, cn, rfl, unhide Y39, unhide N39, by omega, unhide D39⟩
    case rest =>
      obtain ⟨g6, f2, fp2, bt, ct, rfl, hpp, hnn, hct, hbb⟩ := hcut
      generalize wc = w32 at *
      have H32 := hide hpp
      have T32 := hide hnn
      clear hpp hnn hct
      have B32 := hide ((unhide B31).trans (hbb.mono (unhide B31).size))
      have GA32 := hide (row_keep (unhide GA31) hbb)
      have GH32 := hide (row_keep (unhide GH31) hbb)
      have P32 := hide (row_keep (unhide P31) hbb)
      have K32 := hide (row_keep (unhide K31) hbb)
      have N32 := hide ((unhide N31).later hbb)
      have M32 := hide ((unhide M31).later hbb)
      clear hbb B31 GA31 GH31 P31 K31 N31 M31
      go_wp2_with (first | (refine wpList_load_row rfl 26 _ rfl g6 rfl 26 #[.int .i64 fk, .int .i64 fn, .string fs, .slice f2 fl fp2] (0, 0) _ (unhide H32) Tryd.underlying26 rfl (by kernel_rfl) ?_) | (refine wpList_load_row rfl 26 _ rfl g0 rfl 26 #[.int .i64 fk, .int .i64 fn, .string fs, .slice c fl cp] (0, 0) _ (unhide P32) Tryd.underlying26 rfl (by kernel_rfl) ?_))
      refine (unhide EE f2 c fp2 cp w32 (unhide T32).rd (unhide N32).rd).mono ?_
      rintro r w33 ⟨rfl, hbb⟩
      have B33 := hide ((unhide B32).trans (hbb.mono (unhide B32).size))
      have GA33 := hide (row_keep (unhide GA32) hbb)
      have GH33 := hide (row_keep (unhide GH32) hbb)
      have P33 := hide (row_keep (unhide P32) hbb)
      have K33 := hide (row_keep (unhide K32) hbb)
      have H33 := hide (row_keep (unhide H32) hbb)
      have N33 := hide ((unhide N32).later hbb)
      have M33 := hide ((unhide M32).later hbb)
      have T33 := hide ((unhide T32).later hbb)
      clear hbb B32 GA32 GH32 P32 K32 H32 N32 M32 T32
      go_wp2_with (refine wpList_load_row rfl 26 _ rfl g5 rfl 26 #[.int .i64 fk, .int .i64 fn, .string fs, .slice f fl fp] (0, 0) _ (unhide K33) Tryd.underlying26 rfl (by kernel_rfl) ?_)
      refine (unhide HF f fp y2 w33 (unhide MK) (unhide M33).rd).mono ?_
      rintro r w34 ⟨rfl, hbb⟩
      have B34 := hide ((unhide B33).trans (hbb.mono (unhide B33).size))
      have GA34 := hide (row_keep (unhide GA33) hbb)
      have GH34 := hide (row_keep (unhide GH33) hbb)
      have P34 := hide (row_keep (unhide P33) hbb)
      have K34 := hide (row_keep (unhide K33) hbb)
      have H34 := hide (row_keep (unhide H33) hbb)
      have N34 := hide ((unhide N33).later hbb)
      have M34 := hide ((unhide M33).later hbb)
      have T34 := hide ((unhide T33).later hbb)
      clear hbb B33 GA33 GH33 P33 K33 H33 N33 M33 T33
      go_wp2
      go_ret
      exact ⟨rfl, unhide B34⟩

set_option maxRecDepth 100000 in
theorem lifted (os : Os) (started : os.Started) (H : Type) (enc : TypeId × Value → H) :
    ReturnsInHanded {} Tryd.checked os 8 .any (fun w args => (Rows.fnExactPutSpec.pre enc Tryd.prog Tryd.f8 [] false w args ∧ laidMetH Tryd.prog Rows.fnExactPutRow.laid w) ∧ sizedMet enc Tryd.prog Tryd.f8 (OpenSpec.ofChange Rows.fnExactPutSpec) false w args)
      (Rows.fnExactPutSpec.post enc Tryd.prog Tryd.f8 false true false false) := by
  refine returnsInHanded_of_change_and (C := Tryd.checked) (X := fun w _ => laidMetH Tryd.prog Rows.fnExactPutRow.laid w) (fun _ _ _ hh h => h.of_heap hh) own started (by kernel_rfl) Tryd.func8
    (ChangeSpec.witness_shaped (enc := enc) (C := Tryd.checked) (os := os) (X := fun w _ => laidMetH Tryd.prog Rows.fnExactPutRow.laid w) false (World.laidAll Tryd.prog os Rows.fnExactPutRow.laid) #[.agg #[.int .i64 0, .int .i64 0, .string ByteArray.empty, .slice none 0 0], .agg #[.int .i64 0, .int .i64 0, .string ByteArray.empty, .slice none 0 0], .slice none 0 0, .slice none 0 0] 8 (World.laidAll_os _ _ _)
      (World.shaped_of_ZipB (by kernel_rfl) (by kernel_rfl)) (by kernel_rfl) (by kernel_rfl) (by kernel_rfl)
      (by rw [MakeChecks.laidMetH_plain _ _ _ (by kernel_rfl)]; exact laidMet_laidAll _ (by kernel_rfl) (by kernel_rfl))) ?_
  intro W base args ds gs before hval0 hW _ _ hL _
  have hval : ∀ (j : Nat) t v, Tryd.f8.params[j]? = some t → args[j]? = some v → Value.okWide Tryd.prog W .any base t v := hval0
  have hW' := hW
  obtain ⟨p, q, hA0, hV, rfl, hfz, hnd⟩ := hW
  have hA : DataW.TrodAll enc Tryd.prog W 0 (fun _ => true) true Tryd.f8.params.toList args.toList ds p := hA0
  rw [Tryd.params8] at hA hval
  obtain ⟨v0, vs0, d0, ds0, p0, q0, hargs, rfl, rfl, h0, r0⟩ := trodAll_cons hA
  obtain ⟨v1, vs1, d1, ds1, p1, q1, rfl, rfl, rfl, h1, r1⟩ := trodAll_cons r0
  obtain ⟨v2, vs2, d2, ds2, p2, q2, rfl, rfl, rfl, h2, r2⟩ := trodAll_cons r1
  obtain ⟨v3, vs3, d3, ds3, p3, q3, rfl, rfl, rfl, h3, r3⟩ := trodAll_cons r2
  obtain ⟨rfl, rfl, rfl⟩ := trodAll_nil r3
  obtain rfl : args = #[v0, v1, v2, v3] := by cases args; simp_all
  have kV := hV
  obtain ⟨gv, tv, cv, fv, dv, pv, gu, tu, cu, fu, du, pu, rfl, _⟩ := trodVars_two hV
  have k0 := h0
  have lt0 : ∀ x ∈ p0, x.block < W.heap.size := by obtain ⟨m, hm⟩ := k0; exact DataW.trod_lt m _ _ _ hm
  obtain ⟨o0, b0, c0, rfl, g0, f0⟩ := open_ex (hval 0 44 v0 rfl rfl) h0
  have k1 := h1
  have lt1 : ∀ x ∈ p1, x.block < W.heap.size := by obtain ⟨m, hm⟩ := k1; exact DataW.trod_lt m _ _ _ hm
  obtain ⟨o1, b1, c1, rfl, g1, f1⟩ := open_ex (hval 1 44 v1 rfl rfl) h1
  have k2 := h2
  have lt2 : ∀ x ∈ p2, x.block < W.heap.size := by obtain ⟨m, hm⟩ := k2; exact DataW.trod_lt m _ _ _ hm
  obtain ⟨a2, len2, cap2, z2, rfl, w2⟩ := open_strs (hval 2 31 v2 rfl rfl) h2
  have k3 := h3
  have lt3 : ∀ x ∈ p3, x.block < W.heap.size := by obtain ⟨m, hm⟩ := k3; exact DataW.trod_lt m _ _ _ hm
  obtain ⟨o3, b3, c3, rfl, g3, f3⟩ := open_exs (hval 3 42 v3 rfl rfl) h3
  clear hA0 hval0
  refine (walk o0 b0 c0 o1 b1 c1 a2 len2 cap2 z2 o3 b3 c3 W g0 f0 g1 f1 w2 g3 f3 (tab_of_laid hL)).mono fun e W' ⟨he, bel⟩ => ?_
  subst he
  exact ⟨_, rfl, _, _, _, [], _, _, hW', trodAll_mk1 (shut_bool Tryd.underlying4 _), (trodAll_cons_mk (Below.trod laidOut (by kernel_rfl) (of_decide_eq_true (by kernel_rfl)) k0 bel lt0) (trodAll_cons_mk (Below.trod laidOut (by kernel_rfl) (of_decide_eq_true (by kernel_rfl)) k1 bel lt1) (trodAll_cons_mk (Below.trod laidOut (by kernel_rfl) (of_decide_eq_true (by kernel_rfl)) k2 bel lt2) (trodAll_cons_mk (Below.trod laidOut (by kernel_rfl) (of_decide_eq_true (by kernel_rfl)) k3 bel lt3) trodAll_mk0)))), bel.trodVars laidOut (by kernel_rfl) kV, bel.frame _, fun h => by cases h⟩

theorem proved : Rows.FnExactPutSaid :=
  OpenClaim.holds_of_wide 8 Tryd.f8 rfl rfl rfl rfl rfl rfl rfl ⟨rfl, rfl, rfl, rfl, rfl⟩ rfl rfl rfl rfl rfl (by kernel_rfl) Tryd.func8 (by kernel_rfl)
    (of_decide_eq_true (by kernel_rfl)) (by unfold Func.isWrapper; first | (rw [if_pos (by decide +kernel)]; kernel_rfl) | (rw [if_neg (by decide +kernel)]; exact ⟨rfl, rfl⟩))
    (fun os started H enc _ => lifted os started H enc)
end Go.Proofs.YtkolflcjkofleaaDoor.fnExactPut

namespace Go.Proofs.YtkolflcjkofleaaDoor
theorem fnExactPut_holds : Rows.FnExactPutCardSaid :=
  Claim7.holds_tied_plain_at .later [] [.data, .data] true (true, "bb0bc1b0fb6fad9ee741dbe94bc6d927b19996896d356a68a721711bb659e7ab") true
    fnExactPut.proved (fun _ h => by cases h) (by kernel_rfl) (fun _ h => by cases h) fnExactPut_row_tie rfl ⟨rfl, rfl⟩ (by kernel_rfl) rfl
    (fun f fn hf hfn => by
      obtain rfl : f = 8 := Option.some.inj ((show Tryd.prog.funcNamed "loop.example/g00329/laws.FnExactPut" = some 8 by kernel_rfl).symm.trans hf) |>.symm
      obtain rfl : fn = Tryd.f8 := (Option.some.inj (Tryd.func8.symm.trans hfn)).symm
      exact ⟨by kernel_rfl, fun j t ht => by
        rw [Tryd.params8] at ht
        have hm : t ∈ [44, 44, 31, 42] := by simpa using Array.mem_of_getElem? ht
        have hall : ([44, 44, 31, 42].all fun u => !Tryd.prog.wantsStandIn u) = true := by kernel_rfl
        exact (show Tryd.prog.wantsStandIn t = false by simpa using List.all_eq_true.1 hall t hm)⟩)
    (by kernel_rfl)
#print axioms fnExactPut_holds
end Go.Proofs.YtkolflcjkofleaaDoor
