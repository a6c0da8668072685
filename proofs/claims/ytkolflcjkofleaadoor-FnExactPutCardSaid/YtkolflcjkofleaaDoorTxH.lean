/- Contracts over this seat's translation, laid together; conditions stand as hypotheses of each. -/
import Derived.Test.YtkolflcjkofleaaDoorTxA
import Derived.Test.YtkolflcjkofleaaDoorTxB
import Derived.Test.YtkolflcjkofleaaDoorTxD
import Derived.Test.YtkolflcjkofleaaDoorTxE
import Derived.Test.YtkolflcjkofleaaDoorTxF
import Derived.Test.YtkolflcjkofleaaDoorTxG
import Derived.Deep.RegionWith
import Derived.LoopN
import Derived.OrdersHeld
import Derived.Deep.RegionHeld

namespace Go.Proofs.YtkolflcjkofleaaDoor
open Go.ChangeShapes Go.WideShapes Go.ChangeAt Go.RowKit
set_option linter.unusedVariables false
set_option maxRecDepth 8000
set_option linter.unusedSimpArgs false

def zX : Ex := ⟨0, 0, ⟨#[]⟩, []⟩
/-- What Put answers. -/
def putA (here : Ex) (L : List ByteArray) (vals : List Ex) (e : Ex) : Ex :=
  if okF 6 false e = true ∧ okF 6 false here = true ∧ L.length = vals.length ∧ (∀ i, i < vals.length → okF 6 false (xAt vals i) = true) ∧ okF 6 false (putX here L vals e) = true then putX here L vals e else zX
theorem putA_no {here : Ex} {L : List ByteArray} {vals : List Ex} {e : Ex} (h : ¬ (okF 6 false e = true ∧ okF 6 false here = true ∧ L.length = vals.length ∧ (∀ i, i < vals.length → okF 6 false (xAt vals i) = true) ∧ okF 6 false (putX here L vals e) = true)) : putA here L vals e = zX := by unfold putA; rw [if_neg h]
/-- How large a right term can be. -/
def zO : Nat → Nat
  | 0 => 0
  | d + 1 => 8 + 2 * zO d
theorem ok_sz : ∀ (d : Nat) (e : Ex), okF d false e = true → e.sz ≤ zO d := by
  intro d
  induction d with
  | zero => intro e h; rw [okF] at h; cases h
  | succ d ih =>
    intro e h
    have hE : (E0 : ByteArray).size = 0 := rfl
    rw [zO]
    rcases ok_sev h with ⟨n, hn, rfl⟩ | ⟨s, hs, rfl⟩ | rfl | ⟨n, hn, rfl⟩ | ⟨s, hs, rfl⟩ | ⟨a, ha, rfl⟩ | ⟨k, a, b, hk, ha, hb, rfl⟩
    · rw [sz_leaf, hE]; omega
    · rw [sz_leaf]; have := name_szF hs; omega
    · rw [sz_leaf, hE]; omega
    · rw [sz_leaf, hE]; omega
    · rw [sz_leaf]; have := name_szF hs; omega
    · rw [show E0 = (⟨#[]⟩ : ByteArray) from rfl, sz_one]; have := ih a ha; omega
    · rw [show E0 = (⟨#[]⟩ : ByteArray) from rfl, sz_two]; have := ih a ha; have := ih b hb; omega
/-- How large it can become. -/
def zU : Nat → Nat
  | 0 => 0
  | d + 1 => 512 + 2 * zU d
theorem put_sz {here : Ex} {L : List ByteArray} {vals : List Ex} (hh : here.sz ≤ 504) (hv : ∀ i, (xAt vals i).sz ≤ 504) : ∀ (d : Nat) (e : Ex), okF d false e = true → (putX here L vals e).sz ≤ zU d := by
  intro d
  induction d with
  | zero => intro e h; rw [okF] at h; cases h
  | succ d ih =>
    intro e h
    have hE : (E0 : ByteArray).size = 0 := rfl
    have hsz := ok_sz (d + 1) e h
    rw [zU]
    rcases ok_sev h with ⟨n, hn, rfl⟩ | ⟨s, hs, rfl⟩ | rfl | ⟨n, hn, rfl⟩ | ⟨s, hs, rfl⟩ | ⟨a, ha, rfl⟩ | ⟨k, a, b, hk, ha, hb, rfl⟩
    · rw [putX_eq]; unfold putC; rw [if_neg (by decide), if_neg (fun h => absurd h.1 (by decide)), List.map_nil, sz_leaf, hE]; omega
    · rw [putX_eq]; unfold putC; rw [if_neg (by decide)]
      split
      · have := hv (atV L s).toNat; omega
      · rw [List.map_nil, sz_leaf]; have := name_szF hs; omega
    · rw [putX_eq]; unfold putC; rw [if_pos rfl]; omega
    · rw [putX_eq]; unfold putC; rw [if_neg (by decide), if_neg (fun h => absurd h.1 (by decide)), List.map_nil, sz_leaf, hE]; omega
    · rw [putX_eq]; unfold putC; rw [if_neg (by decide), if_neg (fun h => absurd h.1 (by decide)), List.map_nil, sz_leaf]; have := name_szF hs; omega
    · rw [putX_eq]; unfold putC; rw [if_neg (by decide), if_neg (fun h => absurd h.1 (by decide))]
      rw [show ([a].map (putX here L vals)) = [putX here L vals a] from rfl, show E0 = (⟨#[]⟩ : ByteArray) from rfl, sz_one]; have := ih a ha; omega
    · rw [putX_eq]; unfold putC; rw [if_neg (by omega), if_neg (fun h => by omega)]
      rw [show ([a, b].map (putX here L vals)) = [putX here L vals a, putX here L vals b] from rfl, show E0 = (⟨#[]⟩ : ByteArray) from rfl, sz_two]; have := ih a ha; have := ih b hb; omega
set_option maxHeartbeats 4000000 in
theorem put_c1 (here : Ex) (L : List ByteArray) (vals : List Ex) (e : Ex) (b hb va : Option Addr) (cap hcp gn vcp : Nat) (w : World) (hr : RdX w 0 e b) (hv : Pv w here hb gn L va vals) (hze : e.sz ≤ 1048576) (hzh : here.sz ≤ 1048576) (hLn : L.length ≤ 1100000) (hVn : vals.length ≤ 1048576) (hzv : ∀ i, i < vals.length → (xAt vals i).sz ≤ 1048576) (ho : okF 6 false e = false) : Calls Tryd.prog 25 #[.agg (e.cs b cap), .agg (here.cs hb hcp), .slice (some ⟨gn, 0, none⟩) L.length L.length, .slice va vals.length vcp] w (GiR (putA here L vals e) (Up w) w) := by
  rw [putA_no (fun h => by rw [ho] at h; exact absurd h.1 (by decide))]
  have X0 := hide (By.new w #[.int .i64 e.k, .int .i64 e.n, .string e.s, .slice b e.l.length cap] #[.int .i64 here.k, .int .i64 here.n, .string here.s, .slice hb here.l.length hcp])
  have OE := hide (okS_any e b cap _ (hr.later (unhide X0).bel) hze)
  rw [ho] at OE
  have OH := hide (fun wr (h : Below w.heap.size w wr) => okS_any here hb hcp wr (hv.h.later h) hzh)

  generalize hX : GiR _ (Up w) w = X
  have HX := hide hX
  unfold Ex.cs at OE OH ⊢
  clear hX hr hv ho
  go_enter Tryd.func25, Tryd.ntmps25
  go_wp2_with fail
  generalize ((w.alloc (.cells #[.int .i64 e.k, .int .i64 e.n, .string e.s, .slice b e.l.length cap] 26)).alloc (.cells #[.int .i64 here.k, .int .i64 here.n, .string here.s, .slice hb here.l.length hcp] 26)).alloc (.cells #[.int .i64 0, .int .i64 0, .string ⟨#[]⟩, .slice none 0 0] 26) = W at *
  refine (unhide OE).mono ?_
  rintro r w1 ⟨rfl, hb1⟩
  have X1 := hide ((unhide X0).later hb1)
  clear hb1 X0 OE
  go_wp2_with (refine wpList_store_row rfl 26 _ _ rfl (w.heap.size + 2) #[.int .i64 0, .int .i64 0, .string ⟨#[]⟩, .slice none 0 0] rfl rfl 26 _ ((unhide X1).res) szE rfl (ex_one _ _ _ _ _ _) ?_)
  refine bodyPost_ret (results_cell_row (P := Tryd.prog) rfl _ _ (w.heap.size + 2) 26 #[.int .i64 0, .int .i64 0, .string ⟨#[]⟩, .slice none 0 0] (0, 0) _ rfl (setRow_heap _ _ _ _ _ _ ((unhide X1).res)) Tryd.underlying26 rfl szE) rfl ?_
  rw [← unhide HX]
  exact By.end (x := zX) (unhide X1) (PX.leaf _ _ _ _ _ _) _
set_option maxHeartbeats 4000000 in
theorem put_c2 (here : Ex) (L : List ByteArray) (vals : List Ex) (e : Ex) (b hb va : Option Addr) (cap hcp gn vcp : Nat) (w : World) (hr : RdX w 0 e b) (hv : Pv w here hb gn L va vals) (hze : e.sz ≤ 1048576) (hzh : here.sz ≤ 1048576) (hLn : L.length ≤ 1100000) (hVn : vals.length ≤ 1048576) (hzv : ∀ i, i < vals.length → (xAt vals i).sz ≤ 1048576) (ho : okF 6 false e = true) (hh : okF 6 false here = false) : Calls Tryd.prog 25 #[.agg (e.cs b cap), .agg (here.cs hb hcp), .slice (some ⟨gn, 0, none⟩) L.length L.length, .slice va vals.length vcp] w (GiR (putA here L vals e) (Up w) w) := by
  rw [putA_no (fun h => by rw [hh] at h; exact absurd h.2.1 (by decide))]
  have X0 := hide (By.new w #[.int .i64 e.k, .int .i64 e.n, .string e.s, .slice b e.l.length cap] #[.int .i64 here.k, .int .i64 here.n, .string here.s, .slice hb here.l.length hcp])
  have OE := hide (okS_any e b cap _ (hr.later (unhide X0).bel) hze)
  rw [ho] at OE
  have OH := hide (fun wr (h : Below w.heap.size w wr) => okS_any here hb hcp wr (hv.h.later h) hzh)
  rw [hh] at OH
  generalize hX : GiR _ (Up w) w = X
  have HX := hide hX
  unfold Ex.cs at OE OH ⊢
  clear hX hr hv ho hh
  go_enter Tryd.func25, Tryd.ntmps25
  go_wp2_with fail
  generalize ((w.alloc (.cells #[.int .i64 e.k, .int .i64 e.n, .string e.s, .slice b e.l.length cap] 26)).alloc (.cells #[.int .i64 here.k, .int .i64 here.n, .string here.s, .slice hb here.l.length hcp] 26)).alloc (.cells #[.int .i64 0, .int .i64 0, .string ⟨#[]⟩, .slice none 0 0] 26) = W at *
  refine (unhide OE).mono ?_
  rintro r w1 ⟨rfl, hb1⟩
  have X1 := hide ((unhide X0).later hb1)
  clear hb1 X0 OE
  have h0c := Lib.cell_of_heap (unhide X1).boxb 0
  have h1c := Lib.cell_of_heap (unhide X1).boxb 1
  have h2c := Lib.cell_of_heap (unhide X1).boxb 2
  have h3c := Lib.cell_of_heap (unhide X1).boxb 3
  have OH1 := hide (unhide OH w1 (unhide X1).bel)
  clear OH
  go_wp2_with fail
  clear h0c h1c h2c h3c
  refine (unhide OH1).mono ?_
  rintro r w2 ⟨rfl, hb2⟩
  have X2 := hide ((unhide X1).later hb2)
  clear hb2 X1 OH1
  go_wp2_with (refine wpList_store_row rfl 26 _ _ rfl (w.heap.size + 2) #[.int .i64 0, .int .i64 0, .string ⟨#[]⟩, .slice none 0 0] rfl rfl 26 _ ((unhide X2).res) szE rfl (ex_one _ _ _ _ _ _) ?_)
  refine bodyPost_ret (results_cell_row (P := Tryd.prog) rfl _ _ (w.heap.size + 2) 26 #[.int .i64 0, .int .i64 0, .string ⟨#[]⟩, .slice none 0 0] (0, 0) _ rfl (setRow_heap _ _ _ _ _ _ ((unhide X2).res)) Tryd.underlying26 rfl szE) rfl ?_
  rw [← unhide HX]
  exact By.end (x := zX) (unhide X2) (PX.leaf _ _ _ _ _ _) _
set_option maxHeartbeats 4000000 in
theorem put_c3 (here : Ex) (L : List ByteArray) (vals : List Ex) (e : Ex) (b hb va : Option Addr) (cap hcp gn vcp : Nat) (w : World) (hr : RdX w 0 e b) (hv : Pv w here hb gn L va vals) (hze : e.sz ≤ 1048576) (hzh : here.sz ≤ 1048576) (hLn : L.length ≤ 1100000) (hVn : vals.length ≤ 1048576) (hzv : ∀ i, i < vals.length → (xAt vals i).sz ≤ 1048576) (ho : okF 6 false e = true) (hh : okF 6 false here = true) (hl : ((L.length : Int) == (vals.length : Int)) = false) : Calls Tryd.prog 25 #[.agg (e.cs b cap), .agg (here.cs hb hcp), .slice (some ⟨gn, 0, none⟩) L.length L.length, .slice va vals.length vcp] w (GiR (putA here L vals e) (Up w) w) := by
  rw [putA_no (fun h => beq_eq_false_iff_ne.1 hl (by rw [h.2.2.1]))]
  have X0 := hide (By.new w #[.int .i64 e.k, .int .i64 e.n, .string e.s, .slice b e.l.length cap] #[.int .i64 here.k, .int .i64 here.n, .string here.s, .slice hb here.l.length hcp])
  have OE := hide (okS_any e b cap _ (hr.later (unhide X0).bel) hze)
  rw [ho] at OE
  have OH := hide (fun wr (h : Below w.heap.size w wr) => okS_any here hb hcp wr (hv.h.later h) hzh)
  rw [hh] at OH
  generalize hX : GiR _ (Up w) w = X
  have HX := hide hX
  unfold Ex.cs at OE OH ⊢
  clear hX hr hv ho hh
  generalize L.length = ln at *
  generalize vals.length = vn at *
  go_enter Tryd.func25, Tryd.ntmps25
  go_wp2_with fail
  generalize ((w.alloc (.cells #[.int .i64 e.k, .int .i64 e.n, .string e.s, .slice b e.l.length cap] 26)).alloc (.cells #[.int .i64 here.k, .int .i64 here.n, .string here.s, .slice hb here.l.length hcp] 26)).alloc (.cells #[.int .i64 0, .int .i64 0, .string ⟨#[]⟩, .slice none 0 0] 26) = W at *
  refine (unhide OE).mono ?_
  rintro r w1 ⟨rfl, hb1⟩
  have X1 := hide ((unhide X0).later hb1)
  clear hb1 X0 OE
  have h0c := Lib.cell_of_heap (unhide X1).boxb 0
  have h1c := Lib.cell_of_heap (unhide X1).boxb 1
  have h2c := Lib.cell_of_heap (unhide X1).boxb 2
  have h3c := Lib.cell_of_heap (unhide X1).boxb 3
  have OH1 := hide (unhide OH w1 (unhide X1).bel)
  clear OH
  go_wp2_with fail
  clear h0c h1c h2c h3c
  refine (unhide OH1).mono ?_
  rintro r w2 ⟨rfl, hb2⟩
  have X2 := hide ((unhide X1).later hb2)
  clear hb2 X1 OH1
  go_wp2_with (refine wpList_store_row rfl 26 _ _ rfl (w.heap.size + 2) #[.int .i64 0, .int .i64 0, .string ⟨#[]⟩, .slice none 0 0] rfl rfl 26 _ ((unhide X2).res) szE rfl (ex_one _ _ _ _ _ _) ?_)
  refine bodyPost_ret (results_cell_row (P := Tryd.prog) rfl _ _ (w.heap.size + 2) 26 #[.int .i64 0, .int .i64 0, .string ⟨#[]⟩, .slice none 0 0] (0, 0) _ rfl (setRow_heap _ _ _ _ _ _ ((unhide X2).res)) Tryd.underlying26 rfl szE) rfl ?_
  rw [← unhide HX]
  exact By.end (x := zX) (unhide X2) (PX.leaf _ _ _ _ _ _) _
set_option maxHeartbeats 8000000 in
theorem put_c4 (here : Ex) (L : List ByteArray) (vals : List Ex) (e : Ex) (b hb va : Option Addr) (cap hcp gn vcp : Nat) (w : World) (hr : RdX w 0 e b) (hv : Pv w here hb gn L va vals) (hze : e.sz ≤ 1048576) (hzh : here.sz ≤ 1048576) (hLn : L.length ≤ 1100000) (hVn : vals.length ≤ 1048576) (hzv : ∀ i, i < vals.length → (xAt vals i).sz ≤ 1048576) (ho : okF 6 false e = true) (hh : okF 6 false here = true) (hl : L.length = vals.length) : Calls Tryd.prog 25 #[.agg (e.cs b cap), .agg (here.cs hb hcp), .slice (some ⟨gn, 0, none⟩) L.length L.length, .slice va vals.length vcp] w (GiR (putA here L vals e) (Up w) w) := by
  have BADV := hide (fun i (hi : i < vals.length) (h : okF 6 false (xAt vals i) = false) => putA_no (here := here) (L := L) (vals := vals) (e := e) (fun k => by have := k.2.2.2.1 i hi; rw [h] at this; cases this))
  have ALL := hide (fun (hv : ∀ i, i < vals.length → okF 6 false (xAt vals i) = true) => (show putA here L vals e = if okF 6 false (putX here L vals e) = true then putX here L vals e else zX by
    unfold putA
    by_cases hx : okF 6 false (putX here L vals e) = true
    · rw [if_pos ⟨ho, hh, hl, hv, hx⟩, if_pos hx]
    · rw [if_neg (fun k => hx k.2.2.2.2), if_neg hx]))
  have SZX := hide (fun (hv : ∀ i, i < vals.length → okF 6 false (xAt vals i) = true) => (show (putX here L vals e).sz ≤ 1048576 from Nat.le_trans (put_sz (ok_sz 6 here hh) (fun i => by
    by_cases hi : i < vals.length
    · exact ok_sz 6 _ (hv i hi)
    · have : xAt vals i = X0 := by unfold xAt; rw [List.getD_eq_getElem?_getD, List.getElem?_eq_none (by omega)]; rfl
      rw [this]; show (Ex.mk 0 0 ⟨#[]⟩ []).sz ≤ 504; rw [sz_leaf]; show (0 : Nat) ≤ 504; omega) 6 e ho) (by decide)))
  have PU := hide (fun wr (h : Below w.heap.size w wr) => putS_any here L vals ⟨hzh, hLn, hzv, hl⟩ e (Nat.le_trans (ok_sz 6 e ho) (by decide)) b hb va cap hcp gn vcp wr (hr.later h) (hv.later h))
  have VV := hide (fun wr (h : Below w.heap.size w wr) => (hv.later h).v)
  have hv0 := (RdX_eq _ _ _ _).1 hv.v
  have OV := hide (fun i (hi : i < vals.length) (c : Option Addr) (ca : Nat) wr (hr : RdX wr 0 (xAt vals i) c) => okS_any (xAt vals i) c ca wr hr (hzv i hi))
  have OX := hide (fun (hv : (putX here L vals e).sz ≤ 1048576) (c : Option Addr) (ca : Nat) wr (hr : RdX wr 0 (putX here L vals e) c) => okS_any (putX here L vals e) c ca wr hr hv)
  unfold GiR at PU
  have hll : ((L.length : Int) == (vals.length : Int)) = true := by rw [hl]; exact beq_iff_eq.2 rfl
  have X0 := hide (By.new w #[.int .i64 e.k, .int .i64 e.n, .string e.s, .slice b e.l.length cap] #[.int .i64 here.k, .int .i64 here.n, .string here.s, .slice hb here.l.length hcp])
  have OE := hide (okS_any e b cap _ (hr.later (unhide X0).bel) hze)
  rw [ho] at OE
  have OH := hide (fun wr (h : Below w.heap.size w wr) => okS_any here hb hcp wr (hv.h.later h) hzh)
  rw [hh] at OH
  generalize hX : GiR _ (Up w) w = X
  have HX := hide hX
  unfold Ex.cs at OE OH ⊢
  unfold Ex.cs at PU OV OX
  generalize putA here L vals e = pa at *
  generalize putX here L vals e = x at *
  clear hX hr hv ho hh hzv
  obtain ⟨vn, hvn⟩ : ∃ vn, vals.length = vn := ⟨_, rfl⟩
  rw [hl] at hll PU ⊢
  rw [hvn] at hll PU BADV ALL SZX OV hVn ⊢
  clear hl hLn hll
  go_enter Tryd.func25, Tryd.ntmps25
  go_wp2_with fail
  generalize ((w.alloc (.cells #[.int .i64 e.k, .int .i64 e.n, .string e.s, .slice b e.l.length cap] 26)).alloc (.cells #[.int .i64 here.k, .int .i64 here.n, .string here.s, .slice hb here.l.length hcp] 26)).alloc (.cells #[.int .i64 0, .int .i64 0, .string ⟨#[]⟩, .slice none 0 0] 26) = W at *
  refine (unhide OE).mono ?_
  rintro r w1 ⟨rfl, hb1⟩
  have X1 := hide ((unhide X0).later hb1)
  clear hb1 X0 OE
  have h0c := Lib.cell_of_heap (unhide X1).boxb 0
  have h1c := Lib.cell_of_heap (unhide X1).boxb 1
  have h2c := Lib.cell_of_heap (unhide X1).boxb 2
  have h3c := Lib.cell_of_heap (unhide X1).boxb 3
  have OH1 := hide (unhide OH w1 (unhide X1).bel)
  clear OH
  go_wp2_with fail
  clear h0c h1c h2c h3c
  refine (unhide OH1).mono ?_
  rintro r w2 ⟨rfl, hb2⟩
  have X2 := hide ((unhide X1).later hb2)
  clear hb2 X1 OH1
  go_wp2
  go_loopw [9] (fun i wr => ∃ j : Nat, j ≤ vn ∧ i = .int .i64 j ∧ By w wr #[.int .i64 e.k, .int .i64 e.n, .string e.s, .slice b e.l.length cap] #[.int .i64 here.k, .int .i64 here.n, .string here.s, .slice hb here.l.length hcp] ∧ ∀ q, q < j → okF 6 false (xAt vals q) = true) (fun i _ => vn - (intOf i).toNat)
  case atStart => exact ⟨0, Nat.zero_le _, rfl, unhide X2, fun q hq => by omega⟩
  case round =>
    clear X2
    obtain ⟨j, hj, rfl, hby, hall⟩ := hrel
    by_cases hlt : j < vn
    · rcases hv0 with h0 | ⟨p, off, rfl, _, hp, hc⟩
      · rw [show vals = [] from h0] at hvn; simp at hvn; omega
      obtain ⟨c0, c1, c2, c, ca, c3, c4⟩ := hc j (show j < vals.length by omega)
      have xe : xAt (Ex.mk 0 0 E0 vals).l j = xAt vals j := rfl
      rw [xe] at c0 c1 c2 c3 c4
      have d0 := (hby.bel.cell (p := ⟨p, off + j * 4, none⟩) hp).trans c0
      have d1 := (hby.bel.cell (p := ⟨p, off + j * 4 + 1, none⟩) hp).trans c1
      have d2 := (hby.bel.cell (p := ⟨p, off + j * 4 + 2, none⟩) hp).trans c2
      have d3 := (hby.bel.cell (p := ⟨p, off + j * 4 + 3, none⟩) hp).trans c3
      have OJ := hide (unhide OV j hlt c ca wr (c4.later hby.bel))
      have XJ := hide hby
      have AL := hide hall
      have BJ := hide (unhide BADV j hlt)
      have NJ := hide (show okF 6 false (xAt vals j) = true → ∀ q, q < j + 1 → okF 6 false (xAt vals q) = true from fun h q hq => by
        by_cases e : q = j
        · subst e; exact h
        · exact hall q (by omega))
      clear c0 c1 c2 c3 c4 hc xe hby hall BADV OV ALL SZX PU VV OX
      generalize (xAt vals j).k = vk at *
      generalize (xAt vals j).n = vnn at *
      generalize (xAt vals j).s = vss at *
      generalize (xAt vals j).l.length = vl at *
      generalize okF 6 false (xAt vals j) = ok at *
      go_wp2_with fail
      clear d0 d1 d2 d3
      refine (unhide OJ).mono ?_
      rintro r w3 ⟨rfl, hb3⟩
      have X3 := hide ((unhide XJ).later hb3)
      clear hb3 XJ OJ
      cases ok
      · have BZ := hide (unhide BJ rfl)
        rw [unhide BZ] at HX
        clear BJ NJ AL BZ
        go_wp2_with (refine wpList_store_row rfl 26 _ _ rfl (w.heap.size + 2) #[.int .i64 0, .int .i64 0, .string ⟨#[]⟩, .slice none 0 0] rfl rfl 26 _ ((unhide X3).res) szE rfl (ex_one _ _ _ _ _ _) ?_)
        refine bodyPost_ret (results_cell_row (P := Tryd.prog) rfl _ _ (w.heap.size + 2) 26 #[.int .i64 0, .int .i64 0, .string ⟨#[]⟩, .slice none 0 0] (0, 0) _ rfl (setRow_heap _ _ _ _ _ _ ((unhide X3).res)) Tryd.underlying26 rfl szE) rfl ?_
        rw [← unhide HX]
        exact By.end (x := zX) (unhide X3) (PX.leaf _ _ _ _ _ _) _
      · have NN := hide (unhide NJ rfl)
        clear BJ NJ AL
        go_wp2
        go_roundw
        case rel => exact ⟨j + 1, by omega, by go_num, unhide X3, unhide NN⟩
        case measure => simp [intOf]; omega
    · obtain rfl : j = vn := by omega
      have XJ := hide hby
      have AE := hide (unhide ALL hall)
      have OX1 := hide (unhide OX (unhide SZX hall))
      have PU1 := hide (unhide PU wr hby.bel)
      clear hby hall BADV OV ALL SZX PU VV OX hv0
      go_wp2_with (first | (refine wpList_load_row rfl 26 _ rfl w.heap.size rfl 26 #[.int .i64 e.k, .int .i64 e.n, .string e.s, .slice b e.l.length cap] (0, 0) _ ((unhide XJ).boxa) Tryd.underlying26 rfl (by kernel_rfl) ?_) | (refine wpList_load_row rfl 26 _ rfl (w.heap.size + 1) rfl 26 #[.int .i64 here.k, .int .i64 here.n, .string here.s, .slice hb here.l.length hcp] (0, 0) _ ((unhide XJ).boxb) Tryd.underlying26 rfl (by kernel_rfl) ?_))
      refine (unhide PU1).mono ?_
      rintro r w4 ⟨c4, cp4, rfl, hx4, hb4⟩
      have hzr := (unhide XJ).lt
      have hb5 := below_new w4 (.cells #[.int .i64 x.k, .int .i64 x.n, .string x.s, .slice c4 x.l.length cp4] 26)
      have X5 := hide (((unhide XJ).later hb4).later hb5)
      have A4 := (show PX w4 (Oy w (Up w)) x c4 from hx4.mono (fun b h => up_oy (w := w) (b := b) (Nat.le_trans hzr h)))
      have A5 := hide (A4.later hb5)
      have G5 := hide (show (w4.alloc (.cells #[.int .i64 x.k, .int .i64 x.n, .string x.s, .slice c4 x.l.length cp4] 26)).heap[w4.heap.size]? = some (.cells #[.int .i64 x.k, .int .i64 x.n, .string x.s, .slice c4 x.l.length cp4] 26 (0, 0)) from Array.getElem?_push_size)
      have O5 := hide (unhide OX1 c4 cp4 _ (unhide A5).rd)
      clear hx4 hb4 hb5 A4 XJ PU1 OX1
      go_wp2_with (refine wpList_load_row rfl 26 _ rfl w4.heap.size rfl 26 #[.int .i64 x.k, .int .i64 x.n, .string x.s, .slice c4 x.l.length cp4] (0, 0) _ (unhide G5) Tryd.underlying26 rfl (by kernel_rfl) ?_)
      generalize w4.alloc (.cells #[.int .i64 x.k, .int .i64 x.n, .string x.s, .slice c4 x.l.length cp4] 26) = w5 at *
      generalize w4.heap.size = g4 at *
      cases hq : okF 6 false x with
      | false =>
        rw [hq] at O5 AE
        have AZ := hide (show pa = zX from unhide AE)
        rw [unhide AZ] at HX
        refine (unhide O5).mono ?_
        rintro r w6 ⟨rfl, hb6⟩
        have X6 := hide ((unhide X5).later hb6)
        clear hb6 X5 A5 G5 O5 AE AZ
        go_wp2_with (refine wpList_store_row rfl 26 _ _ rfl (w.heap.size + 2) #[.int .i64 0, .int .i64 0, .string ⟨#[]⟩, .slice none 0 0] rfl rfl 26 _ ((unhide X6).res) szE rfl (ex_one _ _ _ _ _ _) ?_)
        refine bodyPost_ret (results_cell_row (P := Tryd.prog) rfl _ _ (w.heap.size + 2) 26 #[.int .i64 0, .int .i64 0, .string ⟨#[]⟩, .slice none 0 0] (0, 0) _ rfl (setRow_heap _ _ _ _ _ _ ((unhide X6).res)) Tryd.underlying26 rfl szE) rfl ?_
        rw [← unhide HX]
        exact By.end (x := zX) (unhide X6) (PX.leaf _ _ _ _ _ _) _
      | true =>
        rw [hq] at O5 AE
        have AZ := hide (show pa = x from unhide AE)
        rw [unhide AZ] at HX
        refine (unhide O5).mono ?_
        rintro r w6 ⟨rfl, hb6⟩
        have X6 := hide ((unhide X5).later hb6)
        have A6 := hide ((unhide A5).later hb6)
        have G6 := hide (row_keep (unhide G5) hb6)
        clear hb6 X5 A5 G5 O5 AE AZ
        go_wp2_with (first | (refine wpList_load_row rfl 26 _ rfl g4 rfl 26 #[.int .i64 x.k, .int .i64 x.n, .string x.s, .slice c4 x.l.length cp4] (0, 0) _ (unhide G6) Tryd.underlying26 rfl (by kernel_rfl) ?_) | (refine wpList_store_row rfl 26 _ _ rfl (w.heap.size + 2) #[.int .i64 x.k, .int .i64 x.n, .string x.s, .slice c4 x.l.length cp4] rfl rfl 26 _ ((unhide X6).res) szE rfl (ex_one _ _ _ _ _ _) ?_))
        refine bodyPost_ret (results_cell_row (P := Tryd.prog) rfl _ _ (w.heap.size + 2) 26 #[.int .i64 x.k, .int .i64 x.n, .string x.s, .slice c4 x.l.length cp4] (0, 0) _ rfl (setRow_heap _ _ _ _ _ _ ((unhide X6).res)) Tryd.underlying26 rfl szE) rfl ?_
        rw [← unhide HX]
        exact (unhide X6).end (unhide A6) _
theorem putA_any (here : Ex) (L : List ByteArray) (vals : List Ex) (e : Ex) (b hb va : Option Addr) (cap hcp gn vcp : Nat) (w : World) (hr : RdX w 0 e b) (hv : Pv w here hb gn L va vals) (hze : e.sz ≤ 1048576) (hzh : here.sz ≤ 1048576) (hLn : L.length ≤ 1100000) (hVn : vals.length ≤ 1048576) (hzv : ∀ i, i < vals.length → (xAt vals i).sz ≤ 1048576) : Calls Tryd.prog 25 #[.agg (e.cs b cap), .agg (here.cs hb hcp), .slice (some ⟨gn, 0, none⟩) L.length L.length, .slice va vals.length vcp] w (GiR (putA here L vals e) (Up w) w) := by
  cases ho : okF 6 false e with
  | false => exact put_c1 here L vals e b hb va cap hcp gn vcp w hr hv hze hzh hLn hVn hzv ho
  | true =>
    cases hh : okF 6 false here with
    | false => exact put_c2 here L vals e b hb va cap hcp gn vcp w hr hv hze hzh hLn hVn hzv ho hh
    | true =>
      cases hl : ((L.length : Int) == (vals.length : Int)) with
      | false => exact put_c3 here L vals e b hb va cap hcp gn vcp w hr hv hze hzh hLn hVn hzv ho hh hl
      | true => exact put_c4 here L vals e b hb va cap hcp gn vcp w hr hv hze hzh hLn hVn hzv ho hh (by have := beq_iff_eq.1 hl; omega)
end Go.Proofs.YtkolflcjkofleaaDoor

namespace Go.Proofs.YtkolflcjkofleaaDoor
open Go.ChangeShapes Go.WideShapes Go.ChangeAt Go.RowKit
set_option linter.unusedVariables false
set_option maxRecDepth 8000
set_option linter.unusedSimpArgs false

theorem pair_one (k : Int) (u v : Value) (w : World) (hk : inB k 5 10 = true) : Calls Tryd.prog 68 #[.int .i64 k, .agg #[u, v]] w fun r w' => r = .returned (.tuple #[.iface (pairT k) (.agg #[u, v]), .bool true]) ∧ Below w.heap.size w w' := by
  refine (pair_any k u v w).mono ?_
  rintro r w' ⟨x, hr, hx, hb⟩
  rw [hr, hx hk, hk]
  exact ⟨rfl, hb⟩
/-- What is put, and where, as it lies: names in a map, values in a row. -/
structure Fi (w : World) (m : Nat) (ps : List (ByteArray × Nat)) (gv off : Nat) (vals : List Ex) : Prop where
  m : IsMs w m ps
  l : gv < w.heap.size
  v : ∀ i, i < vals.length → w.cell? ⟨gv, off + i, none⟩ = some (tv (xAt vals i))
theorem Fi.later {w w' : World} {m gv off : Nat} {ps : List (ByteArray × Nat)} {vals : List Ex} (h : Fi w m ps gv off vals) (hb : Below w.heap.size w w') : Fi w' m ps gv off vals :=
  ⟨h.m.later hb, Nat.lt_of_lt_of_le h.l hb.size, fun i hi => (hb.cell (p := ⟨gv, off + i, none⟩) h.l).trans (h.v i hi)⟩
theorem put_at {L : List ByteArray} {s : ByteArray} {i : Nat} (h : plS L s = some i) : atV L s = i := by rw [plS_at, h]; rfl
theorem put_none {L : List ByteArray} {s : ByteArray} (h : plS L s = none) : atV L s = -1 := by rw [plS_at, h]; rfl
theorem putX_leaf (here : Ex) (L : List ByteArray) (vals : List Ex) (k n : Int) (s : ByteArray) (h3 : k ≠ 3) (h2 : k ≠ 2) : putX here L vals ⟨k, n, s, []⟩ = ⟨k, n, s, []⟩ := by rw [putX_eq]; unfold putC; rw [if_neg h3, if_neg (fun h => h2 h.1)]; rfl
theorem putX_here (here : Ex) (L : List ByteArray) (vals : List Ex) (n : Int) (s : ByteArray) : putX here L vals ⟨3, n, s, []⟩ = here := by rw [putX_eq]; unfold putC; rw [if_pos rfl]
theorem putX_symy (here : Ex) (L : List ByteArray) (vals : List Ex) (n : Int) (s : ByteArray) (i : Nat) (h : plS L s = some i) : putX here L vals ⟨2, n, s, []⟩ = xAt vals i := by rw [putX_eq]; unfold putC; rw [if_neg (by decide), put_at h, if_pos ⟨rfl, by omega⟩]; rfl
theorem putX_symn (here : Ex) (L : List ByteArray) (vals : List Ex) (n : Int) (s : ByteArray) (h : plS L s = none) : putX here L vals ⟨2, n, s, []⟩ = ⟨2, n, s, []⟩ := by rw [putX_eq]; unfold putC; rw [if_neg (by decide), put_none h, if_neg (fun h => by have := h.2; omega)]; rfl
theorem putX_neg (here : Ex) (L : List ByteArray) (vals : List Ex) (n : Int) (s : ByteArray) (a : Ex) : putX here L vals ⟨4, n, s, [a]⟩ = ⟨4, n, s, [putX here L vals a]⟩ := by rw [putX_eq]; unfold putC; rw [if_neg (by decide), if_neg (fun h => absurd h.1 (by decide))]; rfl
theorem putX_two (here : Ex) (L : List ByteArray) (vals : List Ex) {k : Int} (hk : 5 ≤ k ∧ k ≤ 10) (n : Int) (s : ByteArray) (a b : Ex) : putX here L vals ⟨k, n, s, [a, b]⟩ = ⟨k, n, s, [putX here L vals a, putX here L vals b]⟩ := by rw [putX_eq]; unfold putC; rw [if_neg (by omega), if_neg (fun h => by omega)]; rfl
theorem pl_ltN {L : List ByteArray} {s : ByteArray} {i : Nat} (h : plS L s = some i) : i < L.length := by
  unfold plS at h
  rw [List.findIdx?_eq_some_iff_getElem] at h
  exact h.1
/-- What into answers of a term. -/
def InJ (here : Ex) (L : List ByteArray) (vals : List Ex) (e : Ex) : Prop := ∀ (th : TypeId) (xh : Value) (m gv off cv : Nat) (ps : List (ByteArray × Nat)) (w : World), tv here = .iface th xh → Fi w m ps gv off vals → (∀ s, lkS ps s = plS L s) → Calls Tryd.prog 59 #[.agg #[.iface th xh, .map (some m), .slice (some ⟨gv, off, none⟩) vals.length cv], tv e] w (VaR (tv (putX here L vals e)) w)
set_option maxHeartbeats 4000000 in
theorem ij_num (here : Ex) (L : List ByteArray) (vals : List Ex) (hL : L.length = vals.length) (hn : vals.length ≤ 1099511627776) (k : Int) : InJ here L vals (⟨1, k, E0, []⟩) := by
  intro th xh m gv off cv ps w hth hev hps
  rw [putX_leaf _ _ _ _ _ _ (by decide) (by decide), tv_num]
  have FN := hide (fun r w' (h : r = .returned (.iface 88 (.agg #[.int .i64 k]))) (hb : Below w.heap.size w w') => (show VaR (.iface 88 (.agg #[.int .i64 k])) w r w' from ⟨h, hb⟩))
  generalize VaR (.iface 88 (.agg #[.int .i64 k])) w = R at *
  have B0 := hide (below_new w (.cells #[.iface th xh, .map (some m), .slice (some ⟨gv, off, none⟩) vals.length cv] 95))
  have G0 := hide (show (w.alloc (.cells #[.iface th xh, .map (some m), .slice (some ⟨gv, off, none⟩) vals.length cv] 95)).heap[w.heap.size]? = some (.cells #[.iface th xh, .map (some m), .slice (some ⟨gv, off, none⟩) vals.length cv] 95 (0, 0)) from Array.getElem?_push_size)
  have V0 := hide (hev.later (unhide B0))
  have t0 := taN_here 88 (.agg #[.int .i64 k]) (by decide)
  have t1 := taN_sym 88 (.agg #[.int .i64 k]) (by decide)
  have t2 := taN_neg 88 (.agg #[.int .i64 k]) (by decide)
  have m0 := me_num (.int .i64 k)
  have P0 := hide (parts0 (w.alloc (.cells #[.iface th xh, .map (some m), .slice (some ⟨gv, off, none⟩) vals.length cv] 95)))
  clear hev hps hth
  go_enter Tryd.func59, Tryd.ntmps59
  go_wp2_with (go_at_call 121; refine (unhide P0).mono ?_; rintro r w1 ⟨rfl, hb1⟩; have B1 := hide ((unhide B0).trans (hb1.mono (unhide B0).size)); clear hb1)
  (first | go_ret2 | go_ret | skip)
  exact unhide FN _ _ rfl (unhide B1)
set_option maxHeartbeats 4000000 in
theorem ij_sect (here : Ex) (L : List ByteArray) (vals : List Ex) (hL : L.length = vals.length) (hn : vals.length ≤ 1099511627776) (k : Int) : InJ here L vals (⟨11, k, E0, []⟩) := by
  intro th xh m gv off cv ps w hth hev hps
  rw [putX_leaf _ _ _ _ _ _ (by decide) (by decide), tv_sect]
  have FN := hide (fun r w' (h : r = .returned (.iface 115 (.agg #[.int .i64 k]))) (hb : Below w.heap.size w w') => (show VaR (.iface 115 (.agg #[.int .i64 k])) w r w' from ⟨h, hb⟩))
  generalize VaR (.iface 115 (.agg #[.int .i64 k])) w = R at *
  have B0 := hide (below_new w (.cells #[.iface th xh, .map (some m), .slice (some ⟨gv, off, none⟩) vals.length cv] 95))
  have G0 := hide (show (w.alloc (.cells #[.iface th xh, .map (some m), .slice (some ⟨gv, off, none⟩) vals.length cv] 95)).heap[w.heap.size]? = some (.cells #[.iface th xh, .map (some m), .slice (some ⟨gv, off, none⟩) vals.length cv] 95 (0, 0)) from Array.getElem?_push_size)
  have V0 := hide (hev.later (unhide B0))
  have t0 := taN_here 115 (.agg #[.int .i64 k]) (by decide)
  have t1 := taN_sym 115 (.agg #[.int .i64 k]) (by decide)
  have t2 := taN_neg 115 (.agg #[.int .i64 k]) (by decide)
  have m0 := me_sect (.int .i64 k)
  have P0 := hide (parts0 (w.alloc (.cells #[.iface th xh, .map (some m), .slice (some ⟨gv, off, none⟩) vals.length cv] 95)))
  clear hev hps hth
  go_enter Tryd.func59, Tryd.ntmps59
  go_wp2_with (go_at_call 121; refine (unhide P0).mono ?_; rintro r w1 ⟨rfl, hb1⟩; have B1 := hide ((unhide B0).trans (hb1.mono (unhide B0).size)); clear hb1)
  (first | go_ret2 | go_ret | skip)
  exact unhide FN _ _ rfl (unhide B1)
set_option maxHeartbeats 4000000 in
theorem ij_glob (here : Ex) (L : List ByteArray) (vals : List Ex) (hL : L.length = vals.length) (hn : vals.length ≤ 1099511627776) (s : ByteArray) : InJ here L vals (⟨12, 0, s, []⟩) := by
  intro th xh m gv off cv ps w hth hev hps
  rw [putX_leaf _ _ _ _ _ _ (by decide) (by decide), tv_glob]
  have FN := hide (fun r w' (h : r = .returned (.iface 118 (.agg #[.string s]))) (hb : Below w.heap.size w w') => (show VaR (.iface 118 (.agg #[.string s])) w r w' from ⟨h, hb⟩))
  generalize VaR (.iface 118 (.agg #[.string s])) w = R at *
  have B0 := hide (below_new w (.cells #[.iface th xh, .map (some m), .slice (some ⟨gv, off, none⟩) vals.length cv] 95))
  have G0 := hide (show (w.alloc (.cells #[.iface th xh, .map (some m), .slice (some ⟨gv, off, none⟩) vals.length cv] 95)).heap[w.heap.size]? = some (.cells #[.iface th xh, .map (some m), .slice (some ⟨gv, off, none⟩) vals.length cv] 95 (0, 0)) from Array.getElem?_push_size)
  have V0 := hide (hev.later (unhide B0))
  have t0 := taN_here 118 (.agg #[.string s]) (by decide)
  have t1 := taN_sym 118 (.agg #[.string s]) (by decide)
  have t2 := taN_neg 118 (.agg #[.string s]) (by decide)
  have m0 := me_glob (.string s)
  have P0 := hide (parts0 (w.alloc (.cells #[.iface th xh, .map (some m), .slice (some ⟨gv, off, none⟩) vals.length cv] 95)))
  clear hev hps hth
  go_enter Tryd.func59, Tryd.ntmps59
  go_wp2_with (go_at_call 121; refine (unhide P0).mono ?_; rintro r w1 ⟨rfl, hb1⟩; have B1 := hide ((unhide B0).trans (hb1.mono (unhide B0).size)); clear hb1)
  (first | go_ret2 | go_ret | skip)
  exact unhide FN _ _ rfl (unhide B1)
set_option maxHeartbeats 4000000 in
theorem ij_here (here : Ex) (L : List ByteArray) (vals : List Ex) (hL : L.length = vals.length) (hn : vals.length ≤ 1099511627776)  : InJ here L vals (⟨3, 0, E0, []⟩) := by
  intro th xh m gv off cv ps w hth hev hps
  rw [putX_here, tv_here, hth]
  have FN := hide (fun r w' (h : r = .returned (.iface th xh)) (hb : Below w.heap.size w w') => (show VaR (.iface th xh) w r w' from ⟨h, hb⟩))
  generalize VaR (.iface th xh) w = R at *
  have B0 := hide (below_new w (.cells #[.iface th xh, .map (some m), .slice (some ⟨gv, off, none⟩) vals.length cv] 95))
  have G0 := hide (show (w.alloc (.cells #[.iface th xh, .map (some m), .slice (some ⟨gv, off, none⟩) vals.length cv] 95)).heap[w.heap.size]? = some (.cells #[.iface th xh, .map (some m), .slice (some ⟨gv, off, none⟩) vals.length cv] 95 (0, 0)) from Array.getElem?_push_size)
  have V0 := hide (hev.later (unhide B0))
  have t0 := taY_here (.agg #[])
  have T := hide (two_resG w (.cells #[.iface th xh, .map (some m), .slice (some ⟨gv, off, none⟩) vals.length cv] 95) (.cells #[] 130))
  clear hev hps hth
  go_enter Tryd.func59, Tryd.ntmps59
  go_wp2
  (first | go_ret2 | go_ret | skip)
  exact unhide FN _ _ rfl (by first | exact (unhide T).1 | exact unhide B0)
set_option maxHeartbeats 4000000 in
theorem ij_symn (here : Ex) (L : List ByteArray) (vals : List Ex) (hL : L.length = vals.length) (hn : vals.length ≤ 1099511627776) (s : ByteArray) (hp : plS L s = none) : InJ here L vals (⟨2, 0, s, []⟩) := by
  intro th xh m gv off cv ps w hth hev hps
  rw [putX_symn _ _ _ _ _ hp, tv_sym]
  have FN := hide (fun r w' (h : r = .returned (.iface 117 (.agg #[.string s]))) (hb : Below w.heap.size w w') => (show VaR (.iface 117 (.agg #[.string s])) w r w' from ⟨h, hb⟩))
  generalize VaR (.iface 117 (.agg #[.string s])) w = R at *
  have B0 := hide (below_new w (.cells #[.iface th xh, .map (some m), .slice (some ⟨gv, off, none⟩) vals.length cv] 95))
  have G0 := hide (show (w.alloc (.cells #[.iface th xh, .map (some m), .slice (some ⟨gv, off, none⟩) vals.length cv] 95)).heap[w.heap.size]? = some (.cells #[.iface th xh, .map (some m), .slice (some ⟨gv, off, none⟩) vals.length cv] 95 (0, 0)) from Array.getElem?_push_size)
  have V0 := hide (hev.later (unhide B0))
  have t0 := taN_here 117 (.agg #[.string s]) (by decide)
  have t1 := taY_sym (.agg #[.string s])
  have T := hide (two_resG w (.cells #[.iface th xh, .map (some m), .slice (some ⟨gv, off, none⟩) vals.length cv] 95) (.cells #[.string s] 117))
  have V1 := hide ((unhide V0).later (below_new _ (.cells #[.string s] 117)))
  have LK := run_lookS (unhide V1).m s
  rw [hps, hp] at LK
  simp only [Option.getD_none, Option.isSome_none, Option.getD_some, Option.isSome_some] at LK
  clear hp hps hev hth
  go_enter Tryd.func59, Tryd.ntmps59
  go_wp2
  (first | go_ret2 | go_ret | skip)
  exact unhide FN _ _ rfl (unhide T).1
set_option maxHeartbeats 4000000 in
theorem ij_symy (here : Ex) (L : List ByteArray) (vals : List Ex) (hL : L.length = vals.length) (hn : vals.length ≤ 1099511627776) (s : ByteArray) (i : Nat) (hp : plS L s = some i) : InJ here L vals (⟨2, 0, s, []⟩) := by
  intro th xh m gv off cv ps w hth hev hps
  rw [putX_symy _ _ _ _ _ i hp, tv_sym]
  obtain ⟨tz, xz, ez⟩ := tv_if (xAt vals i)
  rw [ez]
  have FN := hide (fun r w' (h : r = .returned (.iface tz xz)) (hb : Below w.heap.size w w') => (show VaR (.iface tz xz) w r w' from ⟨h, hb⟩))
  generalize VaR (.iface tz xz) w = R at *
  have B0 := hide (below_new w (.cells #[.iface th xh, .map (some m), .slice (some ⟨gv, off, none⟩) vals.length cv] 95))
  have G0 := hide (show (w.alloc (.cells #[.iface th xh, .map (some m), .slice (some ⟨gv, off, none⟩) vals.length cv] 95)).heap[w.heap.size]? = some (.cells #[.iface th xh, .map (some m), .slice (some ⟨gv, off, none⟩) vals.length cv] 95 (0, 0)) from Array.getElem?_push_size)
  have V0 := hide (hev.later (unhide B0))
  have t0 := taN_here 117 (.agg #[.string s]) (by decide)
  have t1 := taY_sym (.agg #[.string s])
  have T := hide (two_resG w (.cells #[.iface th xh, .map (some m), .slice (some ⟨gv, off, none⟩) vals.length cv] 95) (.cells #[.string s] 117))
  have V1 := hide ((unhide V0).later (below_new _ (.cells #[.string s] 117)))
  have LK := run_lookS (unhide V1).m s
  rw [hps, hp] at LK
  simp only [Option.getD_none, Option.isSome_none, Option.getD_some, Option.isSome_some] at LK
  have hi : i < vals.length := by have := pl_ltN hp; omega
  have cz := (unhide V1).v i hi
  rw [ez] at cz
  have hi2 : ¬ ((vals.length : Int) ≤ (i : Int)) := by omega
  clear hp hps hev hth ez
  go_enter Tryd.func59, Tryd.ntmps59
  go_wp2
  (first | go_ret2 | go_ret | skip)
  exact unhide FN _ _ rfl (unhide T).1
set_option maxHeartbeats 4000000 in
theorem ij_neg (here : Ex) (L : List ByteArray) (vals : List Ex) (a : Ex) (iha : InJ here L vals a) : InJ here L vals ⟨4, 0, E0, [a]⟩ := by
  intro th xh m gv off cv ps w hth hev hps
  have IH := hide (fun wr (h : Fi wr m ps gv off vals) => iha th xh m gv off cv ps wr hth h hps)
  unfold VaR at IH
  rw [putX_neg, tv_neg, tv_neg]
  obtain ⟨t, x, e1⟩ := tv_if a
  obtain ⟨u, y, e2⟩ := tv_if (putX here L vals a)
  rw [e1, e2] at IH
  rw [e1, e2]
  have FN := hide (fun r w' (h : r = .returned (.iface 104 (.agg #[.iface u y]))) (hb : Below w.heap.size w w') => (show VaR (.iface 104 (.agg #[.iface u y])) w r w' from ⟨h, hb⟩))
  generalize VaR (.iface 104 (.agg #[.iface u y])) w = R at *
  have B0 := hide (below_new w (.cells #[.iface th xh, .map (some m), .slice (some ⟨gv, off, none⟩) vals.length cv] 95))
  have G0 := hide (show (w.alloc (.cells #[.iface th xh, .map (some m), .slice (some ⟨gv, off, none⟩) vals.length cv] 95)).heap[w.heap.size]? = some (.cells #[.iface th xh, .map (some m), .slice (some ⟨gv, off, none⟩) vals.length cv] 95 (0, 0)) from Array.getElem?_push_size)
  have V0 := hide (hev.later (unhide B0))
  have t0 := taN_here 104 (.agg #[.iface t x]) (by decide)
  have t1 := taN_sym 104 (.agg #[.iface t x]) (by decide)
  have t2 := taY_neg (.agg #[.iface t x])
  have T := hide (two_resG w (.cells #[.iface th xh, .map (some m), .slice (some ⟨gv, off, none⟩) vals.length cv] 95) (.cells #[.iface t x] 104))
  have V1 := hide ((unhide V0).later (below_new _ (.cells #[.iface t x] 104)))
  clear hev hps hth e1 e2 iha
  go_enter Tryd.func59, Tryd.ntmps59
  go_wp2_with (refine wpList_load_row rfl 95 _ rfl w.heap.size rfl 95 #[.iface th xh, .map (some m), .slice (some ⟨gv, off, none⟩) vals.length cv] (0, 0) _ ((unhide T).2.1) Tryd.underlying95 rfl (by kernel_rfl) ?_)
  generalize (w.alloc (.cells #[.iface th xh, .map (some m), .slice (some ⟨gv, off, none⟩) vals.length cv] 95)).alloc (.cells #[.iface t x] 104) = W at *
  refine (unhide IH _ (unhide V1)).mono ?_
  rintro r w1 ⟨rfl, hb1⟩
  have B1 := hide ((unhide T).1.trans (hb1.mono (unhide T).1.size))
  clear hb1 IH T V1 V0 G0 B0
  go_wp2
  (first | go_ret2 | go_ret | skip)
  exact unhide FN _ _ rfl (unhide B1)
set_option maxHeartbeats 16000000 in
theorem ij_pair (vals : List Ex) (T : TypeId) (k : Int) (t u : TypeId) (x y : Value) (me : ∀ w, (method 271 T (.agg #[.iface t x, .iface u y]) "loop.example/g00329/impl.parts").run Tryd.prog w = .ok (123, .agg #[.iface t x, .iface u y]) w) (kd : ∀ w, Calls Tryd.prog 71 #[.iface T (.agg #[.iface t x, .iface u y])] w fun r w' => r = .returned (.int .i64 k) ∧ w' = w) (hk : inB k 5 10 = true) (n0 : T ≠ 130) (n1 : T ≠ 117) (n2 : T ≠ 104) (ta tb : TypeId) (xa xb : Value) (th : TypeId) (xh : Value) (m gv off cv : Nat) (ps : List (ByteArray × Nat)) (ha : ∀ wr, Fi wr m ps gv off vals → Calls Tryd.prog 59 #[.agg #[.iface th xh, .map (some m), .slice (some ⟨gv, off, none⟩) vals.length cv], .iface t x] wr (VaR (.iface ta xa) wr)) (hb : ∀ wr, Fi wr m ps gv off vals → Calls Tryd.prog 59 #[.agg #[.iface th xh, .map (some m), .slice (some ⟨gv, off, none⟩) vals.length cv], .iface u y] wr (VaR (.iface tb xb) wr)) (w : World) (hev : Fi w m ps gv off vals) : Calls Tryd.prog 59 #[.agg #[.iface th xh, .map (some m), .slice (some ⟨gv, off, none⟩) vals.length cv], .iface T (.agg #[.iface t x, .iface u y])] w (VaR (.iface (pairT k) (.agg #[.iface ta xa, .iface tb xb])) w) := by
  have FN := hide (fun r w' (h : r = .returned (.iface (pairT k) (.agg #[.iface ta xa, .iface tb xb]))) (hb : Below w.heap.size w w') => (show VaR (.iface (pairT k) (.agg #[.iface ta xa, .iface tb xb])) w r w' from ⟨h, hb⟩))
  generalize VaR (.iface (pairT k) (.agg #[.iface ta xa, .iface tb xb])) w = R at *
  have PA := hide (fun w => pair_one k (.iface ta xa) (.iface tb xb) w hk)
  generalize pairT k = pT at *
  have HA := hide ha
  have HB := hide hb
  unfold VaR at HA HB
  have t0 := taN_here T (.agg #[.iface t x, .iface u y]) n0
  have t1 := taN_sym T (.agg #[.iface t x, .iface u y]) n1
  have t2 := taN_neg T (.agg #[.iface t x, .iface u y]) n2
  have B0 := hide (below_new w (.cells #[.iface th xh, .map (some m), .slice (some ⟨gv, off, none⟩) vals.length cv] 95))
  have G0 := hide (show (w.alloc (.cells #[.iface th xh, .map (some m), .slice (some ⟨gv, off, none⟩) vals.length cv] 95)).heap[w.heap.size]? = some (.cells #[.iface th xh, .map (some m), .slice (some ⟨gv, off, none⟩) vals.length cv] 95 (0, 0)) from Array.getElem?_push_size)
  have V0 := hide (hev.later (unhide B0))
  have P0 := hide (parts2 t u x y (w.alloc (.cells #[.iface th xh, .map (some m), .slice (some ⟨gv, off, none⟩) vals.length cv] 95)))
  have KD := hide kd
  clear hev ha hb kd n0 n1 n2 hk
  go_enter Tryd.func59, Tryd.ntmps59
  go_wp2_with fail
  generalize w.alloc (.cells #[.iface th xh, .map (some m), .slice (some ⟨gv, off, none⟩) vals.length cv] 95) = W at *
  refine (unhide P0).mono ?_
  rintro r w1 ⟨g, rfl, hg, hb1⟩
  have B1 := hide ((unhide B0).trans (hb1.mono (unhide B0).size))
  have G1 := hide (row_keep (unhide G0) hb1)
  have V1 := hide ((unhide V0).later hb1)
  have L1 := hide hg
  clear hb1 hg B0 G0 V0 P0
  go_wp2_with fail
  have ya : ∀ y : Sub w1.heap.size w1, y.w.cell? ⟨w.heap.size, 0, none⟩ = some (.iface th xh) := fun y => (y.h.cell (p := ⟨w.heap.size, 0, none⟩) (Array.getElem?_eq_some_iff.1 (unhide G1)).1).trans (Lib.cell_of_heap (unhide G1) 0)
  have yb : ∀ y : Sub w1.heap.size w1, y.w.cell? ⟨w.heap.size, 1, none⟩ = some (.map (some m)) := fun y => (y.h.cell (p := ⟨w.heap.size, 1, none⟩) (Array.getElem?_eq_some_iff.1 (unhide G1)).1).trans (Lib.cell_of_heap (unhide G1) 1)
  have yc : ∀ y : Sub w1.heap.size w1, y.w.cell? ⟨w.heap.size, 2, none⟩ = some (.slice (some ⟨gv, off, none⟩) vals.length cv) := fun y => (y.h.cell (p := ⟨w.heap.size, 2, none⟩) (Array.getElem?_eq_some_iff.1 (unhide G1)).1).trans (Lib.cell_of_heap (unhide G1) 2)
  have yd : ∀ z : Sub w1.heap.size w1, z.w.cell? ⟨g, 0, none⟩ = some (.iface t x) := fun z => (z.h.cell (p := ⟨g, 0, none⟩) (Array.getElem?_eq_some_iff.1 (unhide L1)).1).trans (Lib.cell_of_heap (unhide L1) 0)
  have ye : ∀ z : Sub w1.heap.size w1, z.w.cell? ⟨g, 1, none⟩ = some (.iface u y) := fun z => (z.h.cell (p := ⟨g, 1, none⟩) (Array.getElem?_eq_some_iff.1 (unhide L1)).1).trans (Lib.cell_of_heap (unhide L1) 1)
  have ne := Sub.ne w1.heap.size w1
  have HZ := hide (Nat.le_refl w1.heap.size)
  have CA := hide (fun z : Sub w1.heap.size w1 => unhide HA z.w ((unhide V1).later z.h))
  have CB := hide (fun z : Sub w1.heap.size w1 => unhide HB z.w ((unhide V1).later z.h))
  have HF := hide (fun z : Sub w1.heap.size w1 => (unhide B1).trans (z.h.mono (unhide B1).size))
  clear HA HB V1 L1 G1 B1
  refine wp_region_sub (⟨w1, Below.refl _ _⟩ : Sub w1.heap.size w1) (by kernel_rfl) (by kernel_rfl) ?_
  (repeat (go_big_quiet_step (first | (go_at_call 71; exact Sub.same (unhide KD _)) | (go_at_call 68; exact Sub.call (unhide HZ) (unhide PA _)) | (go_at_call_of 59 x; exact Sub.call (unhide HZ) (unhide CA _)) | (go_at_call_of 59 y; exact Sub.call (unhide HZ) (unhide CB _)))))
  refine wpQuiet_nil ?_
  intro z
  go_wp2
  (first | go_ret2 | go_ret | skip)
  exact unhide FN _ _ rfl (unhide HF _)
theorem ij_all (here : Ex) (L : List ByteArray) (vals : List Ex) (hL : L.length = vals.length) (hn : vals.length ≤ 1099511627776) : ∀ (d : Nat) (e : Ex), okF d false e = true → InJ here L vals e := by
  intro d
  induction d with
  | zero => intro e h; cases h
  | succ d ih =>
    intro e h
    rcases ok_cases h with ⟨n, hn', rfl⟩ | ⟨s, hs, rfl⟩ | rfl | ⟨a, ha, rfl⟩ | ⟨k, a, b, hk, ha, hb, rfl⟩ | ⟨n, hn', rfl⟩ | ⟨s, hs, rfl⟩
    · exact ij_num here L vals hL hn n
    · cases hp : plS L s with
      | none => exact ij_symn here L vals hL hn s hp
      | some i => exact ij_symy here L vals hL hn s i hp
    · exact ij_here here L vals hL hn
    · exact ij_neg here L vals a (ih a ha)
    · intro th xh m gv off cv ps w hth hev hps
      have iha := fun wr (h : Fi wr m ps gv off vals) => ih a ha th xh m gv off cv ps wr hth h hps
      have ihb := fun wr (h : Fi wr m ps gv off vals) => ih b hb th xh m gv off cv ps wr hth h hps
      rw [putX_two _ _ _ hk, tv_two hk, tv_two hk]
      obtain ⟨t, x, e1⟩ := tv_if a
      obtain ⟨u, y, e2⟩ := tv_if b
      obtain ⟨ta, xa, e3⟩ := tv_if (putX here L vals a)
      obtain ⟨tb, xb, e4⟩ := tv_if (putX here L vals b)
      rw [e1, e3] at iha
      rw [e2, e4] at ihb
      rw [e1, e2, e3, e4]
      clear ih h e1 e2 e3 e4 hth hps
      have : k = 5 ∨ k = 6 ∨ k = 7 ∨ k = 8 ∨ k = 9 ∨ k = 10 := by omega
      rcases this with rfl | rfl | rfl | rfl | rfl | rfl
      · exact ij_pair vals 134 5 t u x y (me_add (.iface t x) (.iface u y)) (fun w => kind_add 0 E0 t u x y w) (by decide) (by decide) (by decide) (by decide) ta tb xa xb th xh m gv off cv ps iha ihb w hev
      · exact ij_pair vals 135 6 t u x y (me_sub (.iface t x) (.iface u y)) (fun w => kind_sub 0 E0 t u x y w) (by decide) (by decide) (by decide) (by decide) ta tb xa xb th xh m gv off cv ps iha ihb w hev
      · exact ij_pair vals 136 7 t u x y (me_mul (.iface t x) (.iface u y)) (fun w => kind_mul 0 E0 t u x y w) (by decide) (by decide) (by decide) (by decide) ta tb xa xb th xh m gv off cv ps iha ihb w hev
      · exact ij_pair vals 137 8 t u x y (me_div (.iface t x) (.iface u y)) (fun w => kind_div 0 E0 t u x y w) (by decide) (by decide) (by decide) (by decide) ta tb xa xb th xh m gv off cv ps iha ihb w hev
      · exact ij_pair vals 138 9 t u x y (me_and (.iface t x) (.iface u y)) (fun w => kind_and 0 E0 t u x y w) (by decide) (by decide) (by decide) (by decide) ta tb xa xb th xh m gv off cv ps iha ihb w hev
      · exact ij_pair vals 139 10 t u x y (me_or (.iface t x) (.iface u y)) (fun w => kind_or 0 E0 t u x y w) (by decide) (by decide) (by decide) (by decide) ta tb xa xb th xh m gv off cv ps iha ihb w hev
    · exact ij_sect here L vals hL hn n
    · exact ij_glob here L vals hL hn s
end Go.Proofs.YtkolflcjkofleaaDoor

namespace Go.Proofs.YtkolflcjkofleaaDoor
open Go.ChangeShapes Go.WideShapes Go.ChangeAt Go.RowKit
set_option linter.unusedVariables false
set_option maxRecDepth 8000
set_option linter.unusedSimpArgs false

def XoR (e : Ex) (w : World) (r : Ending) (w' : World) : Prop := ∃ (c : Option Addr) (cp : Nat), r = .returned (.agg (e.cs c cp)) ∧ NewX w' w.heap.size e c ∧ Below w.heap.size w w'
/-- The two rows of exprOf: what it answers, and the term that it fills. -/
structure Xb (w wr : World) (k n : Int) (s : ByteArray) (v : Value) : Prop where
  bel : Below w.heap.size w wr
  lt : w.heap.size + 2 ≤ wr.heap.size
  res : wr.heap[w.heap.size]? = some (.cells #[.int .i64 0, .int .i64 0, .string ⟨#[]⟩, .slice none 0 0] 26 (0, 0))
  box : wr.heap[w.heap.size + 1]? = some (.cells #[.int .i64 k, .int .i64 n, .string s, v] 26 (0, 0))
section
variable {w wr w' : World} {k n : Int} {s : ByteArray} {v : Value}
theorem Xb.later (h : Xb w wr k n s v) (hb : Below wr.heap.size wr w') : Xb w w' k n s v :=
  ⟨h.bel.trans (hb.mono h.bel.size), Nat.le_trans h.lt hb.size, row_keep h.res hb, row_keep h.box hb⟩
theorem Xb.grown {g : Nat} (h : Xb w wr k n s v) (hg : wr.grownBy w' (some g)) (hl : w.heap.size + 2 ≤ g) : Xb w w' k n s v :=
  ⟨h.bel.grown hg h.bel.size (fun q e => by cases e; omega), Nat.le_trans h.lt hg.size, (hg.block _ (Array.getElem?_eq_some_iff.1 h.res).1 (fun e => by simp at e; omega)).trans h.res, (hg.block _ (Array.getElem?_eq_some_iff.1 h.box).1 (fun e => by simp at e; omega)).trans h.box⟩
theorem Xb.set2 (h : Xb w wr k n s v) (x : ByteArray) : Xb w (wr.setCell ⟨w.heap.size + 1, 2, none⟩ (.string x)) k n x v := by
  refine ⟨h.bel.setCell (p := ⟨w.heap.size + 1, 2, none⟩) (Nat.le_succ _) _, by simp; exact h.lt, (heap_setCell_other wr ⟨w.heap.size + 1, 2, none⟩ w.heap.size _ (fun e => by have e' : w.heap.size = w.heap.size + 1 := e; omega)).trans h.res, ?_⟩
  rw [heap_setCell_same wr (w.heap.size + 1) 2 _ 26 (.string x) h.box]
  rfl
theorem Xb.set3 (h : Xb w wr k n s v) (x : Value) : Xb w (wr.setCell ⟨w.heap.size + 1, 3, none⟩ x) k n s x := by
  refine ⟨h.bel.setCell (p := ⟨w.heap.size + 1, 3, none⟩) (Nat.le_succ _) _, by simp; exact h.lt, (heap_setCell_other wr ⟨w.heap.size + 1, 3, none⟩ w.heap.size _ (fun e => by have e' : w.heap.size = w.heap.size + 1 := e; omega)).trans h.res, ?_⟩
  rw [heap_setCell_same wr (w.heap.size + 1) 3 _ 26 x h.box]
  rfl
theorem Xb.new2 (w : World) (k : Int) : Xb w ((w.alloc (.cells #[.int .i64 0, .int .i64 0, .string ⟨#[]⟩, .slice none 0 0] 26)).alloc (.cells #[.int .i64 k, .int .i64 n, .string s, v] 26)) k n s v := by
  have h1 := two_new w (.cells #[.int .i64 0, .int .i64 0, .string ⟨#[]⟩, .slice none 0 0] 26) (.cells #[.int .i64 k, .int .i64 n, .string s, v] 26)
  refine ⟨h1.2, by simp, ?_, h1.1⟩
  exact row_keep (heap_alloc_new w _) (below_new _ _)
theorem Xb.new3 (w : World) (k : Int) (o : Obj) : Xb w (((w.alloc (.cells #[.int .i64 0, .int .i64 0, .string ⟨#[]⟩, .slice none 0 0] 26)).alloc (.cells #[.int .i64 k, .int .i64 n, .string s, v] 26)).alloc o) k n s v := (Xb.new2 w k).later (below_new _ o)
theorem Xb.end {l : List Ex} {c : Option Addr} {cp : Nat} (h : Xb w wr k n s (.slice c l.length cp)) (hn : NewX wr (w.heap.size + 1) ⟨k, n, s, l⟩ c) (row : Array Value) : XoR ⟨k, n, s, l⟩ w (.returned (.agg #[.int .i64 k, .int .i64 n, .string s, .slice c l.length cp])) (wr.setRow w.heap.size row) :=
  ⟨c, cp, rfl, (hn.row _ (Nat.lt_succ_self _)).lower (Nat.le_succ _), h.bel.grown (grownBy_row _) h.bel.size (fun k e => by cases e; exact Nat.le_refl _)⟩
end
set_option maxHeartbeats 4000000 in
theorem xo_num (n : Int) (w : World) : Calls Tryd.prog 47 #[.iface 88 (.agg #[.int .i64 n])] w (XoR ⟨1, n, E0, []⟩ w) := by
  have KD := hide (fun w => kind_num n E0 0 0 .nilIface .nilIface w)
  have tt := taY_num (.agg #[.int .i64 n])
  have m := me_num (.int .i64 n)
  have X0 := hide (Xb.new3 (n := n) (s := ⟨#[]⟩) (v := .slice none 0 0) w 1 (.cells #[.int .i64 n] 88))
  generalize hX : XoR ⟨1, n, E0, []⟩ w = X
  have HX := hide hX
  clear hX
  go_enter Tryd.func47, Tryd.ntmps47
  go_wp2_with (first | (go_at_call 71; refine (unhide KD _).mono ?_; rintro r w' ⟨rfl, hw'⟩; rw [hw']; clear hw' w'))
  generalize ((w.alloc (.cells #[.int .i64 0, .int .i64 0, .string ⟨#[]⟩, .slice none 0 0] 26)).alloc (.cells #[.int .i64 1, .int .i64 n, .string ⟨#[]⟩, .slice none 0 0] 26)).alloc (.cells #[.int .i64 n] 88) = W at *
  refine (parts0 W).mono ?_
  rintro r w1 ⟨rfl, hb1⟩
  have X1 := hide ((unhide X0).later hb1)
  clear hb1 X0
  go_wp2
  refine wp_loop_rounds 1 ?_
  rw [rounds_succ]
  go_wp2_with (first | (refine wpList_load_row rfl 26 _ rfl (w.heap.size + 1) rfl 26 #[.int .i64 1, .int .i64 n, .string ⟨#[]⟩, .slice none 0 0] (0, 0) _ (unhide X1).box Tryd.underlying26 rfl (by kernel_rfl) ?_) | (refine wpList_store_row rfl 26 _ _ rfl w.heap.size #[.int .i64 1, .int .i64 n, .string ⟨#[]⟩, .slice none 0 0] rfl rfl 26 _ (unhide X1).res szE rfl (ex_one _ _ _ _ _ _) ?_))
  refine bodyPost_ret (results_cell_row (P := Tryd.prog) rfl _ _ w.heap.size 26 #[.int .i64 1, .int .i64 n, .string ⟨#[]⟩, .slice none 0 0] (0, 0) _ rfl (setRow_heap _ _ _ _ _ _ (unhide X1).res) Tryd.underlying26 rfl szE) rfl ?_
  rw [← unhide HX]
  exact Xb.end (l := []) (unhide X1) (NewX.nil _ _ _ _ _ _) _
set_option maxHeartbeats 4000000 in
theorem xo_here (w : World) : Calls Tryd.prog 47 #[.iface 130 (.agg #[])] w (XoR ⟨3, 0, E0, []⟩ w) := by
  have KD := hide (fun w => kind_here 0 E0 0 0 .nilIface .nilIface w)
  have t0 := taN_num 130 (.agg #[]) (by decide)
  have t1 := taN_sect 130 (.agg #[]) (by decide)
  have t2 := taN_sym 130 (.agg #[]) (by decide)
  have t3 := taN_glob 130 (.agg #[]) (by decide)
  have m := me_here
  have X0 := hide (Xb.new2 (n := 0) (s := ⟨#[]⟩) (v := .slice none 0 0) w 3)
  generalize hX : XoR ⟨3, 0, E0, []⟩ w = X
  have HX := hide hX
  clear hX
  go_enter Tryd.func47, Tryd.ntmps47
  go_wp2_with (first | (go_at_call 71; refine (unhide KD _).mono ?_; rintro r w' ⟨rfl, hw'⟩; rw [hw']; clear hw' w'))
  generalize (w.alloc (.cells #[.int .i64 0, .int .i64 0, .string ⟨#[]⟩, .slice none 0 0] 26)).alloc (.cells #[.int .i64 3, .int .i64 0, .string ⟨#[]⟩, .slice none 0 0] 26) = W at *
  refine (parts0 W).mono ?_
  rintro r w1 ⟨rfl, hb1⟩
  have X1 := hide ((unhide X0).later hb1)
  clear hb1 X0
  go_wp2
  refine wp_loop_rounds 1 ?_
  rw [rounds_succ]
  go_wp2_with (first | (refine wpList_load_row rfl 26 _ rfl (w.heap.size + 1) rfl 26 #[.int .i64 3, .int .i64 0, .string ⟨#[]⟩, .slice none 0 0] (0, 0) _ (unhide X1).box Tryd.underlying26 rfl (by kernel_rfl) ?_) | (refine wpList_store_row rfl 26 _ _ rfl w.heap.size #[.int .i64 3, .int .i64 0, .string ⟨#[]⟩, .slice none 0 0] rfl rfl 26 _ (unhide X1).res szE rfl (ex_one _ _ _ _ _ _) ?_))
  refine bodyPost_ret (results_cell_row (P := Tryd.prog) rfl _ _ w.heap.size 26 #[.int .i64 3, .int .i64 0, .string ⟨#[]⟩, .slice none 0 0] (0, 0) _ rfl (setRow_heap _ _ _ _ _ _ (unhide X1).res) Tryd.underlying26 rfl szE) rfl ?_
  rw [← unhide HX]
  exact Xb.end (l := []) (unhide X1) (NewX.nil _ _ _ _ _ _) _
set_option maxHeartbeats 4000000 in
theorem xo_sym (s : ByteArray) (hs : s.size ≤ 1048576) (w : World) : Calls Tryd.prog 47 #[.iface 117 (.agg #[.string s])] w (XoR ⟨2, 0, s, []⟩ w) := by
  have KD := hide (fun w => kind_sym 0 s 0 0 .nilIface .nilIface w)
  have t0 := taN_num 117 (.agg #[.string s]) (by decide)
  have t1 := taN_sect 117 (.agg #[.string s]) (by decide)
  have tt := taY_sym (.agg #[.string s])
  have m := me_sym (.string s)
  have X0 := hide (Xb.new3 (n := 0) (s := ⟨#[]⟩) (v := .slice none 0 0) w 2 (.cells #[.string s] 117))
  generalize hX : XoR ⟨2, 0, s, []⟩ w = X
  have HX := hide hX
  clear hX
  go_enter Tryd.func47, Tryd.ntmps47
  go_wp2_with (first | (go_at_call 71; refine (unhide KD _).mono ?_; rintro r w' ⟨rfl, hw'⟩; rw [hw']; clear hw' w'))
  generalize ((w.alloc (.cells #[.int .i64 0, .int .i64 0, .string ⟨#[]⟩, .slice none 0 0] 26)).alloc (.cells #[.int .i64 2, .int .i64 0, .string ⟨#[]⟩, .slice none 0 0] 26)).alloc (.cells #[.string s] 117) = W at *
  refine (cloneI_any s W (by omega)).mono ?_
  rintro r w1 ⟨rfl, hb1⟩
  have X1 := (unhide X0).later hb1
  have f2 : w1.frozen? ⟨w.heap.size + 1, 2, none⟩ = false := by simp [World.frozen?, X1.box]
  have c2 := Lib.cell_of_heap X1.box 2
  have X2 := hide (X1.set2 s)
  clear hb1 X0 X1
  go_wp2_with fail
  generalize w1.setCell ⟨w.heap.size + 1, 2, none⟩ (.string s) = w2 at *
  clear f2 c2
  refine (parts0 w2).mono ?_
  rintro r w3 ⟨rfl, hb3⟩
  have X3 := hide ((unhide X2).later hb3)
  clear hb3 X2
  go_wp2
  refine wp_loop_rounds 1 ?_
  rw [rounds_succ]
  go_wp2_with (first | (refine wpList_load_row rfl 26 _ rfl (w.heap.size + 1) rfl 26 #[.int .i64 2, .int .i64 0, .string s, .slice none 0 0] (0, 0) _ (unhide X3).box Tryd.underlying26 rfl (by kernel_rfl) ?_) | (refine wpList_store_row rfl 26 _ _ rfl w.heap.size #[.int .i64 2, .int .i64 0, .string s, .slice none 0 0] rfl rfl 26 _ (unhide X3).res szE rfl (ex_one _ _ _ _ _ _) ?_))
  refine bodyPost_ret (results_cell_row (P := Tryd.prog) rfl _ _ w.heap.size 26 #[.int .i64 2, .int .i64 0, .string s, .slice none 0 0] (0, 0) _ rfl (setRow_heap _ _ _ _ _ _ (unhide X3).res) Tryd.underlying26 rfl szE) rfl ?_
  rw [← unhide HX]
  exact Xb.end (l := []) (unhide X3) (NewX.nil _ _ _ _ _ _) _
set_option maxHeartbeats 4000000 in
theorem xo_sect (n : Int) (w : World) : Calls Tryd.prog 47 #[.iface 115 (.agg #[.int .i64 n])] w (XoR ⟨11, n, E0, []⟩ w) := by
  have KD := hide (fun w => kind_sect n E0 0 0 .nilIface .nilIface w)
  have t0 := taN_num 115 (.agg #[.int .i64 n]) (by decide)
  have tt := taY_sect (.agg #[.int .i64 n])
  have m := me_sect (.int .i64 n)
  have X0 := hide (Xb.new3 (n := n) (s := ⟨#[]⟩) (v := .slice none 0 0) w 11 (.cells #[.int .i64 n] 115))
  generalize hX : XoR ⟨11, n, E0, []⟩ w = X
  have HX := hide hX
  clear hX
  go_enter Tryd.func47, Tryd.ntmps47
  go_wp2_with (first | (go_at_call 71; refine (unhide KD _).mono ?_; rintro r w' ⟨rfl, hw'⟩; rw [hw']; clear hw' w'))
  generalize ((w.alloc (.cells #[.int .i64 0, .int .i64 0, .string ⟨#[]⟩, .slice none 0 0] 26)).alloc (.cells #[.int .i64 11, .int .i64 n, .string ⟨#[]⟩, .slice none 0 0] 26)).alloc (.cells #[.int .i64 n] 115) = W at *
  refine (parts0 W).mono ?_
  rintro r w1 ⟨rfl, hb1⟩
  have X1 := hide ((unhide X0).later hb1)
  clear hb1 X0
  go_wp2
  refine wp_loop_rounds 1 ?_
  rw [rounds_succ]
  go_wp2_with (first | (refine wpList_load_row rfl 26 _ rfl (w.heap.size + 1) rfl 26 #[.int .i64 11, .int .i64 n, .string ⟨#[]⟩, .slice none 0 0] (0, 0) _ (unhide X1).box Tryd.underlying26 rfl (by kernel_rfl) ?_) | (refine wpList_store_row rfl 26 _ _ rfl w.heap.size #[.int .i64 11, .int .i64 n, .string ⟨#[]⟩, .slice none 0 0] rfl rfl 26 _ (unhide X1).res szE rfl (ex_one _ _ _ _ _ _) ?_))
  refine bodyPost_ret (results_cell_row (P := Tryd.prog) rfl _ _ w.heap.size 26 #[.int .i64 11, .int .i64 n, .string ⟨#[]⟩, .slice none 0 0] (0, 0) _ rfl (setRow_heap _ _ _ _ _ _ (unhide X1).res) Tryd.underlying26 rfl szE) rfl ?_
  rw [← unhide HX]
  exact Xb.end (l := []) (unhide X1) (NewX.nil _ _ _ _ _ _) _
set_option maxHeartbeats 4000000 in
theorem xo_glob (s : ByteArray) (hs : s.size ≤ 1048576) (w : World) : Calls Tryd.prog 47 #[.iface 118 (.agg #[.string s])] w (XoR ⟨12, 0, s, []⟩ w) := by
  have KD := hide (fun w => kind_glob 0 s 0 0 .nilIface .nilIface w)
  have t0 := taN_num 118 (.agg #[.string s]) (by decide)
  have t1 := taN_sect 118 (.agg #[.string s]) (by decide)
  have t2 := taN_sym 118 (.agg #[.string s]) (by decide)
  have tt := taY_glob (.agg #[.string s])
  have m := me_glob (.string s)
  have X0 := hide (Xb.new3 (n := 0) (s := ⟨#[]⟩) (v := .slice none 0 0) w 12 (.cells #[.string s] 118))
  generalize hX : XoR ⟨12, 0, s, []⟩ w = X
  have HX := hide hX
  clear hX
  go_enter Tryd.func47, Tryd.ntmps47
  go_wp2_with (first | (go_at_call 71; refine (unhide KD _).mono ?_; rintro r w' ⟨rfl, hw'⟩; rw [hw']; clear hw' w'))
  generalize ((w.alloc (.cells #[.int .i64 0, .int .i64 0, .string ⟨#[]⟩, .slice none 0 0] 26)).alloc (.cells #[.int .i64 12, .int .i64 0, .string ⟨#[]⟩, .slice none 0 0] 26)).alloc (.cells #[.string s] 118) = W at *
  refine (cloneI_any s W (by omega)).mono ?_
  rintro r w1 ⟨rfl, hb1⟩
  have X1 := (unhide X0).later hb1
  have f2 : w1.frozen? ⟨w.heap.size + 1, 2, none⟩ = false := by simp [World.frozen?, X1.box]
  have c2 := Lib.cell_of_heap X1.box 2
  have X2 := hide (X1.set2 s)
  clear hb1 X0 X1
  go_wp2_with fail
  generalize w1.setCell ⟨w.heap.size + 1, 2, none⟩ (.string s) = w2 at *
  clear f2 c2
  refine (parts0 w2).mono ?_
  rintro r w3 ⟨rfl, hb3⟩
  have X3 := hide ((unhide X2).later hb3)
  clear hb3 X2
  go_wp2
  refine wp_loop_rounds 1 ?_
  rw [rounds_succ]
  go_wp2_with (first | (refine wpList_load_row rfl 26 _ rfl (w.heap.size + 1) rfl 26 #[.int .i64 12, .int .i64 0, .string s, .slice none 0 0] (0, 0) _ (unhide X3).box Tryd.underlying26 rfl (by kernel_rfl) ?_) | (refine wpList_store_row rfl 26 _ _ rfl w.heap.size #[.int .i64 12, .int .i64 0, .string s, .slice none 0 0] rfl rfl 26 _ (unhide X3).res szE rfl (ex_one _ _ _ _ _ _) ?_))
  refine bodyPost_ret (results_cell_row (P := Tryd.prog) rfl _ _ w.heap.size 26 #[.int .i64 12, .int .i64 0, .string s, .slice none 0 0] (0, 0) _ rfl (setRow_heap _ _ _ _ _ _ (unhide X3).res) Tryd.underlying26 rfl szE) rfl ?_
  rw [← unhide HX]
  exact Xb.end (l := []) (unhide X3) (NewX.nil _ _ _ _ _ _) _
end Go.Proofs.YtkolflcjkofleaaDoor

namespace Go.Proofs.YtkolflcjkofleaaDoor

section
variable {P : Program} {ops : Array Oper} {Q : Exit → Act → World → Prop} {md : Region.Mode} {S : World → Prop} {last : Nat}
/-- Whatever order is picked from here on; S holds behind each operation, as long as 'last' has not come up. -/
def wpAnyL (P : Program) (md : Region.Mode) (ops : Array Oper) (Q : Exit → Act → World → Prop) (S : World → Prop) (last : Nat) : Nat → Array Bool → Act → World → Prop
  | 0, listed, a, w => Region.ready md ops listed = [] ∧ Q .normal a w
  | fuel + 1, listed, a, w =>
    (Region.ready md ops listed = [] → Q .normal a w) ∧
    ∀ i ∈ Region.ready md ops listed, wpOp P ops Q i (fun a' w' => ((listed.setIfInBounds i true).getD last true = false → S w') ∧ wpAnyL P md ops Q S last fuel (listed.setIfInBounds i true) a' w') a w
theorem wpAny_of_last : ∀ (fuel : Nat) (listed : Array Bool) (a : Act) (w : World), wpAnyL P md ops Q S last fuel listed a w → wpAny P md ops Q fuel listed a w
  | 0, _, _, _, h => h
  | fuel + 1, _, _, _, h => ⟨h.1, fun i hi => wpOp_mono (fun a' w' h' => wpAny_of_last fuel _ a' w' h'.2) (h.2 i hi)⟩
/-- Whether 'last' waits for i. -/
def lastB (md : Region.Mode) (ops : Array Oper) (last i : Nat) : Bool := ((ops[last]?).map fun o => o.after.any fun e => Region.binds md e && e.on == i).getD false
theorem lastB_spec {i : Nat} (h : lastB md ops last i = true) : ∀ ol, ops[last]? = some ol → ∃ e ∈ ol.after, Region.binds md e = true ∧ e.on = i := by
  intro ol ho
  unfold lastB at h
  rw [ho] at h
  simp only [Option.map_some, Option.getD_some] at h
  obtain ⟨e, he, hb⟩ := Array.any_eq_true'.1 h
  simp only [Bool.and_eq_true, beq_iff_eq] at hb
  exact ⟨e, he, hb.1, hb.2⟩
theorem wpAnyL_firstS {i : Nat} {oi : Oper} {v : Value} (hi : ops[i]? = some oi) (hsel : ∀ (j : Nat) (o : Oper) cs b, ops[j]? = some o → o.op ≠ .select cs b)
    (hQ : ∀ c a w, Q (.panic c) (a.put oi.dst v) w → Q (.panic c) a w) (hil : i ≠ last) (hl : ∀ ol, ops[last]? = some ol → ∃ e ∈ ol.after, Region.binds md e = true ∧ e.on = i) :
    ∀ (fuel : Nat) (listed : Array Bool) (a : Act) (w : World),
      (∀ j oj, ops[j]? = some oj → j ≠ i → listed.getD j true = false → (∀ e ∈ oj.after, Region.binds md e = true → e.on ≠ i) → oi.apart ops oj = true) →
      i ∈ Region.ready md ops listed → YieldsIf P ops S oi v a → S w → listed.getD last true = false →
      wpAnyL P md ops Q S last fuel (listed.setIfInBounds i true) (a.put oi.dst v) w → wpAnyL P md ops Q S last (fuel + 1) listed a w := by
  intro fuel
  induction fuel with
  | zero =>
    intro listed a w _ hr hy hS hp H
    refine ⟨fun h => (by rw [h] at hr; cases hr), fun j hj => ?_⟩
    by_cases hji : j = i
    · subst hji; exact hy.wpOp hi hS ⟨fun _ => hS, H⟩
    · have := ready_mono hj hji
      rw [H.1] at this
      cases this
  | succ fuel ih =>
    intro listed a w hfree hr hy hS hp H
    refine ⟨fun h => (by rw [h] at hr; cases hr), fun j hj => ?_⟩
    by_cases hji : j = i
    · subst hji; exact hy.wpOp hi hS ⟨fun _ => hS, H⟩
    · have h1 := H.2 j (ready_mono hj hji)
      obtain ⟨hjun, oj, hoj, hall⟩ := mem_ready.1 hj
      have hnot : ∀ e ∈ oj.after, Region.binds md e = true → e.on ≠ i := fun e he hb heq => by
        have h1 := hall e he hb
        have h0 := (mem_ready.1 hr).1
        rw [heq] at h1
        rcases Nat.lt_or_ge i listed.size with h' | h'
        · simp [h'] at h0 h1; rw [h0] at h1; cases h1
        · simp [Array.getElem?_eq_none h'] at h1
      have hjl : j ≠ last := fun e => by
        subst e
        obtain ⟨e, he, hb, ho⟩ := hl oj hoj
        exact hnot e he hb ho
      have h2 := wpOp_putIf hoj (hfree j oj hoj hji hjun hnot) (fun cs b => hsel i oi cs b hi) (fun cs b => hsel j oj cs b hoj) hQ hy h1
      have hfree' : ∀ k ok, ops[k]? = some ok → k ≠ i → (listed.setIfInBounds j true).getD k true = false →
          (∀ e ∈ ok.after, Region.binds md e = true → e.on ≠ i) → oi.apart ops ok = true := fun k ok hk hki hun hno => by
        refine hfree k ok hk hki ?_ hno
        by_cases hjk : j = k
        · subst hjk; exact hjun
        · rw [getD_set_ne true hjk] at hun; exact hun
      have hp' : (listed.setIfInBounds j true).getD last true = false := by rw [getD_set_ne true hjl]; exact hp
      have hp2 : ((listed.setIfInBounds i true).setIfInBounds j true).getD last true = false := by rw [getD_set_ne true hjl, getD_set_ne true hil]; exact hp
      refine wpOp_mono (fun a' w' h3 => ⟨fun _ => h3.2.1 hp2, ih (listed.setIfInBounds j true) a' w' hfree' (ready_mono hr (Ne.symm hji)) h3.1 (h3.2.1 hp2) hp' ?_⟩) h2
      rw [Array.setIfInBounds_comm _ _ hji]
      exact h3.2.2
theorem wpAnyL_firstW {i : Nat} {oi : Oper} {v : Value} (hi : ops[i]? = some oi) (hsel : ∀ (j : Nat) (o : Oper) cs b, ops[j]? = some o → o.op ≠ .select cs b)
    (hQ : ∀ c a w, Q (.panic c) (a.put oi.dst v) w → Q (.panic c) a w) (hil : i ≠ last) :
    ∀ (fuel : Nat) (listed : Array Bool) (a : Act) (w : World),
      (∀ j oj, ops[j]? = some oj → j ≠ i → listed.getD j true = false → (∀ e ∈ oj.after, Region.binds md e = true → e.on ≠ i) → oi.apart ops oj = true) →
      i ∈ Region.ready md ops listed → YieldsIf P ops (fun _ => True) oi v a → (listed.getD last true = false → S w) →
      wpAnyL P md ops Q S last fuel (listed.setIfInBounds i true) (a.put oi.dst v) w → wpAnyL P md ops Q S last (fuel + 1) listed a w := by
  intro fuel
  induction fuel with
  | zero =>
    intro listed a w _ hr hy hS H
    refine ⟨fun h => (by rw [h] at hr; cases hr), fun j hj => ?_⟩
    by_cases hji : j = i
    · subst hji; exact hy.wpOp hi trivial ⟨fun h => hS (by rw [getD_set_ne true hil] at h; exact h), H⟩
    · have := ready_mono hj hji
      rw [H.1] at this
      cases this
  | succ fuel ih =>
    intro listed a w hfree hr hy hS H
    refine ⟨fun h => (by rw [h] at hr; cases hr), fun j hj => ?_⟩
    by_cases hji : j = i
    · subst hji; exact hy.wpOp hi trivial ⟨fun h => hS (by rw [getD_set_ne true hil] at h; exact h), H⟩
    · have h1 := H.2 j (ready_mono hj hji)
      obtain ⟨hjun, oj, hoj, hall⟩ := mem_ready.1 hj
      have hnot : ∀ e ∈ oj.after, Region.binds md e = true → e.on ≠ i := fun e he hb heq => by
        have h1 := hall e he hb
        have h0 := (mem_ready.1 hr).1
        rw [heq] at h1
        rcases Nat.lt_or_ge i listed.size with h' | h'
        · simp [h'] at h0 h1; rw [h0] at h1; cases h1
        · simp [Array.getElem?_eq_none h'] at h1
      have h2 := wpOp_putIf hoj (hfree j oj hoj hji hjun hnot) (fun cs b => hsel i oi cs b hi) (fun cs b => hsel j oj cs b hoj) hQ hy h1
      have hfree' : ∀ k ok, ops[k]? = some ok → k ≠ i → (listed.setIfInBounds j true).getD k true = false →
          (∀ e ∈ ok.after, Region.binds md e = true → e.on ≠ i) → oi.apart ops ok = true := fun k ok hk hki hun hno => by
        refine hfree k ok hk hki ?_ hno
        by_cases hjk : j = k
        · subst hjk; exact hjun
        · rw [getD_set_ne true hjk] at hun; exact hun
      have hs2 : ∀ w', ((((listed.setIfInBounds i true).setIfInBounds j true).getD last true = false) → S w') → ((listed.setIfInBounds j true).getD last true = false → S w') := fun w' h hp => h (by
        rw [Array.setIfInBounds_comm _ _ (Ne.symm hji), getD_set_ne true hil]; exact hp)
      refine wpOp_mono (fun a' w' h3 => ⟨hs2 w' h3.2.1, ih (listed.setIfInBounds j true) a' w' hfree' (ready_mono hr (Ne.symm hji)) h3.1 (hs2 w' h3.2.1) ?_⟩) h2
      rw [Array.setIfInBounds_comm _ _ hji]
      exact h3.2.2
/-- Take number i first: it reads what S says, and 'last' waits for it. -/
theorem wpAnyL_takeS {i : Nat} {oi : Oper} {v : Value} {fuel : Nat} {listed : Array Bool} {a : Act} {w : World} (hi : ops[i]? = some oi)
    (hs : Region.noSelect ops = true) (hf : Region.free md ops listed i = true) (hr : (Region.ready md ops listed).contains i = true) (hb : lastB md ops last i = true) (hl : (decide (i ≠ last) && !listed.getD last true) = true)
    (hQ : ∀ c a w, Q (.panic c) (a.put oi.dst v) w → Q (.panic c) a w) (hy : YieldsIf P ops S oi v a) (hS : S w)
    (h : wpAnyL P md ops Q S last fuel (listed.setIfInBounds i true) (a.put oi.dst v) w) : wpAnyL P md ops Q S last (fuel + 1) listed a w := by
  simp only [Bool.and_eq_true, decide_eq_true_eq, Bool.not_eq_true'] at hl
  exact wpAnyL_firstS hi (Region.noSelect_spec hs) hQ hl.1 (lastB_spec hb) fuel listed a w (Region.free_spec hi hf) (by simpa using hr) hy hS hl.2 h
/-- Take number i first: it yields its value in whatever world. -/
theorem wpAnyL_takeW {i : Nat} {oi : Oper} {v : Value} {fuel : Nat} {listed : Array Bool} {a : Act} {w : World} (hi : ops[i]? = some oi)
    (hs : Region.noSelect ops = true) (hf : Region.free md ops listed i = true) (hr : (Region.ready md ops listed).contains i = true) (hl : decide (i ≠ last) = true)
    (hQ : ∀ c a w, Q (.panic c) (a.put oi.dst v) w → Q (.panic c) a w) (hy : YieldsIf P ops (fun _ => True) oi v a) (hS : S w ∨ listed.getD last true = true)
    (h : wpAnyL P md ops Q S last fuel (listed.setIfInBounds i true) (a.put oi.dst v) w) : wpAnyL P md ops Q S last (fuel + 1) listed a w :=
  wpAnyL_firstW hi (Region.noSelect_spec hs) hQ (by simpa using hl) fuel listed a w (Region.free_spec hi hf) (by simpa using hr) hy (fun hp => hS.elim id (fun e => by rw [e] at hp; cases hp)) h
/-- Whether a waits for i, by whatever way. -/
def waitB (md : Region.Mode) (ops : Array Oper) (i : Nat) : Nat → Nat → Bool
  | 0, _ => false
  | n + 1, a => ((ops[a]?).map fun o => o.after.any fun e => Region.binds md e && (e.on == i || waitB md ops i n e.on)).getD false
/-- What has come up has all that it waits for. -/
def closedB (md : Region.Mode) (ops : Array Oper) (listed : Array Bool) : Bool := (List.range ops.size).all fun j => !listed.getD j false || ((ops[j]?).map fun o => o.after.all fun e => !Region.binds md e || listed.getD e.on false).getD true
def Closed (md : Region.Mode) (ops : Array Oper) (listed : Array Bool) : Prop := ∀ j o, ops[j]? = some o → listed.getD j false = true → ∀ e ∈ o.after, Region.binds md e = true → listed.getD e.on false = true
theorem closed_of {listed : Array Bool} (h : closedB md ops listed = true) : Closed md ops listed := by
  intro j o ho hj e he hb
  unfold closedB at h
  rw [List.all_eq_true] at h
  have q := h j (List.mem_range.2 (Array.getElem?_eq_some_iff.1 ho).1)
  rw [hj, ho] at q
  simp only [Bool.not_true, Bool.false_or, Option.map_some, Option.getD_some] at q
  have r := Array.all_eq_true_iff_forall_mem.1 q e he
  rw [hb] at r
  simpa using r
theorem wait_listed {listed : Array Bool} (hc : Closed md ops listed) {i : Nat} : ∀ (n a : Nat) (o : Oper), waitB md ops i n a = true → ops[a]? = some o → (∀ e ∈ o.after, Region.binds md e = true → listed.getD e.on false = true) → listed.getD i false = true
  | 0, _, _, h, _, _ => by simp [waitB] at h
  | n + 1, a, o, h, ho, hd => by
    unfold waitB at h
    rw [ho] at h
    simp only [Option.map_some, Option.getD_some] at h
    obtain ⟨e, he, hb⟩ := Array.any_eq_true'.1 h
    simp only [Bool.and_eq_true, Bool.or_eq_true, beq_iff_eq] at hb
    have l := hd e he hb.1
    rcases hb.2 with h1 | h1
    · rw [← h1]; exact l
    · cases ho2 : ops[e.on]? with
      | none => cases n <;> simp [waitB, ho2] at h1
      | some o2 => exact wait_listed hc n e.on o2 h1 ho2 (hc e.on o2 ho2 l)
theorem Closed.step {listed : Array Bool} (h : Closed md ops listed) {j : Nat} (hj : j ∈ Region.ready md ops listed) : Closed md ops (listed.setIfInBounds j true) := by
  intro k o ho hk e he hb
  obtain ⟨hjun, oj, hoj, hall⟩ := mem_ready.1 hj
  have key : listed.getD e.on false = true := by
    by_cases hkj : k = j
    · subst hkj
      rw [hoj] at ho
      cases ho
      exact hall e he hb
    · refine h k o ho ?_ e he hb
      simp only [Array.getD_eq_getD_getElem?] at hk ⊢
      rw [Array.getElem?_setIfInBounds_ne (fun c => hkj c.symm)] at hk
      exact hk
  by_cases hej : e.on = j
  · rw [hej]
    have hlt : j < listed.size := by
      rcases Nat.lt_or_ge j listed.size with h' | h'
      · exact h'
      · rw [← hej] at h'
        simp [Array.getElem?_eq_none h'] at key
    simp [hlt]
  · simp only [Array.getD_eq_getD_getElem?] at key ⊢
    rw [Array.getElem?_setIfInBounds_ne (fun c => hej c.symm)]
    exact key
theorem wpAnyL_firstT {i : Nat} {oi : Oper} {v : Value} (hi : ops[i]? = some oi) (hsel : ∀ (j : Nat) (o : Oper) cs b, ops[j]? = some o → o.op ≠ .select cs b)
    (hQ : ∀ c a w, Q (.panic c) (a.put oi.dst v) w → Q (.panic c) a w) (hil : i ≠ last) (n : Nat) (hl : waitB md ops i n last = true) :
    ∀ (fuel : Nat) (listed : Array Bool) (a : Act) (w : World),
      (∀ j oj, ops[j]? = some oj → j ≠ i → listed.getD j true = false → (∀ e ∈ oj.after, Region.binds md e = true → e.on ≠ i) → oi.apart ops oj = true) →
      i ∈ Region.ready md ops listed → YieldsIf P ops S oi v a → S w → listed.getD last true = false → Closed md ops listed →
      wpAnyL P md ops Q S last fuel (listed.setIfInBounds i true) (a.put oi.dst v) w → wpAnyL P md ops Q S last (fuel + 1) listed a w := by
  intro fuel
  induction fuel with
  | zero =>
    intro listed a w _ hr hy hS hp hcl H
    refine ⟨fun h => (by rw [h] at hr; cases hr), fun j hj => ?_⟩
    by_cases hji : j = i
    · subst hji; exact hy.wpOp hi hS ⟨fun _ => hS, H⟩
    · have := ready_mono hj hji
      rw [H.1] at this
      cases this
  | succ fuel ih =>
    intro listed a w hfree hr hy hS hp hcl H
    refine ⟨fun h => (by rw [h] at hr; cases hr), fun j hj => ?_⟩
    by_cases hji : j = i
    · subst hji; exact hy.wpOp hi hS ⟨fun _ => hS, H⟩
    · have h1 := H.2 j (ready_mono hj hji)
      obtain ⟨hjun, oj, hoj, hall⟩ := mem_ready.1 hj
      have hiu : listed.getD i false ≠ true := fun c => by
        have h0 := (mem_ready.1 hr).1
        rcases Nat.lt_or_ge i listed.size with h' | h'
        · simp [h'] at h0 c; rw [h0] at c; cases c
        · simp [Array.getElem?_eq_none h'] at c
      have hnot : ∀ e ∈ oj.after, Region.binds md e = true → e.on ≠ i := fun e he hb heq => hiu (by rw [← heq]; exact hall e he hb)
      have hjl : j ≠ last := fun e => by
        subst e
        exact hiu (wait_listed hcl n j oj hl hoj hall)
      have h2 := wpOp_putIf hoj (hfree j oj hoj hji hjun hnot) (fun cs b => hsel i oi cs b hi) (fun cs b => hsel j oj cs b hoj) hQ hy h1
      have hfree' : ∀ k ok, ops[k]? = some ok → k ≠ i → (listed.setIfInBounds j true).getD k true = false →
          (∀ e ∈ ok.after, Region.binds md e = true → e.on ≠ i) → oi.apart ops ok = true := fun k ok hk hki hun hno => by
        refine hfree k ok hk hki ?_ hno
        by_cases hjk : j = k
        · subst hjk; exact hjun
        · rw [getD_set_ne true hjk] at hun; exact hun
      have hp' : (listed.setIfInBounds j true).getD last true = false := by rw [getD_set_ne true hjl]; exact hp
      have hp2 : ((listed.setIfInBounds i true).setIfInBounds j true).getD last true = false := by rw [getD_set_ne true hjl, getD_set_ne true hil]; exact hp
      refine wpOp_mono (fun a' w' h3 => ⟨fun _ => h3.2.1 hp2, ih (listed.setIfInBounds j true) a' w' hfree' (ready_mono hr (Ne.symm hji)) h3.1 (h3.2.1 hp2) hp' (hcl.step hj) ?_⟩) h2
      rw [Array.setIfInBounds_comm _ _ hji]
      exact h3.2.2
/-- Take number i first: it reads what S says, and 'last' waits for it by whatever way. (One closed fact for all that is to be reckoned.) -/
def chkT (md : Region.Mode) (ops : Array Oper) (last i : Nat) (listed : Array Bool) : Bool := Region.noSelect ops && (Region.free md ops listed i && ((Region.ready md ops listed).contains i && (waitB md ops i ops.size last && (decide (i ≠ last) && (!listed.getD last true && closedB md ops listed)))))
theorem tkT {i : Nat} {oi : Oper} {v : Value} {fuel : Nat} {listed : Array Bool} {a : Act} {w : World} (hi : ops[i]? = some oi) (hc : chkT md ops last i listed = true)
    (hQ : ∀ c a w, Q (.panic c) (a.put oi.dst v) w → Q (.panic c) a w) (hy : YieldsIf P ops S oi v a) (hS : S w)
    (h : wpAnyL P md ops Q S last fuel (listed.setIfInBounds i true) (a.put oi.dst v) w) : wpAnyL P md ops Q S last (fuel + 1) listed a w := by
  unfold chkT at hc
  simp only [Bool.and_eq_true, decide_eq_true_eq, Bool.not_eq_true'] at hc
  obtain ⟨hs, hf, hr, hb, hl, hp, hcl⟩ := hc
  exact wpAnyL_firstT hi (Region.noSelect_spec hs) hQ hl ops.size hb fuel listed a w (Region.free_spec hi hf) (by simpa using hr) hy hS hp (closed_of hcl) h
def chkW (md : Region.Mode) (ops : Array Oper) (last i : Nat) (listed : Array Bool) : Bool := Region.noSelect ops && (Region.free md ops listed i && ((Region.ready md ops listed).contains i && decide (i ≠ last)))
theorem tkW {i : Nat} {oi : Oper} {v : Value} {fuel : Nat} {listed : Array Bool} {a : Act} {w : World} (hi : ops[i]? = some oi) (hc : chkW md ops last i listed = true)
    (hQ : ∀ c a w, Q (.panic c) (a.put oi.dst v) w → Q (.panic c) a w) (hy : YieldsIf P ops (fun _ => True) oi v a) (hS : S w ∨ listed.getD last true = true)
    (h : wpAnyL P md ops Q S last fuel (listed.setIfInBounds i true) (a.put oi.dst v) w) : wpAnyL P md ops Q S last (fuel + 1) listed a w := by
  unfold chkW at hc
  simp only [Bool.and_eq_true, decide_eq_true_eq] at hc
  exact wpAnyL_takeW hi hc.1 hc.2.1 hc.2.2.1 (by simpa using hc.2.2.2) hQ hy hS h
/-- One operation alone may come up. -/
theorem wpAnyL_one {i : Nat} {o : Oper} {fuel : Nat} {listed : Array Bool} {a : Act} {w : World} (hr : Region.ready md ops listed = [i]) (ho : ops[i]? = some o)
    (h : ∀ K' : Act → World → Prop, Shut (∀ a w, ((listed.setIfInBounds i true).getD last true = false → S w) → wpAnyL P md ops Q S last fuel (listed.setIfInBounds i true) a w → K' a w) → if Region.wanted o (yielded ops a.tmps) = true then Oper.wp P o a w K' Q else K' (a.put o.dst undef) w) :
    wpAnyL P md ops Q S last (fuel + 1) listed a w := by
  refine ⟨fun h0 => (by rw [hr] at h0; cases h0), fun j hj => ?_⟩
  rw [hr] at hj
  obtain rfl : j = i := by simpa using hj
  exact wpOp_step ho (fun K' hK => h K' (fun a w hS hW => hK a w ⟨hS, hW⟩))
theorem wpAnyL_done {listed : Array Bool} {a : Act} {w : World} (hr : Region.ready md ops listed = []) (h : Q .normal a w) : ∀ fuel, wpAnyL P md ops Q S last fuel listed a w
  | 0 => ⟨hr, h⟩
  | _ + 1 => ⟨fun _ => h, by rw [hr]; simp⟩
theorem wp_region_last {id : Nat} {a : Act} {w : World} (S : World → Prop) (last : Nat) (hm : P.follows .mixedOrders = true) (h : wpAnyL P .any ops Q S last ops.size (Array.replicate ops.size false) a w.drew) : (Code.region id ops true).wp P Q a w :=
  wp_region_any hm (wpAny_of_last _ _ _ _ h)
end
end Go.Proofs.YtkolflcjkofleaaDoor

namespace Go.Proofs.YtkolflcjkofleaaDoor
open Go.ChangeShapes Go.WideShapes Go.ChangeAt Go.RowKit
set_option linter.unusedVariables false
set_option maxRecDepth 8000
set_option linter.unusedSimpArgs false

theorem grownBy_cell {W : World} {g i : Nat} (v : Value) : W.grownBy (W.setCell ⟨g, i, none⟩ v) (some g) := ⟨rfl, rfl, rfl, by simp [World.setCell], fun k _ hk => heap_setCell_other W ⟨g, i, none⟩ k v (fun e => hk (by rw [show k = g from e]))⟩
theorem below_none {w w' : World} (h : w.grownBy w' none) : Below w.heap.size w w' := (Below.refl _ _).grown h (Nat.le_refl _) (fun k e => by cases e)
theorem exL_one (x : Ex) (c : Option Addr) (cp : Nat) : ∀ u ∈ exL x c cp, u.oneCell' = true := by
  intro u hu
  simp only [exL, List.mem_cons, List.not_mem_nil, or_false] at hu
  rcases hu with rfl | rfl | rfl | rfl <;> rfl
set_option maxHeartbeats 8000000 in
theorem xo_neg (t : TypeId) (x : Value) (e : Ex) (h1 : ∀ w, Calls Tryd.prog 47 #[.iface t x] w (XoR e w)) (w : World) : Calls Tryd.prog 47 #[.iface 104 (.agg #[.iface t x])] w (XoR ⟨4, 0, E0, [e]⟩ w) := by
  obtain ⟨i0, hi, hz0, hz1, hz2⟩ := info_parts infoX
  have KD := hide (fun w => kind_neg 0 E0 t 0 x .nilIface w)
  have t0 := taN_num 104 (.agg #[.iface t x]) (by decide)
  have t1 := taN_sect 104 (.agg #[.iface t x]) (by decide)
  have t2 := taN_sym 104 (.agg #[.iface t x]) (by decide)
  have t3 := taN_glob 104 (.agg #[.iface t x]) (by decide)
  have m := me_neg (.iface t x)
  have X0 := hide (Xb.new2 (n := 0) (s := ⟨#[]⟩) (v := .slice none 0 0) w 4)
  have H1 := hide h1
  unfold XoR at H1
  generalize hX : XoR ⟨4, 0, E0, [e]⟩ w = X
  have HX := hide hX
  clear hX h1
  go_enter Tryd.func47, Tryd.ntmps47
  go_wp2_with (first | (go_at_call 71; refine (unhide KD _).mono ?_; rintro r w' ⟨rfl, hw'⟩; rw [hw']; clear hw' w'))
  generalize (w.alloc (.cells #[.int .i64 0, .int .i64 0, .string ⟨#[]⟩, .slice none 0 0] 26)).alloc (.cells #[.int .i64 4, .int .i64 0, .string ⟨#[]⟩, .slice none 0 0] 26) = W at *
  refine (parts1 t x W).mono ?_
  rintro r w1 ⟨gp, rfl, hgp, hb1⟩
  have X1 := hide ((unhide X0).later hb1)
  have G1 := hide hgp
  have c0 := Lib.cell_of_heap hgp 0
  clear hb1 X0 hgp t0 t1 t2 t3 m KD
  go_wp2
  refine wp_loop_rounds 2 ?_
  rw [rounds_succ]
  go_wp2_with fail
  clear c0
  have XD0 := hide ((unhide X1).later (below_drew (w := w1)))
  have GD0 := hide (row_keep (unhide G1) (below_drew (w := w1)))
  have SD0 : w1.drew.cell? ⟨w.heap.size + 1, 3, none⟩ = some (.slice none 0 0) := Lib.cell_of_heap (unhide XD0).box 3
  have HSD0 := hide SD0
  clear X1 G1 SD0
  refine wp_region_last (fun v => v.cell? ⟨w.heap.size + 1, 3, none⟩ = some (.slice none 0 0)) 7 (by kernel_rfl) ?_
  generalize w1.drew = v0 at *
  refine wpAnyL_takeW (i := 0) (v := .pointer (some ⟨w.heap.size + 1, 3, none⟩)) rfl (by kernel_rfl) (by kernel_rfl) (by kernel_rfl) (by kernel_rfl) (fun _ _ _ h => h) (Or.inl ⟨by rfl, fun w hc => ?_⟩) (.inl (unhide HSD0)) ?_
  · clear hc; go_simp
  go_simp
  refine wpAnyL_takeS (i := 1) (v := .slice none 0 0) rfl (by kernel_rfl) (by kernel_rfl) (by kernel_rfl) (by kernel_rfl) (by kernel_rfl) (fun _ _ _ h => h) (Or.inl ⟨by rfl, fun w hc => ?_⟩) (unhide HSD0) ?_
  · go_simp
  go_simp
  refine wpAnyL_takeW (i := 2) (v := .iface t x) rfl (by kernel_rfl) (by kernel_rfl) (by kernel_rfl) (by kernel_rfl) (fun _ _ _ h => h) (Or.inl ⟨by rfl, fun w hc => ?_⟩) (.inl (unhide HSD0)) ?_
  · clear hc; go_simp
  go_simp
  refine wpAnyL_one (i := 3) (by kernel_rfl) rfl (fun K2 hK => ?_)
  go_simp
  refine (unhide H1 v0).mono ?_
  rintro r wa0 ⟨c0, cp0, rfl, hn0, hb0⟩
  unfold Ex.cs
  have XA0 := hide ((unhide XD0).later hb0)
  have GA0 := hide (row_keep (unhide GD0) hb0)
  have NA0 := hide hn0.half
  have hl0 := (unhide XD0).lt
  have hs0 := hb0.size
  have SA0 := hide (show wa0.cell? ⟨w.heap.size + 1, 3, none⟩ = some (.slice none 0 0) from Lib.cell_of_heap (unhide XA0).box 3)
  refine hK.out _ _ (fun _ => unhide SA0) ?_
  clear hK K2
  clear hn0 hb0 XD0 GD0 HSD0
  refine wpAnyL_one (i := 4) (by kernel_rfl) rfl (fun K2 hK => ?_)
  go_simp
  have hb0 := below_new wa0 (.cells #[.int .i64 e.k, .int .i64 e.n, .string e.s, .slice c0 e.l.length cp0] 26)
  have XB0 := hide ((unhide XA0).later hb0)
  have GB0 := hide (row_keep (unhide GA0) hb0)
  have NB0 := hide ((unhide NA0).later hb0)
  have CN0 := hide (cell_newF wa0 #[.int .i64 e.k, .int .i64 e.n, .string e.s, .slice c0 e.l.length cp0] 26)
  have SB0 := hide (show (wa0.alloc (.cells #[.int .i64 e.k, .int .i64 e.n, .string e.s, .slice c0 e.l.length cp0] 26)).cell? ⟨w.heap.size + 1, 3, none⟩ = some (.slice none 0 0) from Lib.cell_of_heap (unhide XB0).box 3)
  have hz0 : (wa0.alloc (.cells #[.int .i64 e.k, .int .i64 e.n, .string e.s, .slice c0 e.l.length cp0] 26)).heap.size = wa0.heap.size + 1 := by simp
  have HZ0 := hide hz0
  refine hK.out _ _ (fun _ => unhide SB0) ?_
  clear hK K2
  clear hb0 hz0 XA0 GA0 NA0 SA0
  generalize hM0 : wa0.heap.size = M0 at *
  have HM0 := hide hM0
  clear hM0
  generalize wa0.alloc (.cells #[.int .i64 e.k, .int .i64 e.n, .string e.s, .slice c0 e.l.length cp0] 26) = wb0 at *
  refine wpAnyL_one (i := 5) (by kernel_rfl) rfl (fun K2 hK => ?_)
  rw [if_pos (by rfl)]
  refine wp_append_to (.tmp 48) (.tmp 51) 24 rfl M0 26 i0 (.agg #[.int .i64 0, .int .i64 0, .string ⟨#[]⟩, .slice none 0 0]) 4 56 Tryd.underlying24 hi hz0 hz1 hz2 rfl (by decide) (.slice none 0 0) 0 ([]) rfl (World.ownsRow_nil _ _ _ _) ⟨M0, 0, none⟩ 1 1 (exL e c0 cp0) rfl rfl (unhide CN0) (exL_one _ _ _) (by unfold maxLen; omega) (by omega) (by have := unhide HZ0; omega) (by omega) ?_
  intro g0 cap0 wc0 hown0 hgrow0 hwh0
  have hbc := below_none hgrow0
  have XC := hide ((unhide XB0).later hbc)
  have NC := hide ((unhide NB0).later hbc)
  have OC := hide (show wc0.ownsRow M0 26 4 (.slice (some ⟨g0, 0, none⟩) 1 cap0) 1 (exL e c0 cp0) from hown0)
  have hgM : M0 ≤ g0 := (World.ownsRow.lt hown0 g0 rfl).1
  have SC := hide (show wc0.cell? ⟨w.heap.size + 1, 3, none⟩ = some (.slice none 0 0) from Lib.cell_of_heap (unhide XC).box 3)
  have fz : wc0.frozen? ⟨w.heap.size + 1, 3, none⟩ = false := by simp [World.frozen?, (unhide XC).box]
  have c3 := Lib.cell_of_heap (unhide XC).box 3
  refine hK.out _ _ (fun _ => unhide SC) ?_
  clear hK K2
  clear hbc hown0 hgrow0 hwh0 XB0 GB0 NB0 SB0 CN0
  refine wpAnyL_takeW (i := 6) (v := .pointer (some ⟨w.heap.size + 1, 3, none⟩)) rfl (by kernel_rfl) (by kernel_rfl) (by kernel_rfl) (by kernel_rfl) (fun _ _ _ h => h) (Or.inl ⟨by rfl, fun w hc => ?_⟩) (.inl (unhide SC)) ?_
  · clear hc; go_simp
  go_simp
  refine wpAnyL_one (i := 7) (by kernel_rfl) rfl (fun K2 hK => ?_)
  go_simp
  refine hK.out _ _ (fun h => absurd h (by decide)) ?_
  clear hK K2
  refine wpAnyL_done (by kernel_rfl) ?_ _
  have XE := hide ((unhide XC).set3 (.slice (some ⟨g0, 0, none⟩) 1 cap0))
  have hgc := grownBy_cell (W := wc0) (g := w.heap.size + 1) (i := 3) (.slice (some ⟨g0, 0, none⟩) 1 cap0)
  have NE := (unhide NC).drawn hgc (by omega)
  have OE := World.ownsRow.kept (unhide OC) hgc (.inr (by simp [Value.ownBlock]; omega))
  have NW := hide ((NE.row1 OE hs0 4 0 E0).lower (show w.heap.size + 1 ≤ v0.heap.size by omega))
  clear hgc NE OE XC NC OC SC fz c3 HZ0 HM0
  generalize wc0.setCell ⟨w.heap.size + 1, 3, none⟩ (.slice (some ⟨g0, 0, none⟩) 1 cap0) = we0 at *
  go_wp2
  rw [rounds_succ]
  go_wp2_with (first | (refine wpList_load_row rfl 26 _ rfl (w.heap.size + 1) rfl 26 #[.int .i64 4, .int .i64 0, .string ⟨#[]⟩, .slice (some ⟨g0, 0, none⟩) 1 cap0] (0, 0) _ (unhide XE).box Tryd.underlying26 rfl (by kernel_rfl) ?_) | (refine wpList_store_row rfl 26 _ _ rfl w.heap.size #[.int .i64 4, .int .i64 0, .string ⟨#[]⟩, .slice (some ⟨g0, 0, none⟩) 1 cap0] rfl rfl 26 _ (unhide XE).res szE rfl (ex_one _ _ _ _ _ _) ?_))
  refine bodyPost_ret (results_cell_row (P := Tryd.prog) rfl _ _ w.heap.size 26 #[.int .i64 4, .int .i64 0, .string ⟨#[]⟩, .slice (some ⟨g0, 0, none⟩) 1 cap0] (0, 0) _ rfl (setRow_heap _ _ _ _ _ _ (unhide XE).res) Tryd.underlying26 rfl szE) rfl ?_
  rw [← unhide HX]
  exact Xb.end (l := [e]) (unhide XE) (unhide NW) _
set_option maxHeartbeats 16000000 in
theorem xo_two (T : TypeId) (k : Int) (t u : TypeId) (x y : Value) (e f : Ex) (n0 : T ≠ 88) (n1 : T ≠ 115) (n2 : T ≠ 117) (n3 : T ≠ 118) (m : ∀ w, (method 271 T (.agg #[.iface t x, .iface u y]) "loop.example/g00329/impl.parts").run Tryd.prog w = .ok (123, .agg #[.iface t x, .iface u y]) w) (kd : ∀ w, Calls Tryd.prog 71 #[.iface T (.agg #[.iface t x, .iface u y])] w fun r w' => r = .returned (.int .i64 k) ∧ w' = w) (h1 : ∀ w, Calls Tryd.prog 47 #[.iface t x] w (XoR e w)) (h2 : ∀ w, Calls Tryd.prog 47 #[.iface u y] w (XoR f w)) (w : World) : Calls Tryd.prog 47 #[.iface T (.agg #[.iface t x, .iface u y])] w (XoR ⟨k, 0, E0, [e, f]⟩ w) := by
  obtain ⟨i0, hi, hz0, hz1, hz2⟩ := info_parts infoX
  have KD := hide kd
  have t0 := taN_num T (.agg #[.iface t x, .iface u y]) n0
  have t1 := taN_sect T (.agg #[.iface t x, .iface u y]) n1
  have t2 := taN_sym T (.agg #[.iface t x, .iface u y]) n2
  have t3 := taN_glob T (.agg #[.iface t x, .iface u y]) n3
  have X0 := hide (Xb.new2 (n := 0) (s := ⟨#[]⟩) (v := .slice none 0 0) w k)
  have H1 := hide h1
  have H2 := hide h2
  unfold XoR at H1 H2
  generalize hX : XoR ⟨k, 0, E0, [e, f]⟩ w = X
  have HX := hide hX
  clear hX h1 h2 kd n0 n1 n2 n3
  go_enter Tryd.func47, Tryd.ntmps47
  go_wp2_with (first | (go_at_call 71; refine (unhide KD _).mono ?_; rintro r w' ⟨rfl, hw'⟩; rw [hw']; clear hw' w'))
  generalize (w.alloc (.cells #[.int .i64 0, .int .i64 0, .string ⟨#[]⟩, .slice none 0 0] 26)).alloc (.cells #[.int .i64 k, .int .i64 0, .string ⟨#[]⟩, .slice none 0 0] 26) = W at *
  refine (parts2 t u x y W).mono ?_
  rintro r w1 ⟨gp, rfl, hgp, hb1⟩
  have X1 := hide ((unhide X0).later hb1)
  have G1 := hide hgp
  have c0 := Lib.cell_of_heap hgp 0
  have hgn : gp ≠ w.heap.size + 1 := fun e => by have h := (unhide X1).box; rw [← e, hgp] at h; cases h
  clear hb1 X0 hgp t0 t1 t2 t3 m KD
  go_wp2
  refine wp_loop_rounds 3 ?_
  rw [rounds_succ]
  go_wp2_with fail
  clear c0
  have XD0 := hide ((unhide X1).later (below_drew (w := w1)))
  have GD0 := hide (row_keep (unhide G1) (below_drew (w := w1)))
  have SD0 : w1.drew.cell? ⟨w.heap.size + 1, 3, none⟩ = some (.slice none 0 0) := Lib.cell_of_heap (unhide XD0).box 3
  have HSD0 := hide SD0
  clear X1 G1 SD0
  refine wp_region_last (fun v => v.cell? ⟨w.heap.size + 1, 3, none⟩ = some (.slice none 0 0)) 7 (by kernel_rfl) ?_
  generalize w1.drew = v0 at *
  refine wpAnyL_takeW (i := 0) (v := .pointer (some ⟨w.heap.size + 1, 3, none⟩)) rfl (by kernel_rfl) (by kernel_rfl) (by kernel_rfl) (by kernel_rfl) (fun _ _ _ h => h) (Or.inl ⟨by rfl, fun w hc => ?_⟩) (.inl (unhide HSD0)) ?_
  · clear hc; go_simp
  go_simp
  refine wpAnyL_takeS (i := 1) (v := .slice none 0 0) rfl (by kernel_rfl) (by kernel_rfl) (by kernel_rfl) (by kernel_rfl) (by kernel_rfl) (fun _ _ _ h => h) (Or.inl ⟨by rfl, fun w hc => ?_⟩) (unhide HSD0) ?_
  · go_simp
  go_simp
  refine wpAnyL_takeW (i := 2) (v := .iface t x) rfl (by kernel_rfl) (by kernel_rfl) (by kernel_rfl) (by kernel_rfl) (fun _ _ _ h => h) (Or.inl ⟨by rfl, fun w hc => ?_⟩) (.inl (unhide HSD0)) ?_
  · clear hc; go_simp
  go_simp
  refine wpAnyL_one (i := 3) (by kernel_rfl) rfl (fun K2 hK => ?_)
  go_simp
  refine (unhide H1 v0).mono ?_
  rintro r wa0 ⟨c0, cp0, rfl, hn0, hb0⟩
  unfold Ex.cs
  have XA0 := hide ((unhide XD0).later hb0)
  have GA0 := hide (row_keep (unhide GD0) hb0)
  have NA0 := hide hn0.half
  have hl0 := (unhide XD0).lt
  have hs0 := hb0.size
  have SA0 := hide (show wa0.cell? ⟨w.heap.size + 1, 3, none⟩ = some (.slice none 0 0) from Lib.cell_of_heap (unhide XA0).box 3)
  refine hK.out _ _ (fun _ => unhide SA0) ?_
  clear hK K2
  clear hn0 hb0 XD0 GD0 HSD0
  refine wpAnyL_one (i := 4) (by kernel_rfl) rfl (fun K2 hK => ?_)
  go_simp
  have hb0 := below_new wa0 (.cells #[.int .i64 e.k, .int .i64 e.n, .string e.s, .slice c0 e.l.length cp0] 26)
  have XB0 := hide ((unhide XA0).later hb0)
  have GB0 := hide (row_keep (unhide GA0) hb0)
  have NB0 := hide ((unhide NA0).later hb0)
  have CN0 := hide (cell_newF wa0 #[.int .i64 e.k, .int .i64 e.n, .string e.s, .slice c0 e.l.length cp0] 26)
  have SB0 := hide (show (wa0.alloc (.cells #[.int .i64 e.k, .int .i64 e.n, .string e.s, .slice c0 e.l.length cp0] 26)).cell? ⟨w.heap.size + 1, 3, none⟩ = some (.slice none 0 0) from Lib.cell_of_heap (unhide XB0).box 3)
  have hz0 : (wa0.alloc (.cells #[.int .i64 e.k, .int .i64 e.n, .string e.s, .slice c0 e.l.length cp0] 26)).heap.size = wa0.heap.size + 1 := by simp
  have HZ0 := hide hz0
  refine hK.out _ _ (fun _ => unhide SB0) ?_
  clear hK K2
  clear hb0 hz0 XA0 GA0 NA0 SA0
  generalize hM0 : wa0.heap.size = M0 at *
  have HM0 := hide hM0
  clear hM0
  generalize wa0.alloc (.cells #[.int .i64 e.k, .int .i64 e.n, .string e.s, .slice c0 e.l.length cp0] 26) = wb0 at *
  refine wpAnyL_one (i := 5) (by kernel_rfl) rfl (fun K2 hK => ?_)
  rw [if_pos (by rfl)]
  refine wp_append_to (.tmp 48) (.tmp 51) 24 rfl M0 26 i0 (.agg #[.int .i64 0, .int .i64 0, .string ⟨#[]⟩, .slice none 0 0]) 4 56 Tryd.underlying24 hi hz0 hz1 hz2 rfl (by decide) (.slice none 0 0) 0 ([]) rfl (World.ownsRow_nil _ _ _ _) ⟨M0, 0, none⟩ 1 1 (exL e c0 cp0) rfl rfl (unhide CN0) (exL_one _ _ _) (by unfold maxLen; omega) (by omega) (by have := unhide HZ0; omega) (by omega) ?_
  intro g0 cap0 wc0 hown0 hgrow0 hwh0
  have hbc := below_none hgrow0
  have XC := hide ((unhide XB0).later hbc)
  have GC := hide (row_keep (unhide GB0) hbc)
  have NC := hide ((unhide NB0).later hbc)
  have OC := hide (show wc0.ownsRow M0 26 4 (.slice (some ⟨g0, 0, none⟩) 1 cap0) 1 (exL e c0 cp0) from hown0)
  have hgM : M0 ≤ g0 := (World.ownsRow.lt hown0 g0 rfl).1
  have hgL : g0 < wc0.heap.size := (World.ownsRow.lt hown0 g0 rfl).2
  have SC := hide (show wc0.cell? ⟨w.heap.size + 1, 3, none⟩ = some (.slice none 0 0) from Lib.cell_of_heap (unhide XC).box 3)
  have fz : wc0.frozen? ⟨w.heap.size + 1, 3, none⟩ = false := by simp [World.frozen?, (unhide XC).box]
  have c3 := Lib.cell_of_heap (unhide XC).box 3
  refine hK.out _ _ (fun _ => unhide SC) ?_
  clear hK K2
  clear hbc hown0 hgrow0 hwh0 XB0 GB0 NB0 SB0 CN0
  refine wpAnyL_takeW (i := 6) (v := .pointer (some ⟨w.heap.size + 1, 3, none⟩)) rfl (by kernel_rfl) (by kernel_rfl) (by kernel_rfl) (by kernel_rfl) (fun _ _ _ h => h) (Or.inl ⟨by rfl, fun w hc => ?_⟩) (.inl (unhide SC)) ?_
  · clear hc; go_simp
  go_simp
  refine wpAnyL_one (i := 7) (by kernel_rfl) rfl (fun K2 hK => ?_)
  go_simp
  refine hK.out _ _ (fun h => absurd h (by decide)) ?_
  clear hK K2
  refine wpAnyL_done (by kernel_rfl) ?_ _
  have XE := hide ((unhide XC).set3 (.slice (some ⟨g0, 0, none⟩) 1 cap0))
  have hgc := grownBy_cell (W := wc0) (g := w.heap.size + 1) (i := 3) (.slice (some ⟨g0, 0, none⟩) 1 cap0)
  have RN0 := hide ((unhide NC).drawn hgc (by omega))
  have RO0 := hide (World.ownsRow.kept (unhide OC) hgc (.inr (by simp [Value.ownBlock]; omega)))
  have GE := hide ((hgc.block _ (Array.getElem?_eq_some_iff.1 (unhide GC)).1 (fun e => by simp at e; omega)).trans (unhide GC))
  have hgE : g0 < (wc0.setCell ⟨w.heap.size + 1, 3, none⟩ (.slice (some ⟨g0, 0, none⟩) 1 cap0)).heap.size := Nat.lt_of_lt_of_le hgL hgc.size
  have c1 := Lib.cell_of_heap (unhide GE) 1
  clear hgc XC NC OC GC SC fz c3 HZ0 HM0 hgL
  generalize wc0.setCell ⟨w.heap.size + 1, 3, none⟩ (.slice (some ⟨g0, 0, none⟩) 1 cap0) = we0 at *
  go_wp2
  rw [rounds_succ]
  go_wp2_with fail
  clear c1
  have hgD : g0 < we0.drew.heap.size := hgE
  have XD1 := hide ((unhide XE).later (below_drew (w := we0)))
  have GD1 := hide (row_keep (unhide GE) (below_drew (w := we0)))
  have RND := hide ((unhide RN0).later (below_drew (w := we0)))
  have ROD := hide (ownsRow_later (unhide RO0) (below_drew (w := we0)))
  have SD1 : we0.drew.cell? ⟨w.heap.size + 1, 3, none⟩ = some (.slice (some ⟨g0, 0, none⟩) 1 cap0) := Lib.cell_of_heap (unhide XD1).box 3
  have HSD1 := hide SD1
  clear XE GE SD1
  refine wp_region_last (fun v => v.cell? ⟨w.heap.size + 1, 3, none⟩ = some (.slice (some ⟨g0, 0, none⟩) 1 cap0)) 7 (by kernel_rfl) ?_
  generalize we0.drew = v1 at *
  refine wpAnyL_takeW (i := 0) (v := .pointer (some ⟨w.heap.size + 1, 3, none⟩)) rfl (by kernel_rfl) (by kernel_rfl) (by kernel_rfl) (by kernel_rfl) (fun _ _ _ h => h) (Or.inl ⟨by rfl, fun w hc => ?_⟩) (.inl (unhide HSD1)) ?_
  · clear hc; go_simp
  go_simp
  refine wpAnyL_takeS (i := 1) (v := .slice (some ⟨g0, 0, none⟩) 1 cap0) rfl (by kernel_rfl) (by kernel_rfl) (by kernel_rfl) (by kernel_rfl) (by kernel_rfl) (fun _ _ _ h => h) (Or.inl ⟨by rfl, fun w hc => ?_⟩) (unhide HSD1) ?_
  · go_simp
  go_simp
  refine wpAnyL_takeW (i := 2) (v := .iface u y) rfl (by kernel_rfl) (by kernel_rfl) (by kernel_rfl) (by kernel_rfl) (fun _ _ _ h => h) (Or.inl ⟨by rfl, fun w hc => ?_⟩) (.inl (unhide HSD1)) ?_
  · clear hc; go_simp
  go_simp
  refine wpAnyL_one (i := 3) (by kernel_rfl) rfl (fun K2 hK => ?_)
  go_simp
  refine (unhide H2 v1).mono ?_
  rintro r wa1 ⟨c1, cp1, rfl, hn1, hb1⟩
  unfold Ex.cs
  have XA1 := hide ((unhide XD1).later hb1)
  have GA1 := hide (row_keep (unhide GD1) hb1)
  have RNA := hide ((unhide RND).later (hb1))
  have ROA := hide (ownsRow_later (unhide ROD) (hb1))
  have NA1 := hide hn1.half
  have hl1 := (unhide XD1).lt
  have hs1 := hb1.size
  have SA1 := hide (show wa1.cell? ⟨w.heap.size + 1, 3, none⟩ = some (.slice (some ⟨g0, 0, none⟩) 1 cap0) from Lib.cell_of_heap (unhide XA1).box 3)
  refine hK.out _ _ (fun _ => unhide SA1) ?_
  clear hK K2
  clear hn1 hb1 XD1 GD1 HSD1
  refine wpAnyL_one (i := 4) (by kernel_rfl) rfl (fun K2 hK => ?_)
  go_simp
  have hb1 := below_new wa1 (.cells #[.int .i64 f.k, .int .i64 f.n, .string f.s, .slice c1 f.l.length cp1] 26)
  have XB1 := hide ((unhide XA1).later hb1)
  have GB1 := hide (row_keep (unhide GA1) hb1)
  have RNB := hide ((unhide RNA).later (hb1))
  have ROB := hide (ownsRow_later (unhide ROA) (hb1))
  have NB1 := hide ((unhide NA1).later hb1)
  have CN1 := hide (cell_newF wa1 #[.int .i64 f.k, .int .i64 f.n, .string f.s, .slice c1 f.l.length cp1] 26)
  have SB1 := hide (show (wa1.alloc (.cells #[.int .i64 f.k, .int .i64 f.n, .string f.s, .slice c1 f.l.length cp1] 26)).cell? ⟨w.heap.size + 1, 3, none⟩ = some (.slice (some ⟨g0, 0, none⟩) 1 cap0) from Lib.cell_of_heap (unhide XB1).box 3)
  have hz1 : (wa1.alloc (.cells #[.int .i64 f.k, .int .i64 f.n, .string f.s, .slice c1 f.l.length cp1] 26)).heap.size = wa1.heap.size + 1 := by simp
  have HZ1 := hide hz1
  refine hK.out _ _ (fun _ => unhide SB1) ?_
  clear hK K2
  clear hb1 hz1 XA1 GA1 NA1 SA1
  generalize hM1 : wa1.heap.size = M1 at *
  have HM1 := hide hM1
  clear hM1
  generalize wa1.alloc (.cells #[.int .i64 f.k, .int .i64 f.n, .string f.s, .slice c1 f.l.length cp1] 26) = wb1 at *
  refine wpAnyL_one (i := 5) (by kernel_rfl) rfl (fun K2 hK => ?_)
  rw [if_pos (by rfl)]
  refine wp_append_to (.tmp 48) (.tmp 51) 24 rfl M0 26 i0 (.agg #[.int .i64 0, .int .i64 0, .string ⟨#[]⟩, .slice none 0 0]) 4 56 Tryd.underlying24 hi hz0 hz1 hz2 rfl (by decide) (.slice (some ⟨g0, 0, none⟩) 1 cap0) 1 (exL e c0 cp0) rfl (unhide ROB) ⟨M1, 0, none⟩ 1 1 (exL f c1 cp1) rfl rfl (unhide CN1) (exL_one _ _ _) (by unfold maxLen; omega) (by omega) (by have := unhide HZ1; omega) (by omega) ?_
  intro g1 cap1 wc1 hown1 hgrow1 hwh1
  have hgr : wb1.grownBy wc1 (some g0) := hgrow1
  have XC := hide ((unhide XB1).grown hgr (by omega))
  have NC := hide ((unhide NB1).drawn hgr hgD)
  have RC := hide ((unhide RNB).beyond hgr hgM)
  have OC := hide (show wc1.ownsRow M0 26 4 (.slice (some ⟨g1, 0, none⟩) 2 cap1) 2 (exL e c0 cp0 ++ exL f c1 cp1) from hown1)
  have hgw : g1 < v1.heap.size ∨ M1 ≤ g1 := by
    rcases hwh1 with h | h
    · left
      have : g0 = g1 := by simpa [Value.ownBlock] using h
      omega
    · right
      have := unhide HZ1
      omega
  have hgN : M0 ≤ g1 := (World.ownsRow.lt hown1 g1 rfl).1
  have SC := hide (show wc1.cell? ⟨w.heap.size + 1, 3, none⟩ = some (.slice (some ⟨g0, 0, none⟩) 1 cap0) from Lib.cell_of_heap (unhide XC).box 3)
  have fz : wc1.frozen? ⟨w.heap.size + 1, 3, none⟩ = false := by simp [World.frozen?, (unhide XC).box]
  have c3 := Lib.cell_of_heap (unhide XC).box 3
  refine hK.out _ _ (fun _ => unhide SC) ?_
  clear hK K2
  clear hgr hown1 hgrow1 hwh1 XB1 GB1 NB1 SB1 CN1 RNB ROB RNA ROA RND ROD RN0 RO0
  refine wpAnyL_takeW (i := 6) (v := .pointer (some ⟨w.heap.size + 1, 3, none⟩)) rfl (by kernel_rfl) (by kernel_rfl) (by kernel_rfl) (by kernel_rfl) (fun _ _ _ h => h) (Or.inl ⟨by rfl, fun w hc => ?_⟩) (.inl (unhide SC)) ?_
  · clear hc; go_simp
  go_simp
  refine wpAnyL_one (i := 7) (by kernel_rfl) rfl (fun K2 hK => ?_)
  go_simp
  refine hK.out _ _ (fun h => absurd h (by decide)) ?_
  clear hK K2
  refine wpAnyL_done (by kernel_rfl) ?_ _
  have XE := hide ((unhide XC).set3 (.slice (some ⟨g1, 0, none⟩) 2 cap1))
  have hgc := grownBy_cell (W := wc1) (g := w.heap.size + 1) (i := 3) (.slice (some ⟨g1, 0, none⟩) 2 cap1)
  have NE := (unhide NC).drawn hgc (by omega)
  have RE := (unhide RC).drawn hgc (by omega)
  have OE := World.ownsRow.kept (unhide OC) hgc (.inr (by simp [Value.ownBlock]; omega))
  have NW := hide ((RE.row2 NE OE hs0 (by omega) hgw k 0 E0).lower (show w.heap.size + 1 ≤ v0.heap.size by omega))
  clear hgc NE RE OE XC NC RC OC SC fz c3 HZ1 HM1
  generalize wc1.setCell ⟨w.heap.size + 1, 3, none⟩ (.slice (some ⟨g1, 0, none⟩) 2 cap1) = we1 at *
  go_wp2
  rw [rounds_succ]
  go_wp2_with (first | (refine wpList_load_row rfl 26 _ rfl (w.heap.size + 1) rfl 26 #[.int .i64 k, .int .i64 0, .string ⟨#[]⟩, .slice (some ⟨g1, 0, none⟩) 2 cap1] (0, 0) _ (unhide XE).box Tryd.underlying26 rfl (by kernel_rfl) ?_) | (refine wpList_store_row rfl 26 _ _ rfl w.heap.size #[.int .i64 k, .int .i64 0, .string ⟨#[]⟩, .slice (some ⟨g1, 0, none⟩) 2 cap1] rfl rfl 26 _ (unhide XE).res szE rfl (ex_one _ _ _ _ _ _) ?_))
  refine bodyPost_ret (results_cell_row (P := Tryd.prog) rfl _ _ w.heap.size 26 #[.int .i64 k, .int .i64 0, .string ⟨#[]⟩, .slice (some ⟨g1, 0, none⟩) 2 cap1] (0, 0) _ rfl (setRow_heap _ _ _ _ _ _ (unhide XE).res) Tryd.underlying26 rfl szE) rfl ?_
  rw [← unhide HX]
  exact Xb.end (l := [e, f]) (unhide XE) (unhide NW) _
theorem name_szG {s : ByteArray} (h : nameB s = true) : s.size ≤ 6 := by
  unfold nameB at h
  rw [Bool.and_eq_true] at h
  obtain ⟨c, r, _, _, _, hl⟩ := form_open h.1
  rw [← size_len]
  exact hl
def XoP (d : Nat) : Prop := ∀ (e : Ex) (w : World), okF d false e = true → Calls Tryd.prog 47 #[tv e] w (XoR e w)
theorem xo_all : ∀ d : Nat, XoP d := by
  intro d
  induction d with
  | zero => intro e w h; cases h
  | succ d ihd =>
    intro e w h
    rcases ok_cases h with ⟨n, hn, rfl⟩ | ⟨s, hs, rfl⟩ | rfl | ⟨a, ha, rfl⟩ | ⟨k, a, b, hk, ha, hb, rfl⟩ | ⟨n, hn, rfl⟩ | ⟨s, hs, rfl⟩
    · rw [tv_num]; exact xo_num n w
    · rw [tv_sym]
      refine xo_sym s ?_ w
      have := name_szG hs
      omega
    · rw [tv_here]; exact xo_here w
    · obtain ⟨t, x, e1⟩ := tv_if a
      have h1 := fun w => ihd a w ha
      rw [e1] at h1
      rw [tv_neg, e1]
      exact xo_neg t x a h1 w
    · obtain ⟨t, x, e1⟩ := tv_if a
      obtain ⟨u, y, e2⟩ := tv_if b
      have h1 := fun w => ihd a w ha
      have h2 := fun w => ihd b w hb
      rw [e1] at h1
      rw [e2] at h2
      rw [tv_two hk, e1, e2]
      have : k = 5 ∨ k = 6 ∨ k = 7 ∨ k = 8 ∨ k = 9 ∨ k = 10 := by omega
      rcases this with rfl | rfl | rfl | rfl | rfl | rfl
      · exact xo_two 134 5 t u x y a b (by decide) (by decide) (by decide) (by decide) (me_add (.iface t x) (.iface u y)) (fun w => kind_add 0 E0 t u x y w) h1 h2 w
      · exact xo_two 135 6 t u x y a b (by decide) (by decide) (by decide) (by decide) (me_sub (.iface t x) (.iface u y)) (fun w => kind_sub 0 E0 t u x y w) h1 h2 w
      · exact xo_two 136 7 t u x y a b (by decide) (by decide) (by decide) (by decide) (me_mul (.iface t x) (.iface u y)) (fun w => kind_mul 0 E0 t u x y w) h1 h2 w
      · exact xo_two 137 8 t u x y a b (by decide) (by decide) (by decide) (by decide) (me_div (.iface t x) (.iface u y)) (fun w => kind_div 0 E0 t u x y w) h1 h2 w
      · exact xo_two 138 9 t u x y a b (by decide) (by decide) (by decide) (by decide) (me_and (.iface t x) (.iface u y)) (fun w => kind_and 0 E0 t u x y w) h1 h2 w
      · exact xo_two 139 10 t u x y a b (by decide) (by decide) (by decide) (by decide) (me_or (.iface t x) (.iface u y)) (fun w => kind_or 0 E0 t u x y w) h1 h2 w
    · rw [tv_sect]; exact xo_sect n w
    · rw [tv_glob]
      refine xo_glob s ?_ w
      have := name_szG hs
      omega
end Go.Proofs.YtkolflcjkofleaaDoor

namespace Go.Proofs.YtkolflcjkofleaaDoor
open Go.ChangeShapes Go.WideShapes Go.ChangeAt Go.RowKit
set_option linter.unusedVariables false
set_option maxRecDepth 8000
set_option linter.unusedSimpArgs false

/-- A term, where its parts lie, and how much room they have. -/
structure Tc where
  x : Ex
  a : Option Addr
  c : Nat
def cellsX : List Tc → List Value
  | [] => []
  | t :: r => exL t.x t.a t.c ++ cellsX r
theorem cellsX_len (l : List Tc) : (cellsX l).length = l.length * 4 := by
  induction l with
  | nil => rfl
  | cons t r ih => simp only [cellsX, List.length_append, ih, List.length_cons, exL, List.length_nil]; omega
theorem cellsX_app (a b : List Tc) : cellsX (a ++ b) = cellsX a ++ cellsX b := by
  induction a with
  | nil => rfl
  | cons t r ih => simp only [List.cons_append, cellsX, ih, List.append_assoc]
theorem cellsX_at : ∀ (l : List Tc) (i : Nat) (t : Tc) (o : Nat), l[i]? = some t → o < 4 → (cellsX l)[i * 4 + o]? = (exL t.x t.a t.c)[o]?
  | [], i, t, o, h, _ => by simp at h
  | u :: r, 0, t, o, h, ho => by
    have : u = t := by simpa using h
    subst this
    simp only [cellsX]
    rw [List.getElem?_append_left (by simp [exL]; omega)]
    congr 1
    omega
  | u :: r, i + 1, t, o, h, ho => by
    simp only [cellsX]
    rw [List.getElem?_append_right (by simp [exL]; omega)]
    have := cellsX_at r i t o (by simpa using h) ho
    rw [← this]
    congr 1
    simp [exL]
    omega
theorem cellsX_one (l : List Tc) : ∀ u ∈ cellsX l, u.oneCell' = true := by
  induction l with
  | nil => intro u hu; cases hu
  | cons t r ih =>
    intro u hu
    simp only [cellsX] at hu
    rcases List.mem_append.1 hu with h | h
    · simp only [exL, List.mem_cons, List.not_mem_nil, or_false] at h
      rcases h with rfl | rfl | rfl | rfl <;> rfl
    · exact ih u h
theorem cellsX_of : ∀ (l : List Tc) (j : Nat) (u : Value), (cellsX l)[j]? = some u → ∃ t o, l[j / 4]? = some t ∧ o < 4 ∧ j = j / 4 * 4 + o ∧ (exL t.x t.a t.c)[o]? = some u := by
  intro l j u h
  have hl : j < (cellsX l).length := (List.getElem?_eq_some_iff.1 h).1
  rw [cellsX_len] at hl
  have hi : j / 4 < l.length := by omega
  refine ⟨l[j / 4], j % 4, List.getElem?_eq_getElem hi, by omega, by omega, ?_⟩
  rw [← cellsX_at l (j / 4) l[j / 4] (j % 4) (List.getElem?_eq_getElem hi) (by omega), ← h]
  congr 1
  omega
/-- The cells of a list of terms that is read. -/
theorem rdx_cells {w : World} {e : Ex} {b off : Nat} (h : RdX w 0 e (some ⟨b, off, none⟩)) : ∃ ts : List Tc, ts.map Tc.x = e.l ∧ (∀ j u, (cellsX ts)[j]? = some u → w.cell? ⟨b, off + j, none⟩ = some u) ∧ ∀ t ∈ ts, RdX w 0 t.x t.a := by
  rw [RdX_eq] at h
  rcases h with h | ⟨b', off', e1, _, hb, hc⟩
  · refine ⟨[], by rw [h]; rfl, ?_, ?_⟩
    · intro j u hu
      simp [cellsX] at hu
    · intro t ht
      cases ht
  · cases e1
    have each : ∀ i, i < e.l.length → ∃ t : Tc, t.x = xAt e.l i ∧ w.cell? ⟨b, off + i * 4, none⟩ = some (.int .i64 t.x.k) ∧ w.cell? ⟨b, off + i * 4 + 1, none⟩ = some (.int .i64 t.x.n) ∧ w.cell? ⟨b, off + i * 4 + 2, none⟩ = some (.string t.x.s) ∧ w.cell? ⟨b, off + i * 4 + 3, none⟩ = some (.slice t.a t.x.l.length t.c) ∧ RdX w 0 t.x t.a := fun i hi => by
      obtain ⟨c0, c1, c2, c, cp, c3, c4⟩ := hc i hi
      exact ⟨⟨xAt e.l i, c, cp⟩, rfl, c0, c1, c2, c3, c4⟩
    obtain ⟨T, hT⟩ := @_root_.Go.Deep.choose_lt Tc ⟨⟨X0, none, 0⟩⟩ _ _ each
    have hat : ∀ i t, ((List.range e.l.length).map T)[i]? = some t → i < e.l.length ∧ t = T i := fun i t h => by
      rw [List.getElem?_map] at h
      by_cases hi : i < e.l.length
      · rw [List.getElem?_range hi] at h
        exact ⟨hi, by simpa using h.symm⟩
      · rw [List.getElem?_eq_none (by simpa using hi)] at h
        cases h
    refine ⟨(List.range e.l.length).map T, ?_, fun j u hu => ?_, fun t ht => ?_⟩
    · apply List.ext_getElem?
      intro i
      by_cases hi : i < e.l.length
      · rw [List.getElem?_map, List.getElem?_map, List.getElem?_range hi, List.getElem?_eq_getElem hi, ← xAt_get hi, ← (hT i hi).1]
        rfl
      · rw [List.getElem?_eq_none (by simpa using hi), List.getElem?_eq_none (by omega)]
    · obtain ⟨t, o, h1, ho, hj, h2⟩ := cellsX_of _ j u hu
      obtain ⟨hi, rfl⟩ := hat _ _ h1
      obtain ⟨_, c0, c1, c2, c3, _⟩ := hT _ hi
      generalize j / 4 = i at *
      subst hj
      have : o = 0 ∨ o = 1 ∨ o = 2 ∨ o = 3 := by omega
      rcases this with rfl | rfl | rfl | rfl
      · cases h2; rw [Nat.add_zero]; exact c0
      · cases h2; rw [← Nat.add_assoc]; exact c1
      · cases h2; rw [← Nat.add_assoc]; exact c2
      · cases h2; rw [← Nat.add_assoc]; exact c3
    · obtain ⟨i, hi⟩ := List.getElem?_of_mem ht
      obtain ⟨hi2, rfl⟩ := hat _ _ hi
      exact (hT i hi2).2.2.2.2.2
/-- A row of these cells is read as these terms. -/
theorem own_rdx {w : World} {B g n cap : Nat} {ts : List Tc} (h : w.ownsRow B 26 4 (.slice (some ⟨g, 0, none⟩) n cap) n (cellsX ts)) (hn : ts.length = n) (hr : ∀ t ∈ ts, RdX w 0 t.x t.a) : RdX w 0 ⟨0, 0, E0, ts.map Tc.x⟩ (some ⟨g, 0, none⟩) := by
  obtain ⟨cur, hh, hz, hg, hc⟩ := row_take h
  refine (RdX_eq _ _ _ _).2 (.inr ⟨g, 0, rfl, Nat.zero_le _, (Array.getElem?_eq_some_iff.1 hh).1, fun i hi => ?_⟩)
  have hi : i < ts.length := by simpa using hi
  have ex : xAt (ts.map Tc.x) i = ts[i].x := by
    rw [xAt_get (by simpa using hi)]
    simp
  have hcell : ∀ o, o < 4 → w.cell? ⟨g, i * 4 + o, none⟩ = (exL ts[i].x ts[i].a ts[i].c)[o]? := fun o ho => by
    rw [Lib.cell_of_heap hh, hc _ (by omega), cellsX_at ts i ts[i] o (List.getElem?_eq_getElem hi) ho]
  show OneX w 0 g (0 + i * 4) (xAt (ts.map Tc.x) i)
  rw [ex, Nat.zero_add]
  exact ⟨hcell 0 (by omega), hcell 1 (by omega), hcell 2 (by omega), ts[i].a, ts[i].c, hcell 3 (by omega), hr _ (List.getElem_mem hi)⟩
end Go.Proofs.YtkolflcjkofleaaDoor
