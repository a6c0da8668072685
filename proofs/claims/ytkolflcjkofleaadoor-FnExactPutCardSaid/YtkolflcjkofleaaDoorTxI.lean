/- Contracts over this seat's translation, laid together; conditions stand as hypotheses of each. -/
import Derived.Test.YtkolflcjkofleaaDoorTxA
import Derived.Test.YtkolflcjkofleaaDoorTxB
import Derived.Test.YtkolflcjkofleaaDoorTxC
import Derived.Test.YtkolflcjkofleaaDoorTxD
import Derived.Test.YtkolflcjkofleaaDoorTxE
import Derived.Test.YtkolflcjkofleaaDoorTxH
import Derived.Deep.RegionHeld

namespace Go.Proofs.YtkolflcjkofleaaDoor
open Go.ChangeShapes Go.WideShapes Go.ChangeAt Go.RowKit
set_option linter.unusedVariables false
set_option maxRecDepth 8000
set_option linter.unusedSimpArgs false

theorem put_ok {here : Ex} {L : List ByteArray} {vals : List Ex} {D : Nat} (hh : okF D false here = true) (hv : ∀ i, i < vals.length → okF D false (xAt vals i) = true) (hL : L.length = vals.length) : ∀ (d : Nat) (e : Ex), okF d false e = true → okF (d + D) false (putX here L vals e) = true := by
  intro d
  induction d with
  | zero => intro e h; cases h
  | succ d ih =>
    intro e h
    have h0 := h
    have hup : okF (d + 1 + D) false e = true := ok_upto h (by omega)
    rcases ok_cases h with ⟨n, hn', rfl⟩ | ⟨s, hs, rfl⟩ | rfl | ⟨a, ha, rfl⟩ | ⟨k, a, b, hk, ha, hb, rfl⟩ | ⟨n, hn', rfl⟩ | ⟨s, hs, rfl⟩
    · rw [putX_leaf _ _ _ _ _ _ (by decide) (by decide)]; exact hup
    · cases hp : plS L s with
      | none => rw [putX_symn _ _ _ _ _ hp]; exact hup
      | some i => rw [putX_symy _ _ _ _ _ i hp]; exact ok_upto (hv i (by have := pl_ltN hp; omega)) (by omega)
    · rw [putX_here]; exact ok_upto hh (by omega)
    · rw [putX_neg, show d + 1 + D = (d + D) + 1 by omega]; exact ok_neg (ih a ha)
    · rw [putX_two _ _ _ hk, show d + 1 + D = (d + D) + 1 by omega]; exact ok_two hk (ih a ha) (ih b hb)
    · rw [putX_leaf _ _ _ _ _ _ (by decide) (by decide)]; exact hup
    · rw [putX_leaf _ _ _ _ _ _ (by decide) (by decide)]; exact hup
theorem own_eight {w : World} {B : Nat} {cs : Array Value} {t : TypeId} (hB : B ≤ w.heap.size) (hz : cs.size = 8) : (w.alloc (.cells cs t)).ownsRow B t 4 (.slice (some ⟨w.heap.size, 0, none⟩) 2 2) 2 cs.toList :=
  ⟨by simp [hz], .inr ⟨w.heap.size, 2, cs, rfl, hB, Array.getElem?_push_size, Nat.le_refl _, by unfold maxLen; omega, by omega, by rw [List.take_of_length_le (by simp [hz])]⟩⟩
/-- The rows of Put: its two terms, and what it answers. -/
structure Pb (w wr : World) (pe ph : Array Value) : Prop where
  bel : Below w.heap.size w wr
  lt : w.heap.size + 3 ≤ wr.heap.size
  be : wr.heap[w.heap.size]? = some (.cells pe 26 (0, 0))
  bh : wr.heap[w.heap.size + 1]? = some (.cells ph 26 (0, 0))
  res : wr.heap[w.heap.size + 2]? = some (.cells #[.int .i64 0, .int .i64 0, .string ⟨#[]⟩, .slice none 0 0] 26 (0, 0))
theorem Pb.later {w wr w' : World} {pe ph : Array Value} (h : Pb w wr pe ph) (hb : Below wr.heap.size wr w') : Pb w w' pe ph := ⟨h.bel.trans (hb.mono h.bel.size), Nat.le_trans h.lt hb.size, row_keep h.be hb, row_keep h.bh hb, row_keep h.res hb⟩
theorem Pb.grown {w wr w' : World} {pe ph : Array Value} {g : Nat} (h : Pb w wr pe ph) (hg : wr.grownBy w' (some g)) (hl : w.heap.size + 3 ≤ g) : Pb w w' pe ph :=
  ⟨h.bel.grown hg h.bel.size (fun q e => by cases e; omega), Nat.le_trans h.lt hg.size, (hg.block _ (Array.getElem?_eq_some_iff.1 h.be).1 (fun e => by simp at e; omega)).trans h.be, (hg.block _ (Array.getElem?_eq_some_iff.1 h.bh).1 (fun e => by simp at e; omega)).trans h.bh, (hg.block _ (Array.getElem?_eq_some_iff.1 h.res).1 (fun e => by simp at e; omega)).trans h.res⟩
theorem own_form {w : World} {B n m : Nat} {t : TypeId} {v : Value} {cs : List Value} (h : w.ownsRow B t m v n cs) (hn : 0 < n) : ∃ g cap, v = .slice (some ⟨g, 0, none⟩) n cap := by
  obtain ⟨_, ⟨e, e2⟩ | ⟨g, cap, cur, e, _⟩⟩ := h
  · omega
  · exact ⟨g, cap, e⟩
theorem Pb.new (w : World) (pe ph : Array Value) : Pb w (((w.alloc (.cells pe 26)).alloc (.cells ph 26)).alloc (.cells #[.int .i64 0, .int .i64 0, .string ⟨#[]⟩, .slice none 0 0] 26)) pe ph := by
  have h1 : (w.alloc (.cells pe 26)).heap.size = w.heap.size + 1 := by simp
  have h2 : ((w.alloc (.cells pe 26)).alloc (.cells ph 26)).heap.size = w.heap.size + 2 := by simp
  have t := two_resG w (.cells pe 26) (.cells ph 26)
  have b := below_new ((w.alloc (.cells pe 26)).alloc (.cells ph 26)) (.cells #[.int .i64 0, .int .i64 0, .string ⟨#[]⟩, .slice none 0 0] 26)
  refine ⟨t.1.trans (b.mono t.1.size), by simp, row_keep t.2.1 b, row_keep t.2.2 b, ?_⟩
  rw [← h2]
  exact Array.getElem?_push_size
theorem Pb.end {w wr : World} {pe ph : Array Value} {x : Ex} {c : Option Addr} {cp : Nat} (h : Pb w wr pe ph) (hn : NewX wr (w.heap.size + 3) x c) (row : Array Value) : XoR x w (.returned (.agg #[.int .i64 x.k, .int .i64 x.n, .string x.s, .slice c x.l.length cp])) (wr.setRow (w.heap.size + 2) row) :=
  ⟨c, cp, rfl, (hn.row _ (by omega)).lower (by omega), h.bel.grown (grownBy_row _) h.bel.size (fun k e => by cases e; omega)⟩
set_option maxHeartbeats 4000000 in
theorem putI_c1 (here : Ex) (L : List ByteArray) (vals : List Ex) (e : Ex) (b hb : Option Addr) (cap hcp : Nat) (an : Option Addr) (cn gv off cv : Nat) (w : World) (hr : RdX w 0 e b) (hh : RdX w 0 here hb) (rn : RdU w an L) (rv : RdX w 0 ⟨0, 0, E0, vals⟩ (some ⟨gv, off, none⟩)) (hze : e.sz ≤ 1048576) (hzh : here.sz ≤ 1048576) (hL : L.length ≤ 1048576) (hV : vals.length ≤ 1048576) (hzv : ∀ i, i < vals.length → (xAt vals i).sz ≤ 1048576) (ht : TabK w) (hne : L.length ≠ vals.length) : Calls Tryd.prog 22 #[.agg (e.cs b cap), .agg (here.cs hb hcp), .slice an L.length cn, .slice (some ⟨gv, off, none⟩) vals.length cv] w (XoR zX w) := by
  have P0 := hide (Pb.new w #[.int .i64 e.k, .int .i64 e.n, .string e.s, .slice b e.l.length cap] #[.int .i64 here.k, .int .i64 here.n, .string here.s, .slice hb here.l.length hcp])
  generalize hX : XoR zX w = X
  have HX := hide hX
  have hne2 : ((L.length : Int) == (vals.length : Int)) = false := beq_eq_false_iff_ne.2 (by omega)
  unfold Ex.cs
  clear hX hr hh rn rv ht hzv
  go_enter Tryd.func22, Tryd.ntmps22
  go_wp2_with (refine wpList_store_row rfl 26 _ _ rfl (w.heap.size + 2) #[.int .i64 0, .int .i64 0, .string ⟨#[]⟩, .slice none 0 0] rfl rfl 26 _ ((unhide P0).res) szE rfl (ex_one _ _ _ _ _ _) ?_)
  refine bodyPost_ret (results_cell_row (P := Tryd.prog) rfl _ _ (w.heap.size + 2) 26 #[.int .i64 0, .int .i64 0, .string ⟨#[]⟩, .slice none 0 0] (0, 0) _ rfl (setRow_heap _ _ _ _ _ _ ((unhide P0).res)) Tryd.underlying26 rfl szE) rfl ?_
  rw [← unhide HX]
  exact (unhide P0).end (x := zX) (NewX.nil _ _ _ _ _ _) _
set_option maxHeartbeats 8000000 in
theorem putI_c2 (here : Ex) (L : List ByteArray) (vals : List Ex) (e : Ex) (b hb : Option Addr) (cap hcp : Nat) (an : Option Addr) (cn gv off cv : Nat) (w : World) (hr : RdX w 0 e b) (hh : RdX w 0 here hb) (rn : RdU w an L) (rv : RdX w 0 ⟨0, 0, E0, vals⟩ (some ⟨gv, off, none⟩)) (hze : e.sz ≤ 1048576) (hzh : here.sz ≤ 1048576) (hL : L.length ≤ 1048576) (hV : vals.length ≤ 1048576) (hzv : ∀ i, i < vals.length → (xAt vals i).sz ≤ 1048576) (ht : TabK w) (heq : L.length = vals.length) (hno : okL (e :: here :: vals) = false) : Calls Tryd.prog 22 #[.agg (e.cs b cap), .agg (here.cs hb hcp), .slice an L.length cn, .slice (some ⟨gv, off, none⟩) vals.length cv] w (XoR zX w) := by
  have P0 := hide (Pb.new w #[.int .i64 e.k, .int .i64 e.n, .string e.s, .slice b e.l.length cap] #[.int .i64 here.k, .int .i64 here.n, .string here.s, .slice hb here.l.length hcp])
  obtain ⟨i0, hi, hz0, hz1, hz2⟩ := info_parts infoX
  obtain ⟨ts, hts0, hcs, hrs⟩ := rdx_cells rv
  have hts : ts.map Tc.x = vals := hts0
  have hlen : ts.length = vals.length := by rw [← hts]; simp
  have LL := hide (show ([(⟨e, b, cap⟩ : Tc), ⟨here, hb, hcp⟩] ++ ts).map Tc.x = e :: here :: vals by simp [hts])
  have RR := hide (fun wr (h : Below w.heap.size w wr) => (show ∀ t ∈ [(⟨e, b, cap⟩ : Tc), ⟨here, hb, hcp⟩] ++ ts, RdX wr 0 t.x t.a from fun t ht => by
    rcases List.mem_append.1 ht with ht | ht
    · simp only [List.mem_cons, List.not_mem_nil, or_false] at ht
      rcases ht with rfl | rfl
      · exact hr.later h
      · exact hh.later h
    · exact (hrs t ht).later h))
  have CC := hide (fun wr (h : Below w.heap.size w wr) => (show ∀ j u, (cellsX ts)[j]? = some u → wr.cell? ((⟨gv, off, none⟩ : Addr).add j) = some u from fun j u hu => by
    have q := hcs j u hu
    have q2 := (h.cell (p := ⟨gv, off + j, none⟩) (World.block_lt_of_cell? w _ q)).trans q
    unfold Addr.add
    by_cases h0 : j = 0
    · subst h0; simpa using q2
    · simpa [h0] using q2))
  have TS := hide (fun (a : Option Addr) (n c : Nat) wr (h : Below w.heap.size w wr) (hn : vals.length + 2 = n) (hrd : RdX wr 0 ⟨0, 0, E0, e :: here :: vals⟩ a) => termsI_any (e :: here :: vals) a n c wr (by simp; omega) (by omega) (fun i hi => by
    match i with
    | 0 => exact hze
    | 1 => exact hzh
    | (i + 2) => exact hzv i (by omega)) hrd (ht.next h))
  unfold TsR at TS
  have RN := hide (fun wr (h : Below w.heap.size w wr) => rn.later h)
  have TB := hide (fun wr (h : Below w.heap.size w wr) => ht.next h)
  have OWN := hide (fun (wr : World) (g n cp : Nat) (h : wr.ownsRow (w.heap.size + 3) 26 4 (.slice (some ⟨g, 0, none⟩) n cp) n (cellsX ([(⟨e, b, cap⟩ : Tc), ⟨here, hb, hcp⟩] ++ ts))) (hn : vals.length + 2 = n) (hbel : Below w.heap.size w wr) => (by
    have q := own_rdx h (by simp [hlen]; omega) (unhide RR wr hbel)
    rw [unhide LL] at q
    exact q : RdX wr 0 ⟨0, 0, E0, e :: here :: vals⟩ (some ⟨g, 0, none⟩)))
  have CL := hide (show (cellsX ts).length = vals.length * 4 by rw [cellsX_len, hlen])
  have CO := hide (cellsX_one ts)
  have XX := hide (show cellsX ([(⟨e, b, cap⟩ : Tc), ⟨here, hb, hcp⟩] ++ ts) = [.int .i64 e.k, .int .i64 e.n, .string e.s, .slice b e.l.length cap, .int .i64 here.k, .int .i64 here.n, .string here.s, .slice hb here.l.length hcp] ++ cellsX ts by rw [cellsX_app]; rfl)
  rw [unhide XX] at OWN
  generalize cellsX ts = news at *
  have heq2 : ((L.length : Int) == (vals.length : Int)) = true := beq_iff_eq.2 (by omega)
  unfold Ex.cs
  clear hr hh rn rv ht hzv hcs hrs hts hts0 hlen LL RR XX ts
  generalize hX : XoR zX w = X
  have HX := hide hX
  clear hX
  rw [hno] at TS
  go_enter Tryd.func22, Tryd.ntmps22
  have hb4 := below_new (((w.alloc (.cells #[.int .i64 e.k, .int .i64 e.n, .string e.s, .slice b e.l.length cap] 26)).alloc (.cells #[.int .i64 here.k, .int .i64 here.n, .string here.s, .slice hb here.l.length hcp] 26)).alloc (.cells #[.int .i64 0, .int .i64 0, .string ⟨#[]⟩, .slice none 0 0] 26)) (.cells #[.int .i64 e.k, .int .i64 e.n, .string e.s, .slice b e.l.length cap, .int .i64 here.k, .int .i64 here.n, .string here.s, .slice hb here.l.length hcp] 26)
  have P4 := hide ((unhide P0).later hb4)
  have O4 := hide (own_eight (t := 26) (unhide P0).lt (show (#[.int .i64 e.k, .int .i64 e.n, .string e.s, .slice b e.l.length cap, .int .i64 here.k, .int .i64 here.n, .string here.s, .slice hb here.l.length hcp] : Array Value).size = 8 from rfl))
  rw [show (((w.alloc (.cells #[.int .i64 e.k, .int .i64 e.n, .string e.s, .slice b e.l.length cap] 26)).alloc (.cells #[.int .i64 here.k, .int .i64 here.n, .string here.s, .slice hb here.l.length hcp] 26)).alloc (.cells #[.int .i64 0, .int .i64 0, .string ⟨#[]⟩, .slice none 0 0] 26)).heap.size = w.heap.size + 1 + 1 + 1 by simp] at O4
  clear hb4
  go_wp2_with (first | (refine wpList_load_row rfl 26 _ rfl w.heap.size rfl 26 #[.int .i64 e.k, .int .i64 e.n, .string e.s, .slice b e.l.length cap] (0, 0) _ ((unhide P0).be) Tryd.underlying26 rfl (by kernel_rfl) ?_) | (refine wpList_load_row rfl 26 _ rfl (w.heap.size + 1) rfl 26 #[.int .i64 here.k, .int .i64 here.n, .string here.s, .slice hb here.l.length hcp] (0, 0) _ ((unhide P0).bh) Tryd.underlying26 rfl (by kernel_rfl) ?_) | (at_builtin; go_must (refine wpList_append_own _ rfl (.tmp 21) (.tmp 22) 24 rfl (w.heap.size + 3) 26 i0 (.agg #[.int .i64 0, .int .i64 0, .string ⟨#[]⟩, .slice none 0 0]) 4 56 Tryd.underlying24 hi hz0 hz1 hz2 rfl (by decide) (.slice (some ⟨w.heap.size + 1 + 1 + 1, 0, none⟩) 2 2) 2 [.int .i64 e.k, .int .i64 e.n, .string e.s, .slice b e.l.length cap, .int .i64 here.k, .int .i64 here.n, .string here.s, .slice hb here.l.length hcp] rfl (unhide O4) ⟨gv, off, none⟩ vals.length cv news rfl (unhide CL) (unhide CC _ (unhide P4).bel) (unhide CO) (by unfold maxLen; omega) (by omega) (unhide P4).lt ?_; intro v5 w5 hown5 hgrow5 _; obtain ⟨g5, cp5, rfl⟩ := own_form hown5 (by omega); have P5 := hide ((unhide P4).grown hgrow5 (show w.heap.size + 3 ≤ w.heap.size + 1 + 1 + 1 by omega)); have R5 := hide (unhide OWN w5 g5 (2 + vals.length) cp5 hown5 (by omega) (unhide P5).bel); have T5 := hide (unhide TS (some ⟨g5, 0, none⟩) (2 + vals.length) cp5 w5 (unhide P5).bel (by omega) (unhide R5)); clear hown5 hgrow5 P4 O4 R5)))
  refine (unhide T5).mono ?_
  rintro r w6 ⟨v6, rfl, hv6, hb6⟩
  have P6 := hide ((unhide P5).later hb6)
  clear hv6 hb6 T5 P5 TS OWN CC CL CO RN TB
  go_wp2_with (refine wpList_store_row rfl 26 _ _ rfl (w.heap.size + 2) #[.int .i64 0, .int .i64 0, .string ⟨#[]⟩, .slice none 0 0] rfl rfl 26 _ ((unhide P6).res) szE rfl (ex_one _ _ _ _ _ _) ?_)
  refine bodyPost_ret (results_cell_row (P := Tryd.prog) rfl _ _ (w.heap.size + 2) 26 #[.int .i64 0, .int .i64 0, .string ⟨#[]⟩, .slice none 0 0] (0, 0) _ rfl (setRow_heap _ _ _ _ _ _ ((unhide P6).res)) Tryd.underlying26 rfl szE) rfl ?_
  rw [← unhide HX]
  exact (unhide P6).end (x := zX) (NewX.nil _ _ _ _ _ _) _
end Go.Proofs.YtkolflcjkofleaaDoor

namespace Go.Proofs.YtkolflcjkofleaaDoor
open Go.ChangeShapes Go.WideShapes Go.ChangeAt Go.RowKit
set_option linter.unusedVariables false
set_option maxRecDepth 8000

theorem made_cells (n : Nat) : (madeCells #[.int .i64 0, .int .i64 0, .string ⟨#[]⟩] (n * 3)).toList = cellsT (List.replicate n T0) := by
  apply List.ext_getElem?
  intro j
  have hl : (cellsT (List.replicate n T0)).length = n * 3 := by rw [cellsT_len, List.length_replicate]
  by_cases hj : j < n * 3
  · have hT : ∀ i, i < n → tAt (List.replicate n T0) i = T0 := fun i hi => by
      unfold tAt
      rw [List.getD_eq_getElem?_getD, List.getElem?_replicate, if_pos hi]
      rfl
    have hg := cellsT_get (List.replicate n T0) (j / 3) (by rw [List.length_replicate]; omega)
    rw [hT (j / 3) (by omega)] at hg
    have hm : (madeCells #[.int .i64 0, .int .i64 0, .string ⟨#[]⟩] (n * 3)).toList[j]? = some ((#[Value.int .i64 0, .int .i64 0, .string ⟨#[]⟩] : Array Value)[j % 3]!) := by
      simp [madeCells, hj]
    rw [hm]
    have h3 : j % 3 = 0 ∨ j % 3 = 1 ∨ j % 3 = 2 := by omega
    rcases h3 with h | h | h
    · have e : j = j / 3 * 3 := by omega
      rw [h]; conv => rhs; rw [e]
      rw [hg.1]; rfl
    · have e : j = j / 3 * 3 + 1 := by omega
      rw [h]; conv => rhs; rw [e]
      rw [hg.2.1]; rfl
    · have e : j = j / 3 * 3 + 2 := by omega
      rw [h]; conv => rhs; rw [e]
      rw [hg.2.2]; rfl
  · rw [List.getElem?_eq_none (by rw [Array.length_toList, size_madeCells]; omega), List.getElem?_eq_none (by omega)]
theorem fill_step (ts : List Tk) (k n : Nat) (hn : ts.length = n) (hk : k < n) : (ts.take k ++ List.replicate (n - k) T0).set k (tAt ts k) = ts.take (k + 1) ++ List.replicate (n - (k + 1)) T0 := by
  have e1 : (ts.take k).length = k := by rw [List.length_take]; omega
  have e2 : n - k = (n - (k + 1)) + 1 := by omega
  rw [List.set_append_right _ _ (by omega), e1, Nat.sub_self, e2, List.replicate_succ, List.set_cons_zero]
  rw [show ts.take (k + 1) = ts.take k ++ [ts[k]'(by omega)] from List.take_succ_eq_append_getElem (by omega)]
  unfold tAt
  rw [List.getD_eq_getElem?_getD, List.getElem?_eq_getElem (by omega), List.append_assoc]
  rfl
end Go.Proofs.YtkolflcjkofleaaDoor

namespace Go.Proofs.YtkolflcjkofleaaDoor
open Go.ChangeShapes Go.WideShapes Go.ChangeAt Go.RowKit
set_option linter.unusedVariables false
set_option maxRecDepth 8000

def d10 (x : Nat) : UInt8 := UInt8.ofNat (48 + x)
/-- The digits to the base 10, ahead of t, by so many steps. -/
def decG : Nat → Nat → List UInt8 → List UInt8
  | 0, _, t => t
  | n + 1, m, t => if m = 0 then t else decG n (m / 10) (d10 (m % 10) :: t)
theorem decG_more : ∀ (n k m : Nat) (t : List UInt8), m ≤ n → m ≤ k → decG n m t = decG k m t := by
  intro n
  induction n with
  | zero =>
    intro k m t hn hk
    obtain rfl : m = 0 := by omega
    cases k with
    | zero => rfl
    | succ k => rfl
  | succ n ih =>
    intro k m t hn hk
    by_cases h0 : m = 0
    · subst h0
      cases k with
      | zero => rfl
      | succ k => rfl
    · cases k with
      | zero => omega
      | succ k =>
        simp only [decG]
        rw [ih k (m / 10) _ (by omega) (by omega)]
/-- The digits to the base 10, ahead of t. -/
def decA (m : Nat) (t : List UInt8) : List UInt8 := decG m m t
theorem decA_0 (t : List UInt8) : decA 0 t = t := rfl
theorem decA_s {m : Nat} (h : m ≠ 0) (t : List UInt8) : decA m t = decA (m / 10) (d10 (m % 10) :: t) := by
  obtain ⟨n, rfl⟩ : ∃ n, m = n + 1 := ⟨m - 1, by omega⟩
  unfold decA
  rw [decG, if_neg h]
  exact decG_more _ _ _ _ (by omega) (Nat.le_refl _)
/-- The marks' text. -/
def mkTx (k : Nat) : ByteArray := ⟨#[109]⟩ ++ strOf (decA k [])
theorem one_conv10 (W : World) (d : Nat) (hd : d < 10) (x : Int) (hx : x = 48 + (d : Int)) (b : Nat) (hb : b = W.heap.size) : (convert 22 9 (.slice (some ⟨b, 0, none⟩) 1 1)).run Tryd.prog (W.alloc (.cells #[.int .u8 x] 5)) = .ok (.string (strOf [d10 d])) (W.alloc (.cells #[.int .u8 x] 5)) := by
  subst hb
  exact run_convert_bytes_back (P := Tryd.prog) (W.alloc (.cells #[.int .u8 x] 5)) 22 9 5 ⟨W.heap.size, 0, none⟩ 1 [d10 d] Tryd.underlying22 Tryd.underlying5 Tryd.underlying9 (fun j hj => by
    obtain rfl : j = 0 := by simp at hj; omega
    have e : ((d10 d).toNat : Int) = x := by unfold d10; simp; omega
    simp only [List.getElem_cons_zero, e]
    simp [Addr.add])
set_option maxHeartbeats 1000000 in
theorem markTx_any (k : Nat) (hk0 : 0 < k) (hk : k ≤ 16777216) (w : World) : Calls Tryd.prog 65 #[.int .i64 k] w fun e w' => e = .returned (.string (mkTx k)) ∧ Below w.heap.size w w' := by
  unfold mkTx
  obtain ⟨T, hT⟩ : ∃ T, decA k [] = T := ⟨_, rfl⟩
  have HT := hide hT
  rw [hT]
  clear hT
  go_enter Tryd.func65, Tryd.ntmps65
  go_wp2
  go_loopw [0, 3] (fun i s wr => ∃ (m : Nat) (t : List UInt8), m + t.length ≤ 16777216 ∧ i = .int .i64 m ∧ s = .string (strOf t) ∧ Hid (decA m t = T) ∧ Below w.heap.size w wr) (fun i _ _ => (intOf i).toNat)
  case atStart => exact ⟨k, [], by simp; omega, rfl, rfl, unhide HT, Below.refl _ _⟩
  case round =>
    clear HT
    obtain ⟨m, t, hm, rfl, rfl, hd, hb⟩ := hrel
    by_cases h0 : m = 0
    · subst h0
      have E := hide ((decA_0 t).symm.trans hd.out)
      have hsz : (strOf t).size ≤ 16777216 := by rw [strOf_size]; omega
      clear hd
      rw [unhide E] at hsz ⊢
      go_wp2
      go_ret
      exact ⟨rfl, hb⟩
    · have E := hide ((decA_s h0 t).symm.trans hd.out)
      have hc := one_conv10 wr (m % 10) (by omega) (48 + (m : Int) % 10) (by omega)
      have hsz : (strOf t).size ≤ 16777216 := by rw [strOf_size]; omega
      have hsz1 := strOf_size [d10 (m % 10)]
      have hp : (0 : Int) < (m : Int) := by omega
      have AP := hide (strOf_append [d10 (m % 10)] t)
      clear hd
      go_wp2
      go_roundw
      case rel => exact ⟨m / 10, d10 (m % 10) :: t, by rw [List.length_cons]; omega, by go_num, by rw [unhide AP]; rfl, unhide E, hb.alloc hb.size _⟩
      case measure => simp [intOf]; omega

def mT (i : Nat) : Tk := ⟨((1 + 3 * i : Nat) : Int), ((2 + 3 * i : Nat) : Int), mkTx (3 + 3 * i)⟩
/-- What the marks leave. -/
def marksT (n : Nat) : List Tk := (List.range n).map mT
theorem marksT_len (n : Nat) : (marksT n).length = n := by simp [marksT]
theorem marksT_at (n i : Nat) (h : i < n) : tAt (marksT n) i = mT i := by
  unfold tAt marksT
  rw [List.getD_eq_getElem?_getD, List.getElem?_map, List.getElem?_range h]
  rfl
theorem mark_stepT (ts : List Tk) (k : Nat) (h : k < ts.length) : (marksT k ++ ts.drop k).set k (mT k) = marksT (k + 1) ++ ts.drop (k + 1) := by
  have e1 : marksT (k + 1) = marksT k ++ [mT k] := by simp [marksT, List.range_succ]
  rw [List.set_append_right _ _ (by rw [marksT_len]; omega), marksT_len, Nat.sub_self, List.drop_eq_getElem_cons h, List.set_cons_zero, e1, List.append_assoc]
  rfl
end Go.Proofs.YtkolflcjkofleaaDoor

namespace Go.Proofs.YtkolflcjkofleaaDoor
open Go.ChangeShapes Go.WideShapes Go.ChangeAt Go.RowKit
set_option linter.unusedVariables false
set_option maxRecDepth 8000

/-- How many parts a term has, all within. -/
def Ex.ct : Ex → Nat
  | ⟨_, _, _, l⟩ => l.length + (l.map Ex.ct).sum
def ctX (l : List Ex) : Nat := l.length + (l.map Ex.ct).sum
theorem ct_is (e : Ex) : e.ct = ctX e.l := by obtain ⟨k, n, s, l⟩ := e; rw [Ex.ct]; rfl
theorem ctX_take (l : List Ex) (k : Nat) (h : k < l.length) : ctX (l.take (k + 1)) = ctX (l.take k) + 1 + (xAt l k).ct := by
  unfold ctX
  rw [List.take_succ_eq_append_getElem h, List.map_append, List.sum_append, List.length_append, xAt_get h]
  simp
  omega
theorem ctX_le (l : List Ex) (k : Nat) : ctX (l.take k) ≤ ctX l := by
  induction l generalizing k with
  | nil => simp [ctX]
  | cons a r ih =>
    cases k with
    | zero => simp [ctX]
    | succ k =>
      have := ih k
      unfold ctX at this ⊢
      simp only [List.take_succ_cons, List.map_cons, List.sum_cons, List.length_cons]
      omega
/-- Where the marks of a part begin. -/
def posX (l : List Ex) (k i : Nat) : Nat := k + 3 * ctX (l.take i)
theorem posX_0 (l : List Ex) (k : Nat) : posX l k 0 = k := by simp [posX, ctX]
theorem posX_s (l : List Ex) (k i : Nat) (h : i < l.length) : posX l k (i + 1) = posX l k i + 3 + 3 * (xAt l i).ct := by
  unfold posX
  rw [ctX_take l i h]
  omega
theorem posX_end (l : List Ex) (k : Nat) : posX l k l.length = k + 3 * ctX l := by unfold posX; rw [List.take_length]
theorem posX_le (l : List Ex) (k i : Nat) (h : i < l.length) : posX l k i + 3 + 3 * (xAt l i).ct ≤ k + 3 * ctX l := by
  rw [← posX_s l k i h]
  unfold posX
  have := ctX_le l (i + 1)
  omega
/-- A term whose parts are marked from k on. -/
def MkX : Ex → Nat → Ex → Prop
  | ⟨_, _, _, l⟩, k, e' => e'.l.length = l.length ∧ ∀ x ∈ l, ∀ i, l[i]? = some x → (xAt e'.l i).k = ((posX l k i : Nat) : Int) ∧ (xAt e'.l i).n = ((posX l k i + 1 : Nat) : Int) ∧ (xAt e'.l i).s = mkTx (posX l k i + 2) ∧ MkX x (posX l k i + 3) (xAt e'.l i)
def MkOne (l : List Ex) (k i : Nat) (y : Ex) : Prop := y.k = ((posX l k i : Nat) : Int) ∧ y.n = ((posX l k i + 1 : Nat) : Int) ∧ y.s = mkTx (posX l k i + 2) ∧ MkX (xAt l i) (posX l k i + 3) y
theorem MkX_eq (e : Ex) (k : Nat) (e' : Ex) : MkX e k e' ↔ (e'.l.length = e.l.length ∧ ∀ i, i < e.l.length → MkOne e.l k i (xAt e'.l i)) := by
  obtain ⟨ek, n, s, l⟩ := e
  rw [MkX]
  refine and_congr Iff.rfl ⟨fun h i hi => ?_, fun h x hx i hi => ?_⟩
  · exact h _ (xAt_mem hi) i (by rw [xAt_get hi]; exact List.getElem?_eq_getElem hi)
  · obtain ⟨hl, e⟩ := List.getElem?_eq_some_iff.1 hi
    have := h i hl
    unfold MkOne at this
    rw [xAt_get hl, e] at this
    exact this
theorem MkX.len {e : Ex} {k : Nat} {y : Ex} (h : MkX e k y) : y.l.length = e.l.length := ((MkX_eq e k y).1 h).1
theorem MkX.of {e : Ex} {k : Nat} {y z : Ex} (h : MkX e k y) (hl : z.l = y.l) : MkX e k z := by
  rw [MkX_eq] at h ⊢
  rw [hl]
  exact h
theorem xAt_set_eq {l : List Ex} {i : Nat} (h : i < l.length) (y : Ex) : xAt (l.set i y) i = y := by
  unfold xAt
  rw [List.getD_eq_getElem?_getD, List.getElem?_set_self h]
  rfl
theorem xAt_set_ne {l : List Ex} {i j : Nat} (h : i ≠ j) (y : Ex) : xAt (l.set i y) j = xAt l j := by
  unfold xAt
  rw [List.getD_eq_getElem?_getD, List.getD_eq_getElem?_getD, List.getElem?_set_ne h]
/-- Of lists whose members all differ no two share one. -/
theorem flat_apart : ∀ (Fs : List (List Nat)) (i j x : Nat), Fs.flatten.Nodup → i ≠ j → x ∈ Fs.getD i [] → x ∉ Fs.getD j [] := by
  intro Fs
  induction Fs with
  | nil => intro i j x _ _ h; simp at h
  | cons F r ih =>
    intro i j x hn hij hx hy
    rw [List.flatten_cons, List.nodup_append] at hn
    obtain ⟨h1, h2, h3⟩ := hn
    cases i with
    | zero =>
      cases j with
      | zero => exact hij rfl
      | succ j => exact h3 x (by simpa using hx) x (getD_flat (i := j) (by simpa using hy)) rfl
    | succ i =>
      cases j with
      | zero => exact h3 x (by simpa using hy) x (getD_flat (i := i) (by simpa using hx)) rfl
      | succ j => exact ih i j x h2 (by omega) (by simpa using hx) (by simpa using hy)
theorem flat_part : ∀ (Fs : List (List Nat)) (i : Nat), Fs.flatten.Nodup → (Fs.getD i []).Nodup := by
  intro Fs
  induction Fs with
  | nil => intro i _; simp
  | cons F r ih =>
    intro i hn
    rw [List.flatten_cons, List.nodup_append] at hn
    cases i with
    | zero => simpa using hn.1
    | succ i => simpa using ih i hn.2.1
/-- A row with one part turned, its parts within turned in their own blocks. -/
theorem OwOne.turn {wr w5 : World} {ys : List Ex} {b : Nat} {cs cs5 : Array Value} {Fs : List (List Nat)} {i : Nat} {y : Ex} {c : Option Addr} {cp : Nat}
    (hr : ∀ j, j < ys.length → OwOne wr cs j (xAt ys j) (Fs.getD j [])) (hn : (b :: Fs.flatten).Nodup) (hi : i < ys.length)
    (hs : ∀ j, j ≠ i * 4 → j ≠ i * 4 + 1 → j ≠ i * 4 + 2 → cs5[j]? = cs[j]?)
    (d0 : cs5[i * 4]? = some (.int .i64 y.k)) (d1 : cs5[i * 4 + 1]? = some (.int .i64 y.n)) (d2 : cs5[i * 4 + 2]? = some (.string y.s)) (d3 : cs5[i * 4 + 3]? = some (.slice c y.l.length cp)) (hx : OwX w5 y c (Fs.getD i []))
    (hk : ∀ g, g ∈ Fs.flatten → g ∉ Fs.getD i [] → w5.heap[g]? = wr.heap[g]?) : ∀ j, j < ys.length → OwOne w5 cs5 j (xAt (ys.set i y) j) (Fs.getD j []) := by
  rw [List.nodup_cons] at hn
  intro j hj
  by_cases hij : i = j
  · subst hij
    rw [xAt_set_eq hi]
    exact ⟨d0, d1, d2, c, cp, d3, hx⟩
  · rw [xAt_set_ne hij]
    obtain ⟨p0, p1, p2, c', cap', p3, p4⟩ := hr j hj
    exact ⟨(hs _ (by omega) (by omega) (by omega)).trans p0, (hs _ (by omega) (by omega) (by omega)).trans p1, (hs _ (by omega) (by omega) (by omega)).trans p2, c', cap', (hs _ (by omega) (by omega) (by omega)).trans p3, OwX.keep _ _ _ (fun g hg => hk g (getD_flat hg) (flat_apart _ _ _ _ hn.2 (Ne.symm hij) hg)) p4⟩
end Go.Proofs.YtkolflcjkofleaaDoor

namespace Go.Proofs.YtkolflcjkofleaaDoor
open Go.ChangeShapes Go.WideShapes Go.ChangeAt Go.RowKit
set_option linter.unusedVariables false
set_option maxRecDepth 8000

def MarkP (e : Ex) : Prop := ∀ (a : Option Addr) (cap k : Nat) (F : List Nat) (B : Nat) (w : World), OwX w e a F → F.Nodup → (∀ b ∈ F, B ≤ b) → B ≤ w.heap.size → 0 < k → k + 3 * e.ct ≤ 8000000 → Calls Tryd.prog 38 #[.slice a e.l.length cap, .int .i64 k] w fun r w' => ∃ e' : Ex, r = .returned (.int .i64 ((k + 3 * e.ct : Nat) : Int)) ∧ MkX e k e' ∧ OwX w' e' a F ∧ Below B w w' ∧ ∀ g, g < w.heap.size → g ∉ F → w'.heap[g]? = w.heap[g]?
/-- So many parts are marked. -/
structure Mkg (w wr : World) (l : List Ex) (K b : Nat) (Fs : List (List Nat)) (B i : Nat) (ys : List Ex) (cs : Array Value) (t : TypeId) : Prop where
  hyl : ys.length = l.length
  row : wr.heap[b]? = some (.cells cs t (0, 0))
  hz : l.length * 4 ≤ cs.size
  one : ∀ j, j < l.length → OwOne wr cs j (xAt ys j) (Fs.getD j [])
  done : ∀ j, j < i → MkOne l K j (xAt ys j)
  rest : ∀ j, i ≤ j → xAt ys j = xAt l j
  bel : Below B w wr
  fr : ∀ g, g < w.heap.size → g ∉ b :: Fs.flatten → wr.heap[g]? = w.heap[g]?
theorem OwX.of {w : World} {x z : Ex} {c : Option Addr} {F : List Nat} (h : OwX w x c F) (hl : z.l = x.l) : OwX w z c F := by
  rw [OwX_eq] at h ⊢
  rw [hl]
  exact h
theorem Mkg.step {w wr w3 w5 : World} {l ys : List Ex} {K b : Nat} {Fs : List (List Nat)} {B i : Nat} {cs : Array Value} {t : TypeId} {c : Option Addr} {cp : Nat} {x' : Ex}
    (h : Mkg w wr l K b Fs B i ys cs t) (hi : i < l.length) (hF : Fs.length = l.length) (hn : (b :: Fs.flatten).Nodup) (hB : ∀ g ∈ b :: Fs.flatten, B ≤ g)
    (q3 : cs[i * 4 + 3]? = some (.slice c (xAt l i).l.length cp))
    (hb3 : Below ((wr.setCell ⟨b, i * 4, none⟩ (.int .i64 ((posX l K i : Nat) : Int))).setCell ⟨b, i * 4 + 1, none⟩ (.int .i64 ((posX l K i + 1 : Nat) : Int))).heap.size ((wr.setCell ⟨b, i * 4, none⟩ (.int .i64 ((posX l K i : Nat) : Int))).setCell ⟨b, i * 4 + 1, none⟩ (.int .i64 ((posX l K i + 1 : Nat) : Int))) w3)
    (hmk : MkX (xAt l i) (posX l K i + 3) x') (hox : OwX w5 x' c (Fs.getD i []))
    (hb5 : Below B (w3.setCell ⟨b, i * 4 + 2, none⟩ (.string (mkTx (posX l K i + 2)))) w5)
    (hf5 : ∀ g, g < (w3.setCell ⟨b, i * 4 + 2, none⟩ (.string (mkTx (posX l K i + 2)))).heap.size → g ∉ Fs.getD i [] → w5.heap[g]? = (w3.setCell ⟨b, i * 4 + 2, none⟩ (.string (mkTx (posX l K i + 2)))).heap[g]?) :
    ∃ ys' cs', Mkg w w5 l K b Fs B (i + 1) ys' cs' t := by
  have hn' := List.nodup_cons.1 hn
  have hbl : b < wr.heap.size := (Array.getElem?_eq_some_iff.1 h.row).1
  have r1 := heap_setCell_same wr b (i * 4) cs t (.int .i64 ((posX l K i : Nat) : Int)) h.row
  have r2 := heap_setCell_same _ b (i * 4 + 1) _ t (.int .i64 ((posX l K i + 1 : Nat) : Int)) r1
  have hsz2 : ((wr.setCell ⟨b, i * 4, none⟩ (.int .i64 ((posX l K i : Nat) : Int))).setCell ⟨b, i * 4 + 1, none⟩ (.int .i64 ((posX l K i + 1 : Nat) : Int))).heap.size = wr.heap.size := by simp
  have hoth2 : ∀ g, g ≠ b → ((wr.setCell ⟨b, i * 4, none⟩ (.int .i64 ((posX l K i : Nat) : Int))).setCell ⟨b, i * 4 + 1, none⟩ (.int .i64 ((posX l K i + 1 : Nat) : Int))).heap[g]? = wr.heap[g]? := fun g hg => by
    rw [heap_setCell_other _ _ _ _ hg, heap_setCell_other _ _ _ _ hg]
  have hbel2 : Below B wr ((wr.setCell ⟨b, i * 4, none⟩ (.int .i64 ((posX l K i : Nat) : Int))).setCell ⟨b, i * 4 + 1, none⟩ (.int .i64 ((posX l K i + 1 : Nat) : Int))) := ((Below.refl B wr).setCell (p := ⟨b, _, none⟩) (hB b List.mem_cons_self) _).setCell (p := ⟨b, _, none⟩) (hB b List.mem_cons_self) _
  generalize (wr.setCell ⟨b, i * 4, none⟩ (.int .i64 ((posX l K i : Nat) : Int))).setCell ⟨b, i * 4 + 1, none⟩ (.int .i64 ((posX l K i + 1 : Nat) : Int)) = W2 at *
  rw [hsz2] at hb3
  have r3 := (hb3.block b hbl).trans r2
  have r4 := heap_setCell_same w3 b (i * 4 + 2) _ t (.string (mkTx (posX l K i + 2))) r3
  have hsz3 : wr.heap.size ≤ w3.heap.size := hsz2 ▸ hb3.size
  have hsz4 : (w3.setCell ⟨b, i * 4 + 2, none⟩ (.string (mkTx (posX l K i + 2)))).heap.size = w3.heap.size := by simp
  have hoth4 : ∀ g, g < wr.heap.size → g ≠ b → (w3.setCell ⟨b, i * 4 + 2, none⟩ (.string (mkTx (posX l K i + 2)))).heap[g]? = wr.heap[g]? := fun g hgl hg => by
    rw [heap_setCell_other _ _ _ _ hg, hb3.block g hgl, hoth2 g hg]
  have hbB : B ≤ b := hB b List.mem_cons_self
  have hbel4 : Below B wr (w3.setCell ⟨b, i * 4 + 2, none⟩ (.string (mkTx (posX l K i + 2)))) := (hbel2.trans (hb3.mono (by omega))).setCell (p := ⟨b, _, none⟩) hbB _
  rw [hsz4] at hf5
  have hbi : b ∉ Fs.getD i [] := fun hb => hn'.1 (getD_flat hb)
  have r5 := (hf5 b (by omega) hbi).trans r4
  have hlt : ∀ g ∈ Fs.flatten, g < wr.heap.size := fun g hg => by
    obtain ⟨G, hG, hx⟩ := List.mem_flatten.1 hg
    obtain ⟨j, hj, rfl⟩ := List.getElem_of_mem hG
    obtain ⟨_, _, _, c', cp', _, ho⟩ := h.one j (hF ▸ hj)
    rw [List.getD_eq_getElem?_getD, List.getElem?_eq_getElem hj] at ho
    exact OwX.lt _ _ _ ho _ hx
  have hk5 : ∀ g, g < wr.heap.size → g ≠ b → g ∉ Fs.getD i [] → w5.heap[g]? = wr.heap[g]? := fun g hgl hg hgi => (hf5 g (by omega) hgi).trans (hoth4 g hgl hg)
  have hz := h.hz
  have T := OwOne.turn (wr := wr) (w5 := w5) (ys := ys) (b := b) (cs := cs) (cs5 := ((cs.setIfInBounds (i * 4) (.int .i64 ((posX l K i : Nat) : Int))).setIfInBounds (i * 4 + 1) (.int .i64 ((posX l K i + 1 : Nat) : Int))).setIfInBounds (i * 4 + 2) (.string (mkTx (posX l K i + 2)))) (Fs := Fs) (i := i) (y := ⟨((posX l K i : Nat) : Int), ((posX l K i + 1 : Nat) : Int), mkTx (posX l K i + 2), x'.l⟩) (c := c) (cp := cp)
    (fun j hj => h.one j (h.hyl ▸ hj)) hn (by rw [h.hyl]; exact hi)
    (fun j h0 h1 h2 => by rw [Array.getElem?_setIfInBounds_ne (by omega), Array.getElem?_setIfInBounds_ne (by omega), Array.getElem?_setIfInBounds_ne (by omega)])
    (by rw [Array.getElem?_setIfInBounds_ne (by omega), Array.getElem?_setIfInBounds_ne (by omega), Array.getElem?_setIfInBounds_self_of_lt (by omega)])
    (by rw [Array.getElem?_setIfInBounds_ne (by omega), Array.getElem?_setIfInBounds_self_of_lt (by simp; omega)])
    (by rw [Array.getElem?_setIfInBounds_self_of_lt (by simp; omega)])
    (by rw [Array.getElem?_setIfInBounds_ne (by omega), Array.getElem?_setIfInBounds_ne (by omega), Array.getElem?_setIfInBounds_ne (by omega), show (Ex.mk ((posX l K i : Nat) : Int) ((posX l K i + 1 : Nat) : Int) (mkTx (posX l K i + 2)) x'.l).l.length = x'.l.length from rfl, hmk.len]; exact q3)
    (hox.of rfl) (fun g hg hgi => hk5 g (hlt g hg) (fun e => hn'.1 (e ▸ hg)) hgi)
  rw [h.hyl] at T
  refine ⟨ys.set i ⟨((posX l K i : Nat) : Int), ((posX l K i + 1 : Nat) : Int), mkTx (posX l K i + 2), x'.l⟩, _, ?_, r5, ?_, T, fun j hj => ?_, fun j hj => ?_, h.bel.trans (hbel4.trans hb5), fun g hgl hg => ?_⟩
  · rw [List.length_set]; exact h.hyl
  · simpa using hz
  · by_cases hij : i = j
    · subst hij
      rw [xAt_set_eq (by rw [h.hyl]; exact hi)]
      exact ⟨rfl, rfl, rfl, hmk.of rfl⟩
    · rw [xAt_set_ne hij]
      exact h.done j (by omega)
  · rw [xAt_set_ne (by omega)]
    exact h.rest j (by omega)
  · have h1 : g ≠ b := fun e => hg (e ▸ List.mem_cons_self)
    have h2 : g ∉ Fs.getD i [] := fun e => hg (List.mem_cons_of_mem _ (getD_flat e))
    exact (hk5 g (Nat.lt_of_lt_of_le hgl h.bel.size) h1 h2).trans (h.fr g hgl hg)
set_option maxHeartbeats 2000000 in
theorem markXS_of (e : Ex) (ih : ∀ i, i < e.l.length → MarkP (xAt e.l i)) : MarkP e := by
  intro a cap K F B w ho hnd hF hBw hK hbd
  have hct := ct_is e
  rw [OwX_eq] at ho
  generalize hl : e.l = l at *
  rw [hct] at hbd ⊢
  have FIN := hide (fun (y : Ex) => MkX_eq e K y)
  rw [hl] at FIN
  rcases ho with ⟨rfl, rfl⟩ | ⟨b, cs, t, Fs, rfl, hh, hz, hFl, rfl, hone⟩
  · have HE := hide (show MkX e K e from (unhide FIN e).2 ⟨by rw [hl], fun i hi => by cases hi⟩)
    have HO := hide (show OwX w e a [] from (OwX_eq _ _ _ _).2 (.inl ⟨hl, rfl⟩))
    clear ih hct hl FIN
    go_enter Tryd.func38, Tryd.ntmps38
    go_wp2
    go_loopw [1, 5] (fun kv i wr => i = .int .i64 0 ∧ kv = .int .i64 K ∧ wr = w) (fun _ i _ => 0)
    case atStart => exact ⟨rfl, rfl, rfl⟩
    case round =>
      obtain ⟨rfl, rfl, rfl⟩ := hrel
      go_wp2
      go_ret
      exact ⟨e, by simp [ctX], unhide HE, unhide HO, Below.refl _ _, fun g _ _ => rfl⟩
  · have M0 := hide (show Mkg w w l K b Fs B 0 l cs t from ⟨rfl, hh, hz, hone, fun j hj => by omega, fun j _ => rfl, Below.refl _ _, fun g _ _ => rfl⟩)
    have FN := hide (fun (wr : World) (ys : List Ex) (cs' : Array Value) (t' : TypeId) (h : Mkg w wr l K b Fs B l.length ys cs' t') => (show MkX e K ⟨0, 0, ⟨#[]⟩, ys⟩ ∧ OwX wr ⟨0, 0, ⟨#[]⟩, ys⟩ (some ⟨b, 0, none⟩) (b :: Fs.flatten) from
      ⟨(unhide FIN _).2 ⟨h.hyl, fun i hi => h.done i hi⟩, (OwX_eq _ _ _ _).2 (.inr ⟨b, cs', t', Fs, rfl, h.row, by show ys.length * 4 ≤ _; rw [h.hyl]; exact h.hz, by show Fs.length = ys.length; rw [h.hyl]; exact hFl, rfl, fun i hi => h.one i (by have : i < ys.length := hi; rwa [h.hyl] at this)⟩)⟩))
    have hcl : l.length ≤ ctX l := by unfold ctX; omega
    obtain ⟨n, hn⟩ : ∃ n, l.length = n := ⟨_, rfl⟩
    have hnl : n ≤ 8000000 := by omega
    have PE := hide (posX_end l K)
    have P0 := hide (posX_0 l K)
    clear hone hh hz FIN hct hl hcl
    rw [hn] at ih PE FN ⊢
    rw [← unhide PE]
    go_enter Tryd.func38, Tryd.ntmps38
    go_wp2
    go_loopw [1, 5] (fun kv i wr => ∃ k : Nat, k ≤ n ∧ i = .int .i64 k ∧ kv = .int .i64 ((posX l K k : Nat) : Int) ∧ ∃ ys cs t, Mkg w wr l K b Fs B k ys cs t) (fun _ i _ => n - (intOf i).toNat)
    case atStart => exact ⟨0, Nat.zero_le _, rfl, by rw [unhide P0], _, _, _, unhide M0⟩
    case round =>
      clear M0
      obtain ⟨k, hk, rfl, rfl, ys, cs, t, hM⟩ := hrel
      by_cases hlt : k < n
      · obtain ⟨q0, q1, q2, c, cp, q3, q4⟩ := hM.one k (by omega)
        rw [hM.rest k (Nat.le_refl _)] at q0 q1 q2 q3 q4
        have hh := hM.row
        have hz := hM.hz
        have c0 := (Lib.cell_of_heap hh (k * 4)).trans q0
        have c1 := (Lib.cell_of_heap hh (k * 4 + 1)).trans q1
        have f0 := Lib.frozen_of_heap hh (k * 4)
        have f1 := Lib.frozen_of_heap hh (k * 4 + 1)
        have hbl : b < wr.heap.size := (Array.getElem?_eq_some_iff.1 hh).1
        have hPl := posX_le l K k (by omega)
        have hPs := posX_s l K k (by omega)
        have r1 := heap_setCell_same wr b (k * 4) cs t (.int .i64 ((posX l K k : Nat) : Int)) hh
        have r2 := heap_setCell_same _ b (k * 4 + 1) _ t (.int .i64 ((posX l K k + 1 : Nat) : Int)) r1
        have C2 := hide (show ((wr.setCell ⟨b, k * 4, none⟩ (.int .i64 ((posX l K k : Nat) : Int))).setCell ⟨b, k * 4 + 1, none⟩ (.int .i64 ((posX l K k + 1 : Nat) : Int))).cell? ⟨b, k * 4 + 2, none⟩ = some (.string (xAt l k).s) by
          rw [Lib.cell_of_heap r2, Array.getElem?_setIfInBounds_ne (by omega), Array.getElem?_setIfInBounds_ne (by omega)]; exact q2)
        have C3 := hide (show ((wr.setCell ⟨b, k * 4, none⟩ (.int .i64 ((posX l K k : Nat) : Int))).setCell ⟨b, k * 4 + 1, none⟩ (.int .i64 ((posX l K k + 1 : Nat) : Int))).cell? ⟨b, k * 4 + 3, none⟩ = some (.slice c (xAt l k).l.length cp) by
          rw [Lib.cell_of_heap r2, Array.getElem?_setIfInBounds_ne (by omega), Array.getElem?_setIfInBounds_ne (by omega)]; exact q3)
        have F2 := hide (Lib.frozen_of_heap r2 (k * 4 + 2))
        have GL := hide (show b < ((wr.setCell ⟨b, k * 4, none⟩ (.int .i64 ((posX l K k : Nat) : Int))).setCell ⟨b, k * 4 + 1, none⟩ (.int .i64 ((posX l K k + 1 : Nat) : Int))).heap.size by simpa using hbl)
        have ST := hide (fun w3 w5 x' hb3 hmk hox hb5 hf5 => Mkg.step (w3 := w3) (w5 := w5) (x' := x') hM (by omega) hFl hnd hF q3 hb3 hmk hox hb5 hf5)
        have MX := hide (fun W => markTx_any (posX l K k + 2) (by omega) (by omega) W)
        have hn' := List.nodup_cons.1 hnd
        have OC := hide (fun w3 (hb3 : Below ((wr.setCell ⟨b, k * 4, none⟩ (.int .i64 ((posX l K k : Nat) : Int))).setCell ⟨b, k * 4 + 1, none⟩ (.int .i64 ((posX l K k + 1 : Nat) : Int))).heap.size ((wr.setCell ⟨b, k * 4, none⟩ (.int .i64 ((posX l K k : Nat) : Int))).setCell ⟨b, k * 4 + 1, none⟩ (.int .i64 ((posX l K k + 1 : Nat) : Int))) w3) (v : Value) =>
          ih k hlt c cp (posX l K k + 3) (Fs.getD k []) B (w3.setCell ⟨b, k * 4 + 2, none⟩ v)
            (OwX.keep _ _ _ (fun g hg => by
              have hne : g ≠ b := fun e => hn'.1 (e ▸ getD_flat hg)
              have hgl := OwX.lt _ _ _ q4 g hg
              rw [heap_setCell_other _ _ _ _ hne, hb3.block g (by simpa using hgl), heap_setCell_other _ _ _ _ hne, heap_setCell_other _ _ _ _ hne]) q4)
            (flat_part _ _ hn'.2) (fun g hg => hF g (List.mem_cons_of_mem _ (getD_flat hg))) (by have h1 := hb3.size; have h2 := hM.bel.size; simp at h1 ⊢; omega) (by omega) (by omega))
        have EN : ((posX l K k : Nat) : Int) + 1 = ((posX l K k + 1 : Nat) : Int) := by omega
        have EM : ((posX l K k + 1 : Nat) : Int) + 1 = ((posX l K k + 2 : Nat) : Int) := by omega
        have EP : ((posX l K k + 2 : Nat) : Int) + 1 = ((posX l K k + 3 : Nat) : Int) := by omega
        have EQ := hide (show ((posX l K k + 3 + 3 * (xAt l k).ct : Nat) : Int) = ((posX l K (k + 1) : Nat) : Int) by rw [hPs])
        have bA : 0 ≤ ((posX l K k : Nat) : Int) ∧ ((posX l K k : Nat) : Int) ≤ 8000000 := by omega
        have bA2 : 0 ≤ ((posX l K k + 1 : Nat) : Int) ∧ ((posX l K k + 1 : Nat) : Int) ≤ 8000001 := by omega
        have bA3 : 0 ≤ ((posX l K k + 2 : Nat) : Int) ∧ ((posX l K k + 2 : Nat) : Int) ≤ 8000002 := by omega
        clear r1 r2 q0 q1 q2 q3 q4 hM hh hz hPl hPs hn' ih FN
        generalize (xAt l k).ct = ctk at *
        generalize hA : ((posX l K k : Nat) : Int) = A at *
        generalize hB2 : ((posX l K k + 1 : Nat) : Int) = A2 at *
        generalize hC : ((posX l K k + 2 : Nat) : Int) = A3 at *
        generalize hD : ((posX l K k + 3 : Nat) : Int) = A4 at *
        generalize mkTx (posX l K k + 2) = X at *
        generalize (xAt l k).s = xs at *
        go_wp2_with fail
        generalize (wr.setCell ⟨b, k * 4, none⟩ (.int .i64 A)).setCell ⟨b, k * 4 + 1, none⟩ (.int .i64 A2) = W2 at *
        refine (unhide MX _).mono ?_
        rintro e w3 ⟨rfl, hb3⟩
        have d2 := (hb3.cell (p := ⟨b, k * 4 + 2, none⟩) (unhide GL)).trans (unhide C2)
        have d3 := (hb3.cell (p := ⟨b, k * 4 + 3, none⟩) (unhide GL)).trans (unhide C3)
        have e2 := (hb3.frozen (p := ⟨b, k * 4 + 2, none⟩) (unhide GL)).trans (unhide F2)
        have OD := hide (unhide OC w3 hb3 (.string X))
        have HB3 := hide hb3
        clear OC C2 C3 F2 GL MX c0 c1 f0 f1 hb3
        go_wp2_with fail
        refine (unhide OD).mono ?_
        rintro e w5 ⟨x', rfl, hmk, hox, hb5, hf5⟩
        have SS := hide (unhide ST w3 w5 x' (unhide HB3) hmk hox hb5 hf5)
        clear hmk hox hb5 hf5 OD ST d2 d3 e2
        go_wp2
        go_roundw
        case rel =>
          obtain ⟨ys', cs', hM'⟩ := unhide SS
          exact ⟨k + 1, by omega, by go_num, by rw [← unhide EQ]; congr 1; omega, ys', cs', _, hM'⟩
        case measure => simp [intOf]; omega
      · obtain rfl : k = n := by omega
        have HM := hide hM
        have FF := hide (unhide FN _ _ _ _ hM)
        clear hM
        go_wp2
        go_ret
        exact ⟨_, rfl, (unhide FF).1, (unhide FF).2, (unhide HM).bel, (unhide HM).fr⟩
theorem markXS_any (e : Ex) : MarkP e := by
  induction e using Ex.ind with
  | h k n s l ih => exact markXS_of _ (fun i hi => ih _ (xAt_mem hi))
end Go.Proofs.YtkolflcjkofleaaDoor

namespace Go.Proofs.YtkolflcjkofleaaDoor
open Go.ChangeShapes Go.WideShapes Go.ChangeAt Go.RowKit
set_option linter.unusedVariables false
set_option maxRecDepth 8000

def HeldP (e : Ex) : Prop := ∀ (a : Option Addr) (cap K : Nat) (y : Ex) (w : World), MkX e K y → RdX w 0 y a → 0 < K → K + 3 * e.ct ≤ 8000000 → Calls Tryd.prog 64 #[.slice a e.l.length cap, .int .i64 K] w fun r w' => r = .returned (.int .i64 ((K + 3 * e.ct : Nat) : Int)) ∧ Below w.heap.size w w'
set_option maxHeartbeats 2000000 in
theorem heldXS_of (e : Ex) (ih : ∀ i, i < e.l.length → HeldP (xAt e.l i)) : HeldP e := by
  intro a cap K y w hy hr hK hbd
  have hct := ct_is e
  rw [MkX_eq] at hy
  rw [RdX_eq] at hr
  generalize e.l = l at *
  rw [hct] at hbd ⊢
  obtain ⟨hyl, hy⟩ := hy
  generalize y.l = ys at *
  have hcl : l.length ≤ ctX l := by unfold ctX; omega
  obtain ⟨n, hn⟩ : ∃ n, l.length = n := ⟨_, rfl⟩
  have hnl : n ≤ 8000000 := by omega
  have PE := hide (posX_end l K)
  have P0 := hide (posX_0 l K)
  clear hct hcl
  rw [hn] at ih PE hy hyl ⊢
  rw [← unhide PE]
  go_enter Tryd.func64, Tryd.ntmps64
  go_wp2
  go_loopw [1, 5] (fun kv i wr => ∃ (k : Nat) (x : Sub w.heap.size w), k ≤ n ∧ i = .int .i64 k ∧ kv = .int .i64 ((posX l K k : Nat) : Int) ∧ wr = x.w) (fun _ i _ => n - (intOf i).toNat)
  case atStart => exact ⟨0, ⟨w, Below.refl _ _⟩, Nat.zero_le _, rfl, by rw [unhide P0], rfl⟩
  case round =>
    obtain ⟨k, x, hk, rfl, rfl, rfl⟩ := hrel
    by_cases hlt : k < n
    · rcases hr with h0 | ⟨p, po, rfl, _, hp, hpc⟩
      · rw [h0] at hyl; simp at hyl; omega
      obtain ⟨e0, e1, e2, c, cp, e3, e4⟩ := hpc k (by omega)
      obtain ⟨m0, m1, m2, m3⟩ := hy k hlt
      rw [m0] at e0
      rw [m1] at e1
      rw [m2] at e2
      rw [m3.len] at e3
      have d0 : ∀ z : Sub w.heap.size w, z.w.cell? ⟨p, po + k * 4, none⟩ = _ := fun z => (z.h.cell (p := ⟨p, _, none⟩) hp).trans e0
      have d1 : ∀ z : Sub w.heap.size w, z.w.cell? ⟨p, po + k * 4 + 1, none⟩ = _ := fun z => (z.h.cell (p := ⟨p, _, none⟩) hp).trans e1
      have d2 : ∀ z : Sub w.heap.size w, z.w.cell? ⟨p, po + k * 4 + 2, none⟩ = _ := fun z => (z.h.cell (p := ⟨p, _, none⟩) hp).trans e2
      have d3 : ∀ z : Sub w.heap.size w, z.w.cell? ⟨p, po + k * 4 + 3, none⟩ = _ := fun z => (z.h.cell (p := ⟨p, _, none⟩) hp).trans e3
      have hPl := posX_le l K k (by omega)
      have hPs := posX_s l K k (by omega)
      have MX := hide (fun W => markTx_any (posX l K k + 2) (by omega) (by omega) W)
      have HC := hide (fun z : Sub w.heap.size w => ih k hlt c cp (posX l K k + 3) (xAt ys k) z.w m3 (e4.later z.h) (by omega) (by omega))
      have ne := Sub.ne w.heap.size w
      have HZ := hide (Nat.le_refl w.heap.size)
      have EN : ((posX l K k : Nat) : Int) + 1 = ((posX l K k + 1 : Nat) : Int) := by omega
      have EM : ((posX l K k + 1 : Nat) : Int) + 1 = ((posX l K k + 2 : Nat) : Int) := by omega
      have EP : ((posX l K k + 2 : Nat) : Int) + 1 = ((posX l K k + 3 : Nat) : Int) := by omega
      have EQ := hide (show ((posX l K k + 3 + 3 * (xAt l k).ct : Nat) : Int) = ((posX l K (k + 1) : Nat) : Int) by rw [hPs])
      have bA : 0 ≤ ((posX l K k : Nat) : Int) ∧ ((posX l K k : Nat) : Int) ≤ 8000000 := by omega
      have bA2 : 0 ≤ ((posX l K k + 1 : Nat) : Int) ∧ ((posX l K k + 1 : Nat) : Int) ≤ 8000001 := by omega
      have bA3 : 0 ≤ ((posX l K k + 2 : Nat) : Int) ∧ ((posX l K k + 2 : Nat) : Int) ≤ 8000002 := by omega
      have bA5 : 0 ≤ ((posX l K k + 3 + 3 * (xAt l k).ct : Nat) : Int) := by omega
      clear e0 e1 e2 e3 e4 m0 m1 m2 m3 hpc hy hPl hPs ih
      generalize (xAt l k).l.length = ll at *
      generalize hE : ((posX l K k + 3 + 3 * (xAt l k).ct : Nat) : Int) = A5 at *
      generalize hA : ((posX l K k : Nat) : Int) = A at *
      generalize hB2 : ((posX l K k + 1 : Nat) : Int) = A2 at *
      generalize hC : ((posX l K k + 2 : Nat) : Int) = A3 at *
      generalize hD : ((posX l K k + 3 : Nat) : Int) = A4 at *
      generalize mkTx (posX l K k + 2) = X at *
      go_wp2_with fail
      refine wp_region_sub x (by kernel_rfl) (by kernel_rfl) ?_
      repeat (go_big_quiet_step (first | (go_at_call 65; exact Sub.call (unhide HZ) (unhide MX _))))
      refine wpQuiet_nil ?_
      intro z
      go_wp2_with fail
      refine (Sub.call (unhide HZ) (unhide HC _)).mono ?_
      rintro e _ ⟨rfl, z2, rfl⟩
      go_wp2
      go_roundw
      case rel => exact ⟨k + 1, z2, by omega, by go_num, congrArg (Value.int .i64) (unhide EQ), rfl⟩
      case measure => simp [intOf]; omega
    · obtain rfl : k = n := by omega
      go_wp2
      go_ret
      exact ⟨rfl, x.h⟩
theorem heldXS_any (e : Ex) : HeldP e := by
  induction e using Ex.ind with
  | h k n s l ih => exact heldXS_of _ (fun i hi => ih _ (xAt_mem hi))
set_option maxHeartbeats 1000000 in
theorem markX_any (e : Ex) (a : Option Addr) (cap k B : Nat) (w : World) (ho : NewX w B e a) (hB : B ≤ w.heap.size) (hk : 0 < k) (hb : k + 3 * e.ct ≤ 8000000) : Calls Tryd.prog 29 #[.agg (e.cs a cap), .int .i64 k] w fun r w' => ∃ y : Ex, r = .returned (.int .i64 ((k + 3 * e.ct : Nat) : Int)) ∧ MkX e k y ∧ NewX w' B y a ∧ Below B w w' := by
  obtain ⟨F, o1, o2, o3⟩ := ho
  have hbW : Below w.heap.size w (w.alloc (.cells (e.cs a cap) 26)) := (Below.refl _ _).alloc (Nat.le_refl _) _
  have MS := (markXS_any e a cap k F B (w.alloc (.cells (e.cs a cap) 26)) (o1.later hbW) o2 o3 (Nat.le_trans hB hbW.size) hk hb).mono (R' := fun r w' => ∃ y : Ex, r = .returned (.int .i64 ((k + 3 * e.ct : Nat) : Int)) ∧ MkX e k y ∧ NewX w' B y a ∧ Below B w w') (by
    rintro r w' ⟨y, rfl, h1, h2, h3, _⟩
    exact ⟨y, rfl, h1, ⟨F, h2, o2, o3⟩, (hbW.mono hB).trans h3⟩)
  have M := hide MS
  unfold Ex.cs at M ⊢
  clear o1 o2 o3 hbW MS
  generalize hc : ((k + 3 * e.ct : Nat) : Int) = C at *
  generalize e.l.length = ll at *
  go_enter Tryd.func29, Tryd.ntmps29
  go_wp2_with (go_at_call 38; refine (unhide M).mono ?_; rintro e w1 ⟨y, rfl, h1, h2, h3⟩)
  go_ret
  exact ⟨y, rfl, h1, h2, h3⟩
set_option maxHeartbeats 1000000 in
theorem heldX_any (e : Ex) (a : Option Addr) (cap k : Nat) (y : Ex) (w : World) (hm : MkX e k y) (hr : RdX w 0 y a) (hk : 0 < k) (hb : k + 3 * e.ct ≤ 8000000) (q n : Int) (s : ByteArray) : Calls Tryd.prog 30 #[.agg #[.int .i64 q, .int .i64 n, .string s, .slice a e.l.length cap], .int .i64 k] w fun r w' => r = .returned (.int .i64 ((k + 3 * e.ct : Nat) : Int)) ∧ Below w.heap.size w w' := by
  have hbW : Below w.heap.size w (w.alloc (.cells #[.int .i64 q, .int .i64 n, .string s, .slice a e.l.length cap] 26)) := (Below.refl _ _).alloc (Nat.le_refl _) _
  have MS := (heldXS_any e a cap k y (w.alloc (.cells #[.int .i64 q, .int .i64 n, .string s, .slice a e.l.length cap] 26)) hm (hr.later hbW) hk hb).mono (R' := fun r w' => r = .returned (.int .i64 ((k + 3 * e.ct : Nat) : Int)) ∧ Below w.heap.size w w') (by
    rintro r w' ⟨rfl, h1⟩
    exact ⟨rfl, hbW.trans (h1.mono hbW.size)⟩)
  have M := hide MS
  have hp : 0 ≤ ((k + 3 * e.ct : Nat) : Int) := by omega
  clear hbW MS hm hr
  generalize hc : ((k + 3 * e.ct : Nat) : Int) = C at *
  generalize e.l.length = ll at *
  go_enter Tryd.func30, Tryd.ntmps30
  go_wp2_with (go_at_call 64; refine (unhide M).mono ?_; rintro e w1 ⟨rfl, h1⟩)
  go_ret
  exact ⟨rfl, h1⟩
end Go.Proofs.YtkolflcjkofleaaDoor

namespace Go.Proofs.YtkolflcjkofleaaDoor
open Go.ChangeShapes Go.WideShapes Go.ChangeAt Go.RowKit
set_option linter.unusedVariables false
set_option maxRecDepth 8000
set_option linter.unusedSimpArgs false

theorem HalfX.below {w w' : World} {B C : Nat} {e : Ex} {a : Option Addr} (h : HalfX w B C e a) (hb : Below C w w') : HalfX w' B C e a := by
  obtain ⟨F, h1, h2, h3⟩ := h
  exact ⟨F, OwX.keep e a F (fun b hF => hb.block b (h3 b hF).2) h1, h2, h3⟩
theorem HalfX.rd {w : World} {B C : Nat} {e : Ex} {a : Option Addr} (h : HalfX w B C e a) : RdX w 0 e a := h.new.rd.lower (Nat.zero_le _) _ _
set_option maxHeartbeats 1000000 in
theorem markX_keep (e : Ex) (a : Option Addr) (cap k B C : Nat) (w : World) (ho : HalfX w B C e a) (hB : B ≤ w.heap.size) (hk : 0 < k) (hb : k + 3 * e.ct ≤ 8000000) : Calls Tryd.prog 29 #[.agg (e.cs a cap), .int .i64 k] w fun r w' => ∃ y : Ex, r = .returned (.int .i64 ((k + 3 * e.ct : Nat) : Int)) ∧ MkX e k y ∧ HalfX w' B C y a ∧ Below B w w' ∧ ∀ g, C ≤ g → g < w.heap.size → w'.heap[g]? = w.heap[g]? := by
  obtain ⟨F, o1, o2, o3⟩ := ho
  have hbW : Below w.heap.size w (w.alloc (.cells (e.cs a cap) 26)) := (Below.refl _ _).alloc (Nat.le_refl _) _
  have MS := (markXS_any e a cap k F B (w.alloc (.cells (e.cs a cap) 26)) (o1.later hbW) o2 (fun b hb => (o3 b hb).1) (Nat.le_trans hB hbW.size) hk hb).mono (R' := fun r w' => ∃ y : Ex, r = .returned (.int .i64 ((k + 3 * e.ct : Nat) : Int)) ∧ MkX e k y ∧ HalfX w' B C y a ∧ Below B w w' ∧ ∀ g, C ≤ g → g < w.heap.size → w'.heap[g]? = w.heap[g]?) (by
    rintro r w' ⟨y, rfl, h1, h2, h3, h4⟩
    exact ⟨y, rfl, h1, ⟨F, h2, o2, o3⟩, (hbW.mono hB).trans h3, fun g hg hl => (h4 g (Nat.lt_of_lt_of_le hl hbW.size) (fun hF => by have := (o3 g hF).2; omega)).trans (hbW.block g hl)⟩)
  have M := hide MS
  unfold Ex.cs at M ⊢
  clear o1 o2 o3 hbW MS
  generalize hc : ((k + 3 * e.ct : Nat) : Int) = C' at *
  generalize e.l.length = ll at *
  go_enter Tryd.func29, Tryd.ntmps29
  go_wp2_with (go_at_call 38; refine (unhide M).mono ?_; rintro e w1 ⟨y, rfl, h1, h2, h3, h4⟩)
  go_ret
  exact ⟨y, rfl, h1, h2, h3, h4⟩
end Go.Proofs.YtkolflcjkofleaaDoor

namespace Go.Proofs.YtkolflcjkofleaaDoor
open Go.ChangeShapes Go.WideShapes Go.ChangeAt Go.RowKit
set_option linter.unusedVariables false
set_option maxRecDepth 8000
set_option linter.unusedSimpArgs false

set_option maxHeartbeats 32000000 in
theorem putI_c3 (here : Ex) (L : List ByteArray) (vals : List Ex) (e : Ex) (b hb : Option Addr) (cap hcp : Nat) (an : Option Addr) (cn gv off cv : Nat) (w : World) (hr : RdX w 0 e b) (hh : RdX w 0 here hb) (rn : RdU w an L) (rv : RdX w 0 ⟨0, 0, E0, vals⟩ (some ⟨gv, off, none⟩)) (hze : e.sz ≤ 1048576) (hzh : here.sz ≤ 1048576) (hL : L.length ≤ 1048576) (hV : vals.length ≤ 1048576) (hzv : ∀ i, i < vals.length → (xAt vals i).sz ≤ 1048576) (ht : TabK w) (heq : L.length = vals.length) (hno : okL (e :: here :: vals) = true) : Calls Tryd.prog 22 #[.agg (e.cs b cap), .agg (here.cs hb hcp), .slice an L.length cn, .slice (some ⟨gv, off, none⟩) vals.length cv] w (XoR (putA here L vals e) w) := by
  have hall : okF 6 false e = true ∧ okF 6 false here = true ∧ ∀ i, i < vals.length → okF 6 false (xAt vals i) = true := by
    have h := hno
    unfold okL at h
    rw [List.all_cons, List.all_cons, Bool.and_eq_true, Bool.and_eq_true, List.all_eq_true] at h
    exact ⟨h.1, h.2.1, fun i hi => h.2.2 _ (xAt_mem hi)⟩
  have HY := hide (show okF 6 false (putX here L vals e) = true → XoR (putX here L vals e) w = XoR (putA here L vals e) w from fun h => by unfold putA; rw [if_pos ⟨hall.1, hall.2.1, heq, hall.2.2, h⟩])
  have HN := hide (show okF 6 false (putX here L vals e) = false → XoR zX w = XoR (putA here L vals e) w from fun h => by rw [putA_no (fun q => by rw [h] at q; exact absurd q.2.2.2.2 (by decide))])
  have PL := hide (fun wr (h : Below w.heap.size w wr) => places_any an vals.length cn L wr heq (by omega) (rn.later h))
  obtain ⟨th, xh, hth⟩ := tv_if here
  obtain ⟨te, xe, hte⟩ := tv_if e
  obtain ⟨tp, xp, htp⟩ := tv_if (putX here L vals e)
  have IJ := hide (fun (g6 o6 cap6 mb : Nat) (ps : List (ByteArray × Nat)) wr (h : Fi wr mb ps g6 o6 vals) (hps : ∀ s, lkS ps s = plS L s) => ij_all here L vals heq (by omega) 6 e hall.1 th xh mb g6 o6 (cap6 - 2) ps wr hth h hps)
  unfold VaR at IJ
  have hpo := put_ok hall.2.1 hall.2.2 heq 6 e hall.1
  have XO := hide (fun wr => xo_all _ (putX here L vals e) wr hpo)
  unfold XoR at XO
  have hps : (putX here L vals e).sz ≤ 1048576 := by
    have h1 := put_sz (here := here) (L := L) (vals := vals) (Nat.le_trans (ok_sz 6 here hall.2.1) (by decide)) (fun i => by
      by_cases hi : i < vals.length
      · exact Nat.le_trans (ok_sz 6 _ (hall.2.2 i hi)) (by decide)
      · unfold xAt; rw [List.getD_eq_getElem?_getD, List.getElem?_eq_none (by omega)]; show X0.sz ≤ 504; unfold X0; rw [sz_leaf]; decide) 6 e hall.1
    exact Nat.le_trans h1 (by decide)
  have OI := hide (fun c cp wr (hb : Below w.heap.size w wr) (h : RdX wr 0 (putX here L vals e) c) => okI_any (putX here L vals e) c cp wr h hps (ht.next hb))
  rw [hte, htp] at IJ
  rw [htp] at XO
  have MT := hide (show (e :: here :: vals).map tv = .iface te xe :: .iface th xh :: vals.map tv by rw [List.map_cons, List.map_cons, hte, hth])
  have P0 := hide (Pb.new w #[.int .i64 e.k, .int .i64 e.n, .string e.s, .slice b e.l.length cap] #[.int .i64 here.k, .int .i64 here.n, .string here.s, .slice hb here.l.length hcp])
  obtain ⟨i0, hi, hz0, hz1, hz2⟩ := info_parts infoX
  obtain ⟨ts, hts0, hcs, hrs⟩ := rdx_cells rv
  have hts : ts.map Tc.x = vals := hts0
  have hlen : ts.length = vals.length := by rw [← hts]; simp
  have LL := hide (show ([(⟨e, b, cap⟩ : Tc), ⟨here, hb, hcp⟩] ++ ts).map Tc.x = e :: here :: vals by simp [hts])
  have RR := hide (fun wr (h : Below w.heap.size w wr) => (show ∀ t ∈ [(⟨e, b, cap⟩ : Tc), ⟨here, hb, hcp⟩] ++ ts, RdX wr 0 t.x t.a from fun t ht => by
    rcases List.mem_append.1 ht with ht | ht
    · simp only [List.mem_cons, List.not_mem_nil, or_false] at ht
      rcases ht with rfl | rfl
      · exact hr.later h
      · exact hh.later h
    · exact (hrs t ht).later h))
  have CC := hide (fun wr (h : Below w.heap.size w wr) => (show ∀ j u, (cellsX ts)[j]? = some u → wr.cell? ((⟨gv, off, none⟩ : Addr).add j) = some u from fun j u hu => by
    have q := hcs j u hu
    have q2 := (h.cell (p := ⟨gv, off + j, none⟩) (World.block_lt_of_cell? w _ q)).trans q
    unfold Addr.add
    by_cases h0 : j = 0
    · subst h0; simpa using q2
    · simpa [h0] using q2))
  have TS := hide (fun (a : Option Addr) (n c : Nat) wr (h : Below w.heap.size w wr) (hn : vals.length + 2 = n) (hrd : RdX wr 0 ⟨0, 0, E0, e :: here :: vals⟩ a) => termsI_any (e :: here :: vals) a n c wr (by simp; omega) (by omega) (fun i hi => by
    match i with
    | 0 => exact hze
    | 1 => exact hzh
    | (i + 2) => exact hzv i (by omega)) hrd (ht.next h))
  unfold TsR at TS
  have RN := hide (fun wr (h : Below w.heap.size w wr) => rn.later h)
  have TB := hide (fun wr (h : Below w.heap.size w wr) => ht.next h)
  have OWN := hide (fun (wr : World) (g n cp : Nat) (h : wr.ownsRow (w.heap.size + 3) 26 4 (.slice (some ⟨g, 0, none⟩) n cp) n (cellsX ([(⟨e, b, cap⟩ : Tc), ⟨here, hb, hcp⟩] ++ ts))) (hn : vals.length + 2 = n) (hbel : Below w.heap.size w wr) => (by
    have q := own_rdx h (by simp [hlen]; omega) (unhide RR wr hbel)
    rw [unhide LL] at q
    exact q : RdX wr 0 ⟨0, 0, E0, e :: here :: vals⟩ (some ⟨g, 0, none⟩)))
  have CL := hide (show (cellsX ts).length = vals.length * 4 by rw [cellsX_len, hlen])
  have CO := hide (cellsX_one ts)
  have XX := hide (show cellsX ([(⟨e, b, cap⟩ : Tc), ⟨here, hb, hcp⟩] ++ ts) = [.int .i64 e.k, .int .i64 e.n, .string e.s, .slice b e.l.length cap, .int .i64 here.k, .int .i64 here.n, .string here.s, .slice hb here.l.length hcp] ++ cellsX ts by rw [cellsX_app]; rfl)
  rw [unhide XX] at OWN
  generalize cellsX ts = news at *
  have heq2 : ((L.length : Int) == (vals.length : Int)) = true := beq_iff_eq.2 (by omega)
  unfold Ex.cs
  clear hr hh rn rv ht hzv hcs hrs hts hts0 hlen LL RR XX ts
  rw [hno] at TS
  simp only [forall_const] at TS
  generalize hX : XoR (putA here L vals e) w = X at HY HN ⊢
  clear hX hno hpo hps hall hth hte htp
  unfold Ex.cs at OI
  generalize putX here L vals e = y at *
  go_enter Tryd.func22, Tryd.ntmps22
  have hb4 := below_new (((w.alloc (.cells #[.int .i64 e.k, .int .i64 e.n, .string e.s, .slice b e.l.length cap] 26)).alloc (.cells #[.int .i64 here.k, .int .i64 here.n, .string here.s, .slice hb here.l.length hcp] 26)).alloc (.cells #[.int .i64 0, .int .i64 0, .string ⟨#[]⟩, .slice none 0 0] 26)) (.cells #[.int .i64 e.k, .int .i64 e.n, .string e.s, .slice b e.l.length cap, .int .i64 here.k, .int .i64 here.n, .string here.s, .slice hb here.l.length hcp] 26)
  have P4 := hide ((unhide P0).later hb4)
  have O4 := hide (own_eight (t := 26) (unhide P0).lt (show (#[.int .i64 e.k, .int .i64 e.n, .string e.s, .slice b e.l.length cap, .int .i64 here.k, .int .i64 here.n, .string here.s, .slice hb here.l.length hcp] : Array Value).size = 8 from rfl))
  rw [show (((w.alloc (.cells #[.int .i64 e.k, .int .i64 e.n, .string e.s, .slice b e.l.length cap] 26)).alloc (.cells #[.int .i64 here.k, .int .i64 here.n, .string here.s, .slice hb here.l.length hcp] 26)).alloc (.cells #[.int .i64 0, .int .i64 0, .string ⟨#[]⟩, .slice none 0 0] 26)).heap.size = w.heap.size + 1 + 1 + 1 by simp] at O4
  clear hb4
  go_wp2_with (first | (refine wpList_load_row rfl 26 _ rfl w.heap.size rfl 26 #[.int .i64 e.k, .int .i64 e.n, .string e.s, .slice b e.l.length cap] (0, 0) _ ((unhide P0).be) Tryd.underlying26 rfl (by kernel_rfl) ?_) | (refine wpList_load_row rfl 26 _ rfl (w.heap.size + 1) rfl 26 #[.int .i64 here.k, .int .i64 here.n, .string here.s, .slice hb here.l.length hcp] (0, 0) _ ((unhide P0).bh) Tryd.underlying26 rfl (by kernel_rfl) ?_) | (at_builtin; go_must (refine wpList_append_own _ rfl (.tmp 21) (.tmp 22) 24 rfl (w.heap.size + 3) 26 i0 (.agg #[.int .i64 0, .int .i64 0, .string ⟨#[]⟩, .slice none 0 0]) 4 56 Tryd.underlying24 hi hz0 hz1 hz2 rfl (by decide) (.slice (some ⟨w.heap.size + 1 + 1 + 1, 0, none⟩) 2 2) 2 [.int .i64 e.k, .int .i64 e.n, .string e.s, .slice b e.l.length cap, .int .i64 here.k, .int .i64 here.n, .string here.s, .slice hb here.l.length hcp] rfl (unhide O4) ⟨gv, off, none⟩ vals.length cv news rfl (unhide CL) (unhide CC _ (unhide P4).bel) (unhide CO) (by unfold maxLen; omega) (by omega) (unhide P4).lt ?_; intro v5 w5 hown5 hgrow5 _; obtain ⟨g5, cp5, rfl⟩ := own_form hown5 (by omega); have P5 := hide ((unhide P4).grown hgrow5 (show w.heap.size + 3 ≤ w.heap.size + 1 + 1 + 1 by omega)); have R5 := hide (unhide OWN w5 g5 (2 + vals.length) cp5 hown5 (by omega) (unhide P5).bel); have T5 := hide (unhide TS (some ⟨g5, 0, none⟩) (2 + vals.length) cp5 w5 (unhide P5).bel (by omega) (unhide R5)); clear hown5 hgrow5 P4 O4 R5)))
  refine (unhide T5).mono ?_
  rintro r w6 ⟨v6, rfl, hv6, hb6⟩
  have P6 := hide ((unhide P5).later hb6)
  obtain ⟨g6, cap6, rfl⟩ := own_form hv6 (by simp)
  obtain ⟨cur, hg6, hc6, hcur⟩ : ∃ cur : Array Value, w6.heap[g6]? = some (.cells cur 66 (0, 0)) ∧ vals.length + 2 ≤ cap6 ∧ ∀ j, j < vals.length + 2 → cur[j]? = (Value.iface te xe :: .iface th xh :: vals.map tv)[j]? := by
    obtain ⟨_, ⟨q, _⟩ | ⟨g', cap', cur, q, q1, q2, q3, q4, q5, q6⟩⟩ := hv6
    · cases q
    · cases q
      refine ⟨cur, q2, by simpa using q3, fun j hj => ?_⟩
      rw [← unhide MT, ← q6]
      rw [List.getElem?_take_of_lt (by simp; omega)]
      simp
  have k0 := (hcur 0 (by omega)).trans (show _ = some (Value.iface te xe) from rfl)
  have k1 := (hcur 1 (by omega)).trans (show _ = some (Value.iface th xh) from rfl)
  obtain ⟨o6, ho6, hcv⟩ : ∃ o6, (if cap6 = 2 then some (⟨g6, 0, none⟩ : Addr) else some ⟨g6, 2, none⟩) = some ⟨g6, o6, none⟩ ∧ ∀ wr : World, wr.heap[g6]? = some (.cells cur 66 (0, 0)) → ∀ i, i < vals.length → wr.cell? ⟨g6, o6 + i, none⟩ = some (tv (xAt vals i)) := by
    by_cases h2 : cap6 = 2
    · exact ⟨0, by rw [if_pos h2], fun wr h i hi => by omega⟩
    · refine ⟨2, by rw [if_neg h2], fun wr h i hi => ?_⟩
      rw [Lib.cell_of_heap h, hcur (2 + i) (by omega), show 2 + i = i + 1 + 1 by omega, List.getElem?_cons_succ, List.getElem?_cons_succ, List.getElem?_map, List.getElem?_eq_getElem hi, xAt_get hi]
      rfl
  have CV := hide hcv
  clear hcv
  have IJ := hide (unhide IJ g6 o6 cap6)
  have hln : (e :: here :: vals).length = vals.length + 2 := by simp
  simp only [hln]
  have G6 := hide hg6
  clear hv6 hb6 T5 P5 TS OWN CC CL CO hcur MT hg6 hln
  go_wp2_with fail
  have hb7 := below_drew (w := w6)
  have P7 := hide ((unhide P6).later hb7)
  have G7 := hide (row_keep (unhide G6) hb7)
  clear hb7 P6 G6
  refine wp_region_held_drew (S := fun v => v.heap[g6]? = some (.cells cur 66 (0, 0))) (by kernel_rfl) (unhide G7) (fun hS => ?_)
  have HS := hide hS
  clear hS
  generalize w6.drew = w7 at *
  have hq2 : ¬ ((vals.length : Int) + 2 ≤ 1) := by omega
  have hq3 : (2 : Int) ≤ (vals.length : Int) + 2 := by omega
  have hq4 : ¬ ((vals.length : Int) + 2 ≤ 0) := by omega
  refine wpAnyH_take (i := 0) (v := .slice (some ⟨g6, 0, none⟩) (vals.length + 2) cap6) rfl (by kernel_rfl) (by kernel_rfl) (by kernel_rfl) (fun _ _ _ h => h) (Or.inl ⟨by rfl, fun w hc => ?_⟩) (unhide HS) ?_
  · clear hc; go_simp
  go_simp
  refine wpAnyH_take (i := 1) (v := .pointer (some ⟨g6, 1, none⟩)) rfl (by kernel_rfl) (by kernel_rfl) (by kernel_rfl) (fun _ _ _ h => h) (Or.inl ⟨by rfl, fun w hc => ?_⟩) (unhide HS) ?_
  · clear hc; go_simp
  go_simp
  refine wpAnyH_take (i := 2) (v := .iface th xh) rfl (by kernel_rfl) (by kernel_rfl) (by kernel_rfl) (fun _ _ _ h => h) (Or.inl ⟨by rfl, fun w hc => ?_⟩) (unhide HS) ?_
  · have q := (Lib.cell_of_heap hc 1).trans k1; clear hc; go_simp
  go_simp
  refine wpAnyH_take (i := 3) (v := .slice an vals.length cn) rfl (by kernel_rfl) (by kernel_rfl) (by kernel_rfl) (fun _ _ _ h => h) (Or.inl ⟨by rfl, fun w hc => ?_⟩) (unhide HS) ?_
  · clear hc; go_simp
  go_simp
  refine wpAnyH_take (i := 5) (v := .slice (some ⟨g6, 0, none⟩) (vals.length + 2) cap6) rfl (by kernel_rfl) (by kernel_rfl) (by kernel_rfl) (fun _ _ _ h => h) (Or.inl ⟨by rfl, fun w hc => ?_⟩) (unhide HS) ?_
  · clear hc; go_simp
  go_simp
  refine wpAnyH_take (i := 6) (v := .slice (some ⟨g6, o6, none⟩) vals.length (cap6 - 2)) rfl (by kernel_rfl) (by kernel_rfl) (by kernel_rfl) (fun _ _ _ h => h) (Or.inl ⟨by rfl, fun w hc => ?_⟩) (unhide HS) ?_
  · clear hc; go_simp
  go_simp
  refine wpAnyH_take (i := 8) (v := .slice (some ⟨g6, 0, none⟩) (vals.length + 2) cap6) rfl (by kernel_rfl) (by kernel_rfl) (by kernel_rfl) (fun _ _ _ h => h) (Or.inl ⟨by rfl, fun w hc => ?_⟩) (unhide HS) ?_
  · clear hc; go_simp
  go_simp
  refine wpAnyH_take (i := 9) (v := .pointer (some ⟨g6, 0, none⟩)) rfl (by kernel_rfl) (by kernel_rfl) (by kernel_rfl) (fun _ _ _ h => h) (Or.inl ⟨by rfl, fun w hc => ?_⟩) (unhide HS) ?_
  · clear hc; go_simp
  go_simp
  refine wpAnyH_take (i := 10) (v := .iface te xe) rfl (by kernel_rfl) (by kernel_rfl) (by kernel_rfl) (fun _ _ _ h => h) (Or.inl ⟨by rfl, fun w hc => ?_⟩) (unhide HS) ?_
  · have q := (Lib.cell_of_heap hc 0).trans k0; clear hc; go_simp
  go_simp
  refine wpAnyH_ready (rs := [4, 13]) (by kernel_rfl) (by simp) ?_
  refine AllReadyH.cons rfl (fun K2 hK => ?_) (AllReadyH.cons rfl (fun K2 hK => ?_) AllReadyH.nil)
  · go_simp
    refine (unhide PL w7 (unhide P7).bel).mono ?_
    rintro r w8 ⟨mb, ps, rfl, hmp, hps, hge, hbb⟩
    have M8 := hide hmp
    have LK := hide hps
    clear hmp hps hge
    have P8 := hide ((unhide P7).later hbb)
    have G8 := hide (row_keep (unhide G7) hbb)
    clear hbb P7 G7
    refine hK.out _ _ (unhide G8) (fun hS => ?_)
    clear HS
    have HS := hide hS
    clear hS hK K2
    refine wpAnyH_take (i := 7) (v := .agg #[.iface th xh, .map (some mb), .slice (some ⟨g6, o6, none⟩) vals.length (cap6 - 2)]) rfl (by kernel_rfl) (by kernel_rfl) (by kernel_rfl) (fun _ _ _ h => h) (Or.inl ⟨by rfl, fun w hc => ?_⟩) (unhide HS) ?_
    · clear hc; go_simp
    go_simp
    refine wpAnyH_ready (rs := [11, 13]) (by kernel_rfl) (by simp) ?_
    refine AllReadyH.cons rfl (fun K2 hK => ?_) (AllReadyH.cons rfl (fun K2 hK => ?_) AllReadyH.nil)
    · go_simp
      refine (unhide IJ mb ps w8 ⟨unhide M8, (Array.getElem?_eq_some_iff.1 (unhide G8)).1, unhide CV w8 (unhide G8)⟩ (unhide LK)).mono ?_
      rintro r w9 ⟨rfl, hbb⟩
      have P9 := hide ((unhide P8).later hbb)
      have G9 := hide (row_keep (unhide G8) hbb)
      have M9 := hide ((unhide M8).later hbb)
      clear hbb P8 G8 M8
      refine hK.out _ _ (unhide G9) (fun hS => ?_)
      clear HS
      have HS := hide hS
      clear hS hK K2
      refine wpAnyH_ready (rs := [12, 13]) (by kernel_rfl) (by simp) ?_
      refine AllReadyH.cons rfl (fun K2 hK => ?_) (AllReadyH.cons rfl (fun K2 hK => ?_) AllReadyH.nil)
      · go_simp
        refine (unhide XO w9).mono ?_
        rintro r w10 ⟨c, cp, rfl, hnx, hbb⟩
        unfold Ex.cs
        have N10 := hide (hnx.half)
        have hl12 := (unhide P9).lt
        have hs12 := hbb.size
        clear hnx
        have P10 := hide ((unhide P9).later hbb)
        have G10 := hide (row_keep (unhide G9) hbb)
        have M10 := hide ((unhide M9).later hbb)
        clear hbb P9 G9 M9
        have hz12 := Nat.le_refl w10.heap.size
        generalize w9.heap.size = bx at *
        generalize hcx : w10.heap.size = cx at N10
        have HCX := hide hcx
        clear hcx
        refine hK.out _ _ (unhide G10) (fun hS => ?_)
        clear HS
        have HS := hide hS
        clear hS hK K2
        refine wpAnyH_ready (rs := [13]) (by kernel_rfl) (by simp) ?_
        refine AllReadyH.cons rfl (fun K2 hK => ?_) AllReadyH.nil
        go_simp
        have hbb := below_new w10 (.cells #[.int .i64 0, .int .i64 0, .string ⟨#[]⟩, .slice none 0 0] 26)
        have A11 := hide (show (w10.alloc (.cells #[.int .i64 0, .int .i64 0, .string ⟨#[]⟩, .slice none 0 0] 26)).heap[w10.heap.size]? = some (.cells #[.int .i64 0, .int .i64 0, .string ⟨#[]⟩, .slice none 0 0] 26 (0, 0)) from Array.getElem?_push_size)
        have ga3 : w.heap.size + 3 ≤ w10.heap.size := (unhide P10).lt
        have gac : cx ≤ w10.heap.size := Nat.le_of_eq (unhide HCX).symm
        have P11 := hide ((unhide P10).later hbb)
        have G11 := hide (row_keep (unhide G10) hbb)
        have M11 := hide ((unhide M10).later hbb)
        have N11 := hide ((unhide N10).later hbb)
        clear hbb P10 G10 M10 N10
        generalize w10.alloc (.cells #[.int .i64 0, .int .i64 0, .string ⟨#[]⟩, .slice none 0 0] 26) = w11 at *
        generalize w10.heap.size = ga at *
        refine hK.out _ _ (unhide G11) (fun hS => ?_)
        clear HS
        have HS := hide hS
        clear hS hK K2
        refine wpAnyH_ready (rs := [14]) (by kernel_rfl) (by simp) ?_
        refine AllReadyH.cons rfl (fun K2 hK => ?_) AllReadyH.nil
        rw [if_pos (by rfl)]
        have hg6a : g6 ≠ ga := fun q => by have h1 := unhide G11; rw [q, unhide A11] at h1; cases h1
        refine wp_store_row 26 _ _ rfl ga #[.int .i64 y.k, .int .i64 y.n, .string y.s, .slice c y.l.length cp] rfl rfl 26 _ (unhide A11) szE rfl (ex_one _ _ _ _ _ _) ?_
        have hgr := grownBy_row (W := w11) (g := ga) #[.int .i64 y.k, .int .i64 y.n, .string y.s, .slice c y.l.length cp]
        have P12 := hide ((unhide P11).grown hgr ga3)
        have Y12 := hide (setRow_heap w11 ga _ #[.int .i64 y.k, .int .i64 y.n, .string y.s, .slice c y.l.length cp] 26 _ (unhide A11))
        have N12 := hide ((unhide N11).beyond hgr gac)
        have G12 := hide ((hgr.block g6 (Array.getElem?_eq_some_iff.1 (unhide G11)).1 (fun q => by simp at q; exact hg6a q)).trans (unhide G11))
        refine hK.out _ _ (unhide G12) (fun hS => ?_)
        clear HS hS hK K2 hgr
        clear P11 A11 N11 G11
        refine wpAnyH_done (by kernel_rfl) ?_ _
        generalize w11.setRow ga #[.int .i64 y.k, .int .i64 y.n, .string y.s, .slice c y.l.length cp] = w12 at *
        have O12 := hide (unhide OI c cp w12 (unhide P12).bel (unhide N12).rd)
        go_wp2_with (refine wpList_load_row rfl 26 _ rfl ga rfl 26 #[.int .i64 y.k, .int .i64 y.n, .string y.s, .slice c y.l.length cp] (0, 0) _ (unhide Y12) Tryd.underlying26 rfl (by kernel_rfl) ?_)
        refine (unhide O12).mono ?_
        rintro r w13 ⟨rfl, hbb⟩
        have P13 := hide ((unhide P12).later hbb)
        have Y13 := hide (row_keep (unhide Y12) hbb)
        have N13 := hide ((unhide N12).later hbb)
        clear hbb O12 P12 Y12 N12 G12
        cases hq : okF 6 false y with
        | false =>
          have HX := hide (unhide HN hq)
          go_wp2_with (refine wpList_store_row rfl 26 _ _ rfl (w.heap.size + 2) #[.int .i64 0, .int .i64 0, .string ⟨#[]⟩, .slice none 0 0] rfl rfl 26 _ ((unhide P13).res) szE rfl (ex_one _ _ _ _ _ _) ?_)
          refine bodyPost_ret (results_cell_row (P := Tryd.prog) rfl _ _ (w.heap.size + 2) 26 #[.int .i64 0, .int .i64 0, .string ⟨#[]⟩, .slice none 0 0] (0, 0) _ rfl (setRow_heap _ _ _ _ _ _ ((unhide P13).res)) Tryd.underlying26 rfl szE) rfl ?_
          rw [← unhide HX]
          exact (unhide P13).end (x := zX) (NewX.nil _ _ _ _ _ _) _
        | true =>
          have HX := hide (unhide HY hq)
          go_wp2_with (first | (refine wpList_load_row rfl 26 _ rfl ga rfl 26 #[.int .i64 y.k, .int .i64 y.n, .string y.s, .slice c y.l.length cp] (0, 0) _ (unhide Y13) Tryd.underlying26 rfl (by kernel_rfl) ?_) | (refine wpList_store_row rfl 26 _ _ rfl (w.heap.size + 2) #[.int .i64 y.k, .int .i64 y.n, .string y.s, .slice c y.l.length cp] rfl rfl 26 _ ((unhide P13).res) szE rfl (ex_one _ _ _ _ _ _) ?_))
          refine bodyPost_ret (results_cell_row (P := Tryd.prog) rfl _ _ (w.heap.size + 2) 26 #[.int .i64 y.k, .int .i64 y.n, .string y.s, .slice c y.l.length cp] (0, 0) _ rfl (setRow_heap _ _ _ _ _ _ ((unhide P13).res)) Tryd.underlying26 rfl szE) rfl ?_
          rw [← unhide HX]
          exact (unhide P13).end ((unhide N13).new.lower (by omega)) _
      · go_simp
        have hbb := below_new w9 (.cells #[.int .i64 0, .int .i64 0, .string ⟨#[]⟩, .slice none 0 0] 26)
        have A10 := hide (show (w9.alloc (.cells #[.int .i64 0, .int .i64 0, .string ⟨#[]⟩, .slice none 0 0] 26)).heap[w9.heap.size]? = some (.cells #[.int .i64 0, .int .i64 0, .string ⟨#[]⟩, .slice none 0 0] 26 (0, 0)) from Array.getElem?_push_size)
        have ga3 : w.heap.size + 3 ≤ w9.heap.size := (unhide P9).lt
        have P10 := hide ((unhide P9).later hbb)
        have G10 := hide (row_keep (unhide G9) hbb)
        have M10 := hide ((unhide M9).later hbb)
        clear hbb P9 G9 M9
        generalize w9.alloc (.cells #[.int .i64 0, .int .i64 0, .string ⟨#[]⟩, .slice none 0 0] 26) = w10 at *
        generalize w9.heap.size = ga at *
        refine hK.out _ _ (unhide G10) (fun hS => ?_)
        clear HS
        have HS := hide hS
        clear hS hK K2
        refine wpAnyH_ready (rs := [12]) (by kernel_rfl) (by simp) ?_
        refine AllReadyH.cons rfl (fun K2 hK => ?_) AllReadyH.nil
        go_simp
        refine (unhide XO w10).mono ?_
        rintro r w11 ⟨c, cp, rfl, hnx, hbb⟩
        unfold Ex.cs
        have N11 := hide (hnx.half)
        have hl12 := (unhide P10).lt
        have hs12 := hbb.size
        have ha12 := (Array.getElem?_eq_some_iff.1 (unhide A10)).1
        clear hnx
        have P11 := hide ((unhide P10).later hbb)
        have G11 := hide (row_keep (unhide G10) hbb)
        have M11 := hide ((unhide M10).later hbb)
        have A11 := hide (row_keep (unhide A10) hbb)
        clear hbb P10 G10 M10 A10
        generalize w10.heap.size = bx at *
        generalize w11.heap.size = cx at N11
        refine hK.out _ _ (unhide G11) (fun hS => ?_)
        clear HS
        have HS := hide hS
        clear hS hK K2
        refine wpAnyH_ready (rs := [14]) (by kernel_rfl) (by simp) ?_
        refine AllReadyH.cons rfl (fun K2 hK => ?_) AllReadyH.nil
        rw [if_pos (by rfl)]
        have hg6a : g6 ≠ ga := fun q => by have h1 := unhide G11; rw [q, unhide A11] at h1; cases h1
        refine wp_store_row 26 _ _ rfl ga #[.int .i64 y.k, .int .i64 y.n, .string y.s, .slice c y.l.length cp] rfl rfl 26 _ (unhide A11) szE rfl (ex_one _ _ _ _ _ _) ?_
        have hgr := grownBy_row (W := w11) (g := ga) #[.int .i64 y.k, .int .i64 y.n, .string y.s, .slice c y.l.length cp]
        have P12 := hide ((unhide P11).grown hgr ga3)
        have Y12 := hide (setRow_heap w11 ga _ #[.int .i64 y.k, .int .i64 y.n, .string y.s, .slice c y.l.length cp] 26 _ (unhide A11))
        have N12 := hide ((unhide N11).drawn hgr (by omega))
        have G12 := hide ((hgr.block g6 (Array.getElem?_eq_some_iff.1 (unhide G11)).1 (fun q => by simp at q; exact hg6a q)).trans (unhide G11))
        refine hK.out _ _ (unhide G12) (fun hS => ?_)
        clear HS hS hK K2 hgr
        clear P11 A11 N11 G11
        refine wpAnyH_done (by kernel_rfl) ?_ _
        generalize w11.setRow ga #[.int .i64 y.k, .int .i64 y.n, .string y.s, .slice c y.l.length cp] = w12 at *
        have O12 := hide (unhide OI c cp w12 (unhide P12).bel (unhide N12).rd)
        go_wp2_with (refine wpList_load_row rfl 26 _ rfl ga rfl 26 #[.int .i64 y.k, .int .i64 y.n, .string y.s, .slice c y.l.length cp] (0, 0) _ (unhide Y12) Tryd.underlying26 rfl (by kernel_rfl) ?_)
        refine (unhide O12).mono ?_
        rintro r w13 ⟨rfl, hbb⟩
        have P13 := hide ((unhide P12).later hbb)
        have Y13 := hide (row_keep (unhide Y12) hbb)
        have N13 := hide ((unhide N12).later hbb)
        clear hbb O12 P12 Y12 N12 G12
        cases hq : okF 6 false y with
        | false =>
          have HX := hide (unhide HN hq)
          go_wp2_with (refine wpList_store_row rfl 26 _ _ rfl (w.heap.size + 2) #[.int .i64 0, .int .i64 0, .string ⟨#[]⟩, .slice none 0 0] rfl rfl 26 _ ((unhide P13).res) szE rfl (ex_one _ _ _ _ _ _) ?_)
          refine bodyPost_ret (results_cell_row (P := Tryd.prog) rfl _ _ (w.heap.size + 2) 26 #[.int .i64 0, .int .i64 0, .string ⟨#[]⟩, .slice none 0 0] (0, 0) _ rfl (setRow_heap _ _ _ _ _ _ ((unhide P13).res)) Tryd.underlying26 rfl szE) rfl ?_
          rw [← unhide HX]
          exact (unhide P13).end (x := zX) (NewX.nil _ _ _ _ _ _) _
        | true =>
          have HX := hide (unhide HY hq)
          go_wp2_with (first | (refine wpList_load_row rfl 26 _ rfl ga rfl 26 #[.int .i64 y.k, .int .i64 y.n, .string y.s, .slice c y.l.length cp] (0, 0) _ (unhide Y13) Tryd.underlying26 rfl (by kernel_rfl) ?_) | (refine wpList_store_row rfl 26 _ _ rfl (w.heap.size + 2) #[.int .i64 y.k, .int .i64 y.n, .string y.s, .slice c y.l.length cp] rfl rfl 26 _ ((unhide P13).res) szE rfl (ex_one _ _ _ _ _ _) ?_))
          refine bodyPost_ret (results_cell_row (P := Tryd.prog) rfl _ _ (w.heap.size + 2) 26 #[.int .i64 y.k, .int .i64 y.n, .string y.s, .slice c y.l.length cp] (0, 0) _ rfl (setRow_heap _ _ _ _ _ _ ((unhide P13).res)) Tryd.underlying26 rfl szE) rfl ?_
          rw [← unhide HX]
          exact (unhide P13).end ((unhide N13).new.lower (by omega)) _
    · go_simp
      have hbb := below_new w8 (.cells #[.int .i64 0, .int .i64 0, .string ⟨#[]⟩, .slice none 0 0] 26)
      have A9 := hide (show (w8.alloc (.cells #[.int .i64 0, .int .i64 0, .string ⟨#[]⟩, .slice none 0 0] 26)).heap[w8.heap.size]? = some (.cells #[.int .i64 0, .int .i64 0, .string ⟨#[]⟩, .slice none 0 0] 26 (0, 0)) from Array.getElem?_push_size)
      have ga3 : w.heap.size + 3 ≤ w8.heap.size := (unhide P8).lt
      have P9 := hide ((unhide P8).later hbb)
      have G9 := hide (row_keep (unhide G8) hbb)
      have M9 := hide ((unhide M8).later hbb)
      clear hbb P8 G8 M8
      generalize w8.alloc (.cells #[.int .i64 0, .int .i64 0, .string ⟨#[]⟩, .slice none 0 0] 26) = w9 at *
      generalize w8.heap.size = ga at *
      refine hK.out _ _ (unhide G9) (fun hS => ?_)
      clear HS
      have HS := hide hS
      clear hS hK K2
      refine wpAnyH_ready (rs := [11]) (by kernel_rfl) (by simp) ?_
      refine AllReadyH.cons rfl (fun K2 hK => ?_) AllReadyH.nil
      go_simp
      refine (unhide IJ mb ps w9 ⟨unhide M9, (Array.getElem?_eq_some_iff.1 (unhide G9)).1, unhide CV w9 (unhide G9)⟩ (unhide LK)).mono ?_
      rintro r w10 ⟨rfl, hbb⟩
      have P10 := hide ((unhide P9).later hbb)
      have G10 := hide (row_keep (unhide G9) hbb)
      have M10 := hide ((unhide M9).later hbb)
      have A10 := hide (row_keep (unhide A9) hbb)
      clear hbb P9 G9 M9 A9
      refine hK.out _ _ (unhide G10) (fun hS => ?_)
      clear HS
      have HS := hide hS
      clear hS hK K2
      refine wpAnyH_ready (rs := [12]) (by kernel_rfl) (by simp) ?_
      refine AllReadyH.cons rfl (fun K2 hK => ?_) AllReadyH.nil
      go_simp
      refine (unhide XO w10).mono ?_
      rintro r w11 ⟨c, cp, rfl, hnx, hbb⟩
      unfold Ex.cs
      have N11 := hide (hnx.half)
      have hl12 := (unhide P10).lt
      have hs12 := hbb.size
      have ha12 := (Array.getElem?_eq_some_iff.1 (unhide A10)).1
      clear hnx
      have P11 := hide ((unhide P10).later hbb)
      have G11 := hide (row_keep (unhide G10) hbb)
      have M11 := hide ((unhide M10).later hbb)
      have A11 := hide (row_keep (unhide A10) hbb)
      clear hbb P10 G10 M10 A10
      generalize w10.heap.size = bx at *
      generalize w11.heap.size = cx at N11
      refine hK.out _ _ (unhide G11) (fun hS => ?_)
      clear HS
      have HS := hide hS
      clear hS hK K2
      refine wpAnyH_ready (rs := [14]) (by kernel_rfl) (by simp) ?_
      refine AllReadyH.cons rfl (fun K2 hK => ?_) AllReadyH.nil
      rw [if_pos (by rfl)]
      have hg6a : g6 ≠ ga := fun q => by have h1 := unhide G11; rw [q, unhide A11] at h1; cases h1
      refine wp_store_row 26 _ _ rfl ga #[.int .i64 y.k, .int .i64 y.n, .string y.s, .slice c y.l.length cp] rfl rfl 26 _ (unhide A11) szE rfl (ex_one _ _ _ _ _ _) ?_
      have hgr := grownBy_row (W := w11) (g := ga) #[.int .i64 y.k, .int .i64 y.n, .string y.s, .slice c y.l.length cp]
      have P12 := hide ((unhide P11).grown hgr ga3)
      have Y12 := hide (setRow_heap w11 ga _ #[.int .i64 y.k, .int .i64 y.n, .string y.s, .slice c y.l.length cp] 26 _ (unhide A11))
      have N12 := hide ((unhide N11).drawn hgr (by omega))
      have G12 := hide ((hgr.block g6 (Array.getElem?_eq_some_iff.1 (unhide G11)).1 (fun q => by simp at q; exact hg6a q)).trans (unhide G11))
      refine hK.out _ _ (unhide G12) (fun hS => ?_)
      clear HS hS hK K2 hgr
      clear P11 A11 N11 G11
      refine wpAnyH_done (by kernel_rfl) ?_ _
      generalize w11.setRow ga #[.int .i64 y.k, .int .i64 y.n, .string y.s, .slice c y.l.length cp] = w12 at *
      have O12 := hide (unhide OI c cp w12 (unhide P12).bel (unhide N12).rd)
      go_wp2_with (refine wpList_load_row rfl 26 _ rfl ga rfl 26 #[.int .i64 y.k, .int .i64 y.n, .string y.s, .slice c y.l.length cp] (0, 0) _ (unhide Y12) Tryd.underlying26 rfl (by kernel_rfl) ?_)
      refine (unhide O12).mono ?_
      rintro r w13 ⟨rfl, hbb⟩
      have P13 := hide ((unhide P12).later hbb)
      have Y13 := hide (row_keep (unhide Y12) hbb)
      have N13 := hide ((unhide N12).later hbb)
      clear hbb O12 P12 Y12 N12 G12
      cases hq : okF 6 false y with
      | false =>
        have HX := hide (unhide HN hq)
        go_wp2_with (refine wpList_store_row rfl 26 _ _ rfl (w.heap.size + 2) #[.int .i64 0, .int .i64 0, .string ⟨#[]⟩, .slice none 0 0] rfl rfl 26 _ ((unhide P13).res) szE rfl (ex_one _ _ _ _ _ _) ?_)
        refine bodyPost_ret (results_cell_row (P := Tryd.prog) rfl _ _ (w.heap.size + 2) 26 #[.int .i64 0, .int .i64 0, .string ⟨#[]⟩, .slice none 0 0] (0, 0) _ rfl (setRow_heap _ _ _ _ _ _ ((unhide P13).res)) Tryd.underlying26 rfl szE) rfl ?_
        rw [← unhide HX]
        exact (unhide P13).end (x := zX) (NewX.nil _ _ _ _ _ _) _
      | true =>
        have HX := hide (unhide HY hq)
        go_wp2_with (first | (refine wpList_load_row rfl 26 _ rfl ga rfl 26 #[.int .i64 y.k, .int .i64 y.n, .string y.s, .slice c y.l.length cp] (0, 0) _ (unhide Y13) Tryd.underlying26 rfl (by kernel_rfl) ?_) | (refine wpList_store_row rfl 26 _ _ rfl (w.heap.size + 2) #[.int .i64 y.k, .int .i64 y.n, .string y.s, .slice c y.l.length cp] rfl rfl 26 _ ((unhide P13).res) szE rfl (ex_one _ _ _ _ _ _) ?_))
        refine bodyPost_ret (results_cell_row (P := Tryd.prog) rfl _ _ (w.heap.size + 2) 26 #[.int .i64 y.k, .int .i64 y.n, .string y.s, .slice c y.l.length cp] (0, 0) _ rfl (setRow_heap _ _ _ _ _ _ ((unhide P13).res)) Tryd.underlying26 rfl szE) rfl ?_
        rw [← unhide HX]
        exact (unhide P13).end ((unhide N13).new.lower (by omega)) _
  · go_simp
    have hbb := below_new w7 (.cells #[.int .i64 0, .int .i64 0, .string ⟨#[]⟩, .slice none 0 0] 26)
    have A8 := hide (show (w7.alloc (.cells #[.int .i64 0, .int .i64 0, .string ⟨#[]⟩, .slice none 0 0] 26)).heap[w7.heap.size]? = some (.cells #[.int .i64 0, .int .i64 0, .string ⟨#[]⟩, .slice none 0 0] 26 (0, 0)) from Array.getElem?_push_size)
    have ga3 : w.heap.size + 3 ≤ w7.heap.size := (unhide P7).lt
    have P8 := hide ((unhide P7).later hbb)
    have G8 := hide (row_keep (unhide G7) hbb)
    clear hbb P7 G7
    generalize w7.alloc (.cells #[.int .i64 0, .int .i64 0, .string ⟨#[]⟩, .slice none 0 0] 26) = w8 at *
    generalize w7.heap.size = ga at *
    refine hK.out _ _ (unhide G8) (fun hS => ?_)
    clear HS
    have HS := hide hS
    clear hS hK K2
    refine wpAnyH_ready (rs := [4]) (by kernel_rfl) (by simp) ?_
    refine AllReadyH.cons rfl (fun K2 hK => ?_) AllReadyH.nil
    go_simp
    refine (unhide PL w8 (unhide P8).bel).mono ?_
    rintro r w9 ⟨mb, ps, rfl, hmp, hps, hge, hbb⟩
    have M9 := hide hmp
    have LK := hide hps
    clear hmp hps hge
    have P9 := hide ((unhide P8).later hbb)
    have G9 := hide (row_keep (unhide G8) hbb)
    have A9 := hide (row_keep (unhide A8) hbb)
    clear hbb P8 G8 A8
    refine hK.out _ _ (unhide G9) (fun hS => ?_)
    clear HS
    have HS := hide hS
    clear hS hK K2
    refine wpAnyH_take (i := 7) (v := .agg #[.iface th xh, .map (some mb), .slice (some ⟨g6, o6, none⟩) vals.length (cap6 - 2)]) rfl (by kernel_rfl) (by kernel_rfl) (by kernel_rfl) (fun _ _ _ h => h) (Or.inl ⟨by rfl, fun w hc => ?_⟩) (unhide HS) ?_
    · clear hc; go_simp
    go_simp
    refine wpAnyH_ready (rs := [11]) (by kernel_rfl) (by simp) ?_
    refine AllReadyH.cons rfl (fun K2 hK => ?_) AllReadyH.nil
    go_simp
    refine (unhide IJ mb ps w9 ⟨unhide M9, (Array.getElem?_eq_some_iff.1 (unhide G9)).1, unhide CV w9 (unhide G9)⟩ (unhide LK)).mono ?_
    rintro r w10 ⟨rfl, hbb⟩
    have P10 := hide ((unhide P9).later hbb)
    have G10 := hide (row_keep (unhide G9) hbb)
    have A10 := hide (row_keep (unhide A9) hbb)
    have M10 := hide ((unhide M9).later hbb)
    clear hbb P9 G9 A9 M9
    refine hK.out _ _ (unhide G10) (fun hS => ?_)
    clear HS
    have HS := hide hS
    clear hS hK K2
    refine wpAnyH_ready (rs := [12]) (by kernel_rfl) (by simp) ?_
    refine AllReadyH.cons rfl (fun K2 hK => ?_) AllReadyH.nil
    go_simp
    refine (unhide XO w10).mono ?_
    rintro r w11 ⟨c, cp, rfl, hnx, hbb⟩
    unfold Ex.cs
    have N11 := hide (hnx.half)
    have hl12 := (unhide P10).lt
    have hs12 := hbb.size
    have ha12 := (Array.getElem?_eq_some_iff.1 (unhide A10)).1
    clear hnx
    have P11 := hide ((unhide P10).later hbb)
    have G11 := hide (row_keep (unhide G10) hbb)
    have A11 := hide (row_keep (unhide A10) hbb)
    have M11 := hide ((unhide M10).later hbb)
    clear hbb P10 G10 A10 M10
    generalize w10.heap.size = bx at *
    generalize w11.heap.size = cx at N11
    refine hK.out _ _ (unhide G11) (fun hS => ?_)
    clear HS
    have HS := hide hS
    clear hS hK K2
    refine wpAnyH_ready (rs := [14]) (by kernel_rfl) (by simp) ?_
    refine AllReadyH.cons rfl (fun K2 hK => ?_) AllReadyH.nil
    rw [if_pos (by rfl)]
    have hg6a : g6 ≠ ga := fun q => by have h1 := unhide G11; rw [q, unhide A11] at h1; cases h1
    refine wp_store_row 26 _ _ rfl ga #[.int .i64 y.k, .int .i64 y.n, .string y.s, .slice c y.l.length cp] rfl rfl 26 _ (unhide A11) szE rfl (ex_one _ _ _ _ _ _) ?_
    have hgr := grownBy_row (W := w11) (g := ga) #[.int .i64 y.k, .int .i64 y.n, .string y.s, .slice c y.l.length cp]
    have P12 := hide ((unhide P11).grown hgr ga3)
    have Y12 := hide (setRow_heap w11 ga _ #[.int .i64 y.k, .int .i64 y.n, .string y.s, .slice c y.l.length cp] 26 _ (unhide A11))
    have N12 := hide ((unhide N11).drawn hgr (by omega))
    have G12 := hide ((hgr.block g6 (Array.getElem?_eq_some_iff.1 (unhide G11)).1 (fun q => by simp at q; exact hg6a q)).trans (unhide G11))
    refine hK.out _ _ (unhide G12) (fun hS => ?_)
    clear HS hS hK K2 hgr
    clear P11 A11 N11 G11
    refine wpAnyH_done (by kernel_rfl) ?_ _
    generalize w11.setRow ga #[.int .i64 y.k, .int .i64 y.n, .string y.s, .slice c y.l.length cp] = w12 at *
    have O12 := hide (unhide OI c cp w12 (unhide P12).bel (unhide N12).rd)
    go_wp2_with (refine wpList_load_row rfl 26 _ rfl ga rfl 26 #[.int .i64 y.k, .int .i64 y.n, .string y.s, .slice c y.l.length cp] (0, 0) _ (unhide Y12) Tryd.underlying26 rfl (by kernel_rfl) ?_)
    refine (unhide O12).mono ?_
    rintro r w13 ⟨rfl, hbb⟩
    have P13 := hide ((unhide P12).later hbb)
    have Y13 := hide (row_keep (unhide Y12) hbb)
    have N13 := hide ((unhide N12).later hbb)
    clear hbb O12 P12 Y12 N12 G12
    cases hq : okF 6 false y with
    | false =>
      have HX := hide (unhide HN hq)
      go_wp2_with (refine wpList_store_row rfl 26 _ _ rfl (w.heap.size + 2) #[.int .i64 0, .int .i64 0, .string ⟨#[]⟩, .slice none 0 0] rfl rfl 26 _ ((unhide P13).res) szE rfl (ex_one _ _ _ _ _ _) ?_)
      refine bodyPost_ret (results_cell_row (P := Tryd.prog) rfl _ _ (w.heap.size + 2) 26 #[.int .i64 0, .int .i64 0, .string ⟨#[]⟩, .slice none 0 0] (0, 0) _ rfl (setRow_heap _ _ _ _ _ _ ((unhide P13).res)) Tryd.underlying26 rfl szE) rfl ?_
      rw [← unhide HX]
      exact (unhide P13).end (x := zX) (NewX.nil _ _ _ _ _ _) _
    | true =>
      have HX := hide (unhide HY hq)
      go_wp2_with (first | (refine wpList_load_row rfl 26 _ rfl ga rfl 26 #[.int .i64 y.k, .int .i64 y.n, .string y.s, .slice c y.l.length cp] (0, 0) _ (unhide Y13) Tryd.underlying26 rfl (by kernel_rfl) ?_) | (refine wpList_store_row rfl 26 _ _ rfl (w.heap.size + 2) #[.int .i64 y.k, .int .i64 y.n, .string y.s, .slice c y.l.length cp] rfl rfl 26 _ ((unhide P13).res) szE rfl (ex_one _ _ _ _ _ _) ?_))
      refine bodyPost_ret (results_cell_row (P := Tryd.prog) rfl _ _ (w.heap.size + 2) 26 #[.int .i64 y.k, .int .i64 y.n, .string y.s, .slice c y.l.length cp] (0, 0) _ rfl (setRow_heap _ _ _ _ _ _ ((unhide P13).res)) Tryd.underlying26 rfl szE) rfl ?_
      rw [← unhide HX]
      exact (unhide P13).end ((unhide N13).new.lower (by omega)) _
theorem putI_any (here : Ex) (L : List ByteArray) (vals : List Ex) (e : Ex) (b hb : Option Addr) (cap hcp : Nat) (an : Option Addr) (cn gv off cv : Nat) (w : World) (hr : RdX w 0 e b) (hh : RdX w 0 here hb) (rn : RdU w an L) (rv : RdX w 0 ⟨0, 0, E0, vals⟩ (some ⟨gv, off, none⟩)) (hze : e.sz ≤ 1048576) (hzh : here.sz ≤ 1048576) (hL : L.length ≤ 1048576) (hV : vals.length ≤ 1048576) (hzv : ∀ i, i < vals.length → (xAt vals i).sz ≤ 1048576) (ht : TabK w) : Calls Tryd.prog 22 #[.agg (e.cs b cap), .agg (here.cs hb hcp), .slice an L.length cn, .slice (some ⟨gv, off, none⟩) vals.length cv] w (XoR (putA here L vals e) w) := by
  by_cases heq : L.length = vals.length
  · cases hno : okL (e :: here :: vals) with
    | true => exact putI_c3 here L vals e b hb cap hcp an cn gv off cv w hr hh rn rv hze hzh hL hV hzv ht heq hno
    | false =>
      rw [putA_no (fun q => by
        have : okL (e :: here :: vals) = true := by
          unfold okL
          rw [List.all_cons, List.all_cons, Bool.and_eq_true, Bool.and_eq_true, List.all_eq_true]
          refine ⟨q.1, q.2.1, fun x hx => ?_⟩
          obtain ⟨i, hi, rfl⟩ := List.getElem_of_mem hx
          rw [← xAt_get hi]
          exact q.2.2.2.1 i hi
        rw [hno] at this
        cases this)]
      exact putI_c2 here L vals e b hb cap hcp an cn gv off cv w hr hh rn rv hze hzh hL hV hzv ht heq hno
  · rw [putA_no (fun q => heq q.2.2.1)]
    exact putI_c1 here L vals e b hb cap hcp an cn gv off cv w hr hh rn rv hze hzh hL hV hzv ht heq
end Go.Proofs.YtkolflcjkofleaaDoor

namespace Go.Proofs.YtkolflcjkofleaaDoor
open Go.ChangeShapes Go.WideShapes Go.ChangeAt Go.RowKit
set_option linter.unusedVariables false
set_option maxRecDepth 8000
set_option linter.unusedSimpArgs false

theorem ownsRow_keepS {w w' : World} {B g n cap m : Nat} {t : TypeId} {cs : List Value} (h : w.ownsRow B t m (.slice (some ⟨g, 0, none⟩) n cap) n cs) (hk : w'.heap[g]? = w.heap[g]?) : w'.ownsRow B t m (.slice (some ⟨g, 0, none⟩) n cap) n cs := by
  obtain ⟨h1, ⟨e, _⟩ | ⟨g', cap', cur, e, hg, hh, r⟩⟩ := h
  · cases e
  · cases e
    exact ⟨h1, .inr ⟨g, cap, cur, rfl, hg, hk.trans hh, r⟩⟩
theorem grownBy_belowS {w w' : World} (row : Option Nat) (hb : Below w.heap.size w w') : w.grownBy w' row := ⟨hb.os, hb.tape, hb.output, hb.size, fun k hk _ => hb.block k hk⟩
set_option maxHeartbeats 2000000 in
theorem markStrS_any (b len cap k0 : Nat) (cs : List Value) (B : Nat) (w : World) (hk0 : 0 < k0) (hk : k0 + len ≤ 16777216) (hown : w.ownsRow B 9 1 (.slice (some ⟨b, 0, none⟩) len cap) len cs) :
    Calls Tryd.prog 37 #[.slice (some ⟨b, 0, none⟩) len cap, .int .i64 k0] w fun e w' => e = .returned (.int .i64 ((k0 + len : Nat) : Int)) ∧ w.grownBy w' (some b) := by
  go_enter Tryd.func37, Tryd.ntmps37
  go_wp2
  go_loopw [1, 5] (fun kk i wr => ∃ (k : Nat) (cs : List Value), k ≤ len ∧ i = .int .i64 k ∧ kk = .int .i64 ((k0 + k : Nat) : Int) ∧ wr.ownsRow B 9 1 (.slice (some ⟨b, 0, none⟩) len cap) len cs ∧ w.grownBy wr (some b)) (fun _ i _ => len - (intOf i).toNat)
  case atStart => exact ⟨0, cs, Nat.zero_le _, rfl, rfl, hown, World.grownBy.refl _ _⟩
  case round =>
    clear hown cs
    obtain ⟨k, cs, hkl, rfl, rfl, hown, hg⟩ := hrel
    by_cases hlt : k < len
    · have MT := hide (fun wr => markTx_any (k0 + k) (by omega) (by omega) wr)
      have OW := hide hown
      have G0 := hide hg
      have hbl := hide (show b < wr.heap.size from (World.ownsRow.lt hown b rfl).2)
      have EQ := hide (show ((k0 + k : Nat) : Int) + 1 = ((k0 + (k + 1) : Nat) : Int) by omega)
      have bA : 0 ≤ ((k0 + k : Nat) : Int) ∧ ((k0 + k : Nat) : Int) ≤ 16777216 := by omega
      clear hown hg
      generalize mkTx (k0 + k) = T at *
      generalize hA : ((k0 + k : Nat) : Int) = A at *
      go_wp2_with fail
      refine (unhide MT wr).mono ?_
      rintro r w1 ⟨rfl, hb1⟩
      have hown1 := ownsRow_keepS (unhide OW) (hb1.block b (unhide hbl))
      have G1 := hide (grownBy_trans (unhide G0) (grownBy_belowS (some b) hb1))
      have hfz := hown1.frozenAt k
      obtain ⟨u, hcx⟩ : ∃ u, w1.cell? ⟨b, k, none⟩ = some u := by
        rw [hown1.cellAt k (by omega)]
        exact ⟨_, List.getElem?_eq_getElem (by have := hown1.1; omega)⟩
      have st := hown1.stored k (.string T)
      have st1 := hide st.1
      have st2 := hide (grownBy_trans (unhide G1) st.2)
      clear hown1 st hb1 OW G0 G1 MT hbl
      go_wp2
      go_roundw
      case rel => exact ⟨k + 1, _, by omega, by go_num, by rw [← unhide EQ], unhide st1, unhide st2⟩
      case measure => simp [intOf]; omega
    · obtain rfl : k = len := by omega
      go_wp2
      go_ret
      exact ⟨rfl, hg⟩
end Go.Proofs.YtkolflcjkofleaaDoor

namespace Go.Proofs.YtkolflcjkofleaaDoor
open Go.ChangeShapes Go.WideShapes Go.ChangeAt Go.RowKit
set_option linter.unusedVariables false
set_option maxRecDepth 8000
set_option linter.unusedSimpArgs false

/-- While a term is drawn and bent: the answer's block, the term's box, its parts, the cursor. -/
structure Ey (w wr : World) (cb g : Nat) (a : Option Addr) (len cap : Nat) (xs : List UInt8) (e : Ex) (c : Option Addr) (cp : Nat) : Prop where
  res : wr.heap[w.heap.size]? = some (.cells E0x 26 (0, 0))
  box : wr.heap[g]? = some (.cells (e.cs c cp) 26 (0, 0))
  dz : Dz w wr cb a len cap xs
  lt : w.heap.size < g
  own : ∃ F, OwX wr e c F ∧ F.Nodup ∧ ∀ b ∈ F, w.heap.size + 1 ≤ b ∧ b ≠ g
section
variable {w wr w' : World} {cb g : Nat} {a : Option Addr} {len cap : Nat} {xs : List UInt8} {e : Ex} {c : Option Addr} {cp : Nat}
theorem Ey.draw (h : Ey w wr cb g a len cap xs e c cp) (hc : Cur w' cb a len cap xs) (hg : wr.grownBy w' (some cb)) : Ey w w' cb g a len cap xs e c cp := by
  have hl := h.dz.lt
  refine ⟨h.dz.blk hg h.res (Nat.le_refl _), h.dz.blk hg h.box (Nat.le_of_lt h.lt), h.dz.draw hc hg, h.lt, ?_⟩
  obtain ⟨F, h1, h2, h3⟩ := h.own
  exact ⟨F, OwX.keep e c F (fun b hF => hg.block b (OwX.lt e c F h1 b hF) (fun e => by have := (h3 b hF).1; simp at e; omega)) h1, h2, h3⟩
theorem Ey.cells (h : Ey w wr cb g a len cap xs e c cp) : wr.cell? ⟨g, 0, none⟩ = some (.int .i64 e.k) ∧ wr.cell? ⟨g, 1, none⟩ = some (.int .i64 e.n) ∧ wr.cell? ⟨g, 2, none⟩ = some (.string e.s) ∧ wr.cell? ⟨g, 3, none⟩ = some (.slice c e.l.length cp) := ⟨Lib.cell_of_heap h.box 0, Lib.cell_of_heap h.box 1, Lib.cell_of_heap h.box 2, Lib.cell_of_heap h.box 3⟩
theorem Ey.frz (h : Ey w wr cb g a len cap xs e c cp) (j : Nat) : wr.frozen? ⟨g, j, none⟩ = false := by simp [World.frozen?, h.box]
theorem Ey.dzset (h : Ey w wr cb g a len cap xs e c cp) (j : Nat) (v : Value) : Dz w (wr.setCell ⟨g, j, none⟩ v) cb a len cap xs := h.dz.own (grownBy_set (b := g) (o := j) v) (fun k e => by cases e; exact Nat.le_of_lt h.lt)
theorem Ey.resset (h : Ey w wr cb g a len cap xs e c cp) (j : Nat) (v : Value) : (wr.setCell ⟨g, j, none⟩ v).heap[w.heap.size]? = some (.cells E0x 26 (0, 0)) := (heap_setCell_other wr ⟨g, j, none⟩ _ v (by have := h.lt; simp; omega)).trans h.res
theorem ow_l {w : World} {e f : Ex} {c : Option Addr} {F : List Nat} (h : OwX w e c F) (hl : e.l = f.l) : OwX w f c F := by
  rw [OwX_eq] at h ⊢
  rw [← hl]
  exact h
theorem Ey.ownset (h : Ey w wr cb g a len cap xs e c cp) (j : Nat) (v : Value) (f : Ex) (hl : e.l = f.l) : ∃ F, OwX (wr.setCell ⟨g, j, none⟩ v) f c F ∧ F.Nodup ∧ ∀ b ∈ F, w.heap.size + 1 ≤ b ∧ b ≠ g := by
  obtain ⟨F, h1, h2, h3⟩ := h.own
  exact ⟨F, ow_l (OwX.keep e c F (fun b hF => heap_setCell_other wr ⟨g, j, none⟩ b v (h3 b hF).2) h1) hl, h2, h3⟩
theorem Ey.setK (h : Ey w wr cb g a len cap xs e c cp) (y : Int) : Ey w (wr.setCell ⟨g, 0, none⟩ (.int .i64 y)) cb g a len cap xs ⟨y, e.n, e.s, e.l⟩ c cp :=
  ⟨h.resset _ _, heap_setCell_same wr g 0 _ _ _ h.box, h.dzset _ _, h.lt, h.ownset _ _ _ rfl⟩
theorem Ey.setN (h : Ey w wr cb g a len cap xs e c cp) (y : Int) : Ey w (wr.setCell ⟨g, 1, none⟩ (.int .i64 y)) cb g a len cap xs ⟨e.k, y, e.s, e.l⟩ c cp :=
  ⟨h.resset _ _, heap_setCell_same wr g 1 _ _ _ h.box, h.dzset _ _, h.lt, h.ownset _ _ _ rfl⟩
theorem Ey.setS (h : Ey w wr cb g a len cap xs e c cp) (y : ByteArray) : Ey w (wr.setCell ⟨g, 2, none⟩ (.string y)) cb g a len cap xs ⟨e.k, e.n, y, e.l⟩ c cp :=
  ⟨h.resset _ _, heap_setCell_same wr g 2 _ _ _ h.box, h.dzset _ _, h.lt, h.ownset _ _ _ rfl⟩
theorem Ey.later (h : Ey w wr cb g a len cap xs e c cp) (hb : Below wr.heap.size wr w') : Ey w w' cb g a len cap xs e c cp := h.draw (h.dz.cur.later hb) (grownBy_below hb)
/-- The term becomes a part of a new one. -/
theorem Ey.wrap (h : Ey w wr cb g a len cap xs e c cp) : Ey w ((wr.alloc (.cells #[.int .i64 e.k, .int .i64 e.n, .string e.s, .slice c e.l.length cp] 26)).setRow g #[.int .i64 4, .int .i64 0, .string ⟨#[]⟩, .slice (some ⟨wr.heap.size, 0, none⟩) 1 1]) cb g a len cap xs ⟨4, 0, ⟨#[]⟩, [e]⟩ (some ⟨wr.heap.size, 0, none⟩) 1 := by
  have hb := below_new wr (.cells #[.int .i64 e.k, .int .i64 e.n, .string e.s, .slice c e.l.length cp] 26)
  have h' := h.later hb
  have hlt := (Array.getElem?_eq_some_iff.1 h.box).1
  have hl := h.lt
  refine ⟨(setRow_other _ _ _ _ (by omega)).trans h'.res, setRow_heap _ _ _ _ _ _ h'.box, h'.dz.own (grownBy_row _) (fun k e => by cases e; omega), hl, ?_⟩
  obtain ⟨F, h1, h2, h3⟩ := h.own
  have hF := OwX.lt e c F h1
  refine ⟨wr.heap.size :: F, ?_, List.nodup_cons.2 ⟨fun h => by have := hF _ h; omega, h2⟩, fun b hb => ?_⟩
  · refine (OwX_eq _ _ _ _).2 (.inr ⟨wr.heap.size, #[.int .i64 e.k, .int .i64 e.n, .string e.s, .slice c e.l.length cp], 26, [F], rfl, (setRow_other _ _ _ _ (by omega)).trans Array.getElem?_push_size, by simp, rfl, by simp, fun i hi => ?_⟩)
    have hi : i < 1 := hi
    obtain rfl : i = 0 := by omega
    exact ⟨rfl, rfl, rfl, c, cp, rfl, OwX.keep e c F (fun b hb => setRow_other _ _ _ _ (h3 b hb).2) (OwX.later h1 hb)⟩
  · rcases List.mem_cons.1 hb with rfl | hb
    · omega
    · exact h3 b hb
theorem Ey.new (h : Ey w wr cb g a len cap xs e c cp) (cs : Array Value) : NewX (wr.setRow w.heap.size cs) w.heap.size e c := by
  obtain ⟨F, h1, h2, h3⟩ := h.own
  exact ⟨F, OwX.keep e c F (fun b hb => setRow_other _ _ _ _ (by have := (h3 b hb).1; omega)) h1, h2, fun b hb => Nat.le_of_succ_le (h3 b hb).1⟩
theorem Ey.start (hd : Dz w wr cb a len cap xs) (hr : wr.heap[w.heap.size]? = some (.cells E0x 26 (0, 0))) (hn : NewX wr (w.heap.size + 1) e c) : Ey w (wr.alloc (.cells (e.cs c cp) 26)) cb wr.heap.size a len cap xs e c cp := by
  have hb := below_new wr (.cells (e.cs c cp) 26)
  obtain ⟨F, h1, h2, h3⟩ := hn
  exact ⟨(hb.block _ (Array.getElem?_eq_some_iff.1 hr).1).trans hr, Array.getElem?_push_size, hd.later hb, (Array.getElem?_eq_some_iff.1 hr).1, F, OwX.later h1 hb, h2, fun b hb => ⟨h3 b hb, by have := OwX.lt e c F h1 b hb; omega⟩⟩
end
theorem sz_k (e : Ex) (y z : Int) : (Ex.mk y z e.s e.l).sz = e.sz := by obtain ⟨k, n, s, l⟩ := e; simp only [Ex.sz_eq]
theorem sz_s (e : Ex) (y : ByteArray) : (Ex.mk e.k e.n y e.l).sz ≤ y.size + e.sz := by obtain ⟨k, n, s, l⟩ := e; simp only [Ex.sz_eq]; omega
def L10c : List ByteArray := [⟨#[]⟩, ⟨#[97]⟩, ⟨#[109, 111, 118]⟩, ⟨#[65]⟩]
theorem sz10c : ∀ j : Fin 4, (L10c.getD j.val E0).size ≤ 3 := by decide +kernel
set_option maxHeartbeats 8000000 in
theorem anyD (cb : Nat) (a : Option Addr) (len cap : Nat) (xs : List UInt8) (w : World) (hc : Cur w cb a len cap xs) : Calls Tryd.prog 43 #[.pointer (some ⟨cb, 0, none⟩)] w (DrX 31 cb a len cap xs w) := by
  have D0 := hide ((dz_new hc).later (below_new w (.cells E0x 26)))
  have R0 := hide (heap_alloc_new w (.cells E0x 26))
  have hZ0 : w.heap.size < (w.alloc (.cells E0x 26)).heap.size := by simp
  unfold DrX
  unfold E0x at D0 R0 hZ0
  clear hc
  go_enter Tryd.func43, Tryd.ntmps43
  go_wp2_with fail
  generalize w.alloc (Obj.cells #[.int .i64 0, .int .i64 0, .string ⟨#[]⟩, .slice none 0 0] 26) = W at *
  refine (once_any cb a len cap xs 2 W (by omega) (unhide D0).cur).mono ?_
  rintro e w1 ⟨q, rfl, hc1, hg1⟩
  have D1 := hide ((unhide D0).draw hc1 hg1)
  have R1 := hide ((unhide D0).blk hg1 (unhide R0) (Nat.le_refl _))
  have hZ1 : w.heap.size < w1.heap.size := Nat.lt_of_lt_of_le hZ0 hg1.size
  have DX := hide (drawX3 3 rfl q cb a len cap xs w1 hc1)
  clear hc1 hg1 D0 R0 hZ0
  go_wp2_with fail
  refine (unhide DX).mono ?_
  rintro e w2 ⟨x, c, cp, rfl, hsx, hnx, hc2, hg2⟩
  have hsx : x.sz ≤ 22 := hsx
  have EY0 := hide (Ey.start (cp := cp) ((unhide D1).draw hc2 hg2) ((unhide D1).blk hg2 (unhide R1) (Nat.le_refl _)) (hnx.lower hZ1))
  obtain ⟨g, hg⟩ : ∃ g, w2.heap.size = g := ⟨_, rfl⟩
  clear hnx hc2 hg2 D1 R1 DX
  unfold Ex.cs
  unfold Ex.cs at EY0
  obtain ⟨W3, hW3⟩ : ∃ W3, w2.alloc (.cells #[.int .i64 x.k, .int .i64 x.n, .string x.s, .slice c x.l.length cp] 26) = W3 := ⟨_, rfl⟩
  rw [hW3] at EY0
  rw [hg] at EY0
  go_wp2_with fail
  refine (below_any cb a len cap xs 14 W3 (by omega) (unhide EY0).dz.cur).mono ?_
  rintro e w4 ⟨i, hx0, hx1, rfl, hc4, hg4⟩
  obtain ⟨hx2, hx3⟩ := hx0 (by omega)
  have EY := hide ((unhide EY0).draw hc4 hg4)
  clear hx0 hx1 hc4 hg4 EY0 hW3
  have h5 : i = 0 ∨ i = 1 ∨ i = 2 ∨ i = 3 ∨ 4 ≤ i := by omega
  have hcl := (unhide EY).dz.cur.lt
  rcases h5 with rfl | rfl | rfl | rfl | h5
  · have BL := hide (below_any cb a len cap xs 14 w4 (by omega) (unhide EY).dz.cur)
    go_wp2_with fail
    refine (unhide BL).mono ?_
    rintro e w5 ⟨y, _, _, rfl, hc5, hg5⟩
    have EX := hide ((unhide EY).draw hc5 hg5)
    have EZ := hide ((unhide EX).setK y)
    have f0 := (unhide EX).frz 0
    obtain ⟨x0, x1, x2, x3⟩ := (unhide EX).cells
    clear hc5 hg5 BL EY
    have RR := hide ((unhide EZ).res)
    unfold E0x at RR
    have hlg := (unhide EZ).lt
    have HSZ := hide (show Ex.sz ⟨y, x.n, x.s, x.l⟩ ≤ 31 from by rw [sz_k]; omega)
    go_wp2_with (refine wpList_store_row rfl 26 _ _ rfl w.heap.size #[.int .i64 y, .int .i64 x.n, .string x.s, .slice c x.l.length cp] rfl rfl 26 _ (unhide RR) szE rfl (ex_one _ _ _ _ _ _) ?_)
    refine bodyPost_ret (results_cell_row (P := Tryd.prog) rfl _ _ w.heap.size 26 #[.int .i64 y, .int .i64 x.n, .string x.s, .slice c x.l.length cp] (0, 0) _ rfl (setRow_heap _ _ _ _ _ _ (unhide RR)) Tryd.underlying26 rfl szE) rfl ?_
    exact ⟨⟨y, x.n, x.s, x.l⟩, c, cp, rfl, unhide HSZ, (unhide EZ).new _, ((unhide EZ).dz.row _).cur, ((unhide EZ).dz.row _).gr⟩
  · have I1 := hide (int_any cb a len cap xs (some ⟨w4.heap.size, 0, none⟩) 3 3 [-1, 1, 65536] (w4.alloc (.cells ([-1, 1, 65536].map (Value.int .i64)).toArray 3)) ((unhide EY).dz.cur.later ((Below.refl _ _).alloc (Nat.le_refl _) _)) (RdN_lit w4 _) (fun ad e => by cases e; show w4.heap.size ≠ cb; omega) rfl (by omega) (by omega))
    have G1 := hide (World.grownBy_alloc w4 (.cells ([-1, 1, 65536].map (Value.int .i64)).toArray 3) (some cb))
    go_wp2_with fail
    refine (unhide I1).mono ?_
    rintro e w5 ⟨j, hj, rfl, hc5, hg5⟩
    have EX := hide ((unhide EY).draw hc5 (grownBy_trans (unhide G1) hg5))
    generalize nAt [-1, 1, 65536] j = y at *
    have EZ := hide ((unhide EX).setN y)
    have f0 := (unhide EX).frz 1
    obtain ⟨x0, x1, x2, x3⟩ := (unhide EX).cells
    clear hc5 hg5 I1 G1 EY
    have RR := hide ((unhide EZ).res)
    unfold E0x at RR
    have hlg := (unhide EZ).lt
    have HSZ := hide (show Ex.sz ⟨x.k, y, x.s, x.l⟩ ≤ 31 from by rw [sz_k]; omega)
    go_wp2_with (refine wpList_store_row rfl 26 _ _ rfl w.heap.size #[.int .i64 x.k, .int .i64 y, .string x.s, .slice c x.l.length cp] rfl rfl 26 _ (unhide RR) szE rfl (ex_one _ _ _ _ _ _) ?_)
    refine bodyPost_ret (results_cell_row (P := Tryd.prog) rfl _ _ w.heap.size 26 #[.int .i64 x.k, .int .i64 y, .string x.s, .slice c x.l.length cp] (0, 0) _ rfl (setRow_heap _ _ _ _ _ _ (unhide RR)) Tryd.underlying26 rfl szE) rfl ?_
    exact ⟨⟨x.k, y, x.s, x.l⟩, c, cp, rfl, unhide HSZ, (unhide EZ).new _, ((unhide EZ).dz.row _).cur, ((unhide EZ).dz.row _).gr⟩
  · have S1 := hide (strD L10c 4 cb a len cap xs w4 rfl (by omega) (by omega) (unhide EY).dz.cur)
    go_wp2_with fail
    refine (unhide S1).mono ?_
    rintro e w5 ⟨j, hj, rfl, hc5, hg5⟩
    have EX := hide ((unhide EY).draw hc5 hg5)
    have OK := hide (sz10c ⟨j, hj⟩)
    simp only at OK
    generalize L10c.getD j E0 = y at *
    have EZ := hide ((unhide EX).setS y)
    have f0 := (unhide EX).frz 2
    obtain ⟨x0, x1, x2, x3⟩ := (unhide EX).cells
    clear hc5 hg5 S1 EY
    have RR := hide ((unhide EZ).res)
    unfold E0x at RR
    have hlg := (unhide EZ).lt
    have HSZ := hide (show Ex.sz ⟨x.k, x.n, y, x.l⟩ ≤ 31 from by have := sz_s x y; have := unhide OK; omega)
    go_wp2_with (refine wpList_store_row rfl 26 _ _ rfl w.heap.size #[.int .i64 x.k, .int .i64 x.n, .string y, .slice c x.l.length cp] rfl rfl 26 _ (unhide RR) szE rfl (ex_one _ _ _ _ _ _) ?_)
    refine bodyPost_ret (results_cell_row (P := Tryd.prog) rfl _ _ w.heap.size 26 #[.int .i64 x.k, .int .i64 x.n, .string y, .slice c x.l.length cp] (0, 0) _ rfl (setRow_heap _ _ _ _ _ _ (unhide RR)) Tryd.underlying26 rfl szE) rfl ?_
    exact ⟨⟨x.k, x.n, y, x.l⟩, c, cp, rfl, unhide HSZ, (unhide EZ).new _, ((unhide EZ).dz.row _).cur, ((unhide EZ).dz.row _).gr⟩
  · have BL := hide (below_any cb a len cap xs 7 w4 (by omega) (unhide EY).dz.cur)
    go_wp2_with fail
    refine (unhide BL).mono ?_
    rintro e w5 ⟨y, hy0, _, rfl, hc5, hg5⟩
    obtain ⟨hy2, hy3⟩ := hy0 (by omega)
    obtain ⟨j, rfl⟩ := Int.eq_ofNat_of_zero_le hy2
    have EX := hide ((unhide EY).draw hc5 hg5)
    have hj : j ≤ 6 := by omega
    have hxj : x.sz + j ≤ 28 := by omega
    clear hc5 hg5 BL EY hy0 hy2 hy3
    go_wp2
    go_loopw [4] (fun i wr => ∃ (m : Nat) (e : Ex) (c : Option Addr) (cp : Nat), i = .int .i64 m ∧ e.sz + m ≤ 28 ∧ Ey w wr cb g a len cap xs e c cp) (fun i _ => (intOf i).toNat)
    case atStart => exact ⟨j, x, c, cp, rfl, hxj, unhide EX⟩
    case round =>
      clear EX hj hxj hsx
      obtain ⟨m, v, d, dp, rfl, hm, hy⟩ := hrel
      have EZ := hide hy
      obtain ⟨x0, x1, x2, x3⟩ := hy.cells
      clear hy
      by_cases h0 : 0 < m
      · have hp : (0 : Int) < (m : Int) := by omega
        have EB := hide ((unhide EZ).later (below_new wr (.cells #[.int .i64 v.k, .int .i64 v.n, .string v.s, .slice d v.l.length dp] 26))).box
        have EW := hide (unhide EZ).wrap
        unfold Ex.cs at EB
        have hlg := (unhide EZ).lt
        go_wp2_with (refine wpList_store_row rfl 26 _ _ rfl g #[.int .i64 4, .int .i64 0, .string ⟨#[]⟩, .slice (some ⟨wr.heap.size, 0, none⟩) 1 1] rfl rfl 26 _ (unhide EB) szE rfl (ex_one _ _ _ _ _ _) ?_)
        go_roundw
        case rel => exact ⟨m - 1, _, _, _, by go_num, by rw [sz_one]; omega, unhide EW⟩
        case measure => simp [intOf]; omega
      · obtain rfl : m = 0 := by omega
        have RR := hide ((unhide EZ).res)
        unfold E0x at RR
        have hlg := (unhide EZ).lt
        have HSZ := hide (show Ex.sz v ≤ 31 from by omega)
        go_wp2_with (refine wpList_store_row rfl 26 _ _ rfl w.heap.size #[.int .i64 v.k, .int .i64 v.n, .string v.s, .slice d v.l.length dp] rfl rfl 26 _ (unhide RR) szE rfl (ex_one _ _ _ _ _ _) ?_)
        refine bodyPost_ret (results_cell_row (P := Tryd.prog) rfl _ _ w.heap.size 26 #[.int .i64 v.k, .int .i64 v.n, .string v.s, .slice d v.l.length dp] (0, 0) _ rfl (setRow_heap _ _ _ _ _ _ (unhide RR)) Tryd.underlying26 rfl szE) rfl ?_
        exact ⟨v, d, dp, rfl, unhide HSZ, (unhide EZ).new _, ((unhide EZ).dz.row _).cur, ((unhide EZ).dz.row _).gr⟩
  · have h0 : ¬ i = 0 := by omega
    have h1 : ¬ i = 1 := by omega
    have h2 : ¬ i = 2 := by omega
    have h3 : ¬ i = 3 := by omega
    have EZ := hide (unhide EY)
    obtain ⟨x0, x1, x2, x3⟩ := (unhide EZ).cells
    clear EY
    have RR := hide ((unhide EZ).res)
    unfold E0x at RR
    have hlg := (unhide EZ).lt
    have HSZ := hide (show Ex.sz x ≤ 31 from by omega)
    go_wp2_with (refine wpList_store_row rfl 26 _ _ rfl w.heap.size #[.int .i64 x.k, .int .i64 x.n, .string x.s, .slice c x.l.length cp] rfl rfl 26 _ (unhide RR) szE rfl (ex_one _ _ _ _ _ _) ?_)
    refine bodyPost_ret (results_cell_row (P := Tryd.prog) rfl _ _ w.heap.size 26 #[.int .i64 x.k, .int .i64 x.n, .string x.s, .slice c x.l.length cp] (0, 0) _ rfl (setRow_heap _ _ _ _ _ _ (unhide RR)) Tryd.underlying26 rfl szE) rfl ?_
    exact ⟨x, c, cp, rfl, unhide HSZ, (unhide EZ).new _, ((unhide EZ).dz.row _).cur, ((unhide EZ).dz.row _).gr⟩
end Go.Proofs.YtkolflcjkofleaaDoor
