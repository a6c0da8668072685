/- Contracts over this seat's translation, laid together; conditions stand as hypotheses of each. -/
import Derived.Test.YtkolflcjkofleaaDoorTxA
import Derived.Test.YtkolflcjkofleaaDoorTxC
import Derived.Test.YtkolflcjkofleaaDoorTxE

namespace Go.Proofs.YtkolflcjkofleaaDoor
open Go.ChangeShapes Go.WideShapes Go.ChangeAt Go.RowKit
set_option linter.unusedVariables false
set_option maxRecDepth 8000
set_option linter.unusedSimpArgs false

/-- The rows of l11Put: two arguments, what is answered, the term that is filled. -/
structure Pz (w wr : World) (pe ph : Array Value) (k n : Int) (s : ByteArray) (v : Value) : Prop where
  bel : Below w.heap.size w wr
  lt : w.heap.size + 4 ≤ wr.heap.size
  be : wr.heap[w.heap.size]? = some (.cells pe 26 (0, 0))
  bh : wr.heap[w.heap.size + 1]? = some (.cells ph 26 (0, 0))
  res : wr.heap[w.heap.size + 2]? = some (.cells #[.int .i64 0, .int .i64 0, .string ⟨#[]⟩, .slice none 0 0] 26 (0, 0))
  out : wr.heap[w.heap.size + 3]? = some (.cells #[.int .i64 k, .int .i64 n, .string s, v] 26 (0, 0))
section
variable {w wr w' : World} {pe ph : Array Value} {k n : Int} {s : ByteArray} {v : Value}
theorem Pz.later (h : Pz w wr pe ph k n s v) (hb : Below wr.heap.size wr w') : Pz w w' pe ph k n s v := ⟨h.bel.trans (hb.mono h.bel.size), Nat.le_trans h.lt hb.size, row_keep h.be hb, row_keep h.bh hb, row_keep h.res hb, row_keep h.out hb⟩
theorem Pz.grown {o : Option Nat} (h : Pz w wr pe ph k n s v) (hg : wr.grownBy w' o) (ho : ∀ g, o = some g → w.heap.size + 4 ≤ g) : Pz w w' pe ph k n s v := by
  have ne : ∀ b, b < w.heap.size + 4 → some b ≠ o := fun b hb e => by have := ho b e.symm; omega
  have kp : ∀ b o', b < w.heap.size + 4 → wr.heap[b]? = some o' → w'.heap[b]? = some o' := fun b o' hb h0 => (hg.block _ (Array.getElem?_eq_some_iff.1 h0).1 (ne _ hb)).trans h0
  exact ⟨h.bel.grown hg h.bel.size (fun q e => by have := ho q e; omega), Nat.le_trans h.lt hg.size, kp _ _ (by omega) h.be, kp _ _ (by omega) h.bh, kp _ _ (by omega) h.res, kp _ _ (by omega) h.out⟩
theorem Pz.set3 (h : Pz w wr pe ph k n s v) (x : Value) : Pz w (wr.setCell ⟨w.heap.size + 3, 3, none⟩ x) pe ph k n s x := by
  have ne : ∀ b, b < w.heap.size + 3 → (wr.setCell ⟨w.heap.size + 3, 3, none⟩ x).heap[b]? = wr.heap[b]? := fun b hb => heap_setCell_other wr ⟨w.heap.size + 3, 3, none⟩ b _ (fun e => by have e' : b = w.heap.size + 3 := e; omega)
  refine ⟨h.bel.setCell (p := ⟨w.heap.size + 3, 3, none⟩) (by show w.heap.size ≤ w.heap.size + 3; omega) _, by simp; exact h.lt, (ne _ (by omega)).trans h.be, (ne _ (by omega)).trans h.bh, (ne _ (by omega)).trans h.res, ?_⟩
  rw [heap_setCell_same wr (w.heap.size + 3) 3 _ 26 x h.out]
  rfl
theorem Pz.new (w : World) (pe ph : Array Value) : Pz w ((((w.alloc (.cells pe 26)).alloc (.cells ph 26)).alloc (.cells #[.int .i64 0, .int .i64 0, .string ⟨#[]⟩, .slice none 0 0] 26)).alloc (.cells #[.int .i64 k, .int .i64 n, .string s, v] 26)) pe ph k n s v := by
  have hy := By.new w pe ph
  have hb := below_new (((w.alloc (.cells pe 26)).alloc (.cells ph 26)).alloc (.cells #[.int .i64 0, .int .i64 0, .string ⟨#[]⟩, .slice none 0 0] 26)) (.cells #[.int .i64 k, .int .i64 n, .string s, v] 26)
  have h3 : (((w.alloc (.cells pe 26)).alloc (.cells ph 26)).alloc (.cells #[.int .i64 0, .int .i64 0, .string ⟨#[]⟩, .slice none 0 0] 26)).heap.size = w.heap.size + 3 := by simp
  have hz := hy.later hb
  refine ⟨hz.bel, by simp, hz.boxa, hz.boxb, hz.res, ?_⟩
  rw [← h3]; exact Array.getElem?_push_size
end
theorem ApX.upto {w : World} {B k M M' : Nat} {l : List Ex} {v : Value} (h : ApX w B l k v M) (hM : M ≤ M') : ApX w B l k v M' := by
  obtain ⟨cs, Fs, h1, h2, h3, h4, h5, h6⟩ := h
  exact ⟨cs, Fs, h1, fun g hg => Nat.lt_of_lt_of_le (h2 g hg) hM, h3, h4, fun b hb => ⟨(h5 b hb).1, Nat.lt_of_lt_of_le (h5 b hb).2.1 hM, (h5 b hb).2.2⟩, h6⟩
theorem put_fin {k m : Int} {s : ByteArray} {l : List Ex} {w w' : World} {a : Option Addr} {n cp M : Nat} {pe ph : Array Value} (row : Array Value) (hc : Pz w w' pe ph k m s (.slice a n cp)) (h : ApX w' (w.heap.size + 4) l l.length (.slice a n cp) M) : GiR ⟨k, m, s, l⟩ (Up w) w (.returned (.agg #[.int .i64 k, .int .i64 m, .string s, .slice a n cp])) (w'.setRow (w.heap.size + 2) row) := by
  obtain ⟨hd, rfl⟩ := h.done k m s
  exact ⟨a, cp, rfl, (PX.row (g := w.heap.size + 2) hd row (by show ¬ (w.heap.size + 4 ≤ w.heap.size + 2); omega)).mono (Q := Up w) (fun b (hb : w.heap.size + 4 ≤ b) => by show w.heap.size ≤ b; omega), hc.bel.grown (grownBy_row _) hc.bel.size (fun k e => by cases e; omega)⟩
theorem xAt_map (f : Ex → Ex) (l : List Ex) (i : Nat) (h : i < l.length) : xAt (l.map f) i = f (xAt l i) := by
  unfold xAt
  rw [List.getD_eq_getElem?_getD, List.getD_eq_getElem?_getD, List.getElem?_map, List.getElem?_eq_getElem h]
  rfl
set_option maxHeartbeats 16000000 in
theorem putS_oth (here : Ex) (L : List ByteArray) (vals : List Ex) (pk : Pk here L vals) (k n : Int) (s : ByteArray) (l : List Ex) (hlen : l.length ≤ 1100000) (ih : ∀ i, i < l.length → PuP here L vals (xAt l i)) (h3 : (k == 3) = false) (h2 : (k == 2) = false) : PuP here L vals ⟨k, n, s, l⟩ := by
  intro b hb va cap hcp gn vcp w hr hv
  have EQ := hide (show putX here L vals ⟨k, n, s, l⟩ = ⟨k, n, s, l.map (putX here L vals)⟩ by rw [putX_eq]; unfold putC; rw [if_neg (beq_eq_false_iff_ne.1 h3), if_neg (fun h => beq_eq_false_iff_ne.1 h2 h.1)])
  rw [unhide EQ]
  have hrr := (RdX_eq _ _ _ _).1 hr
  have PV := hide (fun wr (h : Below w.heap.size w wr) => hv.later h)
  have FN := hide (fun (w' : World) (a : Option Addr) (n' cp : Nat) (pe ph row : Array Value) (M : Nat) => put_fin (k := k) (m := n) (s := s) (l := l.map (putX here L vals)) (w := w) (w' := w') (a := a) (n := n') (cp := cp) (pe := pe) (ph := ph) (M := M) row)
  generalize hX : GiR _ (Up w) w = X at *
  have hml : (l.map (putX here L vals)).length = l.length := List.length_map _
  rw [hml] at FN
  have XM := hide (fun i (h : i < l.length) => xAt_map (putX here L vals) l i h)
  generalize l.map (putX here L vals) = l' at *
  obtain ⟨len, hle⟩ : ∃ len, l.length = len := ⟨_, rfl⟩
  have IH := hide (fun i (h : i < l.length) (b' : Option Addr) (cap' : Nat) wr (h1 : RdX wr 0 (xAt l i) b') (h2 : Below w.heap.size w wr) => ih i h b' hb va cap' hcp gn vcp wr h1 (unhide PV wr h2))
  unfold Ex.cs at IH ⊢
  have hrl : l = [] ∨ ∃ p off, b = some ⟨p, off, none⟩ ∧ p < w.heap.size ∧ ∀ i, i < l.length → OneX w 0 p (off + i * 4) (xAt l i) := by
    rcases hrr with h | ⟨p, off, ha, _, hp, hc⟩
    · exact .inl h
    · exact .inr ⟨p, off, ha, hp, hc⟩
  show Calls Tryd.prog 54 #[.agg #[.int .i64 k, .int .i64 n, .string s, .slice b l.length cap], .agg #[.int .i64 here.k, .int .i64 here.n, .string here.s, .slice hb here.l.length hcp], .slice (some ⟨gn, 0, none⟩) L.length L.length, .slice va vals.length vcp] w X
  rw [hle] at hlen FN XM IH ⊢
  generalize here.k = hk at *
  generalize here.n = hn at *
  generalize here.s = hs at *
  generalize here.l.length = hl at *
  obtain ⟨i0, hi, hz0, hz1, hz2⟩ := info_parts infoX
  have C0 := hide (Pz.new (k := k) (n := n) (s := s) (v := .slice none 0 0) w #[.int .i64 k, .int .i64 n, .string s, .slice b len cap] #[.int .i64 hk, .int .i64 hn, .string hs, .slice hb hl hcp])
  clear hX hr hv EQ pk ih hrr hml
  go_enter Tryd.func54, Tryd.ntmps54
  go_wp2
  generalize (((w.alloc (.cells #[.int .i64 k, .int .i64 n, .string s, .slice b len cap] 26)).alloc (.cells #[.int .i64 hk, .int .i64 hn, .string hs, .slice hb hl hcp] 26)).alloc (.cells #[.int .i64 0, .int .i64 0, .string ⟨#[]⟩, .slice none 0 0] 26)).alloc (.cells #[.int .i64 k, .int .i64 n, .string s, .slice none 0 0] 26) = W at *
  go_loopw [11] (fun i wr => ∃ (j : Nat) (v : Value), j ≤ len ∧ i = .int .i64 j ∧ Pz w wr #[.int .i64 k, .int .i64 n, .string s, .slice b len cap] #[.int .i64 hk, .int .i64 hn, .string hs, .slice hb hl hcp] k n s v ∧ ApX wr (w.heap.size + 4) l' j v wr.heap.size) (fun i _ => len - (intOf i).toNat)
  case atStart => exact ⟨0, _, Nat.zero_le _, rfl, unhide C0, ApX.nil _ _ _ _⟩
  case round =>
    clear C0
    obtain ⟨i, v, hij, rfl, hcz, hap⟩ := hrel
    have b3 := Lib.cell_of_heap hcz.be 3
    by_cases hlt : i < len
    · rcases hrl with h0 | ⟨p, off, rfl, hpl, hc⟩
      · rw [h0] at hle; simp at hle; omega
      obtain ⟨c0, c1, c2, c, ca, c3, c4⟩ := hc i (by omega)
      have hbd : Below w.heap.size w wr.drew := hcz.bel.trans ((below_drew (w := wr)).mono hcz.bel.size)
      have HT := hide (fun wx (h : Below w.heap.size w wx) => unhide IH i hlt c ca wx (c4.later h) h)
      have hx := unhide XM i hlt
      have AS := hide (fun (w1 w2 : World) (g cp M M' : Nat) (q : Option Addr) (cq : Nat) cs Fs h1 h2 h3 h4 h5 h6 hx hBM hM hM' ho hg hw => ApX.step (w := w1) (w' := w2) (B := w.heap.size + 4) (k := i) (M := M) (M' := M') (l := l') (v := v) (cs := cs) (Fs := Fs) (q := q) (cp := cq) (g := g) (cap := cp) h1 h2 h3 h4 h5 h6 hx hBM hM hM' ho hg hw)
      unfold GiR Ex.cs at HT
      unfold exL at AS
      rw [← hx] at HT
      generalize xAt l' i = x at *
      generalize (xAt l i).k = ak at *
      generalize (xAt l i).n = an at *
      generalize (xAt l i).s = asx at *
      generalize (xAt l i).l.length = al at *
      have AS2 := hide (unhide AS)
      generalize x.k = xk at HT AS2
      generalize x.n = xn at HT AS2
      generalize x.s = xs at HT AS2
      generalize x.l.length = xl at HT AS2
      clear AS
      have AS := hide (unhide AS2)
      have D0 := hide (show (fun v => v.heap[w.heap.size]? = some (.cells #[.int .i64 k, .int .i64 n, .string s, .slice (some ⟨p, off, none⟩) len cap] 26 (0, 0)) ∧ v.heap[w.heap.size + 1]? = some (.cells #[.int .i64 hk, .int .i64 hn, .string hs, .slice hb hl hcp] 26 (0, 0)) ∧ (v.cell? ⟨p, off + i * 4, none⟩ = some (.int .i64 ak) ∧ v.cell? ⟨p, off + i * 4 + 1, none⟩ = some (.int .i64 an) ∧ v.cell? ⟨p, off + i * 4 + 2, none⟩ = some (.string asx) ∧ v.cell? ⟨p, off + i * 4 + 3, none⟩ = some (.slice c al ca))) wr.drew from ⟨hcz.be, hcz.bh, ⟨(hbd.cell (p := ⟨p, _, none⟩) hpl).trans c0, (hbd.cell (p := ⟨p, _, none⟩) hpl).trans c1, (hbd.cell (p := ⟨p, _, none⟩) hpl).trans c2, (hbd.cell (p := ⟨p, _, none⟩) hpl).trans c3⟩⟩)
      have CZ0 := hide (hcz.later (below_drew (w := wr)))
      have AP0 := hide (hap.later (below_drew (w := wr)) (Nat.le_refl _))
      have M0 := hide (show wr.heap.size ≤ wr.drew.heap.size from Nat.le_refl _)
      have hplW : p < wr.drew.heap.size := Nat.lt_of_lt_of_le hpl hbd.size
      have BD := hide hbd
      have WL := hide hcz.lt
      clear c0 c1 c2 c3 c4 hc hcz hap hx AS2 IH XM hbd FN
      go_wp2_with fail
      refine wp_region_held_drew (S := fun v => v.heap[w.heap.size]? = some (.cells #[.int .i64 k, .int .i64 n, .string s, .slice (some ⟨p, off, none⟩) len cap] 26 (0, 0)) ∧ v.heap[w.heap.size + 1]? = some (.cells #[.int .i64 hk, .int .i64 hn, .string hs, .slice hb hl hcp] 26 (0, 0)) ∧ (v.cell? ⟨p, off + i * 4, none⟩ = some (.int .i64 ak) ∧ v.cell? ⟨p, off + i * 4 + 1, none⟩ = some (.int .i64 an) ∧ v.cell? ⟨p, off + i * 4 + 2, none⟩ = some (.string asx) ∧ v.cell? ⟨p, off + i * 4 + 3, none⟩ = some (.slice c al ca))) (by kernel_rfl) (unhide D0) (fun hS => ?_)
      have HS := hide hS
      clear hS b3
      generalize hV0 : wr.drew = V0 at *
      have HV := hide (show V0.heap.size = wr.heap.size by rw [← hV0]; rfl)
      clear hV0
      refine wpAnyH_take (i := 0) (v := .pointer (some ⟨w.heap.size, 3, none⟩)) rfl (by kernel_rfl) (by kernel_rfl) (by kernel_rfl) (fun _ _ _ h => h) (Or.inl ⟨by rfl, fun w hc => ?_⟩) (unhide HS) ?_
      · clear hc; go_simp
      go_simp
      refine wpAnyH_take (i := 1) (v := .slice (some ⟨p, off, none⟩) len cap) rfl (by kernel_rfl) (by kernel_rfl) (by kernel_rfl) (fun _ _ _ h => h) (Or.inl ⟨by rfl, fun w hc => ?_⟩) (unhide HS) ?_
      · have q := Lib.cell_of_heap hc.1 3; clear hc; go_simp
      go_simp
      refine wpAnyH_take (i := 2) (v := .int .i64 i) rfl (by kernel_rfl) (by kernel_rfl) (by kernel_rfl) (fun _ _ _ h => h) (Or.inl ⟨by rfl, fun w hc => ?_⟩) (unhide HS) ?_
      · clear hc; go_simp
      go_simp
      refine wpAnyH_take (i := 3) (v := .pointer (some ⟨p, off + i * 4, none⟩)) rfl (by kernel_rfl) (by kernel_rfl) (by kernel_rfl) (fun _ _ _ h => h) (Or.inl ⟨by rfl, fun w hc => ?_⟩) (unhide HS) ?_
      · clear hc; go_simp
      go_simp
      refine wpAnyH_take (i := 4) (v := .agg #[.int .i64 ak, .int .i64 an, .string asx, .slice c al ca]) rfl (by kernel_rfl) (by kernel_rfl) (by kernel_rfl) (fun _ _ _ h => h) (Or.inl ⟨by rfl, fun w hc => ?_⟩) (unhide HS) ?_
      · obtain ⟨_, _, h0, h1, h2, h3⟩ := hc; go_simp
      go_simp
      refine wpAnyH_take (i := 5) (v := .agg #[.int .i64 hk, .int .i64 hn, .string hs, .slice hb hl hcp]) rfl (by kernel_rfl) (by kernel_rfl) (by kernel_rfl) (fun _ _ _ h => h) (yields_loadG (by rfl) 26 _ rfl (w.heap.size + 1) rfl 26 #[.int .i64 hk, .int .i64 hn, .string hs, .slice hb hl hcp] _ (fun w h => h.2.1) Tryd.underlying26 rfl (by kernel_rfl)) (unhide HS) ?_
      go_simp
      refine wpAnyH_take (i := 6) (v := .slice (some ⟨gn, 0, none⟩) L.length L.length) rfl (by kernel_rfl) (by kernel_rfl) (by kernel_rfl) (fun _ _ _ h => h) (Or.inl ⟨by rfl, fun w hc => ?_⟩) (unhide HS) ?_
      · clear hc; go_simp
      go_simp
      refine wpAnyH_take (i := 7) (v := .slice va vals.length vcp) rfl (by kernel_rfl) (by kernel_rfl) (by kernel_rfl) (fun _ _ _ h => h) (Or.inl ⟨by rfl, fun w hc => ?_⟩) (unhide HS) ?_
      · clear hc; go_simp
      go_simp
      refine wpAnyH_ready (rs := [8, 9]) (by kernel_rfl) (by simp) ?_
      refine AllReadyH.cons rfl (fun K2 hK => ?_) (AllReadyH.cons rfl (fun K2 hK => ?_) AllReadyH.nil)
      · go_simp
        refine (unhide HT V0 (unhide BD)).mono ?_
        rintro r w1 ⟨q, cq, rfl, hq, hb1⟩
        refine hK.out _ _ (⟨row_keep (unhide D0).1 hb1, row_keep (unhide D0).2.1 hb1, ⟨(hb1.cell (p := ⟨p, _, none⟩) hplW).trans (unhide D0).2.2.1, (hb1.cell (p := ⟨p, _, none⟩) hplW).trans (unhide D0).2.2.2.1, (hb1.cell (p := ⟨p, _, none⟩) hplW).trans (unhide D0).2.2.2.2.1, (hb1.cell (p := ⟨p, _, none⟩) hplW).trans (unhide D0).2.2.2.2.2⟩⟩) (fun hS => ?_)
        clear HS
        have HS := hide hS
        clear hS hK K2
        have HQ := hide (show NewX w1 V0.heap.size x q from hq).half
        have HB1 := hide hb1
        clear hq hb1
        refine wpAnyH_ready (rs := [9]) (by kernel_rfl) (by simp) ?_
        refine AllReadyH.cons rfl (fun K2 hK => ?_) AllReadyH.nil
        go_simp
        have hb2 := below_new w1 (.cells #[.int .i64 0, .int .i64 0, .string ⟨#[]⟩, .slice none 0 0] 26)
        have hb12 := (unhide HB1).trans (hb2.mono (unhide HB1).size)
        refine hK.out _ _ (⟨row_keep (unhide D0).1 hb12, row_keep (unhide D0).2.1 hb12, ⟨(hb12.cell (p := ⟨p, _, none⟩) hplW).trans (unhide D0).2.2.1, (hb12.cell (p := ⟨p, _, none⟩) hplW).trans (unhide D0).2.2.2.1, (hb12.cell (p := ⟨p, _, none⟩) hplW).trans (unhide D0).2.2.2.2.1, (hb12.cell (p := ⟨p, _, none⟩) hplW).trans (unhide D0).2.2.2.2.2⟩⟩) (fun hS => ?_)
        clear HS
        have HS := hide hS
        clear hS hK K2
        have GZ := hide (show (w1.alloc (.cells #[.int .i64 0, .int .i64 0, .string ⟨#[]⟩, .slice none 0 0] 26)).heap[w1.heap.size]? = some (.cells #[.int .i64 0, .int .i64 0, .string ⟨#[]⟩, .slice none 0 0] 26 (0, 0)) from Array.getElem?_push_size)
        have BV := hide hb12
        have GXL := hide (show V0.heap.size ≤ w1.heap.size from (unhide HB1).size)
        have HG := hide (show ∀ w3 : World, (∀ b, b ≠ w1.heap.size → w3.heap[b]? = (w1.alloc (.cells #[.int .i64 0, .int .i64 0, .string ⟨#[]⟩, .slice none 0 0] 26)).heap[b]?) → HalfX w3 V0.heap.size w1.heap.size x q from fun w3 h => by
          obtain ⟨F, f1, f2, f3⟩ := (unhide HQ).later hb2
          exact ⟨F, OwX.keep x q F (fun b hF => h b (by have := (f3 b hF).2; omega)) f1, f2, f3⟩)
        have M01 := hide (show wr.heap.size ≤ V0.heap.size from unhide M0)
        have BM := hide (show w.heap.size + 4 ≤ V0.heap.size by rw [unhide HV]; exact unhide WL)
        have M12 := hide (show V0.heap.size ≤ w1.heap.size from (unhide HB1).size)
        have M1s := hide (show V0.heap.size ≤ (w1.alloc (.cells #[.int .i64 0, .int .i64 0, .string ⟨#[]⟩, .slice none 0 0] 26)).heap.size from hb12.size)
        have M2w := hide (show w1.heap.size ≤ (w1.alloc (.cells #[.int .i64 0, .int .i64 0, .string ⟨#[]⟩, .slice none 0 0] 26)).heap.size from hb2.size)
        clear HQ hb2 hb12 HB1
        generalize w1.alloc (.cells #[.int .i64 0, .int .i64 0, .string ⟨#[]⟩, .slice none 0 0] 26) = w2 at *
        refine wpAnyH_ready (rs := [10]) (by kernel_rfl) (by simp) ?_
        refine AllReadyH.cons rfl (fun K2 hK => ?_) AllReadyH.nil
        rw [if_pos (by rfl)]
        refine wp_store_row 26 _ _ rfl (w1.heap.size) #[.int .i64 xk, .int .i64 xn, .string xs, .slice q xl cq] rfl rfl 26 _ (unhide GZ) szE rfl (ex_one _ _ _ _ _ _) ?_
        have hbs := hide (show Below V0.heap.size V0 (w2.setRow (w1.heap.size) #[.int .i64 xk, .int .i64 xn, .string xs, .slice q xl cq]) from (unhide BV).grown (grownBy_row _) (unhide BV).size (fun q e => by cases e; exact unhide GXL))
        refine hK.out _ _ (⟨row_keep (unhide D0).1 (unhide hbs), row_keep (unhide D0).2.1 (unhide hbs), ⟨((unhide hbs).cell (p := ⟨p, _, none⟩) hplW).trans (unhide D0).2.2.1, ((unhide hbs).cell (p := ⟨p, _, none⟩) hplW).trans (unhide D0).2.2.2.1, ((unhide hbs).cell (p := ⟨p, _, none⟩) hplW).trans (unhide D0).2.2.2.2.1, ((unhide hbs).cell (p := ⟨p, _, none⟩) hplW).trans (unhide D0).2.2.2.2.2⟩⟩) (fun hS => ?_)
        clear HS
        have HS := hide hS
        clear hS hK K2
        have C3 := hide ((unhide CZ0).later (unhide hbs))
        have A3 := hide (((unhide AP0).later (unhide hbs) (unhide M0)).upto (show wr.heap.size ≤ V0.heap.size from unhide M01))
        have G3 := hide (setRow_heap w2 (w1.heap.size) _ #[.int .i64 xk, .int .i64 xn, .string xs, .slice q xl cq] _ _ (unhide GZ))
        have H3 := hide (unhide HG (w2.setRow (w1.heap.size) #[.int .i64 xk, .int .i64 xn, .string xs, .slice q xl cq]) (fun b hne => setRow_other w2 (w1.heap.size) b #[.int .i64 xk, .int .i64 xn, .string xs, .slice q xl cq] hne))
        have zs : (w2.setRow (w1.heap.size) #[.int .i64 xk, .int .i64 xn, .string xs, .slice q xl cq]).heap.size = w2.heap.size := by simp [World.setRow]
        have M3 := hide (show V0.heap.size ≤ (w2.setRow (w1.heap.size) #[.int .i64 xk, .int .i64 xn, .string xs, .slice q xl cq]).heap.size by rw [zs]; exact unhide M1s)
        have M2s := hide (show w1.heap.size ≤ (w2.setRow (w1.heap.size) #[.int .i64 xk, .int .i64 xn, .string xs, .slice q xl cq]).heap.size by rw [zs]; exact unhide M2w)
        clear hbs GZ HG BV CZ0 AP0 D0 zs
        generalize w2.setRow (w1.heap.size) #[.int .i64 xk, .int .i64 xn, .string xs, .slice q xl cq] = w3 at *
        refine wpAnyH_done (by kernel_rfl) ?_ _
        clear HS
        have o3 := Lib.cell_of_heap (unhide C3).out 3
        have hb4 := below_new w3 (.cells #[.int .i64 xk, .int .i64 xn, .string xs, .slice q xl cq] 26)
        have C4 := hide ((unhide C3).later hb4)
        have A4 := hide ((unhide A3).later hb4 (unhide M3))
        have CN := hide (cell_newF w3 #[.int .i64 xk, .int .i64 xn, .string xs, .slice q xl cq] 26)
        have HX4 := hide ((unhide H3).later hb4)
        have hz4 : (w3.alloc (.cells #[.int .i64 xk, .int .i64 xn, .string xs, .slice q xl cq] 26)).heap.size = w3.heap.size + 1 := by simp
        have SZ := hide hz4
        obtain ⟨cs, Fs, a1, a2, a3, a4, a5, a6⟩ := unhide A4
        have OW := hide a1
        have SPP := hide (fun w2 g cp => unhide AS (w3.alloc (.cells #[.int .i64 xk, .int .i64 xn, .string xs, .slice q xl cq] 26)) w2 g cp (V0.heap.size) (w1.heap.size) q cq cs Fs a1 a2 a3 a4 a5 a6 (unhide HX4) (unhide BM) (unhide M12) (by have := unhide M2s; omega))
        have BA := hide (show w.heap.size + 4 ≤ (w3.alloc (.cells #[.int .i64 xk, .int .i64 xn, .string xs, .slice q xl cq] 26)).heap.size from (unhide C4).lt)
        have WB := hide (show ∀ g, v.ownBlock = some g → w.heap.size + 4 ≤ g from fun g hg => (World.ownsRow.lt a1 g hg).1)
        have ON := hide (show ∀ u ∈ ([.int .i64 xk, .int .i64 xn, .string xs, .slice q xl cq] : List Value), u.oneCell' = true by intro u hu; simp only [List.mem_cons, List.not_mem_nil, or_false] at hu; rcases hu with rfl | rfl | rfl | rfl <;> rfl)
        clear a1 a2 a3 a4 a5 a6 A4 AS HX4 hb4 hz4 A3 H3
        go_wp2_with (first | (refine wpList_load_row rfl 26 _ rfl w1.heap.size rfl 26 #[.int .i64 xk, .int .i64 xn, .string xs, .slice q xl cq] (0, 0) _ (unhide G3) Tryd.underlying26 rfl (by kernel_rfl) ?_) | (at_builtin; go_must (refine wpList_append_to rfl (.tmp 56) (.tmp 58) 24 rfl (w.heap.size + 4) 26 i0 (.agg #[.int .i64 0, .int .i64 0, .string ⟨#[]⟩, .slice none 0 0]) 4 56 Tryd.underlying24 hi hz0 hz1 hz2 rfl (by decide) v i cs rfl (unhide OW) ⟨w3.heap.size, 0, none⟩ 1 1 [.int .i64 xk, .int .i64 xn, .string xs, .slice q xl cq] rfl rfl (unhide CN) (unhide ON) (by unfold maxLen; omega) (by omega) (unhide BA) (by omega) ?_; intro g4 cap4 w4 hown4 hgrow4 hwh4; have A5 := hide (unhide SPP w4 g4 cap4 hown4 hgrow4 hwh4); have C5 := (unhide C4).grown hgrow4 (unhide WB); have f4 : w4.frozen? ⟨w.heap.size + 3, 3, none⟩ = false := (by simp [World.frozen?, C5.out]); have o4 := Lib.cell_of_heap C5.out 3; have C6 := hide (C5.set3 (.slice (some ⟨g4, 0, none⟩) (i + 1 : Nat) cap4)); clear hown4 hgrow4 hwh4 C5)))
        go_roundw
        case rel => exact ⟨i + 1, _, by omega, by go_num, unhide C6, by
          rw [show (w4.setCell ⟨w.heap.size + 3, 3, none⟩ (.slice (some ⟨g4, 0, none⟩) (i + 1 : Nat) cap4)).heap.size = w4.heap.size by simp]
          exact (unhide A5).far ⟨w.heap.size + 3, 3, none⟩ _ (by show w.heap.size + 3 < w.heap.size + 4; omega)⟩
        case measure => simp [intOf]; omega
      · go_simp
        have hb1 := below_new V0 (.cells #[.int .i64 0, .int .i64 0, .string ⟨#[]⟩, .slice none 0 0] 26)
        have gz1 := (show (V0.alloc (.cells #[.int .i64 0, .int .i64 0, .string ⟨#[]⟩, .slice none 0 0] 26)).heap[V0.heap.size]? = some (.cells #[.int .i64 0, .int .i64 0, .string ⟨#[]⟩, .slice none 0 0] 26 (0, 0)) from Array.getElem?_push_size)
        have zl : V0.heap.size < (V0.alloc (.cells #[.int .i64 0, .int .i64 0, .string ⟨#[]⟩, .slice none 0 0] 26)).heap.size := by simp
        refine hK.out _ _ (⟨row_keep (unhide D0).1 hb1, row_keep (unhide D0).2.1 hb1, ⟨(hb1.cell (p := ⟨p, _, none⟩) hplW).trans (unhide D0).2.2.1, (hb1.cell (p := ⟨p, _, none⟩) hplW).trans (unhide D0).2.2.2.1, (hb1.cell (p := ⟨p, _, none⟩) hplW).trans (unhide D0).2.2.2.2.1, (hb1.cell (p := ⟨p, _, none⟩) hplW).trans (unhide D0).2.2.2.2.2⟩⟩) (fun hS => ?_)
        clear HS
        have HS := hide hS
        clear hS hK K2
        have HB1 := hide hb1
        have GZ1 := hide gz1
        have ZL := hide zl
        clear hb1 gz1 zl
        generalize V0.alloc (.cells #[.int .i64 0, .int .i64 0, .string ⟨#[]⟩, .slice none 0 0] 26) = w1 at *
        have BD1 := hide ((unhide BD).trans ((unhide HB1).mono (unhide BD).size))
        refine wpAnyH_ready (rs := [8]) (by kernel_rfl) (by simp) ?_
        refine AllReadyH.cons rfl (fun K2 hK => ?_) AllReadyH.nil
        go_simp
        refine (unhide HT w1 (unhide BD1)).mono ?_
        rintro r w2 ⟨q, cq, rfl, hq, hb2⟩
        have hb12 := (unhide HB1).trans (hb2.mono (unhide HB1).size)
        refine hK.out _ _ (⟨row_keep (unhide D0).1 hb12, row_keep (unhide D0).2.1 hb12, ⟨(hb12.cell (p := ⟨p, _, none⟩) hplW).trans (unhide D0).2.2.1, (hb12.cell (p := ⟨p, _, none⟩) hplW).trans (unhide D0).2.2.2.1, (hb12.cell (p := ⟨p, _, none⟩) hplW).trans (unhide D0).2.2.2.2.1, (hb12.cell (p := ⟨p, _, none⟩) hplW).trans (unhide D0).2.2.2.2.2⟩⟩) (fun hS => ?_)
        clear HS
        have HS := hide hS
        clear hS hK K2
        have GZ := hide (row_keep (unhide GZ1) hb2)
        have BV := hide hb12
        have GXL := hide (Nat.le_refl V0.heap.size)
        have HG := hide (show ∀ w3 : World, (∀ b, b ≠ V0.heap.size → w3.heap[b]? = w2.heap[b]?) → HalfX w3 w1.heap.size w2.heap.size x q from fun w3 h => by
          obtain ⟨F, f1, f2, f3⟩ := (show NewX w2 w1.heap.size x q from hq).half
          exact ⟨F, OwX.keep x q F (fun b hF => h b (by have := (f3 b hF).1; have := unhide ZL; omega)) f1, f2, f3⟩)
        have M01 := hide (show wr.heap.size ≤ w1.heap.size from Nat.le_trans (unhide M0) (unhide HB1).size)
        have BM := hide (show w.heap.size + 4 ≤ w1.heap.size by have := unhide HV; have := unhide WL; have := (unhide HB1).size; omega)
        have M12 := hide (show w1.heap.size ≤ w2.heap.size from hb2.size)
        have M1s := hide (show w1.heap.size ≤ w2.heap.size from hb2.size)
        have M2w := hide (show w2.heap.size ≤ w2.heap.size from Nat.le_refl _)
        clear hq hb2 hb12 HB1 GZ1 ZL BD1
        obtain ⟨m2, hm2⟩ : ∃ m2, w2.heap.size = m2 := ⟨_, rfl⟩
        rw [hm2] at HG M12 M2w
        have HM2 := hide hm2
        clear hm2
        refine wpAnyH_ready (rs := [10]) (by kernel_rfl) (by simp) ?_
        refine AllReadyH.cons rfl (fun K2 hK => ?_) AllReadyH.nil
        rw [if_pos (by rfl)]
        refine wp_store_row 26 _ _ rfl (V0.heap.size) #[.int .i64 xk, .int .i64 xn, .string xs, .slice q xl cq] rfl rfl 26 _ (unhide GZ) szE rfl (ex_one _ _ _ _ _ _) ?_
        have hbs := hide (show Below V0.heap.size V0 (w2.setRow (V0.heap.size) #[.int .i64 xk, .int .i64 xn, .string xs, .slice q xl cq]) from (unhide BV).grown (grownBy_row _) (unhide BV).size (fun q e => by cases e; exact unhide GXL))
        refine hK.out _ _ (⟨row_keep (unhide D0).1 (unhide hbs), row_keep (unhide D0).2.1 (unhide hbs), ⟨((unhide hbs).cell (p := ⟨p, _, none⟩) hplW).trans (unhide D0).2.2.1, ((unhide hbs).cell (p := ⟨p, _, none⟩) hplW).trans (unhide D0).2.2.2.1, ((unhide hbs).cell (p := ⟨p, _, none⟩) hplW).trans (unhide D0).2.2.2.2.1, ((unhide hbs).cell (p := ⟨p, _, none⟩) hplW).trans (unhide D0).2.2.2.2.2⟩⟩) (fun hS => ?_)
        clear HS
        have HS := hide hS
        clear hS hK K2
        have C3 := hide ((unhide CZ0).later (unhide hbs))
        have A3 := hide (((unhide AP0).later (unhide hbs) (unhide M0)).upto (show wr.heap.size ≤ w1.heap.size from unhide M01))
        have G3 := hide (setRow_heap w2 (V0.heap.size) _ #[.int .i64 xk, .int .i64 xn, .string xs, .slice q xl cq] _ _ (unhide GZ))
        have H3 := hide (unhide HG (w2.setRow (V0.heap.size) #[.int .i64 xk, .int .i64 xn, .string xs, .slice q xl cq]) (fun b hne => setRow_other w2 (V0.heap.size) b #[.int .i64 xk, .int .i64 xn, .string xs, .slice q xl cq] hne))
        have zs : (w2.setRow (V0.heap.size) #[.int .i64 xk, .int .i64 xn, .string xs, .slice q xl cq]).heap.size = w2.heap.size := by simp [World.setRow]
        have M3 := hide (show w1.heap.size ≤ (w2.setRow (V0.heap.size) #[.int .i64 xk, .int .i64 xn, .string xs, .slice q xl cq]).heap.size by rw [zs]; exact unhide M1s)
        have M2s := hide (show m2 ≤ (w2.setRow (V0.heap.size) #[.int .i64 xk, .int .i64 xn, .string xs, .slice q xl cq]).heap.size by rw [zs, unhide HM2]; exact unhide M2w)
        clear hbs GZ HG BV CZ0 AP0 D0 zs
        generalize w2.setRow (V0.heap.size) #[.int .i64 xk, .int .i64 xn, .string xs, .slice q xl cq] = w3 at *
        refine wpAnyH_done (by kernel_rfl) ?_ _
        clear HS
        have o3 := Lib.cell_of_heap (unhide C3).out 3
        have hb4 := below_new w3 (.cells #[.int .i64 xk, .int .i64 xn, .string xs, .slice q xl cq] 26)
        have C4 := hide ((unhide C3).later hb4)
        have A4 := hide ((unhide A3).later hb4 (unhide M3))
        have CN := hide (cell_newF w3 #[.int .i64 xk, .int .i64 xn, .string xs, .slice q xl cq] 26)
        have HX4 := hide ((unhide H3).later hb4)
        have hz4 : (w3.alloc (.cells #[.int .i64 xk, .int .i64 xn, .string xs, .slice q xl cq] 26)).heap.size = w3.heap.size + 1 := by simp
        have SZ := hide hz4
        obtain ⟨cs, Fs, a1, a2, a3, a4, a5, a6⟩ := unhide A4
        have OW := hide a1
        have SPP := hide (fun w2 g cp => unhide AS (w3.alloc (.cells #[.int .i64 xk, .int .i64 xn, .string xs, .slice q xl cq] 26)) w2 g cp (w1.heap.size) (m2) q cq cs Fs a1 a2 a3 a4 a5 a6 (unhide HX4) (unhide BM) (unhide M12) (by have := unhide M2s; omega))
        have BA := hide (show w.heap.size + 4 ≤ (w3.alloc (.cells #[.int .i64 xk, .int .i64 xn, .string xs, .slice q xl cq] 26)).heap.size from (unhide C4).lt)
        have WB := hide (show ∀ g, v.ownBlock = some g → w.heap.size + 4 ≤ g from fun g hg => (World.ownsRow.lt a1 g hg).1)
        have ON := hide (show ∀ u ∈ ([.int .i64 xk, .int .i64 xn, .string xs, .slice q xl cq] : List Value), u.oneCell' = true by intro u hu; simp only [List.mem_cons, List.not_mem_nil, or_false] at hu; rcases hu with rfl | rfl | rfl | rfl <;> rfl)
        clear a1 a2 a3 a4 a5 a6 A4 AS HX4 hb4 hz4 A3 H3
        go_wp2_with (first | (refine wpList_load_row rfl 26 _ rfl V0.heap.size rfl 26 #[.int .i64 xk, .int .i64 xn, .string xs, .slice q xl cq] (0, 0) _ (unhide G3) Tryd.underlying26 rfl (by kernel_rfl) ?_) | (at_builtin; go_must (refine wpList_append_to rfl (.tmp 56) (.tmp 58) 24 rfl (w.heap.size + 4) 26 i0 (.agg #[.int .i64 0, .int .i64 0, .string ⟨#[]⟩, .slice none 0 0]) 4 56 Tryd.underlying24 hi hz0 hz1 hz2 rfl (by decide) v i cs rfl (unhide OW) ⟨w3.heap.size, 0, none⟩ 1 1 [.int .i64 xk, .int .i64 xn, .string xs, .slice q xl cq] rfl rfl (unhide CN) (unhide ON) (by unfold maxLen; omega) (by omega) (unhide BA) (by omega) ?_; intro g4 cap4 w4 hown4 hgrow4 hwh4; have A5 := hide (unhide SPP w4 g4 cap4 hown4 hgrow4 hwh4); have C5 := (unhide C4).grown hgrow4 (unhide WB); have f4 : w4.frozen? ⟨w.heap.size + 3, 3, none⟩ = false := (by simp [World.frozen?, C5.out]); have o4 := Lib.cell_of_heap C5.out 3; have C6 := hide (C5.set3 (.slice (some ⟨g4, 0, none⟩) (i + 1 : Nat) cap4)); clear hown4 hgrow4 hwh4 C5)))
        go_roundw
        case rel => exact ⟨i + 1, _, by omega, by go_num, unhide C6, by
          rw [show (w4.setCell ⟨w.heap.size + 3, 3, none⟩ (.slice (some ⟨g4, 0, none⟩) (i + 1 : Nat) cap4)).heap.size = w4.heap.size by simp]
          exact (unhide A5).far ⟨w.heap.size + 3, 3, none⟩ _ (by show w.heap.size + 3 < w.heap.size + 4; omega)⟩
        case measure => simp [intOf]; omega
    · obtain rfl : i = len := by omega
      obtain ⟨a5, n5, c5, rfl⟩ : ∃ a n c, v = .slice a n c := by
        obtain ⟨_, _, ⟨_, ⟨e, _⟩ | ⟨g, cap', cur, e, _⟩⟩, _⟩ := hap
        · exact ⟨_, _, _, e⟩
        · exact ⟨_, _, _, e⟩
      have CZ := hide hcz
      have AP := hide hap
      clear hcz hap
      go_wp2_with (first | (refine wpList_load_row rfl 26 _ rfl (w.heap.size + 3) rfl 26 #[.int .i64 k, .int .i64 n, .string s, .slice a5 n5 c5] (0, 0) _ ((unhide CZ).out) Tryd.underlying26 rfl (by kernel_rfl) ?_) | (refine wpList_store_row rfl 26 _ _ rfl (w.heap.size + 2) #[.int .i64 k, .int .i64 n, .string s, .slice a5 n5 c5] rfl rfl 26 _ (unhide CZ).res szE rfl (ex_one _ _ _ _ _ _) ?_))
      refine bodyPost_ret (results_cell_row (P := Tryd.prog) rfl _ _ (w.heap.size + 2) 26 #[.int .i64 k, .int .i64 n, .string s, .slice a5 n5 c5] (0, 0) _ rfl (setRow_heap _ _ _ _ _ _ (unhide CZ).res) Tryd.underlying26 rfl szE) rfl ?_
      exact unhide FN _ _ _ _ _ _ _ _ (unhide CZ) (unhide AP)
set_option maxHeartbeats 16000000 in
theorem putS_mis (here : Ex) (L : List ByteArray) (vals : List Ex) (pk : Pk here L vals) (k n : Int) (s : ByteArray) (l : List Ex) (hlen : l.length ≤ 1100000) (ih : ∀ i, i < l.length → PuP here L vals (xAt l i)) (h3 : (k == 3) = false) (h2 : (k == 2) = true) (hat : atV L s < 0) : PuP here L vals ⟨k, n, s, l⟩ := by
  intro b hb va cap hcp gn vcp w hr hv
  have EQ := hide (show putX here L vals ⟨k, n, s, l⟩ = ⟨k, n, s, l.map (putX here L vals)⟩ by rw [putX_eq]; unfold putC; rw [if_neg (beq_eq_false_iff_ne.1 h3), if_neg (fun h => by omega)])
  rw [unhide EQ]
  have hrr := (RdX_eq _ _ _ _).1 hr
  have PV := hide (fun wr (h : Below w.heap.size w wr) => hv.later h)
  have FN := hide (fun (w' : World) (a : Option Addr) (n' cp : Nat) (pe ph row : Array Value) (M : Nat) => put_fin (k := k) (m := n) (s := s) (l := l.map (putX here L vals)) (w := w) (w' := w') (a := a) (n := n') (cp := cp) (pe := pe) (ph := ph) (M := M) row)
  generalize hX : GiR _ (Up w) w = X at *
  have hml : (l.map (putX here L vals)).length = l.length := List.length_map _
  rw [hml] at FN
  have XM := hide (fun i (h : i < l.length) => xAt_map (putX here L vals) l i h)
  generalize l.map (putX here L vals) = l' at *
  obtain ⟨len, hle⟩ : ∃ len, l.length = len := ⟨_, rfl⟩
  have IH := hide (fun i (h : i < l.length) (b' : Option Addr) (cap' : Nat) wr (h1 : RdX wr 0 (xAt l i) b') (h2 : Below w.heap.size w wr) => ih i h b' hb va cap' hcp gn vcp wr h1 (unhide PV wr h2))
  unfold Ex.cs at IH ⊢
  have hrl : l = [] ∨ ∃ p off, b = some ⟨p, off, none⟩ ∧ p < w.heap.size ∧ ∀ i, i < l.length → OneX w 0 p (off + i * 4) (xAt l i) := by
    rcases hrr with h | ⟨p, off, ha, _, hp, hc⟩
    · exact .inl h
    · exact .inr ⟨p, off, ha, hp, hc⟩
  show Calls Tryd.prog 54 #[.agg #[.int .i64 k, .int .i64 n, .string s, .slice b l.length cap], .agg #[.int .i64 here.k, .int .i64 here.n, .string here.s, .slice hb here.l.length hcp], .slice (some ⟨gn, 0, none⟩) L.length L.length, .slice va vals.length vcp] w X
  rw [hle] at hlen FN XM IH ⊢
  generalize here.k = hk at *
  generalize here.n = hn at *
  generalize here.s = hs at *
  generalize here.l.length = hl at *
  obtain ⟨i0, hi, hz0, hz1, hz2⟩ := info_parts infoX
  have C0 := hide (Pz.new (k := k) (n := n) (s := s) (v := .slice none 0 0) w #[.int .i64 k, .int .i64 n, .string s, .slice b len cap] #[.int .i64 hk, .int .i64 hn, .string hs, .slice hb hl hcp])
  have AT := hide (fun wr (h : Below w.heap.size w wr) => at_anyF L s gn L.length L.length wr rfl pk.n (unhide PV wr h).n)
  have BY := hide (By.new w #[.int .i64 k, .int .i64 n, .string s, .slice b len cap] #[.int .i64 hk, .int .i64 hn, .string hs, .slice hb hl hcp]).bel
  generalize atV L s = av at *
  clear hX hr hv EQ pk ih hrr hml
  go_enter Tryd.func54, Tryd.ntmps54
  go_wp2_with (go_at_call 81; refine (unhide AT _ (unhide BY)).mono ?_; rintro e w' ⟨rfl, hw'⟩; rw [hw']; clear hw' w')
  generalize (((w.alloc (.cells #[.int .i64 k, .int .i64 n, .string s, .slice b len cap] 26)).alloc (.cells #[.int .i64 hk, .int .i64 hn, .string hs, .slice hb hl hcp] 26)).alloc (.cells #[.int .i64 0, .int .i64 0, .string ⟨#[]⟩, .slice none 0 0] 26)).alloc (.cells #[.int .i64 k, .int .i64 n, .string s, .slice none 0 0] 26) = W at *
  go_loopw [11] (fun i wr => ∃ (j : Nat) (v : Value), j ≤ len ∧ i = .int .i64 j ∧ Pz w wr #[.int .i64 k, .int .i64 n, .string s, .slice b len cap] #[.int .i64 hk, .int .i64 hn, .string hs, .slice hb hl hcp] k n s v ∧ ApX wr (w.heap.size + 4) l' j v wr.heap.size) (fun i _ => len - (intOf i).toNat)
  case atStart => exact ⟨0, _, Nat.zero_le _, rfl, unhide C0, ApX.nil _ _ _ _⟩
  case round =>
    clear C0
    obtain ⟨i, v, hij, rfl, hcz, hap⟩ := hrel
    have b3 := Lib.cell_of_heap hcz.be 3
    by_cases hlt : i < len
    · rcases hrl with h0 | ⟨p, off, rfl, hpl, hc⟩
      · rw [h0] at hle; simp at hle; omega
      obtain ⟨c0, c1, c2, c, ca, c3, c4⟩ := hc i (by omega)
      have hbd : Below w.heap.size w wr.drew := hcz.bel.trans ((below_drew (w := wr)).mono hcz.bel.size)
      have HT := hide (fun wx (h : Below w.heap.size w wx) => unhide IH i hlt c ca wx (c4.later h) h)
      have hx := unhide XM i hlt
      have AS := hide (fun (w1 w2 : World) (g cp M M' : Nat) (q : Option Addr) (cq : Nat) cs Fs h1 h2 h3 h4 h5 h6 hx hBM hM hM' ho hg hw => ApX.step (w := w1) (w' := w2) (B := w.heap.size + 4) (k := i) (M := M) (M' := M') (l := l') (v := v) (cs := cs) (Fs := Fs) (q := q) (cp := cq) (g := g) (cap := cp) h1 h2 h3 h4 h5 h6 hx hBM hM hM' ho hg hw)
      unfold GiR Ex.cs at HT
      unfold exL at AS
      rw [← hx] at HT
      generalize xAt l' i = x at *
      generalize (xAt l i).k = ak at *
      generalize (xAt l i).n = an at *
      generalize (xAt l i).s = asx at *
      generalize (xAt l i).l.length = al at *
      have AS2 := hide (unhide AS)
      generalize x.k = xk at HT AS2
      generalize x.n = xn at HT AS2
      generalize x.s = xs at HT AS2
      generalize x.l.length = xl at HT AS2
      clear AS
      have AS := hide (unhide AS2)
      have D0 := hide (show (fun v => v.heap[w.heap.size]? = some (.cells #[.int .i64 k, .int .i64 n, .string s, .slice (some ⟨p, off, none⟩) len cap] 26 (0, 0)) ∧ v.heap[w.heap.size + 1]? = some (.cells #[.int .i64 hk, .int .i64 hn, .string hs, .slice hb hl hcp] 26 (0, 0)) ∧ (v.cell? ⟨p, off + i * 4, none⟩ = some (.int .i64 ak) ∧ v.cell? ⟨p, off + i * 4 + 1, none⟩ = some (.int .i64 an) ∧ v.cell? ⟨p, off + i * 4 + 2, none⟩ = some (.string asx) ∧ v.cell? ⟨p, off + i * 4 + 3, none⟩ = some (.slice c al ca))) wr.drew from ⟨hcz.be, hcz.bh, ⟨(hbd.cell (p := ⟨p, _, none⟩) hpl).trans c0, (hbd.cell (p := ⟨p, _, none⟩) hpl).trans c1, (hbd.cell (p := ⟨p, _, none⟩) hpl).trans c2, (hbd.cell (p := ⟨p, _, none⟩) hpl).trans c3⟩⟩)
      have CZ0 := hide (hcz.later (below_drew (w := wr)))
      have AP0 := hide (hap.later (below_drew (w := wr)) (Nat.le_refl _))
      have M0 := hide (show wr.heap.size ≤ wr.drew.heap.size from Nat.le_refl _)
      have hplW : p < wr.drew.heap.size := Nat.lt_of_lt_of_le hpl hbd.size
      have BD := hide hbd
      have WL := hide hcz.lt
      clear c0 c1 c2 c3 c4 hc hcz hap hx AS2 IH XM hbd FN
      go_wp2_with fail
      refine wp_region_held_drew (S := fun v => v.heap[w.heap.size]? = some (.cells #[.int .i64 k, .int .i64 n, .string s, .slice (some ⟨p, off, none⟩) len cap] 26 (0, 0)) ∧ v.heap[w.heap.size + 1]? = some (.cells #[.int .i64 hk, .int .i64 hn, .string hs, .slice hb hl hcp] 26 (0, 0)) ∧ (v.cell? ⟨p, off + i * 4, none⟩ = some (.int .i64 ak) ∧ v.cell? ⟨p, off + i * 4 + 1, none⟩ = some (.int .i64 an) ∧ v.cell? ⟨p, off + i * 4 + 2, none⟩ = some (.string asx) ∧ v.cell? ⟨p, off + i * 4 + 3, none⟩ = some (.slice c al ca))) (by kernel_rfl) (unhide D0) (fun hS => ?_)
      have HS := hide hS
      clear hS b3
      generalize hV0 : wr.drew = V0 at *
      have HV := hide (show V0.heap.size = wr.heap.size by rw [← hV0]; rfl)
      clear hV0
      refine wpAnyH_take (i := 0) (v := .pointer (some ⟨w.heap.size, 3, none⟩)) rfl (by kernel_rfl) (by kernel_rfl) (by kernel_rfl) (fun _ _ _ h => h) (Or.inl ⟨by rfl, fun w hc => ?_⟩) (unhide HS) ?_
      · clear hc; go_simp
      go_simp
      refine wpAnyH_take (i := 1) (v := .slice (some ⟨p, off, none⟩) len cap) rfl (by kernel_rfl) (by kernel_rfl) (by kernel_rfl) (fun _ _ _ h => h) (Or.inl ⟨by rfl, fun w hc => ?_⟩) (unhide HS) ?_
      · have q := Lib.cell_of_heap hc.1 3; clear hc; go_simp
      go_simp
      refine wpAnyH_take (i := 2) (v := .int .i64 i) rfl (by kernel_rfl) (by kernel_rfl) (by kernel_rfl) (fun _ _ _ h => h) (Or.inl ⟨by rfl, fun w hc => ?_⟩) (unhide HS) ?_
      · clear hc; go_simp
      go_simp
      refine wpAnyH_take (i := 3) (v := .pointer (some ⟨p, off + i * 4, none⟩)) rfl (by kernel_rfl) (by kernel_rfl) (by kernel_rfl) (fun _ _ _ h => h) (Or.inl ⟨by rfl, fun w hc => ?_⟩) (unhide HS) ?_
      · clear hc; go_simp
      go_simp
      refine wpAnyH_take (i := 4) (v := .agg #[.int .i64 ak, .int .i64 an, .string asx, .slice c al ca]) rfl (by kernel_rfl) (by kernel_rfl) (by kernel_rfl) (fun _ _ _ h => h) (Or.inl ⟨by rfl, fun w hc => ?_⟩) (unhide HS) ?_
      · obtain ⟨_, _, h0, h1, h2, h3⟩ := hc; go_simp
      go_simp
      refine wpAnyH_take (i := 5) (v := .agg #[.int .i64 hk, .int .i64 hn, .string hs, .slice hb hl hcp]) rfl (by kernel_rfl) (by kernel_rfl) (by kernel_rfl) (fun _ _ _ h => h) (yields_loadG (by rfl) 26 _ rfl (w.heap.size + 1) rfl 26 #[.int .i64 hk, .int .i64 hn, .string hs, .slice hb hl hcp] _ (fun w h => h.2.1) Tryd.underlying26 rfl (by kernel_rfl)) (unhide HS) ?_
      go_simp
      refine wpAnyH_take (i := 6) (v := .slice (some ⟨gn, 0, none⟩) L.length L.length) rfl (by kernel_rfl) (by kernel_rfl) (by kernel_rfl) (fun _ _ _ h => h) (Or.inl ⟨by rfl, fun w hc => ?_⟩) (unhide HS) ?_
      · clear hc; go_simp
      go_simp
      refine wpAnyH_take (i := 7) (v := .slice va vals.length vcp) rfl (by kernel_rfl) (by kernel_rfl) (by kernel_rfl) (fun _ _ _ h => h) (Or.inl ⟨by rfl, fun w hc => ?_⟩) (unhide HS) ?_
      · clear hc; go_simp
      go_simp
      refine wpAnyH_ready (rs := [8, 9]) (by kernel_rfl) (by simp) ?_
      refine AllReadyH.cons rfl (fun K2 hK => ?_) (AllReadyH.cons rfl (fun K2 hK => ?_) AllReadyH.nil)
      · go_simp
        refine (unhide HT V0 (unhide BD)).mono ?_
        rintro r w1 ⟨q, cq, rfl, hq, hb1⟩
        refine hK.out _ _ (⟨row_keep (unhide D0).1 hb1, row_keep (unhide D0).2.1 hb1, ⟨(hb1.cell (p := ⟨p, _, none⟩) hplW).trans (unhide D0).2.2.1, (hb1.cell (p := ⟨p, _, none⟩) hplW).trans (unhide D0).2.2.2.1, (hb1.cell (p := ⟨p, _, none⟩) hplW).trans (unhide D0).2.2.2.2.1, (hb1.cell (p := ⟨p, _, none⟩) hplW).trans (unhide D0).2.2.2.2.2⟩⟩) (fun hS => ?_)
        clear HS
        have HS := hide hS
        clear hS hK K2
        have HQ := hide (show NewX w1 V0.heap.size x q from hq).half
        have HB1 := hide hb1
        clear hq hb1
        refine wpAnyH_ready (rs := [9]) (by kernel_rfl) (by simp) ?_
        refine AllReadyH.cons rfl (fun K2 hK => ?_) AllReadyH.nil
        go_simp
        have hb2 := below_new w1 (.cells #[.int .i64 0, .int .i64 0, .string ⟨#[]⟩, .slice none 0 0] 26)
        have hb12 := (unhide HB1).trans (hb2.mono (unhide HB1).size)
        refine hK.out _ _ (⟨row_keep (unhide D0).1 hb12, row_keep (unhide D0).2.1 hb12, ⟨(hb12.cell (p := ⟨p, _, none⟩) hplW).trans (unhide D0).2.2.1, (hb12.cell (p := ⟨p, _, none⟩) hplW).trans (unhide D0).2.2.2.1, (hb12.cell (p := ⟨p, _, none⟩) hplW).trans (unhide D0).2.2.2.2.1, (hb12.cell (p := ⟨p, _, none⟩) hplW).trans (unhide D0).2.2.2.2.2⟩⟩) (fun hS => ?_)
        clear HS
        have HS := hide hS
        clear hS hK K2
        have GZ := hide (show (w1.alloc (.cells #[.int .i64 0, .int .i64 0, .string ⟨#[]⟩, .slice none 0 0] 26)).heap[w1.heap.size]? = some (.cells #[.int .i64 0, .int .i64 0, .string ⟨#[]⟩, .slice none 0 0] 26 (0, 0)) from Array.getElem?_push_size)
        have BV := hide hb12
        have GXL := hide (show V0.heap.size ≤ w1.heap.size from (unhide HB1).size)
        have HG := hide (show ∀ w3 : World, (∀ b, b ≠ w1.heap.size → w3.heap[b]? = (w1.alloc (.cells #[.int .i64 0, .int .i64 0, .string ⟨#[]⟩, .slice none 0 0] 26)).heap[b]?) → HalfX w3 V0.heap.size w1.heap.size x q from fun w3 h => by
          obtain ⟨F, f1, f2, f3⟩ := (unhide HQ).later hb2
          exact ⟨F, OwX.keep x q F (fun b hF => h b (by have := (f3 b hF).2; omega)) f1, f2, f3⟩)
        have M01 := hide (show wr.heap.size ≤ V0.heap.size from unhide M0)
        have BM := hide (show w.heap.size + 4 ≤ V0.heap.size by rw [unhide HV]; exact unhide WL)
        have M12 := hide (show V0.heap.size ≤ w1.heap.size from (unhide HB1).size)
        have M1s := hide (show V0.heap.size ≤ (w1.alloc (.cells #[.int .i64 0, .int .i64 0, .string ⟨#[]⟩, .slice none 0 0] 26)).heap.size from hb12.size)
        have M2w := hide (show w1.heap.size ≤ (w1.alloc (.cells #[.int .i64 0, .int .i64 0, .string ⟨#[]⟩, .slice none 0 0] 26)).heap.size from hb2.size)
        clear HQ hb2 hb12 HB1
        generalize w1.alloc (.cells #[.int .i64 0, .int .i64 0, .string ⟨#[]⟩, .slice none 0 0] 26) = w2 at *
        refine wpAnyH_ready (rs := [10]) (by kernel_rfl) (by simp) ?_
        refine AllReadyH.cons rfl (fun K2 hK => ?_) AllReadyH.nil
        rw [if_pos (by rfl)]
        refine wp_store_row 26 _ _ rfl (w1.heap.size) #[.int .i64 xk, .int .i64 xn, .string xs, .slice q xl cq] rfl rfl 26 _ (unhide GZ) szE rfl (ex_one _ _ _ _ _ _) ?_
        have hbs := hide (show Below V0.heap.size V0 (w2.setRow (w1.heap.size) #[.int .i64 xk, .int .i64 xn, .string xs, .slice q xl cq]) from (unhide BV).grown (grownBy_row _) (unhide BV).size (fun q e => by cases e; exact unhide GXL))
        refine hK.out _ _ (⟨row_keep (unhide D0).1 (unhide hbs), row_keep (unhide D0).2.1 (unhide hbs), ⟨((unhide hbs).cell (p := ⟨p, _, none⟩) hplW).trans (unhide D0).2.2.1, ((unhide hbs).cell (p := ⟨p, _, none⟩) hplW).trans (unhide D0).2.2.2.1, ((unhide hbs).cell (p := ⟨p, _, none⟩) hplW).trans (unhide D0).2.2.2.2.1, ((unhide hbs).cell (p := ⟨p, _, none⟩) hplW).trans (unhide D0).2.2.2.2.2⟩⟩) (fun hS => ?_)
        clear HS
        have HS := hide hS
        clear hS hK K2
        have C3 := hide ((unhide CZ0).later (unhide hbs))
        have A3 := hide (((unhide AP0).later (unhide hbs) (unhide M0)).upto (show wr.heap.size ≤ V0.heap.size from unhide M01))
        have G3 := hide (setRow_heap w2 (w1.heap.size) _ #[.int .i64 xk, .int .i64 xn, .string xs, .slice q xl cq] _ _ (unhide GZ))
        have H3 := hide (unhide HG (w2.setRow (w1.heap.size) #[.int .i64 xk, .int .i64 xn, .string xs, .slice q xl cq]) (fun b hne => setRow_other w2 (w1.heap.size) b #[.int .i64 xk, .int .i64 xn, .string xs, .slice q xl cq] hne))
        have zs : (w2.setRow (w1.heap.size) #[.int .i64 xk, .int .i64 xn, .string xs, .slice q xl cq]).heap.size = w2.heap.size := by simp [World.setRow]
        have M3 := hide (show V0.heap.size ≤ (w2.setRow (w1.heap.size) #[.int .i64 xk, .int .i64 xn, .string xs, .slice q xl cq]).heap.size by rw [zs]; exact unhide M1s)
        have M2s := hide (show w1.heap.size ≤ (w2.setRow (w1.heap.size) #[.int .i64 xk, .int .i64 xn, .string xs, .slice q xl cq]).heap.size by rw [zs]; exact unhide M2w)
        clear hbs GZ HG BV CZ0 AP0 D0 zs
        generalize w2.setRow (w1.heap.size) #[.int .i64 xk, .int .i64 xn, .string xs, .slice q xl cq] = w3 at *
        refine wpAnyH_done (by kernel_rfl) ?_ _
        clear HS
        have o3 := Lib.cell_of_heap (unhide C3).out 3
        have hb4 := below_new w3 (.cells #[.int .i64 xk, .int .i64 xn, .string xs, .slice q xl cq] 26)
        have C4 := hide ((unhide C3).later hb4)
        have A4 := hide ((unhide A3).later hb4 (unhide M3))
        have CN := hide (cell_newF w3 #[.int .i64 xk, .int .i64 xn, .string xs, .slice q xl cq] 26)
        have HX4 := hide ((unhide H3).later hb4)
        have hz4 : (w3.alloc (.cells #[.int .i64 xk, .int .i64 xn, .string xs, .slice q xl cq] 26)).heap.size = w3.heap.size + 1 := by simp
        have SZ := hide hz4
        obtain ⟨cs, Fs, a1, a2, a3, a4, a5, a6⟩ := unhide A4
        have OW := hide a1
        have SPP := hide (fun w2 g cp => unhide AS (w3.alloc (.cells #[.int .i64 xk, .int .i64 xn, .string xs, .slice q xl cq] 26)) w2 g cp (V0.heap.size) (w1.heap.size) q cq cs Fs a1 a2 a3 a4 a5 a6 (unhide HX4) (unhide BM) (unhide M12) (by have := unhide M2s; omega))
        have BA := hide (show w.heap.size + 4 ≤ (w3.alloc (.cells #[.int .i64 xk, .int .i64 xn, .string xs, .slice q xl cq] 26)).heap.size from (unhide C4).lt)
        have WB := hide (show ∀ g, v.ownBlock = some g → w.heap.size + 4 ≤ g from fun g hg => (World.ownsRow.lt a1 g hg).1)
        have ON := hide (show ∀ u ∈ ([.int .i64 xk, .int .i64 xn, .string xs, .slice q xl cq] : List Value), u.oneCell' = true by intro u hu; simp only [List.mem_cons, List.not_mem_nil, or_false] at hu; rcases hu with rfl | rfl | rfl | rfl <;> rfl)
        clear a1 a2 a3 a4 a5 a6 A4 AS HX4 hb4 hz4 A3 H3
        go_wp2_with (first | (refine wpList_load_row rfl 26 _ rfl w1.heap.size rfl 26 #[.int .i64 xk, .int .i64 xn, .string xs, .slice q xl cq] (0, 0) _ (unhide G3) Tryd.underlying26 rfl (by kernel_rfl) ?_) | (at_builtin; go_must (refine wpList_append_to rfl (.tmp 56) (.tmp 58) 24 rfl (w.heap.size + 4) 26 i0 (.agg #[.int .i64 0, .int .i64 0, .string ⟨#[]⟩, .slice none 0 0]) 4 56 Tryd.underlying24 hi hz0 hz1 hz2 rfl (by decide) v i cs rfl (unhide OW) ⟨w3.heap.size, 0, none⟩ 1 1 [.int .i64 xk, .int .i64 xn, .string xs, .slice q xl cq] rfl rfl (unhide CN) (unhide ON) (by unfold maxLen; omega) (by omega) (unhide BA) (by omega) ?_; intro g4 cap4 w4 hown4 hgrow4 hwh4; have A5 := hide (unhide SPP w4 g4 cap4 hown4 hgrow4 hwh4); have C5 := (unhide C4).grown hgrow4 (unhide WB); have f4 : w4.frozen? ⟨w.heap.size + 3, 3, none⟩ = false := (by simp [World.frozen?, C5.out]); have o4 := Lib.cell_of_heap C5.out 3; have C6 := hide (C5.set3 (.slice (some ⟨g4, 0, none⟩) (i + 1 : Nat) cap4)); clear hown4 hgrow4 hwh4 C5)))
        go_roundw
        case rel => exact ⟨i + 1, _, by omega, by go_num, unhide C6, by
          rw [show (w4.setCell ⟨w.heap.size + 3, 3, none⟩ (.slice (some ⟨g4, 0, none⟩) (i + 1 : Nat) cap4)).heap.size = w4.heap.size by simp]
          exact (unhide A5).far ⟨w.heap.size + 3, 3, none⟩ _ (by show w.heap.size + 3 < w.heap.size + 4; omega)⟩
        case measure => simp [intOf]; omega
      · go_simp
        have hb1 := below_new V0 (.cells #[.int .i64 0, .int .i64 0, .string ⟨#[]⟩, .slice none 0 0] 26)
        have gz1 := (show (V0.alloc (.cells #[.int .i64 0, .int .i64 0, .string ⟨#[]⟩, .slice none 0 0] 26)).heap[V0.heap.size]? = some (.cells #[.int .i64 0, .int .i64 0, .string ⟨#[]⟩, .slice none 0 0] 26 (0, 0)) from Array.getElem?_push_size)
        have zl : V0.heap.size < (V0.alloc (.cells #[.int .i64 0, .int .i64 0, .string ⟨#[]⟩, .slice none 0 0] 26)).heap.size := by simp
        refine hK.out _ _ (⟨row_keep (unhide D0).1 hb1, row_keep (unhide D0).2.1 hb1, ⟨(hb1.cell (p := ⟨p, _, none⟩) hplW).trans (unhide D0).2.2.1, (hb1.cell (p := ⟨p, _, none⟩) hplW).trans (unhide D0).2.2.2.1, (hb1.cell (p := ⟨p, _, none⟩) hplW).trans (unhide D0).2.2.2.2.1, (hb1.cell (p := ⟨p, _, none⟩) hplW).trans (unhide D0).2.2.2.2.2⟩⟩) (fun hS => ?_)
        clear HS
        have HS := hide hS
        clear hS hK K2
        have HB1 := hide hb1
        have GZ1 := hide gz1
        have ZL := hide zl
        clear hb1 gz1 zl
        generalize V0.alloc (.cells #[.int .i64 0, .int .i64 0, .string ⟨#[]⟩, .slice none 0 0] 26) = w1 at *
        have BD1 := hide ((unhide BD).trans ((unhide HB1).mono (unhide BD).size))
        refine wpAnyH_ready (rs := [8]) (by kernel_rfl) (by simp) ?_
        refine AllReadyH.cons rfl (fun K2 hK => ?_) AllReadyH.nil
        go_simp
        refine (unhide HT w1 (unhide BD1)).mono ?_
        rintro r w2 ⟨q, cq, rfl, hq, hb2⟩
        have hb12 := (unhide HB1).trans (hb2.mono (unhide HB1).size)
        refine hK.out _ _ (⟨row_keep (unhide D0).1 hb12, row_keep (unhide D0).2.1 hb12, ⟨(hb12.cell (p := ⟨p, _, none⟩) hplW).trans (unhide D0).2.2.1, (hb12.cell (p := ⟨p, _, none⟩) hplW).trans (unhide D0).2.2.2.1, (hb12.cell (p := ⟨p, _, none⟩) hplW).trans (unhide D0).2.2.2.2.1, (hb12.cell (p := ⟨p, _, none⟩) hplW).trans (unhide D0).2.2.2.2.2⟩⟩) (fun hS => ?_)
        clear HS
        have HS := hide hS
        clear hS hK K2
        have GZ := hide (row_keep (unhide GZ1) hb2)
        have BV := hide hb12
        have GXL := hide (Nat.le_refl V0.heap.size)
        have HG := hide (show ∀ w3 : World, (∀ b, b ≠ V0.heap.size → w3.heap[b]? = w2.heap[b]?) → HalfX w3 w1.heap.size w2.heap.size x q from fun w3 h => by
          obtain ⟨F, f1, f2, f3⟩ := (show NewX w2 w1.heap.size x q from hq).half
          exact ⟨F, OwX.keep x q F (fun b hF => h b (by have := (f3 b hF).1; have := unhide ZL; omega)) f1, f2, f3⟩)
        have M01 := hide (show wr.heap.size ≤ w1.heap.size from Nat.le_trans (unhide M0) (unhide HB1).size)
        have BM := hide (show w.heap.size + 4 ≤ w1.heap.size by have := unhide HV; have := unhide WL; have := (unhide HB1).size; omega)
        have M12 := hide (show w1.heap.size ≤ w2.heap.size from hb2.size)
        have M1s := hide (show w1.heap.size ≤ w2.heap.size from hb2.size)
        have M2w := hide (show w2.heap.size ≤ w2.heap.size from Nat.le_refl _)
        clear hq hb2 hb12 HB1 GZ1 ZL BD1
        obtain ⟨m2, hm2⟩ : ∃ m2, w2.heap.size = m2 := ⟨_, rfl⟩
        rw [hm2] at HG M12 M2w
        have HM2 := hide hm2
        clear hm2
        refine wpAnyH_ready (rs := [10]) (by kernel_rfl) (by simp) ?_
        refine AllReadyH.cons rfl (fun K2 hK => ?_) AllReadyH.nil
        rw [if_pos (by rfl)]
        refine wp_store_row 26 _ _ rfl (V0.heap.size) #[.int .i64 xk, .int .i64 xn, .string xs, .slice q xl cq] rfl rfl 26 _ (unhide GZ) szE rfl (ex_one _ _ _ _ _ _) ?_
        have hbs := hide (show Below V0.heap.size V0 (w2.setRow (V0.heap.size) #[.int .i64 xk, .int .i64 xn, .string xs, .slice q xl cq]) from (unhide BV).grown (grownBy_row _) (unhide BV).size (fun q e => by cases e; exact unhide GXL))
        refine hK.out _ _ (⟨row_keep (unhide D0).1 (unhide hbs), row_keep (unhide D0).2.1 (unhide hbs), ⟨((unhide hbs).cell (p := ⟨p, _, none⟩) hplW).trans (unhide D0).2.2.1, ((unhide hbs).cell (p := ⟨p, _, none⟩) hplW).trans (unhide D0).2.2.2.1, ((unhide hbs).cell (p := ⟨p, _, none⟩) hplW).trans (unhide D0).2.2.2.2.1, ((unhide hbs).cell (p := ⟨p, _, none⟩) hplW).trans (unhide D0).2.2.2.2.2⟩⟩) (fun hS => ?_)
        clear HS
        have HS := hide hS
        clear hS hK K2
        have C3 := hide ((unhide CZ0).later (unhide hbs))
        have A3 := hide (((unhide AP0).later (unhide hbs) (unhide M0)).upto (show wr.heap.size ≤ w1.heap.size from unhide M01))
        have G3 := hide (setRow_heap w2 (V0.heap.size) _ #[.int .i64 xk, .int .i64 xn, .string xs, .slice q xl cq] _ _ (unhide GZ))
        have H3 := hide (unhide HG (w2.setRow (V0.heap.size) #[.int .i64 xk, .int .i64 xn, .string xs, .slice q xl cq]) (fun b hne => setRow_other w2 (V0.heap.size) b #[.int .i64 xk, .int .i64 xn, .string xs, .slice q xl cq] hne))
        have zs : (w2.setRow (V0.heap.size) #[.int .i64 xk, .int .i64 xn, .string xs, .slice q xl cq]).heap.size = w2.heap.size := by simp [World.setRow]
        have M3 := hide (show w1.heap.size ≤ (w2.setRow (V0.heap.size) #[.int .i64 xk, .int .i64 xn, .string xs, .slice q xl cq]).heap.size by rw [zs]; exact unhide M1s)
        have M2s := hide (show m2 ≤ (w2.setRow (V0.heap.size) #[.int .i64 xk, .int .i64 xn, .string xs, .slice q xl cq]).heap.size by rw [zs, unhide HM2]; exact unhide M2w)
        clear hbs GZ HG BV CZ0 AP0 D0 zs
        generalize w2.setRow (V0.heap.size) #[.int .i64 xk, .int .i64 xn, .string xs, .slice q xl cq] = w3 at *
        refine wpAnyH_done (by kernel_rfl) ?_ _
        clear HS
        have o3 := Lib.cell_of_heap (unhide C3).out 3
        have hb4 := below_new w3 (.cells #[.int .i64 xk, .int .i64 xn, .string xs, .slice q xl cq] 26)
        have C4 := hide ((unhide C3).later hb4)
        have A4 := hide ((unhide A3).later hb4 (unhide M3))
        have CN := hide (cell_newF w3 #[.int .i64 xk, .int .i64 xn, .string xs, .slice q xl cq] 26)
        have HX4 := hide ((unhide H3).later hb4)
        have hz4 : (w3.alloc (.cells #[.int .i64 xk, .int .i64 xn, .string xs, .slice q xl cq] 26)).heap.size = w3.heap.size + 1 := by simp
        have SZ := hide hz4
        obtain ⟨cs, Fs, a1, a2, a3, a4, a5, a6⟩ := unhide A4
        have OW := hide a1
        have SPP := hide (fun w2 g cp => unhide AS (w3.alloc (.cells #[.int .i64 xk, .int .i64 xn, .string xs, .slice q xl cq] 26)) w2 g cp (w1.heap.size) (m2) q cq cs Fs a1 a2 a3 a4 a5 a6 (unhide HX4) (unhide BM) (unhide M12) (by have := unhide M2s; omega))
        have BA := hide (show w.heap.size + 4 ≤ (w3.alloc (.cells #[.int .i64 xk, .int .i64 xn, .string xs, .slice q xl cq] 26)).heap.size from (unhide C4).lt)
        have WB := hide (show ∀ g, v.ownBlock = some g → w.heap.size + 4 ≤ g from fun g hg => (World.ownsRow.lt a1 g hg).1)
        have ON := hide (show ∀ u ∈ ([.int .i64 xk, .int .i64 xn, .string xs, .slice q xl cq] : List Value), u.oneCell' = true by intro u hu; simp only [List.mem_cons, List.not_mem_nil, or_false] at hu; rcases hu with rfl | rfl | rfl | rfl <;> rfl)
        clear a1 a2 a3 a4 a5 a6 A4 AS HX4 hb4 hz4 A3 H3
        go_wp2_with (first | (refine wpList_load_row rfl 26 _ rfl V0.heap.size rfl 26 #[.int .i64 xk, .int .i64 xn, .string xs, .slice q xl cq] (0, 0) _ (unhide G3) Tryd.underlying26 rfl (by kernel_rfl) ?_) | (at_builtin; go_must (refine wpList_append_to rfl (.tmp 56) (.tmp 58) 24 rfl (w.heap.size + 4) 26 i0 (.agg #[.int .i64 0, .int .i64 0, .string ⟨#[]⟩, .slice none 0 0]) 4 56 Tryd.underlying24 hi hz0 hz1 hz2 rfl (by decide) v i cs rfl (unhide OW) ⟨w3.heap.size, 0, none⟩ 1 1 [.int .i64 xk, .int .i64 xn, .string xs, .slice q xl cq] rfl rfl (unhide CN) (unhide ON) (by unfold maxLen; omega) (by omega) (unhide BA) (by omega) ?_; intro g4 cap4 w4 hown4 hgrow4 hwh4; have A5 := hide (unhide SPP w4 g4 cap4 hown4 hgrow4 hwh4); have C5 := (unhide C4).grown hgrow4 (unhide WB); have f4 : w4.frozen? ⟨w.heap.size + 3, 3, none⟩ = false := (by simp [World.frozen?, C5.out]); have o4 := Lib.cell_of_heap C5.out 3; have C6 := hide (C5.set3 (.slice (some ⟨g4, 0, none⟩) (i + 1 : Nat) cap4)); clear hown4 hgrow4 hwh4 C5)))
        go_roundw
        case rel => exact ⟨i + 1, _, by omega, by go_num, unhide C6, by
          rw [show (w4.setCell ⟨w.heap.size + 3, 3, none⟩ (.slice (some ⟨g4, 0, none⟩) (i + 1 : Nat) cap4)).heap.size = w4.heap.size by simp]
          exact (unhide A5).far ⟨w.heap.size + 3, 3, none⟩ _ (by show w.heap.size + 3 < w.heap.size + 4; omega)⟩
        case measure => simp [intOf]; omega
    · obtain rfl : i = len := by omega
      obtain ⟨a5, n5, c5, rfl⟩ : ∃ a n c, v = .slice a n c := by
        obtain ⟨_, _, ⟨_, ⟨e, _⟩ | ⟨g, cap', cur, e, _⟩⟩, _⟩ := hap
        · exact ⟨_, _, _, e⟩
        · exact ⟨_, _, _, e⟩
      have CZ := hide hcz
      have AP := hide hap
      clear hcz hap
      go_wp2_with (first | (refine wpList_load_row rfl 26 _ rfl (w.heap.size + 3) rfl 26 #[.int .i64 k, .int .i64 n, .string s, .slice a5 n5 c5] (0, 0) _ ((unhide CZ).out) Tryd.underlying26 rfl (by kernel_rfl) ?_) | (refine wpList_store_row rfl 26 _ _ rfl (w.heap.size + 2) #[.int .i64 k, .int .i64 n, .string s, .slice a5 n5 c5] rfl rfl 26 _ (unhide CZ).res szE rfl (ex_one _ _ _ _ _ _) ?_))
      refine bodyPost_ret (results_cell_row (P := Tryd.prog) rfl _ _ (w.heap.size + 2) 26 #[.int .i64 k, .int .i64 n, .string s, .slice a5 n5 c5] (0, 0) _ rfl (setRow_heap _ _ _ _ _ _ (unhide CZ).res) Tryd.underlying26 rfl szE) rfl ?_
      exact unhide FN _ _ _ _ _ _ _ _ (unhide CZ) (unhide AP)
theorem sz_parts (k n : Int) (s : ByteArray) (l : List Ex) : l.length ≤ (Ex.mk k n s l).sz ∧ ∀ x ∈ l, x.sz ≤ (Ex.mk k n s l).sz := by
  rw [Ex.sz_eq]
  refine ⟨by omega, fun x hx => ?_⟩
  have : x.sz ≤ (l.map Ex.sz).sum := by
    clear k n s
    induction l with
    | nil => cases hx
    | cons a r ih =>
      simp only [List.map_cons, List.sum_cons]
      rcases List.mem_cons.1 hx with rfl | hx
      · omega
      · have := ih hx; omega
  omega
theorem putS_any (here : Ex) (L : List ByteArray) (vals : List Ex) (pk : Pk here L vals) (e : Ex) : e.sz ≤ 1100000 → PuP here L vals e := by
  induction e using Ex.ind with
  | h k n s l ih =>
    intro hz
    obtain ⟨h1, h2⟩ := sz_parts k n s l
    have ihs : ∀ i, i < l.length → PuP here L vals (xAt l i) := fun i hi => ih _ (xAt_mem hi) (Nat.le_trans (h2 _ (xAt_mem hi)) hz)
    cases k3 : (k == 3) with
    | true => obtain rfl : k = 3 := beq_iff_eq.1 k3; exact putS_here here L vals pk n s l
    | false =>
      cases k2 : (k == 2) with
      | false => exact putS_oth here L vals pk k n s l (by omega) ihs k3 k2
      | true =>
        by_cases ha : atV L s < 0
        · exact putS_mis here L vals pk k n s l (by omega) ihs k3 k2 ha
        · obtain rfl : k = 2 := beq_iff_eq.1 k2
          obtain ⟨j, hj⟩ : ∃ j : Nat, atV L s = j := ⟨(atV L s).toNat, by omega⟩
          exact putS_hit here L vals pk n s l j hj
end Go.Proofs.YtkolflcjkofleaaDoor

namespace Go.Proofs.YtkolflcjkofleaaDoor
open Go.ChangeShapes Go.WideShapes Go.ChangeAt Go.RowKit
set_option linter.unusedVariables false
set_option maxRecDepth 8000
set_option linter.unusedSimpArgs false

def zX : Ex := ⟨0, 0, ⟨#[]⟩, []⟩
/-- What Put answers. -/
def putA (here : Ex) (L : List ByteArray) (vals : List Ex) (e : Ex) : Ex :=
  if okF 6 false e = true ∧ okF 6 false here = true ∧ L.length = vals.length ∧ (∀ i, i < vals.length → okF 6 false (xAt vals i) = true) ∧ okF 6 false (putX here L vals e) = true then putX here L vals e else zX
theorem putA_no {here : Ex} {L : List ByteArray} {vals : List Ex} {e : Ex} (h : ¬ (okF 6 false e = true ∧ okF 6 false here = true ∧ L.length = vals.length ∧ (∀ i, i < vals.length → okF 6 false (xAt vals i) = true) ∧ okF 6 false (putX here L vals e) = true)) : putA here L vals e = zX := by unfold putA; rw [if_neg h]
/-- How large a right term can be. -/
def zO : Nat → Nat
  | 0 => 0
  | d + 1 => 8 + 2 * zO d
theorem ok_sz : ∀ (d : Nat) (e : Ex), okF d false e = true → e.sz ≤ zO d := by
  intro d
  induction d with
  | zero => intro e h; rw [okF] at h; cases h
  | succ d ih =>
    intro e h
    have hE : (E0 : ByteArray).size = 0 := rfl
    rw [zO]
    rcases ok_sev h with ⟨n, hn, rfl⟩ | ⟨s, hs, rfl⟩ | rfl | ⟨n, hn, rfl⟩ | ⟨s, hs, rfl⟩ | ⟨a, ha, rfl⟩ | ⟨k, a, b, hk, ha, hb, rfl⟩
    · rw [sz_leaf, hE]; omega
    · rw [sz_leaf]; have := name_szF hs; omega
    · rw [sz_leaf, hE]; omega
    · rw [sz_leaf, hE]; omega
    · rw [sz_leaf]; have := name_szF hs; omega
    · rw [show E0 = (⟨#[]⟩ : ByteArray) from rfl, sz_one]; have := ih a ha; omega
    · rw [show E0 = (⟨#[]⟩ : ByteArray) from rfl, sz_two]; have := ih a ha; have := ih b hb; omega
/-- How large it can become. -/
def zU : Nat → Nat
  | 0 => 0
  | d + 1 => 512 + 2 * zU d
theorem put_sz {here : Ex} {L : List ByteArray} {vals : List Ex} (hh : here.sz ≤ 504) (hv : ∀ i, (xAt vals i).sz ≤ 504) : ∀ (d : Nat) (e : Ex), okF d false e = true → (putX here L vals e).sz ≤ zU d := by
  intro d
  induction d with
  | zero => intro e h; rw [okF] at h; cases h
  | succ d ih =>
    intro e h
    have hE : (E0 : ByteArray).size = 0 := rfl
    have hsz := ok_sz (d + 1) e h
    rw [zU]
    rcases ok_sev h with ⟨n, hn, rfl⟩ | ⟨s, hs, rfl⟩ | rfl | ⟨n, hn, rfl⟩ | ⟨s, hs, rfl⟩ | ⟨a, ha, rfl⟩ | ⟨k, a, b, hk, ha, hb, rfl⟩
    · rw [putX_eq]; unfold putC; rw [if_neg (by decide), if_neg (fun h => absurd h.1 (by decide)), List.map_nil, sz_leaf, hE]; omega
    · rw [putX_eq]; unfold putC; rw [if_neg (by decide)]
      split
      · have := hv (atV L s).toNat; omega
      · rw [List.map_nil, sz_leaf]; have := name_szF hs; omega
    · rw [putX_eq]; unfold putC; rw [if_pos rfl]; omega
    · rw [putX_eq]; unfold putC; rw [if_neg (by decide), if_neg (fun h => absurd h.1 (by decide)), List.map_nil, sz_leaf, hE]; omega
    · rw [putX_eq]; unfold putC; rw [if_neg (by decide), if_neg (fun h => absurd h.1 (by decide)), List.map_nil, sz_leaf]; have := name_szF hs; omega
    · rw [putX_eq]; unfold putC; rw [if_neg (by decide), if_neg (fun h => absurd h.1 (by decide))]
      rw [show ([a].map (putX here L vals)) = [putX here L vals a] from rfl, show E0 = (⟨#[]⟩ : ByteArray) from rfl, sz_one]; have := ih a ha; omega
    · rw [putX_eq]; unfold putC; rw [if_neg (by omega), if_neg (fun h => by omega)]
      rw [show ([a, b].map (putX here L vals)) = [putX here L vals a, putX here L vals b] from rfl, show E0 = (⟨#[]⟩ : ByteArray) from rfl, sz_two]; have := ih a ha; have := ih b hb; omega
set_option maxHeartbeats 4000000 in
theorem put_c1 (here : Ex) (L : List ByteArray) (vals : List Ex) (e : Ex) (b hb va : Option Addr) (cap hcp gn vcp : Nat) (w : World) (hr : RdX w 0 e b) (hv : Pv w here hb gn L va vals) (hze : e.sz ≤ 1048576) (hzh : here.sz ≤ 1048576) (hLn : L.length ≤ 1100000) (hVn : vals.length ≤ 1048576) (hzv : ∀ i, i < vals.length → (xAt vals i).sz ≤ 1048576) (ho : okF 6 false e = false) : Calls Tryd.prog 25 #[.agg (e.cs b cap), .agg (here.cs hb hcp), .slice (some ⟨gn, 0, none⟩) L.length L.length, .slice va vals.length vcp] w (GiR (putA here L vals e) (Up w) w) := by
  rw [putA_no (fun h => by rw [ho] at h; exact absurd h.1 (by decide))]
  have X0 := hide (By.new w #[.int .i64 e.k, .int .i64 e.n, .string e.s, .slice b e.l.length cap] #[.int .i64 here.k, .int .i64 here.n, .string here.s, .slice hb here.l.length hcp])
  have OE := hide (okS_any e b cap _ (hr.later (unhide X0).bel) hze)
  rw [ho] at OE
  have OH := hide (fun wr (h : Below w.heap.size w wr) => okS_any here hb hcp wr (hv.h.later h) hzh)

  generalize hX : GiR _ (Up w) w = X
  have HX := hide hX
  unfold Ex.cs at OE OH ⊢
  clear hX hr hv ho
  go_enter Tryd.func25, Tryd.ntmps25
  go_wp2_with fail
  generalize ((w.alloc (.cells #[.int .i64 e.k, .int .i64 e.n, .string e.s, .slice b e.l.length cap] 26)).alloc (.cells #[.int .i64 here.k, .int .i64 here.n, .string here.s, .slice hb here.l.length hcp] 26)).alloc (.cells #[.int .i64 0, .int .i64 0, .string ⟨#[]⟩, .slice none 0 0] 26) = W at *
  refine (unhide OE).mono ?_
  rintro r w1 ⟨rfl, hb1⟩
  have X1 := hide ((unhide X0).later hb1)
  clear hb1 X0 OE
  go_wp2_with (refine wpList_store_row rfl 26 _ _ rfl (w.heap.size + 2) #[.int .i64 0, .int .i64 0, .string ⟨#[]⟩, .slice none 0 0] rfl rfl 26 _ ((unhide X1).res) szE rfl (ex_one _ _ _ _ _ _) ?_)
  refine bodyPost_ret (results_cell_row (P := Tryd.prog) rfl _ _ (w.heap.size + 2) 26 #[.int .i64 0, .int .i64 0, .string ⟨#[]⟩, .slice none 0 0] (0, 0) _ rfl (setRow_heap _ _ _ _ _ _ ((unhide X1).res)) Tryd.underlying26 rfl szE) rfl ?_
  rw [← unhide HX]
  exact By.end (x := zX) (unhide X1) (PX.leaf _ _ _ _ _ _) _
set_option maxHeartbeats 4000000 in
theorem put_c2 (here : Ex) (L : List ByteArray) (vals : List Ex) (e : Ex) (b hb va : Option Addr) (cap hcp gn vcp : Nat) (w : World) (hr : RdX w 0 e b) (hv : Pv w here hb gn L va vals) (hze : e.sz ≤ 1048576) (hzh : here.sz ≤ 1048576) (hLn : L.length ≤ 1100000) (hVn : vals.length ≤ 1048576) (hzv : ∀ i, i < vals.length → (xAt vals i).sz ≤ 1048576) (ho : okF 6 false e = true) (hh : okF 6 false here = false) : Calls Tryd.prog 25 #[.agg (e.cs b cap), .agg (here.cs hb hcp), .slice (some ⟨gn, 0, none⟩) L.length L.length, .slice va vals.length vcp] w (GiR (putA here L vals e) (Up w) w) := by
  rw [putA_no (fun h => by rw [hh] at h; exact absurd h.2.1 (by decide))]
  have X0 := hide (By.new w #[.int .i64 e.k, .int .i64 e.n, .string e.s, .slice b e.l.length cap] #[.int .i64 here.k, .int .i64 here.n, .string here.s, .slice hb here.l.length hcp])
  have OE := hide (okS_any e b cap _ (hr.later (unhide X0).bel) hze)
  rw [ho] at OE
  have OH := hide (fun wr (h : Below w.heap.size w wr) => okS_any here hb hcp wr (hv.h.later h) hzh)
  rw [hh] at OH
  generalize hX : GiR _ (Up w) w = X
  have HX := hide hX
  unfold Ex.cs at OE OH ⊢
  clear hX hr hv ho hh
  go_enter Tryd.func25, Tryd.ntmps25
  go_wp2_with fail
  generalize ((w.alloc (.cells #[.int .i64 e.k, .int .i64 e.n, .string e.s, .slice b e.l.length cap] 26)).alloc (.cells #[.int .i64 here.k, .int .i64 here.n, .string here.s, .slice hb here.l.length hcp] 26)).alloc (.cells #[.int .i64 0, .int .i64 0, .string ⟨#[]⟩, .slice none 0 0] 26) = W at *
  refine (unhide OE).mono ?_
  rintro r w1 ⟨rfl, hb1⟩
  have X1 := hide ((unhide X0).later hb1)
  clear hb1 X0 OE
  have h0c := Lib.cell_of_heap (unhide X1).boxb 0
  have h1c := Lib.cell_of_heap (unhide X1).boxb 1
  have h2c := Lib.cell_of_heap (unhide X1).boxb 2
  have h3c := Lib.cell_of_heap (unhide X1).boxb 3
  have OH1 := hide (unhide OH w1 (unhide X1).bel)
  clear OH
  go_wp2_with fail
  clear h0c h1c h2c h3c
  refine (unhide OH1).mono ?_
  rintro r w2 ⟨rfl, hb2⟩
  have X2 := hide ((unhide X1).later hb2)
  clear hb2 X1 OH1
  go_wp2_with (refine wpList_store_row rfl 26 _ _ rfl (w.heap.size + 2) #[.int .i64 0, .int .i64 0, .string ⟨#[]⟩, .slice none 0 0] rfl rfl 26 _ ((unhide X2).res) szE rfl (ex_one _ _ _ _ _ _) ?_)
  refine bodyPost_ret (results_cell_row (P := Tryd.prog) rfl _ _ (w.heap.size + 2) 26 #[.int .i64 0, .int .i64 0, .string ⟨#[]⟩, .slice none 0 0] (0, 0) _ rfl (setRow_heap _ _ _ _ _ _ ((unhide X2).res)) Tryd.underlying26 rfl szE) rfl ?_
  rw [← unhide HX]
  exact By.end (x := zX) (unhide X2) (PX.leaf _ _ _ _ _ _) _
set_option maxHeartbeats 4000000 in
theorem put_c3 (here : Ex) (L : List ByteArray) (vals : List Ex) (e : Ex) (b hb va : Option Addr) (cap hcp gn vcp : Nat) (w : World) (hr : RdX w 0 e b) (hv : Pv w here hb gn L va vals) (hze : e.sz ≤ 1048576) (hzh : here.sz ≤ 1048576) (hLn : L.length ≤ 1100000) (hVn : vals.length ≤ 1048576) (hzv : ∀ i, i < vals.length → (xAt vals i).sz ≤ 1048576) (ho : okF 6 false e = true) (hh : okF 6 false here = true) (hl : ((L.length : Int) == (vals.length : Int)) = false) : Calls Tryd.prog 25 #[.agg (e.cs b cap), .agg (here.cs hb hcp), .slice (some ⟨gn, 0, none⟩) L.length L.length, .slice va vals.length vcp] w (GiR (putA here L vals e) (Up w) w) := by
  rw [putA_no (fun h => beq_eq_false_iff_ne.1 hl (by rw [h.2.2.1]))]
  have X0 := hide (By.new w #[.int .i64 e.k, .int .i64 e.n, .string e.s, .slice b e.l.length cap] #[.int .i64 here.k, .int .i64 here.n, .string here.s, .slice hb here.l.length hcp])
  have OE := hide (okS_any e b cap _ (hr.later (unhide X0).bel) hze)
  rw [ho] at OE
  have OH := hide (fun wr (h : Below w.heap.size w wr) => okS_any here hb hcp wr (hv.h.later h) hzh)
  rw [hh] at OH
  generalize hX : GiR _ (Up w) w = X
  have HX := hide hX
  unfold Ex.cs at OE OH ⊢
  clear hX hr hv ho hh
  generalize L.length = ln at *
  generalize vals.length = vn at *
  go_enter Tryd.func25, Tryd.ntmps25
  go_wp2_with fail
  generalize ((w.alloc (.cells #[.int .i64 e.k, .int .i64 e.n, .string e.s, .slice b e.l.length cap] 26)).alloc (.cells #[.int .i64 here.k, .int .i64 here.n, .string here.s, .slice hb here.l.length hcp] 26)).alloc (.cells #[.int .i64 0, .int .i64 0, .string ⟨#[]⟩, .slice none 0 0] 26) = W at *
  refine (unhide OE).mono ?_
  rintro r w1 ⟨rfl, hb1⟩
  have X1 := hide ((unhide X0).later hb1)
  clear hb1 X0 OE
  have h0c := Lib.cell_of_heap (unhide X1).boxb 0
  have h1c := Lib.cell_of_heap (unhide X1).boxb 1
  have h2c := Lib.cell_of_heap (unhide X1).boxb 2
  have h3c := Lib.cell_of_heap (unhide X1).boxb 3
  have OH1 := hide (unhide OH w1 (unhide X1).bel)
  clear OH
  go_wp2_with fail
  clear h0c h1c h2c h3c
  refine (unhide OH1).mono ?_
  rintro r w2 ⟨rfl, hb2⟩
  have X2 := hide ((unhide X1).later hb2)
  clear hb2 X1 OH1
  go_wp2_with (refine wpList_store_row rfl 26 _ _ rfl (w.heap.size + 2) #[.int .i64 0, .int .i64 0, .string ⟨#[]⟩, .slice none 0 0] rfl rfl 26 _ ((unhide X2).res) szE rfl (ex_one _ _ _ _ _ _) ?_)
  refine bodyPost_ret (results_cell_row (P := Tryd.prog) rfl _ _ (w.heap.size + 2) 26 #[.int .i64 0, .int .i64 0, .string ⟨#[]⟩, .slice none 0 0] (0, 0) _ rfl (setRow_heap _ _ _ _ _ _ ((unhide X2).res)) Tryd.underlying26 rfl szE) rfl ?_
  rw [← unhide HX]
  exact By.end (x := zX) (unhide X2) (PX.leaf _ _ _ _ _ _) _
set_option maxHeartbeats 8000000 in
theorem put_c4 (here : Ex) (L : List ByteArray) (vals : List Ex) (e : Ex) (b hb va : Option Addr) (cap hcp gn vcp : Nat) (w : World) (hr : RdX w 0 e b) (hv : Pv w here hb gn L va vals) (hze : e.sz ≤ 1048576) (hzh : here.sz ≤ 1048576) (hLn : L.length ≤ 1100000) (hVn : vals.length ≤ 1048576) (hzv : ∀ i, i < vals.length → (xAt vals i).sz ≤ 1048576) (ho : okF 6 false e = true) (hh : okF 6 false here = true) (hl : L.length = vals.length) : Calls Tryd.prog 25 #[.agg (e.cs b cap), .agg (here.cs hb hcp), .slice (some ⟨gn, 0, none⟩) L.length L.length, .slice va vals.length vcp] w (GiR (putA here L vals e) (Up w) w) := by
  have BADV := hide (fun i (hi : i < vals.length) (h : okF 6 false (xAt vals i) = false) => putA_no (here := here) (L := L) (vals := vals) (e := e) (fun k => by have := k.2.2.2.1 i hi; rw [h] at this; cases this))
  have ALL := hide (fun (hv : ∀ i, i < vals.length → okF 6 false (xAt vals i) = true) => (show putA here L vals e = if okF 6 false (putX here L vals e) = true then putX here L vals e else zX by
    unfold putA
    by_cases hx : okF 6 false (putX here L vals e) = true
    · rw [if_pos ⟨ho, hh, hl, hv, hx⟩, if_pos hx]
    · rw [if_neg (fun k => hx k.2.2.2.2), if_neg hx]))
  have SZX := hide (fun (hv : ∀ i, i < vals.length → okF 6 false (xAt vals i) = true) => (show (putX here L vals e).sz ≤ 1048576 from Nat.le_trans (put_sz (ok_sz 6 here hh) (fun i => by
    by_cases hi : i < vals.length
    · exact ok_sz 6 _ (hv i hi)
    · have : xAt vals i = X0 := by unfold xAt; rw [List.getD_eq_getElem?_getD, List.getElem?_eq_none (by omega)]; rfl
      rw [this]; show (Ex.mk 0 0 ⟨#[]⟩ []).sz ≤ 504; rw [sz_leaf]; show (0 : Nat) ≤ 504; omega) 6 e ho) (by decide)))
  have PU := hide (fun wr (h : Below w.heap.size w wr) => putS_any here L vals ⟨hzh, hLn, hzv, hl⟩ e (Nat.le_trans (ok_sz 6 e ho) (by decide)) b hb va cap hcp gn vcp wr (hr.later h) (hv.later h))
  have VV := hide (fun wr (h : Below w.heap.size w wr) => (hv.later h).v)
  have hv0 := (RdX_eq _ _ _ _).1 hv.v
  have OV := hide (fun i (hi : i < vals.length) (c : Option Addr) (ca : Nat) wr (hr : RdX wr 0 (xAt vals i) c) => okS_any (xAt vals i) c ca wr hr (hzv i hi))
  have OX := hide (fun (hv : (putX here L vals e).sz ≤ 1048576) (c : Option Addr) (ca : Nat) wr (hr : RdX wr 0 (putX here L vals e) c) => okS_any (putX here L vals e) c ca wr hr hv)
  unfold GiR at PU
  have hll : ((L.length : Int) == (vals.length : Int)) = true := by rw [hl]; exact beq_iff_eq.2 rfl
  have X0 := hide (By.new w #[.int .i64 e.k, .int .i64 e.n, .string e.s, .slice b e.l.length cap] #[.int .i64 here.k, .int .i64 here.n, .string here.s, .slice hb here.l.length hcp])
  have OE := hide (okS_any e b cap _ (hr.later (unhide X0).bel) hze)
  rw [ho] at OE
  have OH := hide (fun wr (h : Below w.heap.size w wr) => okS_any here hb hcp wr (hv.h.later h) hzh)
  rw [hh] at OH
  generalize hX : GiR _ (Up w) w = X
  have HX := hide hX
  unfold Ex.cs at OE OH ⊢
  unfold Ex.cs at PU OV OX
  generalize putA here L vals e = pa at *
  generalize putX here L vals e = x at *
  clear hX hr hv ho hh hzv
  obtain ⟨vn, hvn⟩ : ∃ vn, vals.length = vn := ⟨_, rfl⟩
  rw [hl] at hll PU ⊢
  rw [hvn] at hll PU BADV ALL SZX OV hVn ⊢
  clear hl hLn hll
  go_enter Tryd.func25, Tryd.ntmps25
  go_wp2_with fail
  generalize ((w.alloc (.cells #[.int .i64 e.k, .int .i64 e.n, .string e.s, .slice b e.l.length cap] 26)).alloc (.cells #[.int .i64 here.k, .int .i64 here.n, .string here.s, .slice hb here.l.length hcp] 26)).alloc (.cells #[.int .i64 0, .int .i64 0, .string ⟨#[]⟩, .slice none 0 0] 26) = W at *
  refine (unhide OE).mono ?_
  rintro r w1 ⟨rfl, hb1⟩
  have X1 := hide ((unhide X0).later hb1)
  clear hb1 X0 OE
  have h0c := Lib.cell_of_heap (unhide X1).boxb 0
  have h1c := Lib.cell_of_heap (unhide X1).boxb 1
  have h2c := Lib.cell_of_heap (unhide X1).boxb 2
  have h3c := Lib.cell_of_heap (unhide X1).boxb 3
  have OH1 := hide (unhide OH w1 (unhide X1).bel)
  clear OH
  go_wp2_with fail
  clear h0c h1c h2c h3c
  refine (unhide OH1).mono ?_
  rintro r w2 ⟨rfl, hb2⟩
  have X2 := hide ((unhide X1).later hb2)
  clear hb2 X1 OH1
  go_wp2
  go_loopw [9] (fun i wr => ∃ j : Nat, j ≤ vn ∧ i = .int .i64 j ∧ By w wr #[.int .i64 e.k, .int .i64 e.n, .string e.s, .slice b e.l.length cap] #[.int .i64 here.k, .int .i64 here.n, .string here.s, .slice hb here.l.length hcp] ∧ ∀ q, q < j → okF 6 false (xAt vals q) = true) (fun i _ => vn - (intOf i).toNat)
  case atStart => exact ⟨0, Nat.zero_le _, rfl, unhide X2, fun q hq => by omega⟩
  case round =>
    clear X2
    obtain ⟨j, hj, rfl, hby, hall⟩ := hrel
    by_cases hlt : j < vn
    · rcases hv0 with h0 | ⟨p, off, rfl, _, hp, hc⟩
      · rw [show vals = [] from h0] at hvn; simp at hvn; omega
      obtain ⟨c0, c1, c2, c, ca, c3, c4⟩ := hc j (show j < vals.length by omega)
      have xe : xAt (Ex.mk 0 0 E0 vals).l j = xAt vals j := rfl
      rw [xe] at c0 c1 c2 c3 c4
      have d0 := (hby.bel.cell (p := ⟨p, off + j * 4, none⟩) hp).trans c0
      have d1 := (hby.bel.cell (p := ⟨p, off + j * 4 + 1, none⟩) hp).trans c1
      have d2 := (hby.bel.cell (p := ⟨p, off + j * 4 + 2, none⟩) hp).trans c2
      have d3 := (hby.bel.cell (p := ⟨p, off + j * 4 + 3, none⟩) hp).trans c3
      have OJ := hide (unhide OV j hlt c ca wr (c4.later hby.bel))
      have XJ := hide hby
      have AL := hide hall
      have BJ := hide (unhide BADV j hlt)
      have NJ := hide (show okF 6 false (xAt vals j) = true → ∀ q, q < j + 1 → okF 6 false (xAt vals q) = true from fun h q hq => by
        by_cases e : q = j
        · subst e; exact h
        · exact hall q (by omega))
      clear c0 c1 c2 c3 c4 hc xe hby hall BADV OV ALL SZX PU VV OX
      generalize (xAt vals j).k = vk at *
      generalize (xAt vals j).n = vnn at *
      generalize (xAt vals j).s = vss at *
      generalize (xAt vals j).l.length = vl at *
      generalize okF 6 false (xAt vals j) = ok at *
      go_wp2_with fail
      clear d0 d1 d2 d3
      refine (unhide OJ).mono ?_
      rintro r w3 ⟨rfl, hb3⟩
      have X3 := hide ((unhide XJ).later hb3)
      clear hb3 XJ OJ
      cases ok
      · have BZ := hide (unhide BJ rfl)
        rw [unhide BZ] at HX
        clear BJ NJ AL BZ
        go_wp2_with (refine wpList_store_row rfl 26 _ _ rfl (w.heap.size + 2) #[.int .i64 0, .int .i64 0, .string ⟨#[]⟩, .slice none 0 0] rfl rfl 26 _ ((unhide X3).res) szE rfl (ex_one _ _ _ _ _ _) ?_)
        refine bodyPost_ret (results_cell_row (P := Tryd.prog) rfl _ _ (w.heap.size + 2) 26 #[.int .i64 0, .int .i64 0, .string ⟨#[]⟩, .slice none 0 0] (0, 0) _ rfl (setRow_heap _ _ _ _ _ _ ((unhide X3).res)) Tryd.underlying26 rfl szE) rfl ?_
        rw [← unhide HX]
        exact By.end (x := zX) (unhide X3) (PX.leaf _ _ _ _ _ _) _
      · have NN := hide (unhide NJ rfl)
        clear BJ NJ AL
        go_wp2
        go_roundw
        case rel => exact ⟨j + 1, by omega, by go_num, unhide X3, unhide NN⟩
        case measure => simp [intOf]; omega
    · obtain rfl : j = vn := by omega
      have XJ := hide hby
      have AE := hide (unhide ALL hall)
      have OX1 := hide (unhide OX (unhide SZX hall))
      have PU1 := hide (unhide PU wr hby.bel)
      clear hby hall BADV OV ALL SZX PU VV OX hv0
      go_wp2_with (first | (refine wpList_load_row rfl 26 _ rfl w.heap.size rfl 26 #[.int .i64 e.k, .int .i64 e.n, .string e.s, .slice b e.l.length cap] (0, 0) _ ((unhide XJ).boxa) Tryd.underlying26 rfl (by kernel_rfl) ?_) | (refine wpList_load_row rfl 26 _ rfl (w.heap.size + 1) rfl 26 #[.int .i64 here.k, .int .i64 here.n, .string here.s, .slice hb here.l.length hcp] (0, 0) _ ((unhide XJ).boxb) Tryd.underlying26 rfl (by kernel_rfl) ?_))
      refine (unhide PU1).mono ?_
      rintro r w4 ⟨c4, cp4, rfl, hx4, hb4⟩
      have hzr := (unhide XJ).lt
      have hb5 := below_new w4 (.cells #[.int .i64 x.k, .int .i64 x.n, .string x.s, .slice c4 x.l.length cp4] 26)
      have X5 := hide (((unhide XJ).later hb4).later hb5)
      have A4 := (show PX w4 (Oy w (Up w)) x c4 from hx4.mono (fun b h => up_oy (w := w) (b := b) (Nat.le_trans hzr h)))
      have A5 := hide (A4.later hb5)
      have G5 := hide (show (w4.alloc (.cells #[.int .i64 x.k, .int .i64 x.n, .string x.s, .slice c4 x.l.length cp4] 26)).heap[w4.heap.size]? = some (.cells #[.int .i64 x.k, .int .i64 x.n, .string x.s, .slice c4 x.l.length cp4] 26 (0, 0)) from Array.getElem?_push_size)
      have O5 := hide (unhide OX1 c4 cp4 _ (unhide A5).rd)
      clear hx4 hb4 hb5 A4 XJ PU1 OX1
      go_wp2_with (refine wpList_load_row rfl 26 _ rfl w4.heap.size rfl 26 #[.int .i64 x.k, .int .i64 x.n, .string x.s, .slice c4 x.l.length cp4] (0, 0) _ (unhide G5) Tryd.underlying26 rfl (by kernel_rfl) ?_)
      generalize w4.alloc (.cells #[.int .i64 x.k, .int .i64 x.n, .string x.s, .slice c4 x.l.length cp4] 26) = w5 at *
      generalize w4.heap.size = g4 at *
      cases hq : okF 6 false x with
      | false =>
        rw [hq] at O5 AE
        have AZ := hide (show pa = zX from unhide AE)
        rw [unhide AZ] at HX
        refine (unhide O5).mono ?_
        rintro r w6 ⟨rfl, hb6⟩
        have X6 := hide ((unhide X5).later hb6)
        clear hb6 X5 A5 G5 O5 AE AZ
        go_wp2_with (refine wpList_store_row rfl 26 _ _ rfl (w.heap.size + 2) #[.int .i64 0, .int .i64 0, .string ⟨#[]⟩, .slice none 0 0] rfl rfl 26 _ ((unhide X6).res) szE rfl (ex_one _ _ _ _ _ _) ?_)
        refine bodyPost_ret (results_cell_row (P := Tryd.prog) rfl _ _ (w.heap.size + 2) 26 #[.int .i64 0, .int .i64 0, .string ⟨#[]⟩, .slice none 0 0] (0, 0) _ rfl (setRow_heap _ _ _ _ _ _ ((unhide X6).res)) Tryd.underlying26 rfl szE) rfl ?_
        rw [← unhide HX]
        exact By.end (x := zX) (unhide X6) (PX.leaf _ _ _ _ _ _) _
      | true =>
        rw [hq] at O5 AE
        have AZ := hide (show pa = x from unhide AE)
        rw [unhide AZ] at HX
        refine (unhide O5).mono ?_
        rintro r w6 ⟨rfl, hb6⟩
        have X6 := hide ((unhide X5).later hb6)
        have A6 := hide ((unhide A5).later hb6)
        have G6 := hide (row_keep (unhide G5) hb6)
        clear hb6 X5 A5 G5 O5 AE AZ
        go_wp2_with (first | (refine wpList_load_row rfl 26 _ rfl g4 rfl 26 #[.int .i64 x.k, .int .i64 x.n, .string x.s, .slice c4 x.l.length cp4] (0, 0) _ (unhide G6) Tryd.underlying26 rfl (by kernel_rfl) ?_) | (refine wpList_store_row rfl 26 _ _ rfl (w.heap.size + 2) #[.int .i64 x.k, .int .i64 x.n, .string x.s, .slice c4 x.l.length cp4] rfl rfl 26 _ ((unhide X6).res) szE rfl (ex_one _ _ _ _ _ _) ?_))
        refine bodyPost_ret (results_cell_row (P := Tryd.prog) rfl _ _ (w.heap.size + 2) 26 #[.int .i64 x.k, .int .i64 x.n, .string x.s, .slice c4 x.l.length cp4] (0, 0) _ rfl (setRow_heap _ _ _ _ _ _ ((unhide X6).res)) Tryd.underlying26 rfl szE) rfl ?_
        rw [← unhide HX]
        exact (unhide X6).end (unhide A6) _
theorem putA_any (here : Ex) (L : List ByteArray) (vals : List Ex) (e : Ex) (b hb va : Option Addr) (cap hcp gn vcp : Nat) (w : World) (hr : RdX w 0 e b) (hv : Pv w here hb gn L va vals) (hze : e.sz ≤ 1048576) (hzh : here.sz ≤ 1048576) (hLn : L.length ≤ 1100000) (hVn : vals.length ≤ 1048576) (hzv : ∀ i, i < vals.length → (xAt vals i).sz ≤ 1048576) : Calls Tryd.prog 25 #[.agg (e.cs b cap), .agg (here.cs hb hcp), .slice (some ⟨gn, 0, none⟩) L.length L.length, .slice va vals.length vcp] w (GiR (putA here L vals e) (Up w) w) := by
  cases ho : okF 6 false e with
  | false => exact put_c1 here L vals e b hb va cap hcp gn vcp w hr hv hze hzh hLn hVn hzv ho
  | true =>
    cases hh : okF 6 false here with
    | false => exact put_c2 here L vals e b hb va cap hcp gn vcp w hr hv hze hzh hLn hVn hzv ho hh
    | true =>
      cases hl : ((L.length : Int) == (vals.length : Int)) with
      | false => exact put_c3 here L vals e b hb va cap hcp gn vcp w hr hv hze hzh hLn hVn hzv ho hh hl
      | true => exact put_c4 here L vals e b hb va cap hcp gn vcp w hr hv hze hzh hLn hVn hzv ho hh (by have := beq_iff_eq.1 hl; omega)
end Go.Proofs.YtkolflcjkofleaaDoor

namespace Go.Proofs.YtkolflcjkofleaaDoor
open Go.ChangeShapes Go.WideShapes Go.ChangeAt Go.RowKit
set_option linter.unusedVariables false
set_option maxRecDepth 8000
set_option linter.unusedSimpArgs false

/-- While a term is drawn and bent: the answer's block, the term's box, its parts, the cursor. -/
structure Ey (w wr : World) (cb g : Nat) (a : Option Addr) (len cap : Nat) (xs : List UInt8) (e : Ex) (c : Option Addr) (cp : Nat) : Prop where
  res : wr.heap[w.heap.size]? = some (.cells E0x 26 (0, 0))
  box : wr.heap[g]? = some (.cells (e.cs c cp) 26 (0, 0))
  dz : Dz w wr cb a len cap xs
  lt : w.heap.size < g
  own : ∃ F, OwX wr e c F ∧ F.Nodup ∧ ∀ b ∈ F, w.heap.size + 1 ≤ b ∧ b ≠ g
section
variable {w wr w' : World} {cb g : Nat} {a : Option Addr} {len cap : Nat} {xs : List UInt8} {e : Ex} {c : Option Addr} {cp : Nat}
theorem Ey.draw (h : Ey w wr cb g a len cap xs e c cp) (hc : Cur w' cb a len cap xs) (hg : wr.grownBy w' (some cb)) : Ey w w' cb g a len cap xs e c cp := by
  have hl := h.dz.lt
  refine ⟨h.dz.blk hg h.res (Nat.le_refl _), h.dz.blk hg h.box (Nat.le_of_lt h.lt), h.dz.draw hc hg, h.lt, ?_⟩
  obtain ⟨F, h1, h2, h3⟩ := h.own
  exact ⟨F, OwX.keep e c F (fun b hF => hg.block b (OwX.lt e c F h1 b hF) (fun e => by have := (h3 b hF).1; simp at e; omega)) h1, h2, h3⟩
theorem Ey.cells (h : Ey w wr cb g a len cap xs e c cp) : wr.cell? ⟨g, 0, none⟩ = some (.int .i64 e.k) ∧ wr.cell? ⟨g, 1, none⟩ = some (.int .i64 e.n) ∧ wr.cell? ⟨g, 2, none⟩ = some (.string e.s) ∧ wr.cell? ⟨g, 3, none⟩ = some (.slice c e.l.length cp) := ⟨Lib.cell_of_heap h.box 0, Lib.cell_of_heap h.box 1, Lib.cell_of_heap h.box 2, Lib.cell_of_heap h.box 3⟩
theorem Ey.frz (h : Ey w wr cb g a len cap xs e c cp) (j : Nat) : wr.frozen? ⟨g, j, none⟩ = false := by simp [World.frozen?, h.box]
theorem Ey.dzset (h : Ey w wr cb g a len cap xs e c cp) (j : Nat) (v : Value) : Dz w (wr.setCell ⟨g, j, none⟩ v) cb a len cap xs := h.dz.own (grownBy_set (b := g) (o := j) v) (fun k e => by cases e; exact Nat.le_of_lt h.lt)
theorem Ey.resset (h : Ey w wr cb g a len cap xs e c cp) (j : Nat) (v : Value) : (wr.setCell ⟨g, j, none⟩ v).heap[w.heap.size]? = some (.cells E0x 26 (0, 0)) := (heap_setCell_other wr ⟨g, j, none⟩ _ v (by have := h.lt; simp; omega)).trans h.res
theorem ow_l {w : World} {e f : Ex} {c : Option Addr} {F : List Nat} (h : OwX w e c F) (hl : e.l = f.l) : OwX w f c F := by
  rw [OwX_eq] at h ⊢
  rw [← hl]
  exact h
theorem Ey.ownset (h : Ey w wr cb g a len cap xs e c cp) (j : Nat) (v : Value) (f : Ex) (hl : e.l = f.l) : ∃ F, OwX (wr.setCell ⟨g, j, none⟩ v) f c F ∧ F.Nodup ∧ ∀ b ∈ F, w.heap.size + 1 ≤ b ∧ b ≠ g := by
  obtain ⟨F, h1, h2, h3⟩ := h.own
  exact ⟨F, ow_l (OwX.keep e c F (fun b hF => heap_setCell_other wr ⟨g, j, none⟩ b v (h3 b hF).2) h1) hl, h2, h3⟩
theorem Ey.setK (h : Ey w wr cb g a len cap xs e c cp) (y : Int) : Ey w (wr.setCell ⟨g, 0, none⟩ (.int .i64 y)) cb g a len cap xs ⟨y, e.n, e.s, e.l⟩ c cp :=
  ⟨h.resset _ _, heap_setCell_same wr g 0 _ _ _ h.box, h.dzset _ _, h.lt, h.ownset _ _ _ rfl⟩
theorem Ey.setN (h : Ey w wr cb g a len cap xs e c cp) (y : Int) : Ey w (wr.setCell ⟨g, 1, none⟩ (.int .i64 y)) cb g a len cap xs ⟨e.k, y, e.s, e.l⟩ c cp :=
  ⟨h.resset _ _, heap_setCell_same wr g 1 _ _ _ h.box, h.dzset _ _, h.lt, h.ownset _ _ _ rfl⟩
theorem Ey.setS (h : Ey w wr cb g a len cap xs e c cp) (y : ByteArray) : Ey w (wr.setCell ⟨g, 2, none⟩ (.string y)) cb g a len cap xs ⟨e.k, e.n, y, e.l⟩ c cp :=
  ⟨h.resset _ _, heap_setCell_same wr g 2 _ _ _ h.box, h.dzset _ _, h.lt, h.ownset _ _ _ rfl⟩
theorem Ey.later (h : Ey w wr cb g a len cap xs e c cp) (hb : Below wr.heap.size wr w') : Ey w w' cb g a len cap xs e c cp := h.draw (h.dz.cur.later hb) (grownBy_below hb)
/-- The term becomes a part of a new one. -/
theorem Ey.wrap (h : Ey w wr cb g a len cap xs e c cp) : Ey w ((wr.alloc (.cells #[.int .i64 e.k, .int .i64 e.n, .string e.s, .slice c e.l.length cp] 26)).setRow g #[.int .i64 4, .int .i64 0, .string ⟨#[]⟩, .slice (some ⟨wr.heap.size, 0, none⟩) 1 1]) cb g a len cap xs ⟨4, 0, ⟨#[]⟩, [e]⟩ (some ⟨wr.heap.size, 0, none⟩) 1 := by
  have hb := below_new wr (.cells #[.int .i64 e.k, .int .i64 e.n, .string e.s, .slice c e.l.length cp] 26)
  have h' := h.later hb
  have hlt := (Array.getElem?_eq_some_iff.1 h.box).1
  have hl := h.lt
  refine ⟨(setRow_other _ _ _ _ (by omega)).trans h'.res, setRow_heap _ _ _ _ _ _ h'.box, h'.dz.own (grownBy_row _) (fun k e => by cases e; omega), hl, ?_⟩
  obtain ⟨F, h1, h2, h3⟩ := h.own
  have hF := OwX.lt e c F h1
  refine ⟨wr.heap.size :: F, ?_, List.nodup_cons.2 ⟨fun h => by have := hF _ h; omega, h2⟩, fun b hb => ?_⟩
  · refine (OwX_eq _ _ _ _).2 (.inr ⟨wr.heap.size, #[.int .i64 e.k, .int .i64 e.n, .string e.s, .slice c e.l.length cp], 26, [F], rfl, (setRow_other _ _ _ _ (by omega)).trans Array.getElem?_push_size, by simp, rfl, by simp, fun i hi => ?_⟩)
    have hi : i < 1 := hi
    obtain rfl : i = 0 := by omega
    exact ⟨rfl, rfl, rfl, c, cp, rfl, OwX.keep e c F (fun b hb => setRow_other _ _ _ _ (h3 b hb).2) (OwX.later h1 hb)⟩
  · rcases List.mem_cons.1 hb with rfl | hb
    · omega
    · exact h3 b hb
theorem Ey.new (h : Ey w wr cb g a len cap xs e c cp) (cs : Array Value) : NewX (wr.setRow w.heap.size cs) w.heap.size e c := by
  obtain ⟨F, h1, h2, h3⟩ := h.own
  exact ⟨F, OwX.keep e c F (fun b hb => setRow_other _ _ _ _ (by have := (h3 b hb).1; omega)) h1, h2, fun b hb => Nat.le_of_succ_le (h3 b hb).1⟩
theorem Ey.start (hd : Dz w wr cb a len cap xs) (hr : wr.heap[w.heap.size]? = some (.cells E0x 26 (0, 0))) (hn : NewX wr (w.heap.size + 1) e c) : Ey w (wr.alloc (.cells (e.cs c cp) 26)) cb wr.heap.size a len cap xs e c cp := by
  have hb := below_new wr (.cells (e.cs c cp) 26)
  obtain ⟨F, h1, h2, h3⟩ := hn
  exact ⟨(hb.block _ (Array.getElem?_eq_some_iff.1 hr).1).trans hr, Array.getElem?_push_size, hd.later hb, (Array.getElem?_eq_some_iff.1 hr).1, F, OwX.later h1 hb, h2, fun b hb => ⟨h3 b hb, by have := OwX.lt e c F h1 b hb; omega⟩⟩
end
theorem sz_k (e : Ex) (y z : Int) : (Ex.mk y z e.s e.l).sz = e.sz := by obtain ⟨k, n, s, l⟩ := e; simp only [Ex.sz_eq]
theorem sz_s (e : Ex) (y : ByteArray) : (Ex.mk e.k e.n y e.l).sz ≤ y.size + e.sz := by obtain ⟨k, n, s, l⟩ := e; simp only [Ex.sz_eq]; omega
def L10c : List ByteArray := [⟨#[]⟩, ⟨#[97]⟩, ⟨#[109, 111, 118]⟩, ⟨#[65]⟩]
theorem sz10c : ∀ j : Fin 4, (L10c.getD j.val E0).size ≤ 3 := by decide +kernel
set_option maxHeartbeats 8000000 in
theorem anyD (cb : Nat) (a : Option Addr) (len cap : Nat) (xs : List UInt8) (w : World) (hc : Cur w cb a len cap xs) : Calls Tryd.prog 43 #[.pointer (some ⟨cb, 0, none⟩)] w (DrX 31 cb a len cap xs w) := by
  have D0 := hide ((dz_new hc).later (below_new w (.cells E0x 26)))
  have R0 := hide (heap_alloc_new w (.cells E0x 26))
  have hZ0 : w.heap.size < (w.alloc (.cells E0x 26)).heap.size := by simp
  unfold DrX
  unfold E0x at D0 R0 hZ0
  clear hc
  go_enter Tryd.func43, Tryd.ntmps43
  go_wp2_with fail
  generalize w.alloc (Obj.cells #[.int .i64 0, .int .i64 0, .string ⟨#[]⟩, .slice none 0 0] 26) = W at *
  refine (once_any cb a len cap xs 2 W (by omega) (unhide D0).cur).mono ?_
  rintro e w1 ⟨q, rfl, hc1, hg1⟩
  have D1 := hide ((unhide D0).draw hc1 hg1)
  have R1 := hide ((unhide D0).blk hg1 (unhide R0) (Nat.le_refl _))
  have hZ1 : w.heap.size < w1.heap.size := Nat.lt_of_lt_of_le hZ0 hg1.size
  have DX := hide (drawX3 3 rfl q cb a len cap xs w1 hc1)
  clear hc1 hg1 D0 R0 hZ0
  go_wp2_with fail
  refine (unhide DX).mono ?_
  rintro e w2 ⟨x, c, cp, rfl, hsx, hnx, hc2, hg2⟩
  have hsx : x.sz ≤ 22 := hsx
  have EY0 := hide (Ey.start (cp := cp) ((unhide D1).draw hc2 hg2) ((unhide D1).blk hg2 (unhide R1) (Nat.le_refl _)) (hnx.lower hZ1))
  obtain ⟨g, hg⟩ : ∃ g, w2.heap.size = g := ⟨_, rfl⟩
  clear hnx hc2 hg2 D1 R1 DX
  unfold Ex.cs
  unfold Ex.cs at EY0
  obtain ⟨W3, hW3⟩ : ∃ W3, w2.alloc (.cells #[.int .i64 x.k, .int .i64 x.n, .string x.s, .slice c x.l.length cp] 26) = W3 := ⟨_, rfl⟩
  rw [hW3] at EY0
  rw [hg] at EY0
  go_wp2_with fail
  refine (below_any cb a len cap xs 14 W3 (by omega) (unhide EY0).dz.cur).mono ?_
  rintro e w4 ⟨i, hx0, hx1, rfl, hc4, hg4⟩
  obtain ⟨hx2, hx3⟩ := hx0 (by omega)
  have EY := hide ((unhide EY0).draw hc4 hg4)
  clear hx0 hx1 hc4 hg4 EY0 hW3
  have h5 : i = 0 ∨ i = 1 ∨ i = 2 ∨ i = 3 ∨ 4 ≤ i := by omega
  have hcl := (unhide EY).dz.cur.lt
  rcases h5 with rfl | rfl | rfl | rfl | h5
  · have BL := hide (below_any cb a len cap xs 14 w4 (by omega) (unhide EY).dz.cur)
    go_wp2_with fail
    refine (unhide BL).mono ?_
    rintro e w5 ⟨y, _, _, rfl, hc5, hg5⟩
    have EX := hide ((unhide EY).draw hc5 hg5)
    have EZ := hide ((unhide EX).setK y)
    have f0 := (unhide EX).frz 0
    obtain ⟨x0, x1, x2, x3⟩ := (unhide EX).cells
    clear hc5 hg5 BL EY
    have RR := hide ((unhide EZ).res)
    unfold E0x at RR
    have hlg := (unhide EZ).lt
    have HSZ := hide (show Ex.sz ⟨y, x.n, x.s, x.l⟩ ≤ 31 from by rw [sz_k]; omega)
    go_wp2_with (refine wpList_store_row rfl 26 _ _ rfl w.heap.size #[.int .i64 y, .int .i64 x.n, .string x.s, .slice c x.l.length cp] rfl rfl 26 _ (unhide RR) szE rfl (ex_one _ _ _ _ _ _) ?_)
    refine bodyPost_ret (results_cell_row (P := Tryd.prog) rfl _ _ w.heap.size 26 #[.int .i64 y, .int .i64 x.n, .string x.s, .slice c x.l.length cp] (0, 0) _ rfl (setRow_heap _ _ _ _ _ _ (unhide RR)) Tryd.underlying26 rfl szE) rfl ?_
    exact ⟨⟨y, x.n, x.s, x.l⟩, c, cp, rfl, unhide HSZ, (unhide EZ).new _, ((unhide EZ).dz.row _).cur, ((unhide EZ).dz.row _).gr⟩
  · have I1 := hide (int_any cb a len cap xs (some ⟨w4.heap.size, 0, none⟩) 3 3 [-1, 1, 65536] (w4.alloc (.cells ([-1, 1, 65536].map (Value.int .i64)).toArray 3)) ((unhide EY).dz.cur.later ((Below.refl _ _).alloc (Nat.le_refl _) _)) (RdN_lit w4 _) (fun ad e => by cases e; show w4.heap.size ≠ cb; omega) rfl (by omega) (by omega))
    have G1 := hide (World.grownBy_alloc w4 (.cells ([-1, 1, 65536].map (Value.int .i64)).toArray 3) (some cb))
    go_wp2_with fail
    refine (unhide I1).mono ?_
    rintro e w5 ⟨j, hj, rfl, hc5, hg5⟩
    have EX := hide ((unhide EY).draw hc5 (grownBy_trans (unhide G1) hg5))
    generalize nAt [-1, 1, 65536] j = y at *
    have EZ := hide ((unhide EX).setN y)
    have f0 := (unhide EX).frz 1
    obtain ⟨x0, x1, x2, x3⟩ := (unhide EX).cells
    clear hc5 hg5 I1 G1 EY
    have RR := hide ((unhide EZ).res)
    unfold E0x at RR
    have hlg := (unhide EZ).lt
    have HSZ := hide (show Ex.sz ⟨x.k, y, x.s, x.l⟩ ≤ 31 from by rw [sz_k]; omega)
    go_wp2_with (refine wpList_store_row rfl 26 _ _ rfl w.heap.size #[.int .i64 x.k, .int .i64 y, .string x.s, .slice c x.l.length cp] rfl rfl 26 _ (unhide RR) szE rfl (ex_one _ _ _ _ _ _) ?_)
    refine bodyPost_ret (results_cell_row (P := Tryd.prog) rfl _ _ w.heap.size 26 #[.int .i64 x.k, .int .i64 y, .string x.s, .slice c x.l.length cp] (0, 0) _ rfl (setRow_heap _ _ _ _ _ _ (unhide RR)) Tryd.underlying26 rfl szE) rfl ?_
    exact ⟨⟨x.k, y, x.s, x.l⟩, c, cp, rfl, unhide HSZ, (unhide EZ).new _, ((unhide EZ).dz.row _).cur, ((unhide EZ).dz.row _).gr⟩
  · have S1 := hide (strD L10c 4 cb a len cap xs w4 rfl (by omega) (by omega) (unhide EY).dz.cur)
    go_wp2_with fail
    refine (unhide S1).mono ?_
    rintro e w5 ⟨j, hj, rfl, hc5, hg5⟩
    have EX := hide ((unhide EY).draw hc5 hg5)
    have OK := hide (sz10c ⟨j, hj⟩)
    simp only at OK
    generalize L10c.getD j E0 = y at *
    have EZ := hide ((unhide EX).setS y)
    have f0 := (unhide EX).frz 2
    obtain ⟨x0, x1, x2, x3⟩ := (unhide EX).cells
    clear hc5 hg5 S1 EY
    have RR := hide ((unhide EZ).res)
    unfold E0x at RR
    have hlg := (unhide EZ).lt
    have HSZ := hide (show Ex.sz ⟨x.k, x.n, y, x.l⟩ ≤ 31 from by have := sz_s x y; have := unhide OK; omega)
    go_wp2_with (refine wpList_store_row rfl 26 _ _ rfl w.heap.size #[.int .i64 x.k, .int .i64 x.n, .string y, .slice c x.l.length cp] rfl rfl 26 _ (unhide RR) szE rfl (ex_one _ _ _ _ _ _) ?_)
    refine bodyPost_ret (results_cell_row (P := Tryd.prog) rfl _ _ w.heap.size 26 #[.int .i64 x.k, .int .i64 x.n, .string y, .slice c x.l.length cp] (0, 0) _ rfl (setRow_heap _ _ _ _ _ _ (unhide RR)) Tryd.underlying26 rfl szE) rfl ?_
    exact ⟨⟨x.k, x.n, y, x.l⟩, c, cp, rfl, unhide HSZ, (unhide EZ).new _, ((unhide EZ).dz.row _).cur, ((unhide EZ).dz.row _).gr⟩
  · have BL := hide (below_any cb a len cap xs 7 w4 (by omega) (unhide EY).dz.cur)
    go_wp2_with fail
    refine (unhide BL).mono ?_
    rintro e w5 ⟨y, hy0, _, rfl, hc5, hg5⟩
    obtain ⟨hy2, hy3⟩ := hy0 (by omega)
    obtain ⟨j, rfl⟩ := Int.eq_ofNat_of_zero_le hy2
    have EX := hide ((unhide EY).draw hc5 hg5)
    have hj : j ≤ 6 := by omega
    have hxj : x.sz + j ≤ 28 := by omega
    clear hc5 hg5 BL EY hy0 hy2 hy3
    go_wp2
    go_loopw [4] (fun i wr => ∃ (m : Nat) (e : Ex) (c : Option Addr) (cp : Nat), i = .int .i64 m ∧ e.sz + m ≤ 28 ∧ Ey w wr cb g a len cap xs e c cp) (fun i _ => (intOf i).toNat)
    case atStart => exact ⟨j, x, c, cp, rfl, hxj, unhide EX⟩
    case round =>
      clear EX hj hxj hsx
      obtain ⟨m, v, d, dp, rfl, hm, hy⟩ := hrel
      have EZ := hide hy
      obtain ⟨x0, x1, x2, x3⟩ := hy.cells
      clear hy
      by_cases h0 : 0 < m
      · have hp : (0 : Int) < (m : Int) := by omega
        have EB := hide ((unhide EZ).later (below_new wr (.cells #[.int .i64 v.k, .int .i64 v.n, .string v.s, .slice d v.l.length dp] 26))).box
        have EW := hide (unhide EZ).wrap
        unfold Ex.cs at EB
        have hlg := (unhide EZ).lt
        go_wp2_with (refine wpList_store_row rfl 26 _ _ rfl g #[.int .i64 4, .int .i64 0, .string ⟨#[]⟩, .slice (some ⟨wr.heap.size, 0, none⟩) 1 1] rfl rfl 26 _ (unhide EB) szE rfl (ex_one _ _ _ _ _ _) ?_)
        go_roundw
        case rel => exact ⟨m - 1, _, _, _, by go_num, by rw [sz_one]; omega, unhide EW⟩
        case measure => simp [intOf]; omega
      · obtain rfl : m = 0 := by omega
        have RR := hide ((unhide EZ).res)
        unfold E0x at RR
        have hlg := (unhide EZ).lt
        have HSZ := hide (show Ex.sz v ≤ 31 from by omega)
        go_wp2_with (refine wpList_store_row rfl 26 _ _ rfl w.heap.size #[.int .i64 v.k, .int .i64 v.n, .string v.s, .slice d v.l.length dp] rfl rfl 26 _ (unhide RR) szE rfl (ex_one _ _ _ _ _ _) ?_)
        refine bodyPost_ret (results_cell_row (P := Tryd.prog) rfl _ _ w.heap.size 26 #[.int .i64 v.k, .int .i64 v.n, .string v.s, .slice d v.l.length dp] (0, 0) _ rfl (setRow_heap _ _ _ _ _ _ (unhide RR)) Tryd.underlying26 rfl szE) rfl ?_
        exact ⟨v, d, dp, rfl, unhide HSZ, (unhide EZ).new _, ((unhide EZ).dz.row _).cur, ((unhide EZ).dz.row _).gr⟩
  · have h0 : ¬ i = 0 := by omega
    have h1 : ¬ i = 1 := by omega
    have h2 : ¬ i = 2 := by omega
    have h3 : ¬ i = 3 := by omega
    have EZ := hide (unhide EY)
    obtain ⟨x0, x1, x2, x3⟩ := (unhide EZ).cells
    clear EY
    have RR := hide ((unhide EZ).res)
    unfold E0x at RR
    have hlg := (unhide EZ).lt
    have HSZ := hide (show Ex.sz x ≤ 31 from by omega)
    go_wp2_with (refine wpList_store_row rfl 26 _ _ rfl w.heap.size #[.int .i64 x.k, .int .i64 x.n, .string x.s, .slice c x.l.length cp] rfl rfl 26 _ (unhide RR) szE rfl (ex_one _ _ _ _ _ _) ?_)
    refine bodyPost_ret (results_cell_row (P := Tryd.prog) rfl _ _ w.heap.size 26 #[.int .i64 x.k, .int .i64 x.n, .string x.s, .slice c x.l.length cp] (0, 0) _ rfl (setRow_heap _ _ _ _ _ _ (unhide RR)) Tryd.underlying26 rfl szE) rfl ?_
    exact ⟨x, c, cp, rfl, unhide HSZ, (unhide EZ).new _, ((unhide EZ).dz.row _).cur, ((unhide EZ).dz.row _).gr⟩
end Go.Proofs.YtkolflcjkofleaaDoor

namespace Go.Proofs.YtkolflcjkofleaaDoor
open Go.ChangeShapes Go.WideShapes Go.ChangeAt Go.RowKit
set_option linter.unusedVariables false
set_option maxRecDepth 8000

theorem made_cells (n : Nat) : (madeCells #[.int .i64 0, .int .i64 0, .string ⟨#[]⟩] (n * 3)).toList = cellsT (List.replicate n T0) := by
  apply List.ext_getElem?
  intro j
  have hl : (cellsT (List.replicate n T0)).length = n * 3 := by rw [cellsT_len, List.length_replicate]
  by_cases hj : j < n * 3
  · have hT : ∀ i, i < n → tAt (List.replicate n T0) i = T0 := fun i hi => by
      unfold tAt
      rw [List.getD_eq_getElem?_getD, List.getElem?_replicate, if_pos hi]
      rfl
    have hg := cellsT_get (List.replicate n T0) (j / 3) (by rw [List.length_replicate]; omega)
    rw [hT (j / 3) (by omega)] at hg
    have hm : (madeCells #[.int .i64 0, .int .i64 0, .string ⟨#[]⟩] (n * 3)).toList[j]? = some ((#[Value.int .i64 0, .int .i64 0, .string ⟨#[]⟩] : Array Value)[j % 3]!) := by
      simp [madeCells, hj]
    rw [hm]
    have h3 : j % 3 = 0 ∨ j % 3 = 1 ∨ j % 3 = 2 := by omega
    rcases h3 with h | h | h
    · have e : j = j / 3 * 3 := by omega
      rw [h]; conv => rhs; rw [e]
      rw [hg.1]; rfl
    · have e : j = j / 3 * 3 + 1 := by omega
      rw [h]; conv => rhs; rw [e]
      rw [hg.2.1]; rfl
    · have e : j = j / 3 * 3 + 2 := by omega
      rw [h]; conv => rhs; rw [e]
      rw [hg.2.2]; rfl
  · rw [List.getElem?_eq_none (by rw [Array.length_toList, size_madeCells]; omega), List.getElem?_eq_none (by omega)]
theorem fill_step (ts : List Tk) (k n : Nat) (hn : ts.length = n) (hk : k < n) : (ts.take k ++ List.replicate (n - k) T0).set k (tAt ts k) = ts.take (k + 1) ++ List.replicate (n - (k + 1)) T0 := by
  have e1 : (ts.take k).length = k := by rw [List.length_take]; omega
  have e2 : n - k = (n - (k + 1)) + 1 := by omega
  rw [List.set_append_right _ _ (by omega), e1, Nat.sub_self, e2, List.replicate_succ, List.set_cons_zero]
  rw [show ts.take (k + 1) = ts.take k ++ [ts[k]'(by omega)] from List.take_succ_eq_append_getElem (by omega)]
  unfold tAt
  rw [List.getD_eq_getElem?_getD, List.getElem?_eq_getElem (by omega), List.append_assoc]
  rfl
end Go.Proofs.YtkolflcjkofleaaDoor

namespace Go.Proofs.YtkolflcjkofleaaDoor
open Go.ChangeShapes Go.WideShapes Go.ChangeAt Go.RowKit
set_option linter.unusedVariables false
set_option maxRecDepth 8000

def d10 (x : Nat) : UInt8 := UInt8.ofNat (48 + x)
/-- The digits to the base 10, ahead of t, by so many steps. -/
def decG : Nat → Nat → List UInt8 → List UInt8
  | 0, _, t => t
  | n + 1, m, t => if m = 0 then t else decG n (m / 10) (d10 (m % 10) :: t)
theorem decG_more : ∀ (n k m : Nat) (t : List UInt8), m ≤ n → m ≤ k → decG n m t = decG k m t := by
  intro n
  induction n with
  | zero =>
    intro k m t hn hk
    obtain rfl : m = 0 := by omega
    cases k with
    | zero => rfl
    | succ k => rfl
  | succ n ih =>
    intro k m t hn hk
    by_cases h0 : m = 0
    · subst h0
      cases k with
      | zero => rfl
      | succ k => rfl
    · cases k with
      | zero => omega
      | succ k =>
        simp only [decG]
        rw [ih k (m / 10) _ (by omega) (by omega)]
/-- The digits to the base 10, ahead of t. -/
def decA (m : Nat) (t : List UInt8) : List UInt8 := decG m m t
theorem decA_0 (t : List UInt8) : decA 0 t = t := rfl
theorem decA_s {m : Nat} (h : m ≠ 0) (t : List UInt8) : decA m t = decA (m / 10) (d10 (m % 10) :: t) := by
  obtain ⟨n, rfl⟩ : ∃ n, m = n + 1 := ⟨m - 1, by omega⟩
  unfold decA
  rw [decG, if_neg h]
  exact decG_more _ _ _ _ (by omega) (Nat.le_refl _)
/-- The marks' text. -/
def mkTx (k : Nat) : ByteArray := ⟨#[109]⟩ ++ strOf (decA k [])
theorem one_conv10 (W : World) (d : Nat) (hd : d < 10) (x : Int) (hx : x = 48 + (d : Int)) (b : Nat) (hb : b = W.heap.size) : (convert 22 9 (.slice (some ⟨b, 0, none⟩) 1 1)).run Tryd.prog (W.alloc (.cells #[.int .u8 x] 5)) = .ok (.string (strOf [d10 d])) (W.alloc (.cells #[.int .u8 x] 5)) := by
  subst hb
  exact run_convert_bytes_back (P := Tryd.prog) (W.alloc (.cells #[.int .u8 x] 5)) 22 9 5 ⟨W.heap.size, 0, none⟩ 1 [d10 d] Tryd.underlying22 Tryd.underlying5 Tryd.underlying9 (fun j hj => by
    obtain rfl : j = 0 := by simp at hj; omega
    have e : ((d10 d).toNat : Int) = x := by unfold d10; simp; omega
    simp only [List.getElem_cons_zero, e]
    simp [Addr.add])
set_option maxHeartbeats 1000000 in
theorem markTx_any (k : Nat) (hk0 : 0 < k) (hk : k ≤ 16777216) (w : World) : Calls Tryd.prog 65 #[.int .i64 k] w fun e w' => e = .returned (.string (mkTx k)) ∧ Below w.heap.size w w' := by
  unfold mkTx
  obtain ⟨T, hT⟩ : ∃ T, decA k [] = T := ⟨_, rfl⟩
  have HT := hide hT
  rw [hT]
  clear hT
  go_enter Tryd.func65, Tryd.ntmps65
  go_wp2
  go_loopw [0, 3] (fun i s wr => ∃ (m : Nat) (t : List UInt8), m + t.length ≤ 16777216 ∧ i = .int .i64 m ∧ s = .string (strOf t) ∧ Hid (decA m t = T) ∧ Below w.heap.size w wr) (fun i _ _ => (intOf i).toNat)
  case atStart => exact ⟨k, [], by simp; omega, rfl, rfl, unhide HT, Below.refl _ _⟩
  case round =>
    clear HT
    obtain ⟨m, t, hm, rfl, rfl, hd, hb⟩ := hrel
    by_cases h0 : m = 0
    · subst h0
      have E := hide ((decA_0 t).symm.trans hd.out)
      have hsz : (strOf t).size ≤ 16777216 := by rw [strOf_size]; omega
      clear hd
      rw [unhide E] at hsz ⊢
      go_wp2
      go_ret
      exact ⟨rfl, hb⟩
    · have E := hide ((decA_s h0 t).symm.trans hd.out)
      have hc := one_conv10 wr (m % 10) (by omega) (48 + (m : Int) % 10) (by omega)
      have hsz : (strOf t).size ≤ 16777216 := by rw [strOf_size]; omega
      have hsz1 := strOf_size [d10 (m % 10)]
      have hp : (0 : Int) < (m : Int) := by omega
      have AP := hide (strOf_append [d10 (m % 10)] t)
      clear hd
      go_wp2
      go_roundw
      case rel => exact ⟨m / 10, d10 (m % 10) :: t, by rw [List.length_cons]; omega, by go_num, by rw [unhide AP]; rfl, unhide E, hb.alloc hb.size _⟩
      case measure => simp [intOf]; omega

def mT (i : Nat) : Tk := ⟨((1 + 3 * i : Nat) : Int), ((2 + 3 * i : Nat) : Int), mkTx (3 + 3 * i)⟩
/-- What the marks leave. -/
def marksT (n : Nat) : List Tk := (List.range n).map mT
theorem marksT_len (n : Nat) : (marksT n).length = n := by simp [marksT]
theorem marksT_at (n i : Nat) (h : i < n) : tAt (marksT n) i = mT i := by
  unfold tAt marksT
  rw [List.getD_eq_getElem?_getD, List.getElem?_map, List.getElem?_range h]
  rfl
theorem mark_stepT (ts : List Tk) (k : Nat) (h : k < ts.length) : (marksT k ++ ts.drop k).set k (mT k) = marksT (k + 1) ++ ts.drop (k + 1) := by
  have e1 : marksT (k + 1) = marksT k ++ [mT k] := by simp [marksT, List.range_succ]
  rw [List.set_append_right _ _ (by rw [marksT_len]; omega), marksT_len, Nat.sub_self, List.drop_eq_getElem_cons h, List.set_cons_zero, e1, List.append_assoc]
  rfl
end Go.Proofs.YtkolflcjkofleaaDoor

namespace Go.Proofs.YtkolflcjkofleaaDoor
open Go.ChangeShapes Go.WideShapes Go.ChangeAt Go.RowKit
set_option linter.unusedVariables false
set_option maxRecDepth 8000

/-- How many parts a term has, all within. -/
def Ex.ct : Ex → Nat
  | ⟨_, _, _, l⟩ => l.length + (l.map Ex.ct).sum
def ctX (l : List Ex) : Nat := l.length + (l.map Ex.ct).sum
theorem ct_is (e : Ex) : e.ct = ctX e.l := by obtain ⟨k, n, s, l⟩ := e; rw [Ex.ct]; rfl
theorem ctX_take (l : List Ex) (k : Nat) (h : k < l.length) : ctX (l.take (k + 1)) = ctX (l.take k) + 1 + (xAt l k).ct := by
  unfold ctX
  rw [List.take_succ_eq_append_getElem h, List.map_append, List.sum_append, List.length_append, xAt_get h]
  simp
  omega
theorem ctX_le (l : List Ex) (k : Nat) : ctX (l.take k) ≤ ctX l := by
  induction l generalizing k with
  | nil => simp [ctX]
  | cons a r ih =>
    cases k with
    | zero => simp [ctX]
    | succ k =>
      have := ih k
      unfold ctX at this ⊢
      simp only [List.take_succ_cons, List.map_cons, List.sum_cons, List.length_cons]
      omega
/-- Where the marks of a part begin. -/
def posX (l : List Ex) (k i : Nat) : Nat := k + 3 * ctX (l.take i)
theorem posX_0 (l : List Ex) (k : Nat) : posX l k 0 = k := by simp [posX, ctX]
theorem posX_s (l : List Ex) (k i : Nat) (h : i < l.length) : posX l k (i + 1) = posX l k i + 3 + 3 * (xAt l i).ct := by
  unfold posX
  rw [ctX_take l i h]
  omega
theorem posX_end (l : List Ex) (k : Nat) : posX l k l.length = k + 3 * ctX l := by unfold posX; rw [List.take_length]
theorem posX_le (l : List Ex) (k i : Nat) (h : i < l.length) : posX l k i + 3 + 3 * (xAt l i).ct ≤ k + 3 * ctX l := by
  rw [← posX_s l k i h]
  unfold posX
  have := ctX_le l (i + 1)
  omega
/-- A term whose parts are marked from k on. -/
def MkX : Ex → Nat → Ex → Prop
  | ⟨_, _, _, l⟩, k, e' => e'.l.length = l.length ∧ ∀ x ∈ l, ∀ i, l[i]? = some x → (xAt e'.l i).k = ((posX l k i : Nat) : Int) ∧ (xAt e'.l i).n = ((posX l k i + 1 : Nat) : Int) ∧ (xAt e'.l i).s = mkTx (posX l k i + 2) ∧ MkX x (posX l k i + 3) (xAt e'.l i)
def MkOne (l : List Ex) (k i : Nat) (y : Ex) : Prop := y.k = ((posX l k i : Nat) : Int) ∧ y.n = ((posX l k i + 1 : Nat) : Int) ∧ y.s = mkTx (posX l k i + 2) ∧ MkX (xAt l i) (posX l k i + 3) y
theorem MkX_eq (e : Ex) (k : Nat) (e' : Ex) : MkX e k e' ↔ (e'.l.length = e.l.length ∧ ∀ i, i < e.l.length → MkOne e.l k i (xAt e'.l i)) := by
  obtain ⟨ek, n, s, l⟩ := e
  rw [MkX]
  refine and_congr Iff.rfl ⟨fun h i hi => ?_, fun h x hx i hi => ?_⟩
  · exact h _ (xAt_mem hi) i (by rw [xAt_get hi]; exact List.getElem?_eq_getElem hi)
  · obtain ⟨hl, e⟩ := List.getElem?_eq_some_iff.1 hi
    have := h i hl
    unfold MkOne at this
    rw [xAt_get hl, e] at this
    exact this
theorem MkX.len {e : Ex} {k : Nat} {y : Ex} (h : MkX e k y) : y.l.length = e.l.length := ((MkX_eq e k y).1 h).1
theorem MkX.of {e : Ex} {k : Nat} {y z : Ex} (h : MkX e k y) (hl : z.l = y.l) : MkX e k z := by
  rw [MkX_eq] at h ⊢
  rw [hl]
  exact h
theorem xAt_set_eq {l : List Ex} {i : Nat} (h : i < l.length) (y : Ex) : xAt (l.set i y) i = y := by
  unfold xAt
  rw [List.getD_eq_getElem?_getD, List.getElem?_set_self h]
  rfl
theorem xAt_set_ne {l : List Ex} {i j : Nat} (h : i ≠ j) (y : Ex) : xAt (l.set i y) j = xAt l j := by
  unfold xAt
  rw [List.getD_eq_getElem?_getD, List.getD_eq_getElem?_getD, List.getElem?_set_ne h]
/-- Of lists whose members all differ no two share one. -/
theorem flat_apart : ∀ (Fs : List (List Nat)) (i j x : Nat), Fs.flatten.Nodup → i ≠ j → x ∈ Fs.getD i [] → x ∉ Fs.getD j [] := by
  intro Fs
  induction Fs with
  | nil => intro i j x _ _ h; simp at h
  | cons F r ih =>
    intro i j x hn hij hx hy
    rw [List.flatten_cons, List.nodup_append] at hn
    obtain ⟨h1, h2, h3⟩ := hn
    cases i with
    | zero =>
      cases j with
      | zero => exact hij rfl
      | succ j => exact h3 x (by simpa using hx) x (getD_flat (i := j) (by simpa using hy)) rfl
    | succ i =>
      cases j with
      | zero => exact h3 x (by simpa using hy) x (getD_flat (i := i) (by simpa using hx)) rfl
      | succ j => exact ih i j x h2 (by omega) (by simpa using hx) (by simpa using hy)
theorem flat_part : ∀ (Fs : List (List Nat)) (i : Nat), Fs.flatten.Nodup → (Fs.getD i []).Nodup := by
  intro Fs
  induction Fs with
  | nil => intro i _; simp
  | cons F r ih =>
    intro i hn
    rw [List.flatten_cons, List.nodup_append] at hn
    cases i with
    | zero => simpa using hn.1
    | succ i => simpa using ih i hn.2.1
/-- A row with one part turned, its parts within turned in their own blocks. -/
theorem OwOne.turn {wr w5 : World} {ys : List Ex} {b : Nat} {cs cs5 : Array Value} {Fs : List (List Nat)} {i : Nat} {y : Ex} {c : Option Addr} {cp : Nat}
    (hr : ∀ j, j < ys.length → OwOne wr cs j (xAt ys j) (Fs.getD j [])) (hn : (b :: Fs.flatten).Nodup) (hi : i < ys.length)
    (hs : ∀ j, j ≠ i * 4 → j ≠ i * 4 + 1 → j ≠ i * 4 + 2 → cs5[j]? = cs[j]?)
    (d0 : cs5[i * 4]? = some (.int .i64 y.k)) (d1 : cs5[i * 4 + 1]? = some (.int .i64 y.n)) (d2 : cs5[i * 4 + 2]? = some (.string y.s)) (d3 : cs5[i * 4 + 3]? = some (.slice c y.l.length cp)) (hx : OwX w5 y c (Fs.getD i []))
    (hk : ∀ g, g ∈ Fs.flatten → g ∉ Fs.getD i [] → w5.heap[g]? = wr.heap[g]?) : ∀ j, j < ys.length → OwOne w5 cs5 j (xAt (ys.set i y) j) (Fs.getD j []) := by
  rw [List.nodup_cons] at hn
  intro j hj
  by_cases hij : i = j
  · subst hij
    rw [xAt_set_eq hi]
    exact ⟨d0, d1, d2, c, cp, d3, hx⟩
  · rw [xAt_set_ne hij]
    obtain ⟨p0, p1, p2, c', cap', p3, p4⟩ := hr j hj
    exact ⟨(hs _ (by omega) (by omega) (by omega)).trans p0, (hs _ (by omega) (by omega) (by omega)).trans p1, (hs _ (by omega) (by omega) (by omega)).trans p2, c', cap', (hs _ (by omega) (by omega) (by omega)).trans p3, OwX.keep _ _ _ (fun g hg => hk g (getD_flat hg) (flat_apart _ _ _ _ hn.2 (Ne.symm hij) hg)) p4⟩
end Go.Proofs.YtkolflcjkofleaaDoor
