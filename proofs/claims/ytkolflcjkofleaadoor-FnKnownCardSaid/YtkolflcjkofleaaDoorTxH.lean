/- Contracts over this seat's translation, laid together; conditions stand as hypotheses of each. -/
import Derived.Test.YtkolflcjkofleaaDoorTxD
import Derived.Test.YtkolflcjkofleaaDoorTxG

namespace Go.Proofs.YtkolflcjkofleaaDoor
open Go.ChangeShapes Go.WideShapes Go.ChangeAt Go.RowKit
set_option linter.unusedVariables false
set_option maxRecDepth 8000

def MarkP (e : Ex) : Prop := ∀ (a : Option Addr) (cap k : Nat) (F : List Nat) (B : Nat) (w : World), OwX w e a F → F.Nodup → (∀ b ∈ F, B ≤ b) → B ≤ w.heap.size → 0 < k → k + 3 * e.ct ≤ 8000000 → Calls Tryd.prog 38 #[.slice a e.l.length cap, .int .i64 k] w fun r w' => ∃ e' : Ex, r = .returned (.int .i64 ((k + 3 * e.ct : Nat) : Int)) ∧ MkX e k e' ∧ OwX w' e' a F ∧ Below B w w' ∧ ∀ g, g < w.heap.size → g ∉ F → w'.heap[g]? = w.heap[g]?
/-- So many parts are marked. -/
structure Mkg (w wr : World) (l : List Ex) (K b : Nat) (Fs : List (List Nat)) (B i : Nat) (ys : List Ex) (cs : Array Value) (t : TypeId) : Prop where
  hyl : ys.length = l.length
  row : wr.heap[b]? = some (.cells cs t (0, 0))
  hz : l.length * 4 ≤ cs.size
  one : ∀ j, j < l.length → OwOne wr cs j (xAt ys j) (Fs.getD j [])
  done : ∀ j, j < i → MkOne l K j (xAt ys j)
  rest : ∀ j, i ≤ j → xAt ys j = xAt l j
  bel : Below B w wr
  fr : ∀ g, g < w.heap.size → g ∉ b :: Fs.flatten → wr.heap[g]? = w.heap[g]?
theorem OwX.of {w : World} {x z : Ex} {c : Option Addr} {F : List Nat} (h : OwX w x c F) (hl : z.l = x.l) : OwX w z c F := by
  rw [OwX_eq] at h ⊢
  rw [hl]
  exact h
theorem Mkg.step {w wr w3 w5 : World} {l ys : List Ex} {K b : Nat} {Fs : List (List Nat)} {B i : Nat} {cs : Array Value} {t : TypeId} {c : Option Addr} {cp : Nat} {x' : Ex}
    (h : Mkg w wr l K b Fs B i ys cs t) (hi : i < l.length) (hF : Fs.length = l.length) (hn : (b :: Fs.flatten).Nodup) (hB : ∀ g ∈ b :: Fs.flatten, B ≤ g)
    (q3 : cs[i * 4 + 3]? = some (.slice c (xAt l i).l.length cp))
    (hb3 : Below ((wr.setCell ⟨b, i * 4, none⟩ (.int .i64 ((posX l K i : Nat) : Int))).setCell ⟨b, i * 4 + 1, none⟩ (.int .i64 ((posX l K i + 1 : Nat) : Int))).heap.size ((wr.setCell ⟨b, i * 4, none⟩ (.int .i64 ((posX l K i : Nat) : Int))).setCell ⟨b, i * 4 + 1, none⟩ (.int .i64 ((posX l K i + 1 : Nat) : Int))) w3)
    (hmk : MkX (xAt l i) (posX l K i + 3) x') (hox : OwX w5 x' c (Fs.getD i []))
    (hb5 : Below B (w3.setCell ⟨b, i * 4 + 2, none⟩ (.string (mkTx (posX l K i + 2)))) w5)
    (hf5 : ∀ g, g < (w3.setCell ⟨b, i * 4 + 2, none⟩ (.string (mkTx (posX l K i + 2)))).heap.size → g ∉ Fs.getD i [] → w5.heap[g]? = (w3.setCell ⟨b, i * 4 + 2, none⟩ (.string (mkTx (posX l K i + 2)))).heap[g]?) :
    ∃ ys' cs', Mkg w w5 l K b Fs B (i + 1) ys' cs' t := by
  have hn' := List.nodup_cons.1 hn
  have hbl : b < wr.heap.size := (Array.getElem?_eq_some_iff.1 h.row).1
  have r1 := heap_setCell_same wr b (i * 4) cs t (.int .i64 ((posX l K i : Nat) : Int)) h.row
  have r2 := heap_setCell_same _ b (i * 4 + 1) _ t (.int .i64 ((posX l K i + 1 : Nat) : Int)) r1
  have hsz2 : ((wr.setCell ⟨b, i * 4, none⟩ (.int .i64 ((posX l K i : Nat) : Int))).setCell ⟨b, i * 4 + 1, none⟩ (.int .i64 ((posX l K i + 1 : Nat) : Int))).heap.size = wr.heap.size := by simp
  have hoth2 : ∀ g, g ≠ b → ((wr.setCell ⟨b, i * 4, none⟩ (.int .i64 ((posX l K i : Nat) : Int))).setCell ⟨b, i * 4 + 1, none⟩ (.int .i64 ((posX l K i + 1 : Nat) : Int))).heap[g]? = wr.heap[g]? := fun g hg => by
    rw [heap_setCell_other _ _ _ _ hg, heap_setCell_other _ _ _ _ hg]
  have hbel2 : Below B wr ((wr.setCell ⟨b, i * 4, none⟩ (.int .i64 ((posX l K i : Nat) : Int))).setCell ⟨b, i * 4 + 1, none⟩ (.int .i64 ((posX l K i + 1 : Nat) : Int))) := ((Below.refl B wr).setCell (p := ⟨b, _, none⟩) (hB b List.mem_cons_self) _).setCell (p := ⟨b, _, none⟩) (hB b List.mem_cons_self) _
  generalize (wr.setCell ⟨b, i * 4, none⟩ (.int .i64 ((posX l K i : Nat) : Int))).setCell ⟨b, i * 4 + 1, none⟩ (.int .i64 ((posX l K i + 1 : Nat) : Int)) = W2 at *
  rw [hsz2] at hb3
  have r3 := (hb3.block b hbl).trans r2
  have r4 := heap_setCell_same w3 b (i * 4 + 2) _ t (.string (mkTx (posX l K i + 2))) r3
  have hsz3 : wr.heap.size ≤ w3.heap.size := hsz2 ▸ hb3.size
  have hsz4 : (w3.setCell ⟨b, i * 4 + 2, none⟩ (.string (mkTx (posX l K i + 2)))).heap.size = w3.heap.size := by simp
  have hoth4 : ∀ g, g < wr.heap.size → g ≠ b → (w3.setCell ⟨b, i * 4 + 2, none⟩ (.string (mkTx (posX l K i + 2)))).heap[g]? = wr.heap[g]? := fun g hgl hg => by
    rw [heap_setCell_other _ _ _ _ hg, hb3.block g hgl, hoth2 g hg]
  have hbB : B ≤ b := hB b List.mem_cons_self
  have hbel4 : Below B wr (w3.setCell ⟨b, i * 4 + 2, none⟩ (.string (mkTx (posX l K i + 2)))) := (hbel2.trans (hb3.mono (by omega))).setCell (p := ⟨b, _, none⟩) hbB _
  rw [hsz4] at hf5
  have hbi : b ∉ Fs.getD i [] := fun hb => hn'.1 (getD_flat hb)
  have r5 := (hf5 b (by omega) hbi).trans r4
  have hlt : ∀ g ∈ Fs.flatten, g < wr.heap.size := fun g hg => by
    obtain ⟨G, hG, hx⟩ := List.mem_flatten.1 hg
    obtain ⟨j, hj, rfl⟩ := List.getElem_of_mem hG
    obtain ⟨_, _, _, c', cp', _, ho⟩ := h.one j (hF ▸ hj)
    rw [List.getD_eq_getElem?_getD, List.getElem?_eq_getElem hj] at ho
    exact OwX.lt _ _ _ ho _ hx
  have hk5 : ∀ g, g < wr.heap.size → g ≠ b → g ∉ Fs.getD i [] → w5.heap[g]? = wr.heap[g]? := fun g hgl hg hgi => (hf5 g (by omega) hgi).trans (hoth4 g hgl hg)
  have hz := h.hz
  have T := OwOne.turn (wr := wr) (w5 := w5) (ys := ys) (b := b) (cs := cs) (cs5 := ((cs.setIfInBounds (i * 4) (.int .i64 ((posX l K i : Nat) : Int))).setIfInBounds (i * 4 + 1) (.int .i64 ((posX l K i + 1 : Nat) : Int))).setIfInBounds (i * 4 + 2) (.string (mkTx (posX l K i + 2)))) (Fs := Fs) (i := i) (y := ⟨((posX l K i : Nat) : Int), ((posX l K i + 1 : Nat) : Int), mkTx (posX l K i + 2), x'.l⟩) (c := c) (cp := cp)
    (fun j hj => h.one j (h.hyl ▸ hj)) hn (by rw [h.hyl]; exact hi)
    (fun j h0 h1 h2 => by rw [Array.getElem?_setIfInBounds_ne (by omega), Array.getElem?_setIfInBounds_ne (by omega), Array.getElem?_setIfInBounds_ne (by omega)])
    (by rw [Array.getElem?_setIfInBounds_ne (by omega), Array.getElem?_setIfInBounds_ne (by omega), Array.getElem?_setIfInBounds_self_of_lt (by omega)])
    (by rw [Array.getElem?_setIfInBounds_ne (by omega), Array.getElem?_setIfInBounds_self_of_lt (by simp; omega)])
    (by rw [Array.getElem?_setIfInBounds_self_of_lt (by simp; omega)])
    (by rw [Array.getElem?_setIfInBounds_ne (by omega), Array.getElem?_setIfInBounds_ne (by omega), Array.getElem?_setIfInBounds_ne (by omega), show (Ex.mk ((posX l K i : Nat) : Int) ((posX l K i + 1 : Nat) : Int) (mkTx (posX l K i + 2)) x'.l).l.length = x'.l.length from rfl, hmk.len]; exact q3)
    (hox.of rfl) (fun g hg hgi => hk5 g (hlt g hg) (fun e => hn'.1 (e ▸ hg)) hgi)
  rw [h.hyl] at T
  refine ⟨ys.set i ⟨((posX l K i : Nat) : Int), ((posX l K i + 1 : Nat) : Int), mkTx (posX l K i + 2), x'.l⟩, _, ?_, r5, ?_, T, fun j hj => ?_, fun j hj => ?_, h.bel.trans (hbel4.trans hb5), fun g hgl hg => ?_⟩
  · rw [List.length_set]; exact h.hyl
  · simpa using hz
  · by_cases hij : i = j
    · subst hij
      rw [xAt_set_eq (by rw [h.hyl]; exact hi)]
      exact ⟨rfl, rfl, rfl, hmk.of rfl⟩
    · rw [xAt_set_ne hij]
      exact h.done j (by omega)
  · rw [xAt_set_ne (by omega)]
    exact h.rest j (by omega)
  · have h1 : g ≠ b := fun e => hg (e ▸ List.mem_cons_self)
    have h2 : g ∉ Fs.getD i [] := fun e => hg (List.mem_cons_of_mem _ (getD_flat e))
    exact (hk5 g (Nat.lt_of_lt_of_le hgl h.bel.size) h1 h2).trans (h.fr g hgl hg)
set_option maxHeartbeats 2000000 in
theorem markXS_of (e : Ex) (ih : ∀ i, i < e.l.length → MarkP (xAt e.l i)) : MarkP e := by
  intro a cap K F B w ho hnd hF hBw hK hbd
  have hct := ct_is e
  rw [OwX_eq] at ho
  generalize hl : e.l = l at *
  rw [hct] at hbd ⊢
  have FIN := hide (fun (y : Ex) => MkX_eq e K y)
  rw [hl] at FIN
  rcases ho with ⟨rfl, rfl⟩ | ⟨b, cs, t, Fs, rfl, hh, hz, hFl, rfl, hone⟩
  · have HE := hide (show MkX e K e from (unhide FIN e).2 ⟨by rw [hl], fun i hi => by cases hi⟩)
    have HO := hide (show OwX w e a [] from (OwX_eq _ _ _ _).2 (.inl ⟨hl, rfl⟩))
    clear ih hct hl FIN
    go_enter Tryd.func38, Tryd.ntmps38
    go_wp2
    go_loopw [1, 5] (fun kv i wr => i = .int .i64 0 ∧ kv = .int .i64 K ∧ wr = w) (fun _ i _ => 0)
    case atStart => exact ⟨rfl, rfl, rfl⟩
    case round =>
      obtain ⟨rfl, rfl, rfl⟩ := hrel
      go_wp2
      go_ret
      exact ⟨e, by simp [ctX], unhide HE, unhide HO, Below.refl _ _, fun g _ _ => rfl⟩
  · have M0 := hide (show Mkg w w l K b Fs B 0 l cs t from ⟨rfl, hh, hz, hone, fun j hj => by omega, fun j _ => rfl, Below.refl _ _, fun g _ _ => rfl⟩)
    have FN := hide (fun (wr : World) (ys : List Ex) (cs' : Array Value) (t' : TypeId) (h : Mkg w wr l K b Fs B l.length ys cs' t') => (show MkX e K ⟨0, 0, ⟨#[]⟩, ys⟩ ∧ OwX wr ⟨0, 0, ⟨#[]⟩, ys⟩ (some ⟨b, 0, none⟩) (b :: Fs.flatten) from
      ⟨(unhide FIN _).2 ⟨h.hyl, fun i hi => h.done i hi⟩, (OwX_eq _ _ _ _).2 (.inr ⟨b, cs', t', Fs, rfl, h.row, by show ys.length * 4 ≤ _; rw [h.hyl]; exact h.hz, by show Fs.length = ys.length; rw [h.hyl]; exact hFl, rfl, fun i hi => h.one i (by have : i < ys.length := hi; rwa [h.hyl] at this)⟩)⟩))
    have hcl : l.length ≤ ctX l := by unfold ctX; omega
    obtain ⟨n, hn⟩ : ∃ n, l.length = n := ⟨_, rfl⟩
    have hnl : n ≤ 8000000 := by omega
    have PE := hide (posX_end l K)
    have P0 := hide (posX_0 l K)
    clear hone hh hz FIN hct hl hcl
    rw [hn] at ih PE FN ⊢
    rw [← unhide PE]
    go_enter Tryd.func38, Tryd.ntmps38
    go_wp2
    go_loopw [1, 5] (fun kv i wr => ∃ k : Nat, k ≤ n ∧ i = .int .i64 k ∧ kv = .int .i64 ((posX l K k : Nat) : Int) ∧ ∃ ys cs t, Mkg w wr l K b Fs B k ys cs t) (fun _ i _ => n - (intOf i).toNat)
    case atStart => exact ⟨0, Nat.zero_le _, rfl, by rw [unhide P0], _, _, _, unhide M0⟩
    case round =>
      clear M0
      obtain ⟨k, hk, rfl, rfl, ys, cs, t, hM⟩ := hrel
      by_cases hlt : k < n
      · obtain ⟨q0, q1, q2, c, cp, q3, q4⟩ := hM.one k (by omega)
        rw [hM.rest k (Nat.le_refl _)] at q0 q1 q2 q3 q4
        have hh := hM.row
        have hz := hM.hz
        have c0 := (Lib.cell_of_heap hh (k * 4)).trans q0
        have c1 := (Lib.cell_of_heap hh (k * 4 + 1)).trans q1
        have f0 := Lib.frozen_of_heap hh (k * 4)
        have f1 := Lib.frozen_of_heap hh (k * 4 + 1)
        have hbl : b < wr.heap.size := (Array.getElem?_eq_some_iff.1 hh).1
        have hPl := posX_le l K k (by omega)
        have hPs := posX_s l K k (by omega)
        have r1 := heap_setCell_same wr b (k * 4) cs t (.int .i64 ((posX l K k : Nat) : Int)) hh
        have r2 := heap_setCell_same _ b (k * 4 + 1) _ t (.int .i64 ((posX l K k + 1 : Nat) : Int)) r1
        have C2 := hide (show ((wr.setCell ⟨b, k * 4, none⟩ (.int .i64 ((posX l K k : Nat) : Int))).setCell ⟨b, k * 4 + 1, none⟩ (.int .i64 ((posX l K k + 1 : Nat) : Int))).cell? ⟨b, k * 4 + 2, none⟩ = some (.string (xAt l k).s) by
          rw [Lib.cell_of_heap r2, Array.getElem?_setIfInBounds_ne (by omega), Array.getElem?_setIfInBounds_ne (by omega)]; exact q2)
        have C3 := hide (show ((wr.setCell ⟨b, k * 4, none⟩ (.int .i64 ((posX l K k : Nat) : Int))).setCell ⟨b, k * 4 + 1, none⟩ (.int .i64 ((posX l K k + 1 : Nat) : Int))).cell? ⟨b, k * 4 + 3, none⟩ = some (.slice c (xAt l k).l.length cp) by
          rw [Lib.cell_of_heap r2, Array.getElem?_setIfInBounds_ne (by omega), Array.getElem?_setIfInBounds_ne (by omega)]; exact q3)
        have F2 := hide (Lib.frozen_of_heap r2 (k * 4 + 2))
        have GL := hide (show b < ((wr.setCell ⟨b, k * 4, none⟩ (.int .i64 ((posX l K k : Nat) : Int))).setCell ⟨b, k * 4 + 1, none⟩ (.int .i64 ((posX l K k + 1 : Nat) : Int))).heap.size by simpa using hbl)
        have ST := hide (fun w3 w5 x' hb3 hmk hox hb5 hf5 => Mkg.step (w3 := w3) (w5 := w5) (x' := x') hM (by omega) hFl hnd hF q3 hb3 hmk hox hb5 hf5)
        have MX := hide (fun W => markTx_any (posX l K k + 2) (by omega) (by omega) W)
        have hn' := List.nodup_cons.1 hnd
        have OC := hide (fun w3 (hb3 : Below ((wr.setCell ⟨b, k * 4, none⟩ (.int .i64 ((posX l K k : Nat) : Int))).setCell ⟨b, k * 4 + 1, none⟩ (.int .i64 ((posX l K k + 1 : Nat) : Int))).heap.size ((wr.setCell ⟨b, k * 4, none⟩ (.int .i64 ((posX l K k : Nat) : Int))).setCell ⟨b, k * 4 + 1, none⟩ (.int .i64 ((posX l K k + 1 : Nat) : Int))) w3) (v : Value) =>
          ih k hlt c cp (posX l K k + 3) (Fs.getD k []) B (w3.setCell ⟨b, k * 4 + 2, none⟩ v)
            (OwX.keep _ _ _ (fun g hg => by
              have hne : g ≠ b := fun e => hn'.1 (e ▸ getD_flat hg)
              have hgl := OwX.lt _ _ _ q4 g hg
              rw [heap_setCell_other _ _ _ _ hne, hb3.block g (by simpa using hgl), heap_setCell_other _ _ _ _ hne, heap_setCell_other _ _ _ _ hne]) q4)
            (flat_part _ _ hn'.2) (fun g hg => hF g (List.mem_cons_of_mem _ (getD_flat hg))) (by have h1 := hb3.size; have h2 := hM.bel.size; simp at h1 ⊢; omega) (by omega) (by omega))
        have EN : ((posX l K k : Nat) : Int) + 1 = ((posX l K k + 1 : Nat) : Int) := by omega
        have EM : ((posX l K k + 1 : Nat) : Int) + 1 = ((posX l K k + 2 : Nat) : Int) := by omega
        have EP : ((posX l K k + 2 : Nat) : Int) + 1 = ((posX l K k + 3 : Nat) : Int) := by omega
        have EQ := hide (show ((posX l K k + 3 + 3 * (xAt l k).ct : Nat) : Int) = ((posX l K (k + 1) : Nat) : Int) by rw [hPs])
        have bA : 0 ≤ ((posX l K k : Nat) : Int) ∧ ((posX l K k : Nat) : Int) ≤ 8000000 := by omega
        have bA2 : 0 ≤ ((posX l K k + 1 : Nat) : Int) ∧ ((posX l K k + 1 : Nat) : Int) ≤ 8000001 := by omega
        have bA3 : 0 ≤ ((posX l K k + 2 : Nat) : Int) ∧ ((posX l K k + 2 : Nat) : Int) ≤ 8000002 := by omega
        clear r1 r2 q0 q1 q2 q3 q4 hM hh hz hPl hPs hn' ih FN
        generalize (xAt l k).ct = ctk at *
        generalize hA : ((posX l K k : Nat) : Int) = A at *
        generalize hB2 : ((posX l K k + 1 : Nat) : Int) = A2 at *
        generalize hC : ((posX l K k + 2 : Nat) : Int) = A3 at *
        generalize hD : ((posX l K k + 3 : Nat) : Int) = A4 at *
        generalize mkTx (posX l K k + 2) = X at *
        generalize (xAt l k).s = xs at *
        go_wp2_with fail
        generalize (wr.setCell ⟨b, k * 4, none⟩ (.int .i64 A)).setCell ⟨b, k * 4 + 1, none⟩ (.int .i64 A2) = W2 at *
        refine (unhide MX _).mono ?_
        rintro e w3 ⟨rfl, hb3⟩
        have d2 := (hb3.cell (p := ⟨b, k * 4 + 2, none⟩) (unhide GL)).trans (unhide C2)
        have d3 := (hb3.cell (p := ⟨b, k * 4 + 3, none⟩) (unhide GL)).trans (unhide C3)
        have e2 := (hb3.frozen (p := ⟨b, k * 4 + 2, none⟩) (unhide GL)).trans (unhide F2)
        have OD := hide (unhide OC w3 hb3 (.string X))
        have HB3 := hide hb3
        clear OC C2 C3 F2 GL MX c0 c1 f0 f1 hb3
        go_wp2_with fail
        refine (unhide OD).mono ?_
        rintro e w5 ⟨x', rfl, hmk, hox, hb5, hf5⟩
        have SS := hide (unhide ST w3 w5 x' (unhide HB3) hmk hox hb5 hf5)
        clear hmk hox hb5 hf5 OD ST d2 d3 e2
        go_wp2
        go_roundw
        case rel =>
          obtain ⟨ys', cs', hM'⟩ := unhide SS
          exact ⟨k + 1, by omega, by go_num, by rw [← unhide EQ]; congr 1; omega, ys', cs', _, hM'⟩
        case measure => simp [intOf]; omega
      · obtain rfl : k = n := by omega
        have HM := hide hM
        have FF := hide (unhide FN _ _ _ _ hM)
        clear hM
        go_wp2
        go_ret
        exact ⟨_, rfl, (unhide FF).1, (unhide FF).2, (unhide HM).bel, (unhide HM).fr⟩
theorem markXS_any (e : Ex) : MarkP e := by
  induction e using Ex.ind with
  | h k n s l ih => exact markXS_of _ (fun i hi => ih _ (xAt_mem hi))
end Go.Proofs.YtkolflcjkofleaaDoor

namespace Go.Proofs.YtkolflcjkofleaaDoor
open Go.ChangeShapes Go.WideShapes Go.ChangeAt Go.RowKit
set_option linter.unusedVariables false
set_option maxRecDepth 8000

def HeldP (e : Ex) : Prop := ∀ (a : Option Addr) (cap K : Nat) (y : Ex) (w : World), MkX e K y → RdX w 0 y a → 0 < K → K + 3 * e.ct ≤ 8000000 → Calls Tryd.prog 64 #[.slice a e.l.length cap, .int .i64 K] w fun r w' => r = .returned (.int .i64 ((K + 3 * e.ct : Nat) : Int)) ∧ Below w.heap.size w w'
set_option maxHeartbeats 2000000 in
theorem heldXS_of (e : Ex) (ih : ∀ i, i < e.l.length → HeldP (xAt e.l i)) : HeldP e := by
  intro a cap K y w hy hr hK hbd
  have hct := ct_is e
  rw [MkX_eq] at hy
  rw [RdX_eq] at hr
  generalize e.l = l at *
  rw [hct] at hbd ⊢
  obtain ⟨hyl, hy⟩ := hy
  generalize y.l = ys at *
  have hcl : l.length ≤ ctX l := by unfold ctX; omega
  obtain ⟨n, hn⟩ : ∃ n, l.length = n := ⟨_, rfl⟩
  have hnl : n ≤ 8000000 := by omega
  have PE := hide (posX_end l K)
  have P0 := hide (posX_0 l K)
  clear hct hcl
  rw [hn] at ih PE hy hyl ⊢
  rw [← unhide PE]
  go_enter Tryd.func64, Tryd.ntmps64
  go_wp2
  go_loopw [1, 5] (fun kv i wr => ∃ (k : Nat) (x : Sub w.heap.size w), k ≤ n ∧ i = .int .i64 k ∧ kv = .int .i64 ((posX l K k : Nat) : Int) ∧ wr = x.w) (fun _ i _ => n - (intOf i).toNat)
  case atStart => exact ⟨0, ⟨w, Below.refl _ _⟩, Nat.zero_le _, rfl, by rw [unhide P0], rfl⟩
  case round =>
    obtain ⟨k, x, hk, rfl, rfl, rfl⟩ := hrel
    by_cases hlt : k < n
    · rcases hr with h0 | ⟨p, po, rfl, _, hp, hpc⟩
      · rw [h0] at hyl; simp at hyl; omega
      obtain ⟨e0, e1, e2, c, cp, e3, e4⟩ := hpc k (by omega)
      obtain ⟨m0, m1, m2, m3⟩ := hy k hlt
      rw [m0] at e0
      rw [m1] at e1
      rw [m2] at e2
      rw [m3.len] at e3
      have d0 : ∀ z : Sub w.heap.size w, z.w.cell? ⟨p, po + k * 4, none⟩ = _ := fun z => (z.h.cell (p := ⟨p, _, none⟩) hp).trans e0
      have d1 : ∀ z : Sub w.heap.size w, z.w.cell? ⟨p, po + k * 4 + 1, none⟩ = _ := fun z => (z.h.cell (p := ⟨p, _, none⟩) hp).trans e1
      have d2 : ∀ z : Sub w.heap.size w, z.w.cell? ⟨p, po + k * 4 + 2, none⟩ = _ := fun z => (z.h.cell (p := ⟨p, _, none⟩) hp).trans e2
      have d3 : ∀ z : Sub w.heap.size w, z.w.cell? ⟨p, po + k * 4 + 3, none⟩ = _ := fun z => (z.h.cell (p := ⟨p, _, none⟩) hp).trans e3
      have hPl := posX_le l K k (by omega)
      have hPs := posX_s l K k (by omega)
      have MX := hide (fun W => markTx_any (posX l K k + 2) (by omega) (by omega) W)
      have HC := hide (fun z : Sub w.heap.size w => ih k hlt c cp (posX l K k + 3) (xAt ys k) z.w m3 (e4.later z.h) (by omega) (by omega))
      have ne := Sub.ne w.heap.size w
      have HZ := hide (Nat.le_refl w.heap.size)
      have EN : ((posX l K k : Nat) : Int) + 1 = ((posX l K k + 1 : Nat) : Int) := by omega
      have EM : ((posX l K k + 1 : Nat) : Int) + 1 = ((posX l K k + 2 : Nat) : Int) := by omega
      have EP : ((posX l K k + 2 : Nat) : Int) + 1 = ((posX l K k + 3 : Nat) : Int) := by omega
      have EQ := hide (show ((posX l K k + 3 + 3 * (xAt l k).ct : Nat) : Int) = ((posX l K (k + 1) : Nat) : Int) by rw [hPs])
      have bA : 0 ≤ ((posX l K k : Nat) : Int) ∧ ((posX l K k : Nat) : Int) ≤ 8000000 := by omega
      have bA2 : 0 ≤ ((posX l K k + 1 : Nat) : Int) ∧ ((posX l K k + 1 : Nat) : Int) ≤ 8000001 := by omega
      have bA3 : 0 ≤ ((posX l K k + 2 : Nat) : Int) ∧ ((posX l K k + 2 : Nat) : Int) ≤ 8000002 := by omega
      have bA5 : 0 ≤ ((posX l K k + 3 + 3 * (xAt l k).ct : Nat) : Int) := by omega
      clear e0 e1 e2 e3 e4 m0 m1 m2 m3 hpc hy hPl hPs ih
      generalize (xAt l k).l.length = ll at *
      generalize hE : ((posX l K k + 3 + 3 * (xAt l k).ct : Nat) : Int) = A5 at *
      generalize hA : ((posX l K k : Nat) : Int) = A at *
      generalize hB2 : ((posX l K k + 1 : Nat) : Int) = A2 at *
      generalize hC : ((posX l K k + 2 : Nat) : Int) = A3 at *
      generalize hD : ((posX l K k + 3 : Nat) : Int) = A4 at *
      generalize mkTx (posX l K k + 2) = X at *
      go_wp2_with fail
      refine wp_region_sub x (by kernel_rfl) (by kernel_rfl) ?_
      repeat (go_big_quiet_step (first | (go_at_call 65; exact Sub.call (unhide HZ) (unhide MX _))))
      refine wpQuiet_nil ?_
      intro z
      go_wp2_with fail
      refine (Sub.call (unhide HZ) (unhide HC _)).mono ?_
      rintro e _ ⟨rfl, z2, rfl⟩
      go_wp2
      go_roundw
      case rel => exact ⟨k + 1, z2, by omega, by go_num, congrArg (Value.int .i64) (unhide EQ), rfl⟩
      case measure => simp [intOf]; omega
    · obtain rfl : k = n := by omega
      go_wp2
      go_ret
      exact ⟨rfl, x.h⟩
theorem heldXS_any (e : Ex) : HeldP e := by
  induction e using Ex.ind with
  | h k n s l ih => exact heldXS_of _ (fun i hi => ih _ (xAt_mem hi))
set_option maxHeartbeats 1000000 in
theorem markX_any (e : Ex) (a : Option Addr) (cap k B : Nat) (w : World) (ho : NewX w B e a) (hB : B ≤ w.heap.size) (hk : 0 < k) (hb : k + 3 * e.ct ≤ 8000000) : Calls Tryd.prog 29 #[.agg (e.cs a cap), .int .i64 k] w fun r w' => ∃ y : Ex, r = .returned (.int .i64 ((k + 3 * e.ct : Nat) : Int)) ∧ MkX e k y ∧ NewX w' B y a ∧ Below B w w' := by
  obtain ⟨F, o1, o2, o3⟩ := ho
  have hbW : Below w.heap.size w (w.alloc (.cells (e.cs a cap) 26)) := (Below.refl _ _).alloc (Nat.le_refl _) _
  have MS := (markXS_any e a cap k F B (w.alloc (.cells (e.cs a cap) 26)) (o1.later hbW) o2 o3 (Nat.le_trans hB hbW.size) hk hb).mono (R' := fun r w' => ∃ y : Ex, r = .returned (.int .i64 ((k + 3 * e.ct : Nat) : Int)) ∧ MkX e k y ∧ NewX w' B y a ∧ Below B w w') (by
    rintro r w' ⟨y, rfl, h1, h2, h3, _⟩
    exact ⟨y, rfl, h1, ⟨F, h2, o2, o3⟩, (hbW.mono hB).trans h3⟩)
  have M := hide MS
  unfold Ex.cs at M ⊢
  clear o1 o2 o3 hbW MS
  generalize hc : ((k + 3 * e.ct : Nat) : Int) = C at *
  generalize e.l.length = ll at *
  go_enter Tryd.func29, Tryd.ntmps29
  go_wp2_with (go_at_call 38; refine (unhide M).mono ?_; rintro e w1 ⟨y, rfl, h1, h2, h3⟩)
  go_ret
  exact ⟨y, rfl, h1, h2, h3⟩
set_option maxHeartbeats 1000000 in
theorem heldX_any (e : Ex) (a : Option Addr) (cap k : Nat) (y : Ex) (w : World) (hm : MkX e k y) (hr : RdX w 0 y a) (hk : 0 < k) (hb : k + 3 * e.ct ≤ 8000000) (q n : Int) (s : ByteArray) : Calls Tryd.prog 30 #[.agg #[.int .i64 q, .int .i64 n, .string s, .slice a e.l.length cap], .int .i64 k] w fun r w' => r = .returned (.int .i64 ((k + 3 * e.ct : Nat) : Int)) ∧ Below w.heap.size w w' := by
  have hbW : Below w.heap.size w (w.alloc (.cells #[.int .i64 q, .int .i64 n, .string s, .slice a e.l.length cap] 26)) := (Below.refl _ _).alloc (Nat.le_refl _) _
  have MS := (heldXS_any e a cap k y (w.alloc (.cells #[.int .i64 q, .int .i64 n, .string s, .slice a e.l.length cap] 26)) hm (hr.later hbW) hk hb).mono (R' := fun r w' => r = .returned (.int .i64 ((k + 3 * e.ct : Nat) : Int)) ∧ Below w.heap.size w w') (by
    rintro r w' ⟨rfl, h1⟩
    exact ⟨rfl, hbW.trans (h1.mono hbW.size)⟩)
  have M := hide MS
  have hp : 0 ≤ ((k + 3 * e.ct : Nat) : Int) := by omega
  clear hbW MS hm hr
  generalize hc : ((k + 3 * e.ct : Nat) : Int) = C at *
  generalize e.l.length = ll at *
  go_enter Tryd.func30, Tryd.ntmps30
  go_wp2_with (go_at_call 64; refine (unhide M).mono ?_; rintro e w1 ⟨rfl, h1⟩)
  go_ret
  exact ⟨rfl, h1⟩
end Go.Proofs.YtkolflcjkofleaaDoor

namespace Go.Proofs.YtkolflcjkofleaaDoor
open Go.ChangeShapes Go.WideShapes Go.ChangeAt Go.RowKit
set_option linter.unusedVariables false
set_option maxRecDepth 8000
set_option linter.unusedSimpArgs false

theorem HalfX.below {w w' : World} {B C : Nat} {e : Ex} {a : Option Addr} (h : HalfX w B C e a) (hb : Below C w w') : HalfX w' B C e a := by
  obtain ⟨F, h1, h2, h3⟩ := h
  exact ⟨F, OwX.keep e a F (fun b hF => hb.block b (h3 b hF).2) h1, h2, h3⟩
theorem HalfX.rd {w : World} {B C : Nat} {e : Ex} {a : Option Addr} (h : HalfX w B C e a) : RdX w 0 e a := h.new.rd.lower (Nat.zero_le _) _ _
set_option maxHeartbeats 1000000 in
theorem markX_keep (e : Ex) (a : Option Addr) (cap k B C : Nat) (w : World) (ho : HalfX w B C e a) (hB : B ≤ w.heap.size) (hk : 0 < k) (hb : k + 3 * e.ct ≤ 8000000) : Calls Tryd.prog 29 #[.agg (e.cs a cap), .int .i64 k] w fun r w' => ∃ y : Ex, r = .returned (.int .i64 ((k + 3 * e.ct : Nat) : Int)) ∧ MkX e k y ∧ HalfX w' B C y a ∧ Below B w w' ∧ ∀ g, C ≤ g → g < w.heap.size → w'.heap[g]? = w.heap[g]? := by
  obtain ⟨F, o1, o2, o3⟩ := ho
  have hbW : Below w.heap.size w (w.alloc (.cells (e.cs a cap) 26)) := (Below.refl _ _).alloc (Nat.le_refl _) _
  have MS := (markXS_any e a cap k F B (w.alloc (.cells (e.cs a cap) 26)) (o1.later hbW) o2 (fun b hb => (o3 b hb).1) (Nat.le_trans hB hbW.size) hk hb).mono (R' := fun r w' => ∃ y : Ex, r = .returned (.int .i64 ((k + 3 * e.ct : Nat) : Int)) ∧ MkX e k y ∧ HalfX w' B C y a ∧ Below B w w' ∧ ∀ g, C ≤ g → g < w.heap.size → w'.heap[g]? = w.heap[g]?) (by
    rintro r w' ⟨y, rfl, h1, h2, h3, h4⟩
    exact ⟨y, rfl, h1, ⟨F, h2, o2, o3⟩, (hbW.mono hB).trans h3, fun g hg hl => (h4 g (Nat.lt_of_lt_of_le hl hbW.size) (fun hF => by have := (o3 g hF).2; omega)).trans (hbW.block g hl)⟩)
  have M := hide MS
  unfold Ex.cs at M ⊢
  clear o1 o2 o3 hbW MS
  generalize hc : ((k + 3 * e.ct : Nat) : Int) = C' at *
  generalize e.l.length = ll at *
  go_enter Tryd.func29, Tryd.ntmps29
  go_wp2_with (go_at_call 38; refine (unhide M).mono ?_; rintro e w1 ⟨y, rfl, h1, h2, h3, h4⟩)
  go_ret
  exact ⟨y, rfl, h1, h2, h3, h4⟩
end Go.Proofs.YtkolflcjkofleaaDoor

namespace Go.Proofs.YtkolflcjkofleaaDoor
open Go.ChangeShapes Go.WideShapes Go.ChangeAt Go.RowKit
set_option linter.unusedVariables false
set_option maxRecDepth 8000
set_option linter.unusedSimpArgs false

/-- A term with another in the place of where it stands, and values for names; by its parts. -/
def putC (here : Ex) (L : List ByteArray) (vals : List Ex) (k n : Int) (s : ByteArray) (l : List Ex) : Ex :=
  if k = 3 then here else if k = 2 ∧ 0 ≤ atV L s then xAt vals (atV L s).toNat else ⟨k, n, s, l⟩
def putX (here : Ex) (L : List ByteArray) (vals : List Ex) : Ex → Ex
  | ⟨k, n, s, l⟩ => putC here L vals k n s (l.map (putX here L vals))
theorem putX_eq (here : Ex) (L : List ByteArray) (vals : List Ex) (k n : Int) (s : ByteArray) (l : List Ex) : putX here L vals ⟨k, n, s, l⟩ = putC here L vals k n s (l.map (putX here L vals)) := by rw [putX]
/-- What is put, and where, as it lies. -/
structure Pv (w : World) (here : Ex) (hb : Option Addr) (gn : Nat) (L : List ByteArray) (va : Option Addr) (vals : List Ex) : Prop where
  h : RdX w 0 here hb
  n : RdS w gn L
  ln : gn < w.heap.size
  v : RdX w 0 ⟨0, 0, E0, vals⟩ va
theorem Pv.later {w w' : World} {here : Ex} {hb va : Option Addr} {gn : Nat} {L : List ByteArray} {vals : List Ex} (h : Pv w here hb gn L va vals) (hbel : Below w.heap.size w w') : Pv w' here hb gn L va vals :=
  ⟨h.h.later hbel, fun i hi => (hbel.cell (p := ⟨gn, i, none⟩) h.ln).trans (h.n i hi), Nat.lt_of_lt_of_le h.ln hbel.size, h.v.later hbel⟩
/-- What is put can be counted. -/
structure Pk (here : Ex) (L : List ByteArray) (vals : List Ex) : Prop where
  h : here.sz ≤ 1048576
  n : L.length ≤ 1100000
  v : ∀ i, i < vals.length → (xAt vals i).sz ≤ 1048576
  l : L.length = vals.length
def PuP (here : Ex) (L : List ByteArray) (vals : List Ex) (e : Ex) : Prop := ∀ (b hb va : Option Addr) (cap hcp gn vcp : Nat) (w : World), RdX w 0 e b → Pv w here hb gn L va vals → Calls Tryd.prog 54 #[.agg (e.cs b cap), .agg (here.cs hb hcp), .slice (some ⟨gn, 0, none⟩) L.length L.length, .slice va vals.length vcp] w (GiR (putX here L vals e) (Up w) w)
theorem atV_lt {L : List ByteArray} {s : ByteArray} {j : Nat} (h : atV L s = j) : j < L.length := by
  unfold atV at h
  split at h
  · rename_i hs
    have h1 : L.findIdx (fun t => eqS t s) = j := by omega
    rw [← h1]
    rw [hasS_iff] at hs
    exact List.findIdx_lt_length_of_exists ⟨s, hs, (eqS_iff _ _).2 rfl⟩
  · omega
theorem up_oy {w : World} {b : Nat} (h : w.heap.size + 3 ≤ b) : Oy w (Up w) b := ⟨Nat.le_trans (Nat.le_add_right _ _) h, .inr h⟩
set_option maxHeartbeats 4000000 in
theorem putS_here (here : Ex) (L : List ByteArray) (vals : List Ex) (pk : Pk here L vals) (n : Int) (s : ByteArray) (l : List Ex) : PuP here L vals ⟨3, n, s, l⟩ := by
  intro b hb va cap hcp gn vcp w hr hv
  have EQ := hide (show putX here L vals ⟨3, n, s, l⟩ = here by rw [putX_eq]; rfl)
  rw [unhide EQ]
  have X0 := hide (By.new w #[.int .i64 3, .int .i64 n, .string s, .slice b l.length cap] #[.int .i64 here.k, .int .i64 here.n, .string here.s, .slice hb here.l.length hcp])
  have CP := hide (copyS_any here hb hcp _ (hv.h.later (unhide X0).bel) pk.h)
  generalize hX : GiR _ (Up w) w = X
  have HX := hide hX
  unfold GiR at CP
  unfold Ex.cs at CP ⊢
  show Calls Tryd.prog 54 #[.agg #[.int .i64 3, .int .i64 n, .string s, .slice b l.length cap], .agg #[.int .i64 here.k, .int .i64 here.n, .string here.s, .slice hb here.l.length hcp], .slice (some ⟨gn, 0, none⟩) L.length L.length, .slice va vals.length vcp] w X
  clear hX hr hv EQ pk
  go_enter Tryd.func54, Tryd.ntmps54
  go_wp2_with fail
  generalize ((w.alloc (.cells #[.int .i64 3, .int .i64 n, .string s, .slice b l.length cap] 26)).alloc (.cells #[.int .i64 here.k, .int .i64 here.n, .string here.s, .slice hb here.l.length hcp] 26)).alloc (.cells #[.int .i64 0, .int .i64 0, .string ⟨#[]⟩, .slice none 0 0] 26) = W at *
  refine (unhide CP).mono ?_
  rintro r w1 ⟨c, cp, rfl, hx, hb1⟩
  have hzW := (unhide X0).lt
  have X1 := hide ((unhide X0).later hb1)
  have A1 := hide (hx.mono (fun b h => up_oy (w := w) (b := b) (Nat.le_trans hzW h)))
  clear hx hb1 X0 CP
  go_wp2_with (refine wpList_store_row rfl 26 _ _ rfl (w.heap.size + 2) #[.int .i64 here.k, .int .i64 here.n, .string here.s, .slice c here.l.length cp] rfl rfl 26 _ ((unhide X1).res) szE rfl (ex_one _ _ _ _ _ _) ?_)
  refine bodyPost_ret (results_cell_row (P := Tryd.prog) rfl _ _ (w.heap.size + 2) 26 #[.int .i64 here.k, .int .i64 here.n, .string here.s, .slice c here.l.length cp] (0, 0) _ rfl (setRow_heap _ _ _ _ _ _ ((unhide X1).res)) Tryd.underlying26 rfl szE) rfl ?_
  rw [← unhide HX]
  exact (unhide X1).end (unhide A1) _
set_option maxHeartbeats 4000000 in
theorem putS_hit (here : Ex) (L : List ByteArray) (vals : List Ex) (pk : Pk here L vals) (n : Int) (s : ByteArray) (l : List Ex) (j : Nat) (hj : atV L s = j) : PuP here L vals ⟨2, n, s, l⟩ := by
  intro b hb va cap hcp gn vcp w hr hv
  have hjl := atV_lt hj
  have hjv : j < vals.length := by have := pk.l; omega
  have EQ := hide (show putX here L vals ⟨2, n, s, l⟩ = xAt vals j by rw [putX_eq]; unfold putC; rw [if_neg (by decide), if_pos ⟨rfl, by omega⟩, hj]; rfl)
  rw [unhide EQ]
  have X0 := hide (By.new w #[.int .i64 2, .int .i64 n, .string s, .slice b l.length cap] #[.int .i64 here.k, .int .i64 here.n, .string here.s, .slice hb here.l.length hcp])
  have hv0 := hv.later (unhide X0).bel
  have AT := hide (at_anyF L s gn L.length L.length _ rfl pk.n hv0.n)
  rw [hj] at AT
  obtain ⟨p, off, rfl, hpl, hc⟩ := hv0.v.at (by intro e; rw [show vals = [] from e] at hjv; simp at hjv)
  obtain ⟨c0, c1, c2, q, qp, c3, r0⟩ := hc j hjv
  have CP := hide (copyS_any (xAt vals j) q qp _ r0 (pk.v j hjv))
  generalize hX : GiR _ (Up w) w = X
  have HX := hide hX
  unfold GiR at CP
  unfold Ex.cs at CP ⊢
  have xe : xAt (Ex.mk 0 0 E0 vals).l j = xAt vals j := rfl
  rw [xe] at c0 c1 c2 c3
  have hlv : vals.length ≤ 1100000 := by have := pk.l; have := pk.n; omega
  show Calls Tryd.prog 54 #[.agg #[.int .i64 2, .int .i64 n, .string s, .slice b l.length cap], .agg #[.int .i64 here.k, .int .i64 here.n, .string here.s, .slice hb here.l.length hcp], .slice (some ⟨gn, 0, none⟩) L.length L.length, .slice (some ⟨p, off, none⟩) vals.length vcp] w X
  clear hX hr hv hv0 EQ pk hc r0 xe hj
  go_enter Tryd.func54, Tryd.ntmps54
  go_wp2_with (go_at_call 81; refine (unhide AT).mono ?_; rintro e w' ⟨rfl, hw'⟩; rw [hw']; clear hw' w')
  generalize ((w.alloc (.cells #[.int .i64 2, .int .i64 n, .string s, .slice b l.length cap] 26)).alloc (.cells #[.int .i64 here.k, .int .i64 here.n, .string here.s, .slice hb here.l.length hcp] 26)).alloc (.cells #[.int .i64 0, .int .i64 0, .string ⟨#[]⟩, .slice none 0 0] 26) = W at *
  clear c0 c1 c2 c3
  refine (unhide CP).mono ?_
  rintro r w1 ⟨c, cp, rfl, hx, hb1⟩
  have hzW := (unhide X0).lt
  have X1 := hide ((unhide X0).later hb1)
  have A1 := hide (hx.mono (fun b h => up_oy (w := w) (b := b) (Nat.le_trans hzW h)))
  clear hx hb1 X0 CP AT
  generalize xAt vals j = y at *
  go_wp2_with (refine wpList_store_row rfl 26 _ _ rfl (w.heap.size + 2) #[.int .i64 y.k, .int .i64 y.n, .string y.s, .slice c y.l.length cp] rfl rfl 26 _ ((unhide X1).res) szE rfl (ex_one _ _ _ _ _ _) ?_)
  refine bodyPost_ret (results_cell_row (P := Tryd.prog) rfl _ _ (w.heap.size + 2) 26 #[.int .i64 y.k, .int .i64 y.n, .string y.s, .slice c y.l.length cp] (0, 0) _ rfl (setRow_heap _ _ _ _ _ _ ((unhide X1).res)) Tryd.underlying26 rfl szE) rfl ?_
  rw [← unhide HX]
  exact (unhide X1).end (unhide A1) _
end Go.Proofs.YtkolflcjkofleaaDoor

namespace Go.Proofs.YtkolflcjkofleaaDoor
open Go.ChangeShapes Go.WideShapes Go.ChangeAt Go.RowKit
set_option linter.unusedVariables false
set_option maxRecDepth 8000
set_option linter.unusedSimpArgs false

/-- The rows of l11Put: two arguments, what is answered, the term that is filled. -/
structure Pz (w wr : World) (pe ph : Array Value) (k n : Int) (s : ByteArray) (v : Value) : Prop where
  bel : Below w.heap.size w wr
  lt : w.heap.size + 4 ≤ wr.heap.size
  be : wr.heap[w.heap.size]? = some (.cells pe 26 (0, 0))
  bh : wr.heap[w.heap.size + 1]? = some (.cells ph 26 (0, 0))
  res : wr.heap[w.heap.size + 2]? = some (.cells #[.int .i64 0, .int .i64 0, .string ⟨#[]⟩, .slice none 0 0] 26 (0, 0))
  out : wr.heap[w.heap.size + 3]? = some (.cells #[.int .i64 k, .int .i64 n, .string s, v] 26 (0, 0))
section
variable {w wr w' : World} {pe ph : Array Value} {k n : Int} {s : ByteArray} {v : Value}
theorem Pz.later (h : Pz w wr pe ph k n s v) (hb : Below wr.heap.size wr w') : Pz w w' pe ph k n s v := ⟨h.bel.trans (hb.mono h.bel.size), Nat.le_trans h.lt hb.size, row_keep h.be hb, row_keep h.bh hb, row_keep h.res hb, row_keep h.out hb⟩
theorem Pz.grown {o : Option Nat} (h : Pz w wr pe ph k n s v) (hg : wr.grownBy w' o) (ho : ∀ g, o = some g → w.heap.size + 4 ≤ g) : Pz w w' pe ph k n s v := by
  have ne : ∀ b, b < w.heap.size + 4 → some b ≠ o := fun b hb e => by have := ho b e.symm; omega
  have kp : ∀ b o', b < w.heap.size + 4 → wr.heap[b]? = some o' → w'.heap[b]? = some o' := fun b o' hb h0 => (hg.block _ (Array.getElem?_eq_some_iff.1 h0).1 (ne _ hb)).trans h0
  exact ⟨h.bel.grown hg h.bel.size (fun q e => by have := ho q e; omega), Nat.le_trans h.lt hg.size, kp _ _ (by omega) h.be, kp _ _ (by omega) h.bh, kp _ _ (by omega) h.res, kp _ _ (by omega) h.out⟩
theorem Pz.set3 (h : Pz w wr pe ph k n s v) (x : Value) : Pz w (wr.setCell ⟨w.heap.size + 3, 3, none⟩ x) pe ph k n s x := by
  have ne : ∀ b, b < w.heap.size + 3 → (wr.setCell ⟨w.heap.size + 3, 3, none⟩ x).heap[b]? = wr.heap[b]? := fun b hb => heap_setCell_other wr ⟨w.heap.size + 3, 3, none⟩ b _ (fun e => by have e' : b = w.heap.size + 3 := e; omega)
  refine ⟨h.bel.setCell (p := ⟨w.heap.size + 3, 3, none⟩) (by show w.heap.size ≤ w.heap.size + 3; omega) _, by simp; exact h.lt, (ne _ (by omega)).trans h.be, (ne _ (by omega)).trans h.bh, (ne _ (by omega)).trans h.res, ?_⟩
  rw [heap_setCell_same wr (w.heap.size + 3) 3 _ 26 x h.out]
  rfl
theorem Pz.new (w : World) (pe ph : Array Value) : Pz w ((((w.alloc (.cells pe 26)).alloc (.cells ph 26)).alloc (.cells #[.int .i64 0, .int .i64 0, .string ⟨#[]⟩, .slice none 0 0] 26)).alloc (.cells #[.int .i64 k, .int .i64 n, .string s, v] 26)) pe ph k n s v := by
  have hy := By.new w pe ph
  have hb := below_new (((w.alloc (.cells pe 26)).alloc (.cells ph 26)).alloc (.cells #[.int .i64 0, .int .i64 0, .string ⟨#[]⟩, .slice none 0 0] 26)) (.cells #[.int .i64 k, .int .i64 n, .string s, v] 26)
  have h3 : (((w.alloc (.cells pe 26)).alloc (.cells ph 26)).alloc (.cells #[.int .i64 0, .int .i64 0, .string ⟨#[]⟩, .slice none 0 0] 26)).heap.size = w.heap.size + 3 := by simp
  have hz := hy.later hb
  refine ⟨hz.bel, by simp, hz.boxa, hz.boxb, hz.res, ?_⟩
  rw [← h3]; exact Array.getElem?_push_size
end
theorem ApX.upto {w : World} {B k M M' : Nat} {l : List Ex} {v : Value} (h : ApX w B l k v M) (hM : M ≤ M') : ApX w B l k v M' := by
  obtain ⟨cs, Fs, h1, h2, h3, h4, h5, h6⟩ := h
  exact ⟨cs, Fs, h1, fun g hg => Nat.lt_of_lt_of_le (h2 g hg) hM, h3, h4, fun b hb => ⟨(h5 b hb).1, Nat.lt_of_lt_of_le (h5 b hb).2.1 hM, (h5 b hb).2.2⟩, h6⟩
theorem put_fin {k m : Int} {s : ByteArray} {l : List Ex} {w w' : World} {a : Option Addr} {n cp M : Nat} {pe ph : Array Value} (row : Array Value) (hc : Pz w w' pe ph k m s (.slice a n cp)) (h : ApX w' (w.heap.size + 4) l l.length (.slice a n cp) M) : GiR ⟨k, m, s, l⟩ (Up w) w (.returned (.agg #[.int .i64 k, .int .i64 m, .string s, .slice a n cp])) (w'.setRow (w.heap.size + 2) row) := by
  obtain ⟨hd, rfl⟩ := h.done k m s
  exact ⟨a, cp, rfl, (PX.row (g := w.heap.size + 2) hd row (by show ¬ (w.heap.size + 4 ≤ w.heap.size + 2); omega)).mono (Q := Up w) (fun b (hb : w.heap.size + 4 ≤ b) => by show w.heap.size ≤ b; omega), hc.bel.grown (grownBy_row _) hc.bel.size (fun k e => by cases e; omega)⟩
theorem xAt_map (f : Ex → Ex) (l : List Ex) (i : Nat) (h : i < l.length) : xAt (l.map f) i = f (xAt l i) := by
  unfold xAt
  rw [List.getD_eq_getElem?_getD, List.getD_eq_getElem?_getD, List.getElem?_map, List.getElem?_eq_getElem h]
  rfl
set_option maxHeartbeats 16000000 in
theorem putS_oth (here : Ex) (L : List ByteArray) (vals : List Ex) (pk : Pk here L vals) (k n : Int) (s : ByteArray) (l : List Ex) (hlen : l.length ≤ 1100000) (ih : ∀ i, i < l.length → PuP here L vals (xAt l i)) (h3 : (k == 3) = false) (h2 : (k == 2) = false) : PuP here L vals ⟨k, n, s, l⟩ := by
  intro b hb va cap hcp gn vcp w hr hv
  have EQ := hide (show putX here L vals ⟨k, n, s, l⟩ = ⟨k, n, s, l.map (putX here L vals)⟩ by rw [putX_eq]; unfold putC; rw [if_neg (beq_eq_false_iff_ne.1 h3), if_neg (fun h => beq_eq_false_iff_ne.1 h2 h.1)])
  rw [unhide EQ]
  have hrr := (RdX_eq _ _ _ _).1 hr
  have PV := hide (fun wr (h : Below w.heap.size w wr) => hv.later h)
  have FN := hide (fun (w' : World) (a : Option Addr) (n' cp : Nat) (pe ph row : Array Value) (M : Nat) => put_fin (k := k) (m := n) (s := s) (l := l.map (putX here L vals)) (w := w) (w' := w') (a := a) (n := n') (cp := cp) (pe := pe) (ph := ph) (M := M) row)
  generalize hX : GiR _ (Up w) w = X at *
  have hml : (l.map (putX here L vals)).length = l.length := List.length_map _
  rw [hml] at FN
  have XM := hide (fun i (h : i < l.length) => xAt_map (putX here L vals) l i h)
  generalize l.map (putX here L vals) = l' at *
  obtain ⟨len, hle⟩ : ∃ len, l.length = len := ⟨_, rfl⟩
  have IH := hide (fun i (h : i < l.length) (b' : Option Addr) (cap' : Nat) wr (h1 : RdX wr 0 (xAt l i) b') (h2 : Below w.heap.size w wr) => ih i h b' hb va cap' hcp gn vcp wr h1 (unhide PV wr h2))
  unfold Ex.cs at IH ⊢
  have hrl : l = [] ∨ ∃ p off, b = some ⟨p, off, none⟩ ∧ p < w.heap.size ∧ ∀ i, i < l.length → OneX w 0 p (off + i * 4) (xAt l i) := by
    rcases hrr with h | ⟨p, off, ha, _, hp, hc⟩
    · exact .inl h
    · exact .inr ⟨p, off, ha, hp, hc⟩
  show Calls Tryd.prog 54 #[.agg #[.int .i64 k, .int .i64 n, .string s, .slice b l.length cap], .agg #[.int .i64 here.k, .int .i64 here.n, .string here.s, .slice hb here.l.length hcp], .slice (some ⟨gn, 0, none⟩) L.length L.length, .slice va vals.length vcp] w X
  rw [hle] at hlen FN XM IH ⊢
  generalize here.k = hk at *
  generalize here.n = hn at *
  generalize here.s = hs at *
  generalize here.l.length = hl at *
  obtain ⟨i0, hi, hz0, hz1, hz2⟩ := info_parts infoX
  have C0 := hide (Pz.new (k := k) (n := n) (s := s) (v := .slice none 0 0) w #[.int .i64 k, .int .i64 n, .string s, .slice b len cap] #[.int .i64 hk, .int .i64 hn, .string hs, .slice hb hl hcp])
  clear hX hr hv EQ pk ih hrr hml
  go_enter Tryd.func54, Tryd.ntmps54
  go_wp2
  generalize (((w.alloc (.cells #[.int .i64 k, .int .i64 n, .string s, .slice b len cap] 26)).alloc (.cells #[.int .i64 hk, .int .i64 hn, .string hs, .slice hb hl hcp] 26)).alloc (.cells #[.int .i64 0, .int .i64 0, .string ⟨#[]⟩, .slice none 0 0] 26)).alloc (.cells #[.int .i64 k, .int .i64 n, .string s, .slice none 0 0] 26) = W at *
  go_loopw [11] (fun i wr => ∃ (j : Nat) (v : Value), j ≤ len ∧ i = .int .i64 j ∧ Pz w wr #[.int .i64 k, .int .i64 n, .string s, .slice b len cap] #[.int .i64 hk, .int .i64 hn, .string hs, .slice hb hl hcp] k n s v ∧ ApX wr (w.heap.size + 4) l' j v wr.heap.size) (fun i _ => len - (intOf i).toNat)
  case atStart => exact ⟨0, _, Nat.zero_le _, rfl, unhide C0, ApX.nil _ _ _ _⟩
  case round =>
    clear C0
    obtain ⟨i, v, hij, rfl, hcz, hap⟩ := hrel
    have b3 := Lib.cell_of_heap hcz.be 3
    by_cases hlt : i < len
    · rcases hrl with h0 | ⟨p, off, rfl, hpl, hc⟩
      · rw [h0] at hle; simp at hle; omega
      obtain ⟨c0, c1, c2, c, ca, c3, c4⟩ := hc i (by omega)
      have hbd : Below w.heap.size w wr.drew := hcz.bel.trans ((below_drew (w := wr)).mono hcz.bel.size)
      have HT := hide (fun wx (h : Below w.heap.size w wx) => unhide IH i hlt c ca wx (c4.later h) h)
      have hx := unhide XM i hlt
      have AS := hide (fun (w1 w2 : World) (g cp M M' : Nat) (q : Option Addr) (cq : Nat) cs Fs h1 h2 h3 h4 h5 h6 hx hBM hM hM' ho hg hw => ApX.step (w := w1) (w' := w2) (B := w.heap.size + 4) (k := i) (M := M) (M' := M') (l := l') (v := v) (cs := cs) (Fs := Fs) (q := q) (cp := cq) (g := g) (cap := cp) h1 h2 h3 h4 h5 h6 hx hBM hM hM' ho hg hw)
      unfold GiR Ex.cs at HT
      unfold exL at AS
      rw [← hx] at HT
      generalize xAt l' i = x at *
      generalize (xAt l i).k = ak at *
      generalize (xAt l i).n = an at *
      generalize (xAt l i).s = asx at *
      generalize (xAt l i).l.length = al at *
      have AS2 := hide (unhide AS)
      generalize x.k = xk at HT AS2
      generalize x.n = xn at HT AS2
      generalize x.s = xs at HT AS2
      generalize x.l.length = xl at HT AS2
      clear AS
      have AS := hide (unhide AS2)
      have D0 := hide (show (fun v => v.heap[w.heap.size]? = some (.cells #[.int .i64 k, .int .i64 n, .string s, .slice (some ⟨p, off, none⟩) len cap] 26 (0, 0)) ∧ v.heap[w.heap.size + 1]? = some (.cells #[.int .i64 hk, .int .i64 hn, .string hs, .slice hb hl hcp] 26 (0, 0)) ∧ (v.cell? ⟨p, off + i * 4, none⟩ = some (.int .i64 ak) ∧ v.cell? ⟨p, off + i * 4 + 1, none⟩ = some (.int .i64 an) ∧ v.cell? ⟨p, off + i * 4 + 2, none⟩ = some (.string asx) ∧ v.cell? ⟨p, off + i * 4 + 3, none⟩ = some (.slice c al ca))) wr.drew from ⟨hcz.be, hcz.bh, ⟨(hbd.cell (p := ⟨p, _, none⟩) hpl).trans c0, (hbd.cell (p := ⟨p, _, none⟩) hpl).trans c1, (hbd.cell (p := ⟨p, _, none⟩) hpl).trans c2, (hbd.cell (p := ⟨p, _, none⟩) hpl).trans c3⟩⟩)
      have CZ0 := hide (hcz.later (below_drew (w := wr)))
      have AP0 := hide (hap.later (below_drew (w := wr)) (Nat.le_refl _))
      have M0 := hide (show wr.heap.size ≤ wr.drew.heap.size from Nat.le_refl _)
      have hplW : p < wr.drew.heap.size := Nat.lt_of_lt_of_le hpl hbd.size
      have BD := hide hbd
      have WL := hide hcz.lt
      clear c0 c1 c2 c3 c4 hc hcz hap hx AS2 IH XM hbd FN
      go_wp2_with fail
      refine wp_region_held_drew (S := fun v => v.heap[w.heap.size]? = some (.cells #[.int .i64 k, .int .i64 n, .string s, .slice (some ⟨p, off, none⟩) len cap] 26 (0, 0)) ∧ v.heap[w.heap.size + 1]? = some (.cells #[.int .i64 hk, .int .i64 hn, .string hs, .slice hb hl hcp] 26 (0, 0)) ∧ (v.cell? ⟨p, off + i * 4, none⟩ = some (.int .i64 ak) ∧ v.cell? ⟨p, off + i * 4 + 1, none⟩ = some (.int .i64 an) ∧ v.cell? ⟨p, off + i * 4 + 2, none⟩ = some (.string asx) ∧ v.cell? ⟨p, off + i * 4 + 3, none⟩ = some (.slice c al ca))) (by kernel_rfl) (unhide D0) (fun hS => ?_)
      have HS := hide hS
      clear hS b3
      generalize hV0 : wr.drew = V0 at *
      have HV := hide (show V0.heap.size = wr.heap.size by rw [← hV0]; rfl)
      clear hV0
      refine wpAnyH_take (i := 0) (v := .pointer (some ⟨w.heap.size, 3, none⟩)) rfl (by kernel_rfl) (by kernel_rfl) (by kernel_rfl) (fun _ _ _ h => h) (Or.inl ⟨by rfl, fun w hc => ?_⟩) (unhide HS) ?_
      · clear hc; go_simp
      go_simp
      refine wpAnyH_take (i := 1) (v := .slice (some ⟨p, off, none⟩) len cap) rfl (by kernel_rfl) (by kernel_rfl) (by kernel_rfl) (fun _ _ _ h => h) (Or.inl ⟨by rfl, fun w hc => ?_⟩) (unhide HS) ?_
      · have q := Lib.cell_of_heap hc.1 3; clear hc; go_simp
      go_simp
      refine wpAnyH_take (i := 2) (v := .int .i64 i) rfl (by kernel_rfl) (by kernel_rfl) (by kernel_rfl) (fun _ _ _ h => h) (Or.inl ⟨by rfl, fun w hc => ?_⟩) (unhide HS) ?_
      · clear hc; go_simp
      go_simp
      refine wpAnyH_take (i := 3) (v := .pointer (some ⟨p, off + i * 4, none⟩)) rfl (by kernel_rfl) (by kernel_rfl) (by kernel_rfl) (fun _ _ _ h => h) (Or.inl ⟨by rfl, fun w hc => ?_⟩) (unhide HS) ?_
      · clear hc; go_simp
      go_simp
      refine wpAnyH_take (i := 4) (v := .agg #[.int .i64 ak, .int .i64 an, .string asx, .slice c al ca]) rfl (by kernel_rfl) (by kernel_rfl) (by kernel_rfl) (fun _ _ _ h => h) (Or.inl ⟨by rfl, fun w hc => ?_⟩) (unhide HS) ?_
      · obtain ⟨_, _, h0, h1, h2, h3⟩ := hc; go_simp
      go_simp
      refine wpAnyH_take (i := 5) (v := .agg #[.int .i64 hk, .int .i64 hn, .string hs, .slice hb hl hcp]) rfl (by kernel_rfl) (by kernel_rfl) (by kernel_rfl) (fun _ _ _ h => h) (yields_loadG (by rfl) 26 _ rfl (w.heap.size + 1) rfl 26 #[.int .i64 hk, .int .i64 hn, .string hs, .slice hb hl hcp] _ (fun w h => h.2.1) Tryd.underlying26 rfl (by kernel_rfl)) (unhide HS) ?_
      go_simp
      refine wpAnyH_take (i := 6) (v := .slice (some ⟨gn, 0, none⟩) L.length L.length) rfl (by kernel_rfl) (by kernel_rfl) (by kernel_rfl) (fun _ _ _ h => h) (Or.inl ⟨by rfl, fun w hc => ?_⟩) (unhide HS) ?_
      · clear hc; go_simp
      go_simp
      refine wpAnyH_take (i := 7) (v := .slice va vals.length vcp) rfl (by kernel_rfl) (by kernel_rfl) (by kernel_rfl) (fun _ _ _ h => h) (Or.inl ⟨by rfl, fun w hc => ?_⟩) (unhide HS) ?_
      · clear hc; go_simp
      go_simp
      refine wpAnyH_ready (rs := [8, 9]) (by kernel_rfl) (by simp) ?_
      refine AllReadyH.cons rfl (fun K2 hK => ?_) (AllReadyH.cons rfl (fun K2 hK => ?_) AllReadyH.nil)
      · go_simp
        refine (unhide HT V0 (unhide BD)).mono ?_
        rintro r w1 ⟨q, cq, rfl, hq, hb1⟩
        refine hK.out _ _ (⟨row_keep (unhide D0).1 hb1, row_keep (unhide D0).2.1 hb1, ⟨(hb1.cell (p := ⟨p, _, none⟩) hplW).trans (unhide D0).2.2.1, (hb1.cell (p := ⟨p, _, none⟩) hplW).trans (unhide D0).2.2.2.1, (hb1.cell (p := ⟨p, _, none⟩) hplW).trans (unhide D0).2.2.2.2.1, (hb1.cell (p := ⟨p, _, none⟩) hplW).trans (unhide D0).2.2.2.2.2⟩⟩) (fun hS => ?_)
        clear HS
        have HS := hide hS
        clear hS hK K2
        have HQ := hide (show NewX w1 V0.heap.size x q from hq).half
        have HB1 := hide hb1
        clear hq hb1
        refine wpAnyH_ready (rs := [9]) (by kernel_rfl) (by simp) ?_
        refine AllReadyH.cons rfl (fun K2 hK => ?_) AllReadyH.nil
        go_simp
        have hb2 := below_new w1 (.cells #[.int .i64 0, .int .i64 0, .string ⟨#[]⟩, .slice none 0 0] 26)
        have hb12 := (unhide HB1).trans (hb2.mono (unhide HB1).size)
        refine hK.out _ _ (⟨row_keep (unhide D0).1 hb12, row_keep (unhide D0).2.1 hb12, ⟨(hb12.cell (p := ⟨p, _, none⟩) hplW).trans (unhide D0).2.2.1, (hb12.cell (p := ⟨p, _, none⟩) hplW).trans (unhide D0).2.2.2.1, (hb12.cell (p := ⟨p, _, none⟩) hplW).trans (unhide D0).2.2.2.2.1, (hb12.cell (p := ⟨p, _, none⟩) hplW).trans (unhide D0).2.2.2.2.2⟩⟩) (fun hS => ?_)
        clear HS
        have HS := hide hS
        clear hS hK K2
        have GZ := hide (show (w1.alloc (.cells #[.int .i64 0, .int .i64 0, .string ⟨#[]⟩, .slice none 0 0] 26)).heap[w1.heap.size]? = some (.cells #[.int .i64 0, .int .i64 0, .string ⟨#[]⟩, .slice none 0 0] 26 (0, 0)) from Array.getElem?_push_size)
        have BV := hide hb12
        have GXL := hide (show V0.heap.size ≤ w1.heap.size from (unhide HB1).size)
        have HG := hide (show ∀ w3 : World, (∀ b, b ≠ w1.heap.size → w3.heap[b]? = (w1.alloc (.cells #[.int .i64 0, .int .i64 0, .string ⟨#[]⟩, .slice none 0 0] 26)).heap[b]?) → HalfX w3 V0.heap.size w1.heap.size x q from fun w3 h => by
          obtain ⟨F, f1, f2, f3⟩ := (unhide HQ).later hb2
          exact ⟨F, OwX.keep x q F (fun b hF => h b (by have := (f3 b hF).2; omega)) f1, f2, f3⟩)
        have M01 := hide (show wr.heap.size ≤ V0.heap.size from unhide M0)
        have BM := hide (show w.heap.size + 4 ≤ V0.heap.size by rw [unhide HV]; exact unhide WL)
        have M12 := hide (show V0.heap.size ≤ w1.heap.size from (unhide HB1).size)
        have M1s := hide (show V0.heap.size ≤ (w1.alloc (.cells #[.int .i64 0, .int .i64 0, .string ⟨#[]⟩, .slice none 0 0] 26)).heap.size from hb12.size)
        have M2w := hide (show w1.heap.size ≤ (w1.alloc (.cells #[.int .i64 0, .int .i64 0, .string ⟨#[]⟩, .slice none 0 0] 26)).heap.size from hb2.size)
        clear HQ hb2 hb12 HB1
        generalize w1.alloc (.cells #[.int .i64 0, .int .i64 0, .string ⟨#[]⟩, .slice none 0 0] 26) = w2 at *
        refine wpAnyH_ready (rs := [10]) (by kernel_rfl) (by simp) ?_
        refine AllReadyH.cons rfl (fun K2 hK => ?_) AllReadyH.nil
        rw [if_pos (by rfl)]
        refine wp_store_row 26 _ _ rfl (w1.heap.size) #[.int .i64 xk, .int .i64 xn, .string xs, .slice q xl cq] rfl rfl 26 _ (unhide GZ) szE rfl (ex_one _ _ _ _ _ _) ?_
        have hbs := hide (show Below V0.heap.size V0 (w2.setRow (w1.heap.size) #[.int .i64 xk, .int .i64 xn, .string xs, .slice q xl cq]) from (unhide BV).grown (grownBy_row _) (unhide BV).size (fun q e => by cases e; exact unhide GXL))
        refine hK.out _ _ (⟨row_keep (unhide D0).1 (unhide hbs), row_keep (unhide D0).2.1 (unhide hbs), ⟨((unhide hbs).cell (p := ⟨p, _, none⟩) hplW).trans (unhide D0).2.2.1, ((unhide hbs).cell (p := ⟨p, _, none⟩) hplW).trans (unhide D0).2.2.2.1, ((unhide hbs).cell (p := ⟨p, _, none⟩) hplW).trans (unhide D0).2.2.2.2.1, ((unhide hbs).cell (p := ⟨p, _, none⟩) hplW).trans (unhide D0).2.2.2.2.2⟩⟩) (fun hS => ?_)
        clear HS
        have HS := hide hS
        clear hS hK K2
        have C3 := hide ((unhide CZ0).later (unhide hbs))
        have A3 := hide (((unhide AP0).later (unhide hbs) (unhide M0)).upto (show wr.heap.size ≤ V0.heap.size from unhide M01))
        have G3 := hide (setRow_heap w2 (w1.heap.size) _ #[.int .i64 xk, .int .i64 xn, .string xs, .slice q xl cq] _ _ (unhide GZ))
        have H3 := hide (unhide HG (w2.setRow (w1.heap.size) #[.int .i64 xk, .int .i64 xn, .string xs, .slice q xl cq]) (fun b hne => setRow_other w2 (w1.heap.size) b #[.int .i64 xk, .int .i64 xn, .string xs, .slice q xl cq] hne))
        have zs : (w2.setRow (w1.heap.size) #[.int .i64 xk, .int .i64 xn, .string xs, .slice q xl cq]).heap.size = w2.heap.size := by simp [World.setRow]
        have M3 := hide (show V0.heap.size ≤ (w2.setRow (w1.heap.size) #[.int .i64 xk, .int .i64 xn, .string xs, .slice q xl cq]).heap.size by rw [zs]; exact unhide M1s)
        have M2s := hide (show w1.heap.size ≤ (w2.setRow (w1.heap.size) #[.int .i64 xk, .int .i64 xn, .string xs, .slice q xl cq]).heap.size by rw [zs]; exact unhide M2w)
        clear hbs GZ HG BV CZ0 AP0 D0 zs
        generalize w2.setRow (w1.heap.size) #[.int .i64 xk, .int .i64 xn, .string xs, .slice q xl cq] = w3 at *
        refine wpAnyH_done (by kernel_rfl) ?_ _
        clear HS
        have o3 := Lib.cell_of_heap (unhide C3).out 3
        have hb4 := below_new w3 (.cells #[.int .i64 xk, .int .i64 xn, .string xs, .slice q xl cq] 26)
        have C4 := hide ((unhide C3).later hb4)
        have A4 := hide ((unhide A3).later hb4 (unhide M3))
        have CN := hide (cell_newF w3 #[.int .i64 xk, .int .i64 xn, .string xs, .slice q xl cq] 26)
        have HX4 := hide ((unhide H3).later hb4)
        have hz4 : (w3.alloc (.cells #[.int .i64 xk, .int .i64 xn, .string xs, .slice q xl cq] 26)).heap.size = w3.heap.size + 1 := by simp
        have SZ := hide hz4
        obtain ⟨cs, Fs, a1, a2, a3, a4, a5, a6⟩ := unhide A4
        have OW := hide a1
        have SPP := hide (fun w2 g cp => unhide AS (w3.alloc (.cells #[.int .i64 xk, .int .i64 xn, .string xs, .slice q xl cq] 26)) w2 g cp (V0.heap.size) (w1.heap.size) q cq cs Fs a1 a2 a3 a4 a5 a6 (unhide HX4) (unhide BM) (unhide M12) (by have := unhide M2s; omega))
        have BA := hide (show w.heap.size + 4 ≤ (w3.alloc (.cells #[.int .i64 xk, .int .i64 xn, .string xs, .slice q xl cq] 26)).heap.size from (unhide C4).lt)
        have WB := hide (show ∀ g, v.ownBlock = some g → w.heap.size + 4 ≤ g from fun g hg => (World.ownsRow.lt a1 g hg).1)
        have ON := hide (show ∀ u ∈ ([.int .i64 xk, .int .i64 xn, .string xs, .slice q xl cq] : List Value), u.oneCell' = true by intro u hu; simp only [List.mem_cons, List.not_mem_nil, or_false] at hu; rcases hu with rfl | rfl | rfl | rfl <;> rfl)
        clear a1 a2 a3 a4 a5 a6 A4 AS HX4 hb4 hz4 A3 H3
        go_wp2_with (first | (refine wpList_load_row rfl 26 _ rfl w1.heap.size rfl 26 #[.int .i64 xk, .int .i64 xn, .string xs, .slice q xl cq] (0, 0) _ (unhide G3) Tryd.underlying26 rfl (by kernel_rfl) ?_) | (at_builtin; go_must (refine wpList_append_to rfl (.tmp 56) (.tmp 58) 24 rfl (w.heap.size + 4) 26 i0 (.agg #[.int .i64 0, .int .i64 0, .string ⟨#[]⟩, .slice none 0 0]) 4 56 Tryd.underlying24 hi hz0 hz1 hz2 rfl (by decide) v i cs rfl (unhide OW) ⟨w3.heap.size, 0, none⟩ 1 1 [.int .i64 xk, .int .i64 xn, .string xs, .slice q xl cq] rfl rfl (unhide CN) (unhide ON) (by unfold maxLen; omega) (by omega) (unhide BA) (by omega) ?_; intro g4 cap4 w4 hown4 hgrow4 hwh4; have A5 := hide (unhide SPP w4 g4 cap4 hown4 hgrow4 hwh4); have C5 := (unhide C4).grown hgrow4 (unhide WB); have f4 : w4.frozen? ⟨w.heap.size + 3, 3, none⟩ = false := (by simp [World.frozen?, C5.out]); have o4 := Lib.cell_of_heap C5.out 3; have C6 := hide (C5.set3 (.slice (some ⟨g4, 0, none⟩) (i + 1 : Nat) cap4)); clear hown4 hgrow4 hwh4 C5)))
        go_roundw
        case rel => exact ⟨i + 1, _, by omega, by go_num, unhide C6, by
          rw [show (w4.setCell ⟨w.heap.size + 3, 3, none⟩ (.slice (some ⟨g4, 0, none⟩) (i + 1 : Nat) cap4)).heap.size = w4.heap.size by simp]
          exact (unhide A5).far ⟨w.heap.size + 3, 3, none⟩ _ (by show w.heap.size + 3 < w.heap.size + 4; omega)⟩
        case measure => simp [intOf]; omega
      · go_simp
        have hb1 := below_new V0 (.cells #[.int .i64 0, .int .i64 0, .string ⟨#[]⟩, .slice none 0 0] 26)
        have gz1 := (show (V0.alloc (.cells #[.int .i64 0, .int .i64 0, .string ⟨#[]⟩, .slice none 0 0] 26)).heap[V0.heap.size]? = some (.cells #[.int .i64 0, .int .i64 0, .string ⟨#[]⟩, .slice none 0 0] 26 (0, 0)) from Array.getElem?_push_size)
        have zl : V0.heap.size < (V0.alloc (.cells #[.int .i64 0, .int .i64 0, .string ⟨#[]⟩, .slice none 0 0] 26)).heap.size := by simp
        refine hK.out _ _ (⟨row_keep (unhide D0).1 hb1, row_keep (unhide D0).2.1 hb1, ⟨(hb1.cell (p := ⟨p, _, none⟩) hplW).trans (unhide D0).2.2.1, (hb1.cell (p := ⟨p, _, none⟩) hplW).trans (unhide D0).2.2.2.1, (hb1.cell (p := ⟨p, _, none⟩) hplW).trans (unhide D0).2.2.2.2.1, (hb1.cell (p := ⟨p, _, none⟩) hplW).trans (unhide D0).2.2.2.2.2⟩⟩) (fun hS => ?_)
        clear HS
        have HS := hide hS
        clear hS hK K2
        have HB1 := hide hb1
        have GZ1 := hide gz1
        have ZL := hide zl
        clear hb1 gz1 zl
        generalize V0.alloc (.cells #[.int .i64 0, .int .i64 0, .string ⟨#[]⟩, .slice none 0 0] 26) = w1 at *
        have BD1 := hide ((unhide BD).trans ((unhide HB1).mono (unhide BD).size))
        refine wpAnyH_ready (rs := [8]) (by kernel_rfl) (by simp) ?_
        refine AllReadyH.cons rfl (fun K2 hK => ?_) AllReadyH.nil
        go_simp
        refine (unhide HT w1 (unhide BD1)).mono ?_
        rintro r w2 ⟨q, cq, rfl, hq, hb2⟩
        have hb12 := (unhide HB1).trans (hb2.mono (unhide HB1).size)
        refine hK.out _ _ (⟨row_keep (unhide D0).1 hb12, row_keep (unhide D0).2.1 hb12, ⟨(hb12.cell (p := ⟨p, _, none⟩) hplW).trans (unhide D0).2.2.1, (hb12.cell (p := ⟨p, _, none⟩) hplW).trans (unhide D0).2.2.2.1, (hb12.cell (p := ⟨p, _, none⟩) hplW).trans (unhide D0).2.2.2.2.1, (hb12.cell (p := ⟨p, _, none⟩) hplW).trans (unhide D0).2.2.2.2.2⟩⟩) (fun hS => ?_)
        clear HS
        have HS := hide hS
        clear hS hK K2
        have GZ := hide (row_keep (unhide GZ1) hb2)
        have BV := hide hb12
        have GXL := hide (Nat.le_refl V0.heap.size)
        have HG := hide (show ∀ w3 : World, (∀ b, b ≠ V0.heap.size → w3.heap[b]? = w2.heap[b]?) → HalfX w3 w1.heap.size w2.heap.size x q from fun w3 h => by
          obtain ⟨F, f1, f2, f3⟩ := (show NewX w2 w1.heap.size x q from hq).half
          exact ⟨F, OwX.keep x q F (fun b hF => h b (by have := (f3 b hF).1; have := unhide ZL; omega)) f1, f2, f3⟩)
        have M01 := hide (show wr.heap.size ≤ w1.heap.size from Nat.le_trans (unhide M0) (unhide HB1).size)
        have BM := hide (show w.heap.size + 4 ≤ w1.heap.size by have := unhide HV; have := unhide WL; have := (unhide HB1).size; omega)
        have M12 := hide (show w1.heap.size ≤ w2.heap.size from hb2.size)
        have M1s := hide (show w1.heap.size ≤ w2.heap.size from hb2.size)
        have M2w := hide (show w2.heap.size ≤ w2.heap.size from Nat.le_refl _)
        clear hq hb2 hb12 HB1 GZ1 ZL BD1
        obtain ⟨m2, hm2⟩ : ∃ m2, w2.heap.size = m2 := ⟨_, rfl⟩
        rw [hm2] at HG M12 M2w
        have HM2 := hide hm2
        clear hm2
        refine wpAnyH_ready (rs := [10]) (by kernel_rfl) (by simp) ?_
        refine AllReadyH.cons rfl (fun K2 hK => ?_) AllReadyH.nil
        rw [if_pos (by rfl)]
        refine wp_store_row 26 _ _ rfl (V0.heap.size) #[.int .i64 xk, .int .i64 xn, .string xs, .slice q xl cq] rfl rfl 26 _ (unhide GZ) szE rfl (ex_one _ _ _ _ _ _) ?_
        have hbs := hide (show Below V0.heap.size V0 (w2.setRow (V0.heap.size) #[.int .i64 xk, .int .i64 xn, .string xs, .slice q xl cq]) from (unhide BV).grown (grownBy_row _) (unhide BV).size (fun q e => by cases e; exact unhide GXL))
        refine hK.out _ _ (⟨row_keep (unhide D0).1 (unhide hbs), row_keep (unhide D0).2.1 (unhide hbs), ⟨((unhide hbs).cell (p := ⟨p, _, none⟩) hplW).trans (unhide D0).2.2.1, ((unhide hbs).cell (p := ⟨p, _, none⟩) hplW).trans (unhide D0).2.2.2.1, ((unhide hbs).cell (p := ⟨p, _, none⟩) hplW).trans (unhide D0).2.2.2.2.1, ((unhide hbs).cell (p := ⟨p, _, none⟩) hplW).trans (unhide D0).2.2.2.2.2⟩⟩) (fun hS => ?_)
        clear HS
        have HS := hide hS
        clear hS hK K2
        have C3 := hide ((unhide CZ0).later (unhide hbs))
        have A3 := hide (((unhide AP0).later (unhide hbs) (unhide M0)).upto (show wr.heap.size ≤ w1.heap.size from unhide M01))
        have G3 := hide (setRow_heap w2 (V0.heap.size) _ #[.int .i64 xk, .int .i64 xn, .string xs, .slice q xl cq] _ _ (unhide GZ))
        have H3 := hide (unhide HG (w2.setRow (V0.heap.size) #[.int .i64 xk, .int .i64 xn, .string xs, .slice q xl cq]) (fun b hne => setRow_other w2 (V0.heap.size) b #[.int .i64 xk, .int .i64 xn, .string xs, .slice q xl cq] hne))
        have zs : (w2.setRow (V0.heap.size) #[.int .i64 xk, .int .i64 xn, .string xs, .slice q xl cq]).heap.size = w2.heap.size := by simp [World.setRow]
        have M3 := hide (show w1.heap.size ≤ (w2.setRow (V0.heap.size) #[.int .i64 xk, .int .i64 xn, .string xs, .slice q xl cq]).heap.size by rw [zs]; exact unhide M1s)
        have M2s := hide (show m2 ≤ (w2.setRow (V0.heap.size) #[.int .i64 xk, .int .i64 xn, .string xs, .slice q xl cq]).heap.size by rw [zs, unhide HM2]; exact unhide M2w)
        clear hbs GZ HG BV CZ0 AP0 D0 zs
        generalize w2.setRow (V0.heap.size) #[.int .i64 xk, .int .i64 xn, .string xs, .slice q xl cq] = w3 at *
        refine wpAnyH_done (by kernel_rfl) ?_ _
        clear HS
        have o3 := Lib.cell_of_heap (unhide C3).out 3
        have hb4 := below_new w3 (.cells #[.int .i64 xk, .int .i64 xn, .string xs, .slice q xl cq] 26)
        have C4 := hide ((unhide C3).later hb4)
        have A4 := hide ((unhide A3).later hb4 (unhide M3))
        have CN := hide (cell_newF w3 #[.int .i64 xk, .int .i64 xn, .string xs, .slice q xl cq] 26)
        have HX4 := hide ((unhide H3).later hb4)
        have hz4 : (w3.alloc (.cells #[.int .i64 xk, .int .i64 xn, .string xs, .slice q xl cq] 26)).heap.size = w3.heap.size + 1 := by simp
        have SZ := hide hz4
        obtain ⟨cs, Fs, a1, a2, a3, a4, a5, a6⟩ := unhide A4
        have OW := hide a1
        have SPP := hide (fun w2 g cp => unhide AS (w3.alloc (.cells #[.int .i64 xk, .int .i64 xn, .string xs, .slice q xl cq] 26)) w2 g cp (w1.heap.size) (m2) q cq cs Fs a1 a2 a3 a4 a5 a6 (unhide HX4) (unhide BM) (unhide M12) (by have := unhide M2s; omega))
        have BA := hide (show w.heap.size + 4 ≤ (w3.alloc (.cells #[.int .i64 xk, .int .i64 xn, .string xs, .slice q xl cq] 26)).heap.size from (unhide C4).lt)
        have WB := hide (show ∀ g, v.ownBlock = some g → w.heap.size + 4 ≤ g from fun g hg => (World.ownsRow.lt a1 g hg).1)
        have ON := hide (show ∀ u ∈ ([.int .i64 xk, .int .i64 xn, .string xs, .slice q xl cq] : List Value), u.oneCell' = true by intro u hu; simp only [List.mem_cons, List.not_mem_nil, or_false] at hu; rcases hu with rfl | rfl | rfl | rfl <;> rfl)
        clear a1 a2 a3 a4 a5 a6 A4 AS HX4 hb4 hz4 A3 H3
        go_wp2_with (first | (refine wpList_load_row rfl 26 _ rfl V0.heap.size rfl 26 #[.int .i64 xk, .int .i64 xn, .string xs, .slice q xl cq] (0, 0) _ (unhide G3) Tryd.underlying26 rfl (by kernel_rfl) ?_) | (at_builtin; go_must (refine wpList_append_to rfl (.tmp 56) (.tmp 58) 24 rfl (w.heap.size + 4) 26 i0 (.agg #[.int .i64 0, .int .i64 0, .string ⟨#[]⟩, .slice none 0 0]) 4 56 Tryd.underlying24 hi hz0 hz1 hz2 rfl (by decide) v i cs rfl (unhide OW) ⟨w3.heap.size, 0, none⟩ 1 1 [.int .i64 xk, .int .i64 xn, .string xs, .slice q xl cq] rfl rfl (unhide CN) (unhide ON) (by unfold maxLen; omega) (by omega) (unhide BA) (by omega) ?_; intro g4 cap4 w4 hown4 hgrow4 hwh4; have A5 := hide (unhide SPP w4 g4 cap4 hown4 hgrow4 hwh4); have C5 := (unhide C4).grown hgrow4 (unhide WB); have f4 : w4.frozen? ⟨w.heap.size + 3, 3, none⟩ = false := (by simp [World.frozen?, C5.out]); have o4 := Lib.cell_of_heap C5.out 3; have C6 := hide (C5.set3 (.slice (some ⟨g4, 0, none⟩) (i + 1 : Nat) cap4)); clear hown4 hgrow4 hwh4 C5)))
        go_roundw
        case rel => exact ⟨i + 1, _, by omega, by go_num, unhide C6, by
          rw [show (w4.setCell ⟨w.heap.size + 3, 3, none⟩ (.slice (some ⟨g4, 0, none⟩) (i + 1 : Nat) cap4)).heap.size = w4.heap.size by simp]
          exact (unhide A5).far ⟨w.heap.size + 3, 3, none⟩ _ (by show w.heap.size + 3 < w.heap.size + 4; omega)⟩
        case measure => simp [intOf]; omega
    · obtain rfl : i = len := by omega
      obtain ⟨a5, n5, c5, rfl⟩ : ∃ a n c, v = .slice a n c := by
        obtain ⟨_, _, ⟨_, ⟨e, _⟩ | ⟨g, cap', cur, e, _⟩⟩, _⟩ := hap
        · exact ⟨_, _, _, e⟩
        · exact ⟨_, _, _, e⟩
      have CZ := hide hcz
      have AP := hide hap
      clear hcz hap
      go_wp2_with (first | (refine wpList_load_row rfl 26 _ rfl (w.heap.size + 3) rfl 26 #[.int .i64 k, .int .i64 n, .string s, .slice a5 n5 c5] (0, 0) _ ((unhide CZ).out) Tryd.underlying26 rfl (by kernel_rfl) ?_) | (refine wpList_store_row rfl 26 _ _ rfl (w.heap.size + 2) #[.int .i64 k, .int .i64 n, .string s, .slice a5 n5 c5] rfl rfl 26 _ (unhide CZ).res szE rfl (ex_one _ _ _ _ _ _) ?_))
      refine bodyPost_ret (results_cell_row (P := Tryd.prog) rfl _ _ (w.heap.size + 2) 26 #[.int .i64 k, .int .i64 n, .string s, .slice a5 n5 c5] (0, 0) _ rfl (setRow_heap _ _ _ _ _ _ (unhide CZ).res) Tryd.underlying26 rfl szE) rfl ?_
      exact unhide FN _ _ _ _ _ _ _ _ (unhide CZ) (unhide AP)
set_option maxHeartbeats 16000000 in
theorem putS_mis (here : Ex) (L : List ByteArray) (vals : List Ex) (pk : Pk here L vals) (k n : Int) (s : ByteArray) (l : List Ex) (hlen : l.length ≤ 1100000) (ih : ∀ i, i < l.length → PuP here L vals (xAt l i)) (h3 : (k == 3) = false) (h2 : (k == 2) = true) (hat : atV L s < 0) : PuP here L vals ⟨k, n, s, l⟩ := by
  intro b hb va cap hcp gn vcp w hr hv
  have EQ := hide (show putX here L vals ⟨k, n, s, l⟩ = ⟨k, n, s, l.map (putX here L vals)⟩ by rw [putX_eq]; unfold putC; rw [if_neg (beq_eq_false_iff_ne.1 h3), if_neg (fun h => by omega)])
  rw [unhide EQ]
  have hrr := (RdX_eq _ _ _ _).1 hr
  have PV := hide (fun wr (h : Below w.heap.size w wr) => hv.later h)
  have FN := hide (fun (w' : World) (a : Option Addr) (n' cp : Nat) (pe ph row : Array Value) (M : Nat) => put_fin (k := k) (m := n) (s := s) (l := l.map (putX here L vals)) (w := w) (w' := w') (a := a) (n := n') (cp := cp) (pe := pe) (ph := ph) (M := M) row)
  generalize hX : GiR _ (Up w) w = X at *
  have hml : (l.map (putX here L vals)).length = l.length := List.length_map _
  rw [hml] at FN
  have XM := hide (fun i (h : i < l.length) => xAt_map (putX here L vals) l i h)
  generalize l.map (putX here L vals) = l' at *
  obtain ⟨len, hle⟩ : ∃ len, l.length = len := ⟨_, rfl⟩
  have IH := hide (fun i (h : i < l.length) (b' : Option Addr) (cap' : Nat) wr (h1 : RdX wr 0 (xAt l i) b') (h2 : Below w.heap.size w wr) => ih i h b' hb va cap' hcp gn vcp wr h1 (unhide PV wr h2))
  unfold Ex.cs at IH ⊢
  have hrl : l = [] ∨ ∃ p off, b = some ⟨p, off, none⟩ ∧ p < w.heap.size ∧ ∀ i, i < l.length → OneX w 0 p (off + i * 4) (xAt l i) := by
    rcases hrr with h | ⟨p, off, ha, _, hp, hc⟩
    · exact .inl h
    · exact .inr ⟨p, off, ha, hp, hc⟩
  show Calls Tryd.prog 54 #[.agg #[.int .i64 k, .int .i64 n, .string s, .slice b l.length cap], .agg #[.int .i64 here.k, .int .i64 here.n, .string here.s, .slice hb here.l.length hcp], .slice (some ⟨gn, 0, none⟩) L.length L.length, .slice va vals.length vcp] w X
  rw [hle] at hlen FN XM IH ⊢
  generalize here.k = hk at *
  generalize here.n = hn at *
  generalize here.s = hs at *
  generalize here.l.length = hl at *
  obtain ⟨i0, hi, hz0, hz1, hz2⟩ := info_parts infoX
  have C0 := hide (Pz.new (k := k) (n := n) (s := s) (v := .slice none 0 0) w #[.int .i64 k, .int .i64 n, .string s, .slice b len cap] #[.int .i64 hk, .int .i64 hn, .string hs, .slice hb hl hcp])
  have AT := hide (fun wr (h : Below w.heap.size w wr) => at_anyF L s gn L.length L.length wr rfl pk.n (unhide PV wr h).n)
  have BY := hide (By.new w #[.int .i64 k, .int .i64 n, .string s, .slice b len cap] #[.int .i64 hk, .int .i64 hn, .string hs, .slice hb hl hcp]).bel
  generalize atV L s = av at *
  clear hX hr hv EQ pk ih hrr hml
  go_enter Tryd.func54, Tryd.ntmps54
  go_wp2_with (go_at_call 81; refine (unhide AT _ (unhide BY)).mono ?_; rintro e w' ⟨rfl, hw'⟩; rw [hw']; clear hw' w')
  generalize (((w.alloc (.cells #[.int .i64 k, .int .i64 n, .string s, .slice b len cap] 26)).alloc (.cells #[.int .i64 hk, .int .i64 hn, .string hs, .slice hb hl hcp] 26)).alloc (.cells #[.int .i64 0, .int .i64 0, .string ⟨#[]⟩, .slice none 0 0] 26)).alloc (.cells #[.int .i64 k, .int .i64 n, .string s, .slice none 0 0] 26) = W at *
  go_loopw [11] (fun i wr => ∃ (j : Nat) (v : Value), j ≤ len ∧ i = .int .i64 j ∧ Pz w wr #[.int .i64 k, .int .i64 n, .string s, .slice b len cap] #[.int .i64 hk, .int .i64 hn, .string hs, .slice hb hl hcp] k n s v ∧ ApX wr (w.heap.size + 4) l' j v wr.heap.size) (fun i _ => len - (intOf i).toNat)
  case atStart => exact ⟨0, _, Nat.zero_le _, rfl, unhide C0, ApX.nil _ _ _ _⟩
  case round =>
    clear C0
    obtain ⟨i, v, hij, rfl, hcz, hap⟩ := hrel
    have b3 := Lib.cell_of_heap hcz.be 3
    by_cases hlt : i < len
    · rcases hrl with h0 | ⟨p, off, rfl, hpl, hc⟩
      · rw [h0] at hle; simp at hle; omega
      obtain ⟨c0, c1, c2, c, ca, c3, c4⟩ := hc i (by omega)
      have hbd : Below w.heap.size w wr.drew := hcz.bel.trans ((below_drew (w := wr)).mono hcz.bel.size)
      have HT := hide (fun wx (h : Below w.heap.size w wx) => unhide IH i hlt c ca wx (c4.later h) h)
      have hx := unhide XM i hlt
      have AS := hide (fun (w1 w2 : World) (g cp M M' : Nat) (q : Option Addr) (cq : Nat) cs Fs h1 h2 h3 h4 h5 h6 hx hBM hM hM' ho hg hw => ApX.step (w := w1) (w' := w2) (B := w.heap.size + 4) (k := i) (M := M) (M' := M') (l := l') (v := v) (cs := cs) (Fs := Fs) (q := q) (cp := cq) (g := g) (cap := cp) h1 h2 h3 h4 h5 h6 hx hBM hM hM' ho hg hw)
      unfold GiR Ex.cs at HT
      unfold exL at AS
      rw [← hx] at HT
      generalize xAt l' i = x at *
      generalize (xAt l i).k = ak at *
      generalize (xAt l i).n = an at *
      generalize (xAt l i).s = asx at *
      generalize (xAt l i).l.length = al at *
      have AS2 := hide (unhide AS)
      generalize x.k = xk at HT AS2
      generalize x.n = xn at HT AS2
      generalize x.s = xs at HT AS2
      generalize x.l.length = xl at HT AS2
      clear AS
      have AS := hide (unhide AS2)
      have D0 := hide (show (fun v => v.heap[w.heap.size]? = some (.cells #[.int .i64 k, .int .i64 n, .string s, .slice (some ⟨p, off, none⟩) len cap] 26 (0, 0)) ∧ v.heap[w.heap.size + 1]? = some (.cells #[.int .i64 hk, .int .i64 hn, .string hs, .slice hb hl hcp] 26 (0, 0)) ∧ (v.cell? ⟨p, off + i * 4, none⟩ = some (.int .i64 ak) ∧ v.cell? ⟨p, off + i * 4 + 1, none⟩ = some (.int .i64 an) ∧ v.cell? ⟨p, off + i * 4 + 2, none⟩ = some (.string asx) ∧ v.cell? ⟨p, off + i * 4 + 3, none⟩ = some (.slice c al ca))) wr.drew from ⟨hcz.be, hcz.bh, ⟨(hbd.cell (p := ⟨p, _, none⟩) hpl).trans c0, (hbd.cell (p := ⟨p, _, none⟩) hpl).trans c1, (hbd.cell (p := ⟨p, _, none⟩) hpl).trans c2, (hbd.cell (p := ⟨p, _, none⟩) hpl).trans c3⟩⟩)
      have CZ0 := hide (hcz.later (below_drew (w := wr)))
      have AP0 := hide (hap.later (below_drew (w := wr)) (Nat.le_refl _))
      have M0 := hide (show wr.heap.size ≤ wr.drew.heap.size from Nat.le_refl _)
      have hplW : p < wr.drew.heap.size := Nat.lt_of_lt_of_le hpl hbd.size
      have BD := hide hbd
      have WL := hide hcz.lt
      clear c0 c1 c2 c3 c4 hc hcz hap hx AS2 IH XM hbd FN
      go_wp2_with fail
      refine wp_region_held_drew (S := fun v => v.heap[w.heap.size]? = some (.cells #[.int .i64 k, .int .i64 n, .string s, .slice (some ⟨p, off, none⟩) len cap] 26 (0, 0)) ∧ v.heap[w.heap.size + 1]? = some (.cells #[.int .i64 hk, .int .i64 hn, .string hs, .slice hb hl hcp] 26 (0, 0)) ∧ (v.cell? ⟨p, off + i * 4, none⟩ = some (.int .i64 ak) ∧ v.cell? ⟨p, off + i * 4 + 1, none⟩ = some (.int .i64 an) ∧ v.cell? ⟨p, off + i * 4 + 2, none⟩ = some (.string asx) ∧ v.cell? ⟨p, off + i * 4 + 3, none⟩ = some (.slice c al ca))) (by kernel_rfl) (unhide D0) (fun hS => ?_)
      have HS := hide hS
      clear hS b3
      generalize hV0 : wr.drew = V0 at *
      have HV := hide (show V0.heap.size = wr.heap.size by rw [← hV0]; rfl)
      clear hV0
      refine wpAnyH_take (i := 0) (v := .pointer (some ⟨w.heap.size, 3, none⟩)) rfl (by kernel_rfl) (by kernel_rfl) (by kernel_rfl) (fun _ _ _ h => h) (Or.inl ⟨by rfl, fun w hc => ?_⟩) (unhide HS) ?_
      · clear hc; go_simp
      go_simp
      refine wpAnyH_take (i := 1) (v := .slice (some ⟨p, off, none⟩) len cap) rfl (by kernel_rfl) (by kernel_rfl) (by kernel_rfl) (fun _ _ _ h => h) (Or.inl ⟨by rfl, fun w hc => ?_⟩) (unhide HS) ?_
      · have q := Lib.cell_of_heap hc.1 3; clear hc; go_simp
      go_simp
      refine wpAnyH_take (i := 2) (v := .int .i64 i) rfl (by kernel_rfl) (by kernel_rfl) (by kernel_rfl) (fun _ _ _ h => h) (Or.inl ⟨by rfl, fun w hc => ?_⟩) (unhide HS) ?_
      · clear hc; go_simp
      go_simp
      refine wpAnyH_take (i := 3) (v := .pointer (some ⟨p, off + i * 4, none⟩)) rfl (by kernel_rfl) (by kernel_rfl) (by kernel_rfl) (fun _ _ _ h => h) (Or.inl ⟨by rfl, fun w hc => ?_⟩) (unhide HS) ?_
      · clear hc; go_simp
      go_simp
      refine wpAnyH_take (i := 4) (v := .agg #[.int .i64 ak, .int .i64 an, .string asx, .slice c al ca]) rfl (by kernel_rfl) (by kernel_rfl) (by kernel_rfl) (fun _ _ _ h => h) (Or.inl ⟨by rfl, fun w hc => ?_⟩) (unhide HS) ?_
      · obtain ⟨_, _, h0, h1, h2, h3⟩ := hc; go_simp
      go_simp
      refine wpAnyH_take (i := 5) (v := .agg #[.int .i64 hk, .int .i64 hn, .string hs, .slice hb hl hcp]) rfl (by kernel_rfl) (by kernel_rfl) (by kernel_rfl) (fun _ _ _ h => h) (yields_loadG (by rfl) 26 _ rfl (w.heap.size + 1) rfl 26 #[.int .i64 hk, .int .i64 hn, .string hs, .slice hb hl hcp] _ (fun w h => h.2.1) Tryd.underlying26 rfl (by kernel_rfl)) (unhide HS) ?_
      go_simp
      refine wpAnyH_take (i := 6) (v := .slice (some ⟨gn, 0, none⟩) L.length L.length) rfl (by kernel_rfl) (by kernel_rfl) (by kernel_rfl) (fun _ _ _ h => h) (Or.inl ⟨by rfl, fun w hc => ?_⟩) (unhide HS) ?_
      · clear hc; go_simp
      go_simp
      refine wpAnyH_take (i := 7) (v := .slice va vals.length vcp) rfl (by kernel_rfl) (by kernel_rfl) (by kernel_rfl) (fun _ _ _ h => h) (Or.inl ⟨by rfl, fun w hc => ?_⟩) (unhide HS) ?_
      · clear hc; go_simp
      go_simp
      refine wpAnyH_ready (rs := [8, 9]) (by kernel_rfl) (by simp) ?_
      refine AllReadyH.cons rfl (fun K2 hK => ?_) (AllReadyH.cons rfl (fun K2 hK => ?_) AllReadyH.nil)
      · go_simp
        refine (unhide HT V0 (unhide BD)).mono ?_
        rintro r w1 ⟨q, cq, rfl, hq, hb1⟩
        refine hK.out _ _ (⟨row_keep (unhide D0).1 hb1, row_keep (unhide D0).2.1 hb1, ⟨(hb1.cell (p := ⟨p, _, none⟩) hplW).trans (unhide D0).2.2.1, (hb1.cell (p := ⟨p, _, none⟩) hplW).trans (unhide D0).2.2.2.1, (hb1.cell (p := ⟨p, _, none⟩) hplW).trans (unhide D0).2.2.2.2.1, (hb1.cell (p := ⟨p, _, none⟩) hplW).trans (unhide D0).2.2.2.2.2⟩⟩) (fun hS => ?_)
        clear HS
        have HS := hide hS
        clear hS hK K2
        have HQ := hide (show NewX w1 V0.heap.size x q from hq).half
        have HB1 := hide hb1
        clear hq hb1
        refine wpAnyH_ready (rs := [9]) (by kernel_rfl) (by simp) ?_
        refine AllReadyH.cons rfl (fun K2 hK => ?_) AllReadyH.nil
        go_simp
        have hb2 := below_new w1 (.cells #[.int .i64 0, .int .i64 0, .string ⟨#[]⟩, .slice none 0 0] 26)
        have hb12 := (unhide HB1).trans (hb2.mono (unhide HB1).size)
        refine hK.out _ _ (⟨row_keep (unhide D0).1 hb12, row_keep (unhide D0).2.1 hb12, ⟨(hb12.cell (p := ⟨p, _, none⟩) hplW).trans (unhide D0).2.2.1, (hb12.cell (p := ⟨p, _, none⟩) hplW).trans (unhide D0).2.2.2.1, (hb12.cell (p := ⟨p, _, none⟩) hplW).trans (unhide D0).2.2.2.2.1, (hb12.cell (p := ⟨p, _, none⟩) hplW).trans (unhide D0).2.2.2.2.2⟩⟩) (fun hS => ?_)
        clear HS
        have HS := hide hS
        clear hS hK K2
        have GZ := hide (show (w1.alloc (.cells #[.int .i64 0, .int .i64 0, .string ⟨#[]⟩, .slice none 0 0] 26)).heap[w1.heap.size]? = some (.cells #[.int .i64 0, .int .i64 0, .string ⟨#[]⟩, .slice none 0 0] 26 (0, 0)) from Array.getElem?_push_size)
        have BV := hide hb12
        have GXL := hide (show V0.heap.size ≤ w1.heap.size from (unhide HB1).size)
        have HG := hide (show ∀ w3 : World, (∀ b, b ≠ w1.heap.size → w3.heap[b]? = (w1.alloc (.cells #[.int .i64 0, .int .i64 0, .string ⟨#[]⟩, .slice none 0 0] 26)).heap[b]?) → HalfX w3 V0.heap.size w1.heap.size x q from fun w3 h => by
          obtain ⟨F, f1, f2, f3⟩ := (unhide HQ).later hb2
          exact ⟨F, OwX.keep x q F (fun b hF => h b (by have := (f3 b hF).2; omega)) f1, f2, f3⟩)
        have M01 := hide (show wr.heap.size ≤ V0.heap.size from unhide M0)
        have BM := hide (show w.heap.size + 4 ≤ V0.heap.size by rw [unhide HV]; exact unhide WL)
        have M12 := hide (show V0.heap.size ≤ w1.heap.size from (unhide HB1).size)
        have M1s := hide (show V0.heap.size ≤ (w1.alloc (.cells #[.int .i64 0, .int .i64 0, .string ⟨#[]⟩, .slice none 0 0] 26)).heap.size from hb12.size)
        have M2w := hide (show w1.heap.size ≤ (w1.alloc (.cells #[.int .i64 0, .int .i64 0, .string ⟨#[]⟩, .slice none 0 0] 26)).heap.size from hb2.size)
        clear HQ hb2 hb12 HB1
        generalize w1.alloc (.cells #[.int .i64 0, .int .i64 0, .string ⟨#[]⟩, .slice none 0 0] 26) = w2 at *
        refine wpAnyH_ready (rs := [10]) (by kernel_rfl) (by simp) ?_
        refine AllReadyH.cons rfl (fun K2 hK => ?_) AllReadyH.nil
        rw [if_pos (by rfl)]
        refine wp_store_row 26 _ _ rfl (w1.heap.size) #[.int .i64 xk, .int .i64 xn, .string xs, .slice q xl cq] rfl rfl 26 _ (unhide GZ) szE rfl (ex_one _ _ _ _ _ _) ?_
        have hbs := hide (show Below V0.heap.size V0 (w2.setRow (w1.heap.size) #[.int .i64 xk, .int .i64 xn, .string xs, .slice q xl cq]) from (unhide BV).grown (grownBy_row _) (unhide BV).size (fun q e => by cases e; exact unhide GXL))
        refine hK.out _ _ (⟨row_keep (unhide D0).1 (unhide hbs), row_keep (unhide D0).2.1 (unhide hbs), ⟨((unhide hbs).cell (p := ⟨p, _, none⟩) hplW).trans (unhide D0).2.2.1, ((unhide hbs).cell (p := ⟨p, _, none⟩) hplW).trans (unhide D0).2.2.2.1, ((unhide hbs).cell (p := ⟨p, _, none⟩) hplW).trans (unhide D0).2.2.2.2.1, ((unhide hbs).cell (p := ⟨p, _, none⟩) hplW).trans (unhide D0).2.2.2.2.2⟩⟩) (fun hS => ?_)
        clear HS
        have HS := hide hS
        clear hS hK K2
        have C3 := hide ((unhide CZ0).later (unhide hbs))
        have A3 := hide (((unhide AP0).later (unhide hbs) (unhide M0)).upto (show wr.heap.size ≤ V0.heap.size from unhide M01))
        have G3 := hide (setRow_heap w2 (w1.heap.size) _ #[.int .i64 xk, .int .i64 xn, .string xs, .slice q xl cq] _ _ (unhide GZ))
        have H3 := hide (unhide HG (w2.setRow (w1.heap.size) #[.int .i64 xk, .int .i64 xn, .string xs, .slice q xl cq]) (fun b hne => setRow_other w2 (w1.heap.size) b #[.int .i64 xk, .int .i64 xn, .string xs, .slice q xl cq] hne))
        have zs : (w2.setRow (w1.heap.size) #[.int .i64 xk, .int .i64 xn, .string xs, .slice q xl cq]).heap.size = w2.heap.size := by simp [World.setRow]
        have M3 := hide (show V0.heap.size ≤ (w2.setRow (w1.heap.size) #[.int .i64 xk, .int .i64 xn, .string xs, .slice q xl cq]).heap.size by rw [zs]; exact unhide M1s)
        have M2s := hide (show w1.heap.size ≤ (w2.setRow (w1.heap.size) #[.int .i64 xk, .int .i64 xn, .string xs, .slice q xl cq]).heap.size by rw [zs]; exact unhide M2w)
        clear hbs GZ HG BV CZ0 AP0 D0 zs
        generalize w2.setRow (w1.heap.size) #[.int .i64 xk, .int .i64 xn, .string xs, .slice q xl cq] = w3 at *
        refine wpAnyH_done (by kernel_rfl) ?_ _
        clear HS
        have o3 := Lib.cell_of_heap (unhide C3).out 3
        have hb4 := below_new w3 (.cells #[.int .i64 xk, .int .i64 xn, .string xs, .slice q xl cq] 26)
        have C4 := hide ((unhide C3).later hb4)
        have A4 := hide ((unhide A3).later hb4 (unhide M3))
        have CN := hide (cell_newF w3 #[.int .i64 xk, .int .i64 xn, .string xs, .slice q xl cq] 26)
        have HX4 := hide ((unhide H3).later hb4)
        have hz4 : (w3.alloc (.cells #[.int .i64 xk, .int .i64 xn, .string xs, .slice q xl cq] 26)).heap.size = w3.heap.size + 1 := by simp
        have SZ := hide hz4
        obtain ⟨cs, Fs, a1, a2, a3, a4, a5, a6⟩ := unhide A4
        have OW := hide a1
        have SPP := hide (fun w2 g cp => unhide AS (w3.alloc (.cells #[.int .i64 xk, .int .i64 xn, .string xs, .slice q xl cq] 26)) w2 g cp (V0.heap.size) (w1.heap.size) q cq cs Fs a1 a2 a3 a4 a5 a6 (unhide HX4) (unhide BM) (unhide M12) (by have := unhide M2s; omega))
        have BA := hide (show w.heap.size + 4 ≤ (w3.alloc (.cells #[.int .i64 xk, .int .i64 xn, .string xs, .slice q xl cq] 26)).heap.size from (unhide C4).lt)
        have WB := hide (show ∀ g, v.ownBlock = some g → w.heap.size + 4 ≤ g from fun g hg => (World.ownsRow.lt a1 g hg).1)
        have ON := hide (show ∀ u ∈ ([.int .i64 xk, .int .i64 xn, .string xs, .slice q xl cq] : List Value), u.oneCell' = true by intro u hu; simp only [List.mem_cons, List.not_mem_nil, or_false] at hu; rcases hu with rfl | rfl | rfl | rfl <;> rfl)
        clear a1 a2 a3 a4 a5 a6 A4 AS HX4 hb4 hz4 A3 H3
        go_wp2_with (first | (refine wpList_load_row rfl 26 _ rfl w1.heap.size rfl 26 #[.int .i64 xk, .int .i64 xn, .string xs, .slice q xl cq] (0, 0) _ (unhide G3) Tryd.underlying26 rfl (by kernel_rfl) ?_) | (at_builtin; go_must (refine wpList_append_to rfl (.tmp 56) (.tmp 58) 24 rfl (w.heap.size + 4) 26 i0 (.agg #[.int .i64 0, .int .i64 0, .string ⟨#[]⟩, .slice none 0 0]) 4 56 Tryd.underlying24 hi hz0 hz1 hz2 rfl (by decide) v i cs rfl (unhide OW) ⟨w3.heap.size, 0, none⟩ 1 1 [.int .i64 xk, .int .i64 xn, .string xs, .slice q xl cq] rfl rfl (unhide CN) (unhide ON) (by unfold maxLen; omega) (by omega) (unhide BA) (by omega) ?_; intro g4 cap4 w4 hown4 hgrow4 hwh4; have A5 := hide (unhide SPP w4 g4 cap4 hown4 hgrow4 hwh4); have C5 := (unhide C4).grown hgrow4 (unhide WB); have f4 : w4.frozen? ⟨w.heap.size + 3, 3, none⟩ = false := (by simp [World.frozen?, C5.out]); have o4 := Lib.cell_of_heap C5.out 3; have C6 := hide (C5.set3 (.slice (some ⟨g4, 0, none⟩) (i + 1 : Nat) cap4)); clear hown4 hgrow4 hwh4 C5)))
        go_roundw
        case rel => exact ⟨i + 1, _, by omega, by go_num, unhide C6, by
          rw [show (w4.setCell ⟨w.heap.size + 3, 3, none⟩ (.slice (some ⟨g4, 0, none⟩) (i + 1 : Nat) cap4)).heap.size = w4.heap.size by simp]
          exact (unhide A5).far ⟨w.heap.size + 3, 3, none⟩ _ (by show w.heap.size + 3 < w.heap.size + 4; omega)⟩
        case measure => simp [intOf]; omega
      · go_simp
        have hb1 := below_new V0 (.cells #[.int .i64 0, .int .i64 0, .string ⟨#[]⟩, .slice none 0 0] 26)
        have gz1 := (show (V0.alloc (.cells #[.int .i64 0, .int .i64 0, .string ⟨#[]⟩, .slice none 0 0] 26)).heap[V0.heap.size]? = some (.cells #[.int .i64 0, .int .i64 0, .string ⟨#[]⟩, .slice none 0 0] 26 (0, 0)) from Array.getElem?_push_size)
        have zl : V0.heap.size < (V0.alloc (.cells #[.int .i64 0, .int .i64 0, .string ⟨#[]⟩, .slice none 0 0] 26)).heap.size := by simp
        refine hK.out _ _ (⟨row_keep (unhide D0).1 hb1, row_keep (unhide D0).2.1 hb1, ⟨(hb1.cell (p := ⟨p, _, none⟩) hplW).trans (unhide D0).2.2.1, (hb1.cell (p := ⟨p, _, none⟩) hplW).trans (unhide D0).2.2.2.1, (hb1.cell (p := ⟨p, _, none⟩) hplW).trans (unhide D0).2.2.2.2.1, (hb1.cell (p := ⟨p, _, none⟩) hplW).trans (unhide D0).2.2.2.2.2⟩⟩) (fun hS => ?_)
        clear HS
        have HS := hide hS
        clear hS hK K2
        have HB1 := hide hb1
        have GZ1 := hide gz1
        have ZL := hide zl
        clear hb1 gz1 zl
        generalize V0.alloc (.cells #[.int .i64 0, .int .i64 0, .string ⟨#[]⟩, .slice none 0 0] 26) = w1 at *
        have BD1 := hide ((unhide BD).trans ((unhide HB1).mono (unhide BD).size))
        refine wpAnyH_ready (rs := [8]) (by kernel_rfl) (by simp) ?_
        refine AllReadyH.cons rfl (fun K2 hK => ?_) AllReadyH.nil
        go_simp
        refine (unhide HT w1 (unhide BD1)).mono ?_
        rintro r w2 ⟨q, cq, rfl, hq, hb2⟩
        have hb12 := (unhide HB1).trans (hb2.mono (unhide HB1).size)
        refine hK.out _ _ (⟨row_keep (unhide D0).1 hb12, row_keep (unhide D0).2.1 hb12, ⟨(hb12.cell (p := ⟨p, _, none⟩) hplW).trans (unhide D0).2.2.1, (hb12.cell (p := ⟨p, _, none⟩) hplW).trans (unhide D0).2.2.2.1, (hb12.cell (p := ⟨p, _, none⟩) hplW).trans (unhide D0).2.2.2.2.1, (hb12.cell (p := ⟨p, _, none⟩) hplW).trans (unhide D0).2.2.2.2.2⟩⟩) (fun hS => ?_)
        clear HS
        have HS := hide hS
        clear hS hK K2
        have GZ := hide (row_keep (unhide GZ1) hb2)
        have BV := hide hb12
        have GXL := hide (Nat.le_refl V0.heap.size)
        have HG := hide (show ∀ w3 : World, (∀ b, b ≠ V0.heap.size → w3.heap[b]? = w2.heap[b]?) → HalfX w3 w1.heap.size w2.heap.size x q from fun w3 h => by
          obtain ⟨F, f1, f2, f3⟩ := (show NewX w2 w1.heap.size x q from hq).half
          exact ⟨F, OwX.keep x q F (fun b hF => h b (by have := (f3 b hF).1; have := unhide ZL; omega)) f1, f2, f3⟩)
        have M01 := hide (show wr.heap.size ≤ w1.heap.size from Nat.le_trans (unhide M0) (unhide HB1).size)
        have BM := hide (show w.heap.size + 4 ≤ w1.heap.size by have := unhide HV; have := unhide WL; have := (unhide HB1).size; omega)
        have M12 := hide (show w1.heap.size ≤ w2.heap.size from hb2.size)
        have M1s := hide (show w1.heap.size ≤ w2.heap.size from hb2.size)
        have M2w := hide (show w2.heap.size ≤ w2.heap.size from Nat.le_refl _)
        clear hq hb2 hb12 HB1 GZ1 ZL BD1
        obtain ⟨m2, hm2⟩ : ∃ m2, w2.heap.size = m2 := ⟨_, rfl⟩
        rw [hm2] at HG M12 M2w
        have HM2 := hide hm2
        clear hm2
        refine wpAnyH_ready (rs := [10]) (by kernel_rfl) (by simp) ?_
        refine AllReadyH.cons rfl (fun K2 hK => ?_) AllReadyH.nil
        rw [if_pos (by rfl)]
        refine wp_store_row 26 _ _ rfl (V0.heap.size) #[.int .i64 xk, .int .i64 xn, .string xs, .slice q xl cq] rfl rfl 26 _ (unhide GZ) szE rfl (ex_one _ _ _ _ _ _) ?_
        have hbs := hide (show Below V0.heap.size V0 (w2.setRow (V0.heap.size) #[.int .i64 xk, .int .i64 xn, .string xs, .slice q xl cq]) from (unhide BV).grown (grownBy_row _) (unhide BV).size (fun q e => by cases e; exact unhide GXL))
        refine hK.out _ _ (⟨row_keep (unhide D0).1 (unhide hbs), row_keep (unhide D0).2.1 (unhide hbs), ⟨((unhide hbs).cell (p := ⟨p, _, none⟩) hplW).trans (unhide D0).2.2.1, ((unhide hbs).cell (p := ⟨p, _, none⟩) hplW).trans (unhide D0).2.2.2.1, ((unhide hbs).cell (p := ⟨p, _, none⟩) hplW).trans (unhide D0).2.2.2.2.1, ((unhide hbs).cell (p := ⟨p, _, none⟩) hplW).trans (unhide D0).2.2.2.2.2⟩⟩) (fun hS => ?_)
        clear HS
        have HS := hide hS
        clear hS hK K2
        have C3 := hide ((unhide CZ0).later (unhide hbs))
        have A3 := hide (((unhide AP0).later (unhide hbs) (unhide M0)).upto (show wr.heap.size ≤ w1.heap.size from unhide M01))
        have G3 := hide (setRow_heap w2 (V0.heap.size) _ #[.int .i64 xk, .int .i64 xn, .string xs, .slice q xl cq] _ _ (unhide GZ))
        have H3 := hide (unhide HG (w2.setRow (V0.heap.size) #[.int .i64 xk, .int .i64 xn, .string xs, .slice q xl cq]) (fun b hne => setRow_other w2 (V0.heap.size) b #[.int .i64 xk, .int .i64 xn, .string xs, .slice q xl cq] hne))
        have zs : (w2.setRow (V0.heap.size) #[.int .i64 xk, .int .i64 xn, .string xs, .slice q xl cq]).heap.size = w2.heap.size := by simp [World.setRow]
        have M3 := hide (show w1.heap.size ≤ (w2.setRow (V0.heap.size) #[.int .i64 xk, .int .i64 xn, .string xs, .slice q xl cq]).heap.size by rw [zs]; exact unhide M1s)
        have M2s := hide (show m2 ≤ (w2.setRow (V0.heap.size) #[.int .i64 xk, .int .i64 xn, .string xs, .slice q xl cq]).heap.size by rw [zs, unhide HM2]; exact unhide M2w)
        clear hbs GZ HG BV CZ0 AP0 D0 zs
        generalize w2.setRow (V0.heap.size) #[.int .i64 xk, .int .i64 xn, .string xs, .slice q xl cq] = w3 at *
        refine wpAnyH_done (by kernel_rfl) ?_ _
        clear HS
        have o3 := Lib.cell_of_heap (unhide C3).out 3
        have hb4 := below_new w3 (.cells #[.int .i64 xk, .int .i64 xn, .string xs, .slice q xl cq] 26)
        have C4 := hide ((unhide C3).later hb4)
        have A4 := hide ((unhide A3).later hb4 (unhide M3))
        have CN := hide (cell_newF w3 #[.int .i64 xk, .int .i64 xn, .string xs, .slice q xl cq] 26)
        have HX4 := hide ((unhide H3).later hb4)
        have hz4 : (w3.alloc (.cells #[.int .i64 xk, .int .i64 xn, .string xs, .slice q xl cq] 26)).heap.size = w3.heap.size + 1 := by simp
        have SZ := hide hz4
        obtain ⟨cs, Fs, a1, a2, a3, a4, a5, a6⟩ := unhide A4
        have OW := hide a1
        have SPP := hide (fun w2 g cp => unhide AS (w3.alloc (.cells #[.int .i64 xk, .int .i64 xn, .string xs, .slice q xl cq] 26)) w2 g cp (w1.heap.size) (m2) q cq cs Fs a1 a2 a3 a4 a5 a6 (unhide HX4) (unhide BM) (unhide M12) (by have := unhide M2s; omega))
        have BA := hide (show w.heap.size + 4 ≤ (w3.alloc (.cells #[.int .i64 xk, .int .i64 xn, .string xs, .slice q xl cq] 26)).heap.size from (unhide C4).lt)
        have WB := hide (show ∀ g, v.ownBlock = some g → w.heap.size + 4 ≤ g from fun g hg => (World.ownsRow.lt a1 g hg).1)
        have ON := hide (show ∀ u ∈ ([.int .i64 xk, .int .i64 xn, .string xs, .slice q xl cq] : List Value), u.oneCell' = true by intro u hu; simp only [List.mem_cons, List.not_mem_nil, or_false] at hu; rcases hu with rfl | rfl | rfl | rfl <;> rfl)
        clear a1 a2 a3 a4 a5 a6 A4 AS HX4 hb4 hz4 A3 H3
        go_wp2_with (first | (refine wpList_load_row rfl 26 _ rfl V0.heap.size rfl 26 #[.int .i64 xk, .int .i64 xn, .string xs, .slice q xl cq] (0, 0) _ (unhide G3) Tryd.underlying26 rfl (by kernel_rfl) ?_) | (at_builtin; go_must (refine wpList_append_to rfl (.tmp 56) (.tmp 58) 24 rfl (w.heap.size + 4) 26 i0 (.agg #[.int .i64 0, .int .i64 0, .string ⟨#[]⟩, .slice none 0 0]) 4 56 Tryd.underlying24 hi hz0 hz1 hz2 rfl (by decide) v i cs rfl (unhide OW) ⟨w3.heap.size, 0, none⟩ 1 1 [.int .i64 xk, .int .i64 xn, .string xs, .slice q xl cq] rfl rfl (unhide CN) (unhide ON) (by unfold maxLen; omega) (by omega) (unhide BA) (by omega) ?_; intro g4 cap4 w4 hown4 hgrow4 hwh4; have A5 := hide (unhide SPP w4 g4 cap4 hown4 hgrow4 hwh4); have C5 := (unhide C4).grown hgrow4 (unhide WB); have f4 : w4.frozen? ⟨w.heap.size + 3, 3, none⟩ = false := (by simp [World.frozen?, C5.out]); have o4 := Lib.cell_of_heap C5.out 3; have C6 := hide (C5.set3 (.slice (some ⟨g4, 0, none⟩) (i + 1 : Nat) cap4)); clear hown4 hgrow4 hwh4 C5)))
        go_roundw
        case rel => exact ⟨i + 1, _, by omega, by go_num, unhide C6, by
          rw [show (w4.setCell ⟨w.heap.size + 3, 3, none⟩ (.slice (some ⟨g4, 0, none⟩) (i + 1 : Nat) cap4)).heap.size = w4.heap.size by simp]
          exact (unhide A5).far ⟨w.heap.size + 3, 3, none⟩ _ (by show w.heap.size + 3 < w.heap.size + 4; omega)⟩
        case measure => simp [intOf]; omega
    · obtain rfl : i = len := by omega
      obtain ⟨a5, n5, c5, rfl⟩ : ∃ a n c, v = .slice a n c := by
        obtain ⟨_, _, ⟨_, ⟨e, _⟩ | ⟨g, cap', cur, e, _⟩⟩, _⟩ := hap
        · exact ⟨_, _, _, e⟩
        · exact ⟨_, _, _, e⟩
      have CZ := hide hcz
      have AP := hide hap
      clear hcz hap
      go_wp2_with (first | (refine wpList_load_row rfl 26 _ rfl (w.heap.size + 3) rfl 26 #[.int .i64 k, .int .i64 n, .string s, .slice a5 n5 c5] (0, 0) _ ((unhide CZ).out) Tryd.underlying26 rfl (by kernel_rfl) ?_) | (refine wpList_store_row rfl 26 _ _ rfl (w.heap.size + 2) #[.int .i64 k, .int .i64 n, .string s, .slice a5 n5 c5] rfl rfl 26 _ (unhide CZ).res szE rfl (ex_one _ _ _ _ _ _) ?_))
      refine bodyPost_ret (results_cell_row (P := Tryd.prog) rfl _ _ (w.heap.size + 2) 26 #[.int .i64 k, .int .i64 n, .string s, .slice a5 n5 c5] (0, 0) _ rfl (setRow_heap _ _ _ _ _ _ (unhide CZ).res) Tryd.underlying26 rfl szE) rfl ?_
      exact unhide FN _ _ _ _ _ _ _ _ (unhide CZ) (unhide AP)
theorem sz_parts (k n : Int) (s : ByteArray) (l : List Ex) : l.length ≤ (Ex.mk k n s l).sz ∧ ∀ x ∈ l, x.sz ≤ (Ex.mk k n s l).sz := by
  rw [Ex.sz_eq]
  refine ⟨by omega, fun x hx => ?_⟩
  have : x.sz ≤ (l.map Ex.sz).sum := by
    clear k n s
    induction l with
    | nil => cases hx
    | cons a r ih =>
      simp only [List.map_cons, List.sum_cons]
      rcases List.mem_cons.1 hx with rfl | hx
      · omega
      · have := ih hx; omega
  omega
theorem putS_any (here : Ex) (L : List ByteArray) (vals : List Ex) (pk : Pk here L vals) (e : Ex) : e.sz ≤ 1100000 → PuP here L vals e := by
  induction e using Ex.ind with
  | h k n s l ih =>
    intro hz
    obtain ⟨h1, h2⟩ := sz_parts k n s l
    have ihs : ∀ i, i < l.length → PuP here L vals (xAt l i) := fun i hi => ih _ (xAt_mem hi) (Nat.le_trans (h2 _ (xAt_mem hi)) hz)
    cases k3 : (k == 3) with
    | true => obtain rfl : k = 3 := beq_iff_eq.1 k3; exact putS_here here L vals pk n s l
    | false =>
      cases k2 : (k == 2) with
      | false => exact putS_oth here L vals pk k n s l (by omega) ihs k3 k2
      | true =>
        by_cases ha : atV L s < 0
        · exact putS_mis here L vals pk k n s l (by omega) ihs k3 k2 ha
        · obtain rfl : k = 2 := beq_iff_eq.1 k2
          obtain ⟨j, hj⟩ : ∃ j : Nat, atV L s = j := ⟨(atV L s).toNat, by omega⟩
          exact putS_hit here L vals pk n s l j hj
end Go.Proofs.YtkolflcjkofleaaDoor

namespace Go.Proofs.YtkolflcjkofleaaDoor
open Go.ChangeShapes Go.WideShapes Go.ChangeAt Go.RowKit
set_option linter.unusedVariables false
set_option maxRecDepth 8000
set_option linter.unusedSimpArgs false

def zX : Ex := ⟨0, 0, ⟨#[]⟩, []⟩
/-- What Put answers. -/
def putA (here : Ex) (L : List ByteArray) (vals : List Ex) (e : Ex) : Ex :=
  if okF 6 false e = true ∧ okF 6 false here = true ∧ L.length = vals.length ∧ (∀ i, i < vals.length → okF 6 false (xAt vals i) = true) ∧ okF 6 false (putX here L vals e) = true then putX here L vals e else zX
theorem putA_no {here : Ex} {L : List ByteArray} {vals : List Ex} {e : Ex} (h : ¬ (okF 6 false e = true ∧ okF 6 false here = true ∧ L.length = vals.length ∧ (∀ i, i < vals.length → okF 6 false (xAt vals i) = true) ∧ okF 6 false (putX here L vals e) = true)) : putA here L vals e = zX := by unfold putA; rw [if_neg h]
/-- How large a right term can be. -/
def zO : Nat → Nat
  | 0 => 0
  | d + 1 => 8 + 2 * zO d
theorem ok_sz : ∀ (d : Nat) (e : Ex), okF d false e = true → e.sz ≤ zO d := by
  intro d
  induction d with
  | zero => intro e h; rw [okF] at h; cases h
  | succ d ih =>
    intro e h
    have hE : (E0 : ByteArray).size = 0 := rfl
    rw [zO]
    rcases ok_sev h with ⟨n, hn, rfl⟩ | ⟨s, hs, rfl⟩ | rfl | ⟨n, hn, rfl⟩ | ⟨s, hs, rfl⟩ | ⟨a, ha, rfl⟩ | ⟨k, a, b, hk, ha, hb, rfl⟩
    · rw [sz_leaf, hE]; omega
    · rw [sz_leaf]; have := name_szF hs; omega
    · rw [sz_leaf, hE]; omega
    · rw [sz_leaf, hE]; omega
    · rw [sz_leaf]; have := name_szF hs; omega
    · rw [show E0 = (⟨#[]⟩ : ByteArray) from rfl, sz_one]; have := ih a ha; omega
    · rw [show E0 = (⟨#[]⟩ : ByteArray) from rfl, sz_two]; have := ih a ha; have := ih b hb; omega
/-- How large it can become. -/
def zU : Nat → Nat
  | 0 => 0
  | d + 1 => 512 + 2 * zU d
theorem put_sz {here : Ex} {L : List ByteArray} {vals : List Ex} (hh : here.sz ≤ 504) (hv : ∀ i, (xAt vals i).sz ≤ 504) : ∀ (d : Nat) (e : Ex), okF d false e = true → (putX here L vals e).sz ≤ zU d := by
  intro d
  induction d with
  | zero => intro e h; rw [okF] at h; cases h
  | succ d ih =>
    intro e h
    have hE : (E0 : ByteArray).size = 0 := rfl
    have hsz := ok_sz (d + 1) e h
    rw [zU]
    rcases ok_sev h with ⟨n, hn, rfl⟩ | ⟨s, hs, rfl⟩ | rfl | ⟨n, hn, rfl⟩ | ⟨s, hs, rfl⟩ | ⟨a, ha, rfl⟩ | ⟨k, a, b, hk, ha, hb, rfl⟩
    · rw [putX_eq]; unfold putC; rw [if_neg (by decide), if_neg (fun h => absurd h.1 (by decide)), List.map_nil, sz_leaf, hE]; omega
    · rw [putX_eq]; unfold putC; rw [if_neg (by decide)]
      split
      · have := hv (atV L s).toNat; omega
      · rw [List.map_nil, sz_leaf]; have := name_szF hs; omega
    · rw [putX_eq]; unfold putC; rw [if_pos rfl]; omega
    · rw [putX_eq]; unfold putC; rw [if_neg (by decide), if_neg (fun h => absurd h.1 (by decide)), List.map_nil, sz_leaf, hE]; omega
    · rw [putX_eq]; unfold putC; rw [if_neg (by decide), if_neg (fun h => absurd h.1 (by decide)), List.map_nil, sz_leaf]; have := name_szF hs; omega
    · rw [putX_eq]; unfold putC; rw [if_neg (by decide), if_neg (fun h => absurd h.1 (by decide))]
      rw [show ([a].map (putX here L vals)) = [putX here L vals a] from rfl, show E0 = (⟨#[]⟩ : ByteArray) from rfl, sz_one]; have := ih a ha; omega
    · rw [putX_eq]; unfold putC; rw [if_neg (by omega), if_neg (fun h => by omega)]
      rw [show ([a, b].map (putX here L vals)) = [putX here L vals a, putX here L vals b] from rfl, show E0 = (⟨#[]⟩ : ByteArray) from rfl, sz_two]; have := ih a ha; have := ih b hb; omega
set_option maxHeartbeats 4000000 in
theorem put_c1 (here : Ex) (L : List ByteArray) (vals : List Ex) (e : Ex) (b hb va : Option Addr) (cap hcp gn vcp : Nat) (w : World) (hr : RdX w 0 e b) (hv : Pv w here hb gn L va vals) (hze : e.sz ≤ 1048576) (hzh : here.sz ≤ 1048576) (hLn : L.length ≤ 1100000) (hVn : vals.length ≤ 1048576) (hzv : ∀ i, i < vals.length → (xAt vals i).sz ≤ 1048576) (ho : okF 6 false e = false) : Calls Tryd.prog 25 #[.agg (e.cs b cap), .agg (here.cs hb hcp), .slice (some ⟨gn, 0, none⟩) L.length L.length, .slice va vals.length vcp] w (GiR (putA here L vals e) (Up w) w) := by
  rw [putA_no (fun h => by rw [ho] at h; exact absurd h.1 (by decide))]
  have X0 := hide (By.new w #[.int .i64 e.k, .int .i64 e.n, .string e.s, .slice b e.l.length cap] #[.int .i64 here.k, .int .i64 here.n, .string here.s, .slice hb here.l.length hcp])
  have OE := hide (okS_any e b cap _ (hr.later (unhide X0).bel) hze)
  rw [ho] at OE
  have OH := hide (fun wr (h : Below w.heap.size w wr) => okS_any here hb hcp wr (hv.h.later h) hzh)

  generalize hX : GiR _ (Up w) w = X
  have HX := hide hX
  unfold Ex.cs at OE OH ⊢
  clear hX hr hv ho
  go_enter Tryd.func25, Tryd.ntmps25
  go_wp2_with fail
  generalize ((w.alloc (.cells #[.int .i64 e.k, .int .i64 e.n, .string e.s, .slice b e.l.length cap] 26)).alloc (.cells #[.int .i64 here.k, .int .i64 here.n, .string here.s, .slice hb here.l.length hcp] 26)).alloc (.cells #[.int .i64 0, .int .i64 0, .string ⟨#[]⟩, .slice none 0 0] 26) = W at *
  refine (unhide OE).mono ?_
  rintro r w1 ⟨rfl, hb1⟩
  have X1 := hide ((unhide X0).later hb1)
  clear hb1 X0 OE
  go_wp2_with (refine wpList_store_row rfl 26 _ _ rfl (w.heap.size + 2) #[.int .i64 0, .int .i64 0, .string ⟨#[]⟩, .slice none 0 0] rfl rfl 26 _ ((unhide X1).res) szE rfl (ex_one _ _ _ _ _ _) ?_)
  refine bodyPost_ret (results_cell_row (P := Tryd.prog) rfl _ _ (w.heap.size + 2) 26 #[.int .i64 0, .int .i64 0, .string ⟨#[]⟩, .slice none 0 0] (0, 0) _ rfl (setRow_heap _ _ _ _ _ _ ((unhide X1).res)) Tryd.underlying26 rfl szE) rfl ?_
  rw [← unhide HX]
  exact By.end (x := zX) (unhide X1) (PX.leaf _ _ _ _ _ _) _
set_option maxHeartbeats 4000000 in
theorem put_c2 (here : Ex) (L : List ByteArray) (vals : List Ex) (e : Ex) (b hb va : Option Addr) (cap hcp gn vcp : Nat) (w : World) (hr : RdX w 0 e b) (hv : Pv w here hb gn L va vals) (hze : e.sz ≤ 1048576) (hzh : here.sz ≤ 1048576) (hLn : L.length ≤ 1100000) (hVn : vals.length ≤ 1048576) (hzv : ∀ i, i < vals.length → (xAt vals i).sz ≤ 1048576) (ho : okF 6 false e = true) (hh : okF 6 false here = false) : Calls Tryd.prog 25 #[.agg (e.cs b cap), .agg (here.cs hb hcp), .slice (some ⟨gn, 0, none⟩) L.length L.length, .slice va vals.length vcp] w (GiR (putA here L vals e) (Up w) w) := by
  rw [putA_no (fun h => by rw [hh] at h; exact absurd h.2.1 (by decide))]
  have X0 := hide (By.new w #[.int .i64 e.k, .int .i64 e.n, .string e.s, .slice b e.l.length cap] #[.int .i64 here.k, .int .i64 here.n, .string here.s, .slice hb here.l.length hcp])
  have OE := hide (okS_any e b cap _ (hr.later (unhide X0).bel) hze)
  rw [ho] at OE
  have OH := hide (fun wr (h : Below w.heap.size w wr) => okS_any here hb hcp wr (hv.h.later h) hzh)
  rw [hh] at OH
  generalize hX : GiR _ (Up w) w = X
  have HX := hide hX
  unfold Ex.cs at OE OH ⊢
  clear hX hr hv ho hh
  go_enter Tryd.func25, Tryd.ntmps25
  go_wp2_with fail
  generalize ((w.alloc (.cells #[.int .i64 e.k, .int .i64 e.n, .string e.s, .slice b e.l.length cap] 26)).alloc (.cells #[.int .i64 here.k, .int .i64 here.n, .string here.s, .slice hb here.l.length hcp] 26)).alloc (.cells #[.int .i64 0, .int .i64 0, .string ⟨#[]⟩, .slice none 0 0] 26) = W at *
  refine (unhide OE).mono ?_
  rintro r w1 ⟨rfl, hb1⟩
  have X1 := hide ((unhide X0).later hb1)
  clear hb1 X0 OE
  have h0c := Lib.cell_of_heap (unhide X1).boxb 0
  have h1c := Lib.cell_of_heap (unhide X1).boxb 1
  have h2c := Lib.cell_of_heap (unhide X1).boxb 2
  have h3c := Lib.cell_of_heap (unhide X1).boxb 3
  have OH1 := hide (unhide OH w1 (unhide X1).bel)
  clear OH
  go_wp2_with fail
  clear h0c h1c h2c h3c
  refine (unhide OH1).mono ?_
  rintro r w2 ⟨rfl, hb2⟩
  have X2 := hide ((unhide X1).later hb2)
  clear hb2 X1 OH1
  go_wp2_with (refine wpList_store_row rfl 26 _ _ rfl (w.heap.size + 2) #[.int .i64 0, .int .i64 0, .string ⟨#[]⟩, .slice none 0 0] rfl rfl 26 _ ((unhide X2).res) szE rfl (ex_one _ _ _ _ _ _) ?_)
  refine bodyPost_ret (results_cell_row (P := Tryd.prog) rfl _ _ (w.heap.size + 2) 26 #[.int .i64 0, .int .i64 0, .string ⟨#[]⟩, .slice none 0 0] (0, 0) _ rfl (setRow_heap _ _ _ _ _ _ ((unhide X2).res)) Tryd.underlying26 rfl szE) rfl ?_
  rw [← unhide HX]
  exact By.end (x := zX) (unhide X2) (PX.leaf _ _ _ _ _ _) _
set_option maxHeartbeats 4000000 in
theorem put_c3 (here : Ex) (L : List ByteArray) (vals : List Ex) (e : Ex) (b hb va : Option Addr) (cap hcp gn vcp : Nat) (w : World) (hr : RdX w 0 e b) (hv : Pv w here hb gn L va vals) (hze : e.sz ≤ 1048576) (hzh : here.sz ≤ 1048576) (hLn : L.length ≤ 1100000) (hVn : vals.length ≤ 1048576) (hzv : ∀ i, i < vals.length → (xAt vals i).sz ≤ 1048576) (ho : okF 6 false e = true) (hh : okF 6 false here = true) (hl : ((L.length : Int) == (vals.length : Int)) = false) : Calls Tryd.prog 25 #[.agg (e.cs b cap), .agg (here.cs hb hcp), .slice (some ⟨gn, 0, none⟩) L.length L.length, .slice va vals.length vcp] w (GiR (putA here L vals e) (Up w) w) := by
  rw [putA_no (fun h => beq_eq_false_iff_ne.1 hl (by rw [h.2.2.1]))]
  have X0 := hide (By.new w #[.int .i64 e.k, .int .i64 e.n, .string e.s, .slice b e.l.length cap] #[.int .i64 here.k, .int .i64 here.n, .string here.s, .slice hb here.l.length hcp])
  have OE := hide (okS_any e b cap _ (hr.later (unhide X0).bel) hze)
  rw [ho] at OE
  have OH := hide (fun wr (h : Below w.heap.size w wr) => okS_any here hb hcp wr (hv.h.later h) hzh)
  rw [hh] at OH
  generalize hX : GiR _ (Up w) w = X
  have HX := hide hX
  unfold Ex.cs at OE OH ⊢
  clear hX hr hv ho hh
  generalize L.length = ln at *
  generalize vals.length = vn at *
  go_enter Tryd.func25, Tryd.ntmps25
  go_wp2_with fail
  generalize ((w.alloc (.cells #[.int .i64 e.k, .int .i64 e.n, .string e.s, .slice b e.l.length cap] 26)).alloc (.cells #[.int .i64 here.k, .int .i64 here.n, .string here.s, .slice hb here.l.length hcp] 26)).alloc (.cells #[.int .i64 0, .int .i64 0, .string ⟨#[]⟩, .slice none 0 0] 26) = W at *
  refine (unhide OE).mono ?_
  rintro r w1 ⟨rfl, hb1⟩
  have X1 := hide ((unhide X0).later hb1)
  clear hb1 X0 OE
  have h0c := Lib.cell_of_heap (unhide X1).boxb 0
  have h1c := Lib.cell_of_heap (unhide X1).boxb 1
  have h2c := Lib.cell_of_heap (unhide X1).boxb 2
  have h3c := Lib.cell_of_heap (unhide X1).boxb 3
  have OH1 := hide (unhide OH w1 (unhide X1).bel)
  clear OH
  go_wp2_with fail
  clear h0c h1c h2c h3c
  refine (unhide OH1).mono ?_
  rintro r w2 ⟨rfl, hb2⟩
  have X2 := hide ((unhide X1).later hb2)
  clear hb2 X1 OH1
  go_wp2_with (refine wpList_store_row rfl 26 _ _ rfl (w.heap.size + 2) #[.int .i64 0, .int .i64 0, .string ⟨#[]⟩, .slice none 0 0] rfl rfl 26 _ ((unhide X2).res) szE rfl (ex_one _ _ _ _ _ _) ?_)
  refine bodyPost_ret (results_cell_row (P := Tryd.prog) rfl _ _ (w.heap.size + 2) 26 #[.int .i64 0, .int .i64 0, .string ⟨#[]⟩, .slice none 0 0] (0, 0) _ rfl (setRow_heap _ _ _ _ _ _ ((unhide X2).res)) Tryd.underlying26 rfl szE) rfl ?_
  rw [← unhide HX]
  exact By.end (x := zX) (unhide X2) (PX.leaf _ _ _ _ _ _) _
set_option maxHeartbeats 8000000 in
theorem put_c4 (here : Ex) (L : List ByteArray) (vals : List Ex) (e : Ex) (b hb va : Option Addr) (cap hcp gn vcp : Nat) (w : World) (hr : RdX w 0 e b) (hv : Pv w here hb gn L va vals) (hze : e.sz ≤ 1048576) (hzh : here.sz ≤ 1048576) (hLn : L.length ≤ 1100000) (hVn : vals.length ≤ 1048576) (hzv : ∀ i, i < vals.length → (xAt vals i).sz ≤ 1048576) (ho : okF 6 false e = true) (hh : okF 6 false here = true) (hl : L.length = vals.length) : Calls Tryd.prog 25 #[.agg (e.cs b cap), .agg (here.cs hb hcp), .slice (some ⟨gn, 0, none⟩) L.length L.length, .slice va vals.length vcp] w (GiR (putA here L vals e) (Up w) w) := by
  have BADV := hide (fun i (hi : i < vals.length) (h : okF 6 false (xAt vals i) = false) => putA_no (here := here) (L := L) (vals := vals) (e := e) (fun k => by have := k.2.2.2.1 i hi; rw [h] at this; cases this))
  have ALL := hide (fun (hv : ∀ i, i < vals.length → okF 6 false (xAt vals i) = true) => (show putA here L vals e = if okF 6 false (putX here L vals e) = true then putX here L vals e else zX by
    unfold putA
    by_cases hx : okF 6 false (putX here L vals e) = true
    · rw [if_pos ⟨ho, hh, hl, hv, hx⟩, if_pos hx]
    · rw [if_neg (fun k => hx k.2.2.2.2), if_neg hx]))
  have SZX := hide (fun (hv : ∀ i, i < vals.length → okF 6 false (xAt vals i) = true) => (show (putX here L vals e).sz ≤ 1048576 from Nat.le_trans (put_sz (ok_sz 6 here hh) (fun i => by
    by_cases hi : i < vals.length
    · exact ok_sz 6 _ (hv i hi)
    · have : xAt vals i = X0 := by unfold xAt; rw [List.getD_eq_getElem?_getD, List.getElem?_eq_none (by omega)]; rfl
      rw [this]; show (Ex.mk 0 0 ⟨#[]⟩ []).sz ≤ 504; rw [sz_leaf]; show (0 : Nat) ≤ 504; omega) 6 e ho) (by decide)))
  have PU := hide (fun wr (h : Below w.heap.size w wr) => putS_any here L vals ⟨hzh, hLn, hzv, hl⟩ e (Nat.le_trans (ok_sz 6 e ho) (by decide)) b hb va cap hcp gn vcp wr (hr.later h) (hv.later h))
  have VV := hide (fun wr (h : Below w.heap.size w wr) => (hv.later h).v)
  have hv0 := (RdX_eq _ _ _ _).1 hv.v
  have OV := hide (fun i (hi : i < vals.length) (c : Option Addr) (ca : Nat) wr (hr : RdX wr 0 (xAt vals i) c) => okS_any (xAt vals i) c ca wr hr (hzv i hi))
  have OX := hide (fun (hv : (putX here L vals e).sz ≤ 1048576) (c : Option Addr) (ca : Nat) wr (hr : RdX wr 0 (putX here L vals e) c) => okS_any (putX here L vals e) c ca wr hr hv)
  unfold GiR at PU
  have hll : ((L.length : Int) == (vals.length : Int)) = true := by rw [hl]; exact beq_iff_eq.2 rfl
  have X0 := hide (By.new w #[.int .i64 e.k, .int .i64 e.n, .string e.s, .slice b e.l.length cap] #[.int .i64 here.k, .int .i64 here.n, .string here.s, .slice hb here.l.length hcp])
  have OE := hide (okS_any e b cap _ (hr.later (unhide X0).bel) hze)
  rw [ho] at OE
  have OH := hide (fun wr (h : Below w.heap.size w wr) => okS_any here hb hcp wr (hv.h.later h) hzh)
  rw [hh] at OH
  generalize hX : GiR _ (Up w) w = X
  have HX := hide hX
  unfold Ex.cs at OE OH ⊢
  unfold Ex.cs at PU OV OX
  generalize putA here L vals e = pa at *
  generalize putX here L vals e = x at *
  clear hX hr hv ho hh hzv
  obtain ⟨vn, hvn⟩ : ∃ vn, vals.length = vn := ⟨_, rfl⟩
  rw [hl] at hll PU ⊢
  rw [hvn] at hll PU BADV ALL SZX OV hVn ⊢
  clear hl hLn hll
  go_enter Tryd.func25, Tryd.ntmps25
  go_wp2_with fail
  generalize ((w.alloc (.cells #[.int .i64 e.k, .int .i64 e.n, .string e.s, .slice b e.l.length cap] 26)).alloc (.cells #[.int .i64 here.k, .int .i64 here.n, .string here.s, .slice hb here.l.length hcp] 26)).alloc (.cells #[.int .i64 0, .int .i64 0, .string ⟨#[]⟩, .slice none 0 0] 26) = W at *
  refine (unhide OE).mono ?_
  rintro r w1 ⟨rfl, hb1⟩
  have X1 := hide ((unhide X0).later hb1)
  clear hb1 X0 OE
  have h0c := Lib.cell_of_heap (unhide X1).boxb 0
  have h1c := Lib.cell_of_heap (unhide X1).boxb 1
  have h2c := Lib.cell_of_heap (unhide X1).boxb 2
  have h3c := Lib.cell_of_heap (unhide X1).boxb 3
  have OH1 := hide (unhide OH w1 (unhide X1).bel)
  clear OH
  go_wp2_with fail
  clear h0c h1c h2c h3c
  refine (unhide OH1).mono ?_
  rintro r w2 ⟨rfl, hb2⟩
  have X2 := hide ((unhide X1).later hb2)
  clear hb2 X1 OH1
  go_wp2
  go_loopw [9] (fun i wr => ∃ j : Nat, j ≤ vn ∧ i = .int .i64 j ∧ By w wr #[.int .i64 e.k, .int .i64 e.n, .string e.s, .slice b e.l.length cap] #[.int .i64 here.k, .int .i64 here.n, .string here.s, .slice hb here.l.length hcp] ∧ ∀ q, q < j → okF 6 false (xAt vals q) = true) (fun i _ => vn - (intOf i).toNat)
  case atStart => exact ⟨0, Nat.zero_le _, rfl, unhide X2, fun q hq => by omega⟩
  case round =>
    clear X2
    obtain ⟨j, hj, rfl, hby, hall⟩ := hrel
    by_cases hlt : j < vn
    · rcases hv0 with h0 | ⟨p, off, rfl, _, hp, hc⟩
      · rw [show vals = [] from h0] at hvn; simp at hvn; omega
      obtain ⟨c0, c1, c2, c, ca, c3, c4⟩ := hc j (show j < vals.length by omega)
      have xe : xAt (Ex.mk 0 0 E0 vals).l j = xAt vals j := rfl
      rw [xe] at c0 c1 c2 c3 c4
      have d0 := (hby.bel.cell (p := ⟨p, off + j * 4, none⟩) hp).trans c0
      have d1 := (hby.bel.cell (p := ⟨p, off + j * 4 + 1, none⟩) hp).trans c1
      have d2 := (hby.bel.cell (p := ⟨p, off + j * 4 + 2, none⟩) hp).trans c2
      have d3 := (hby.bel.cell (p := ⟨p, off + j * 4 + 3, none⟩) hp).trans c3
      have OJ := hide (unhide OV j hlt c ca wr (c4.later hby.bel))
      have XJ := hide hby
      have AL := hide hall
      have BJ := hide (unhide BADV j hlt)
      have NJ := hide (show okF 6 false (xAt vals j) = true → ∀ q, q < j + 1 → okF 6 false (xAt vals q) = true from fun h q hq => by
        by_cases e : q = j
        · subst e; exact h
        · exact hall q (by omega))
      clear c0 c1 c2 c3 c4 hc xe hby hall BADV OV ALL SZX PU VV OX
      generalize (xAt vals j).k = vk at *
      generalize (xAt vals j).n = vnn at *
      generalize (xAt vals j).s = vss at *
      generalize (xAt vals j).l.length = vl at *
      generalize okF 6 false (xAt vals j) = ok at *
      go_wp2_with fail
      clear d0 d1 d2 d3
      refine (unhide OJ).mono ?_
      rintro r w3 ⟨rfl, hb3⟩
      have X3 := hide ((unhide XJ).later hb3)
      clear hb3 XJ OJ
      cases ok
      · have BZ := hide (unhide BJ rfl)
        rw [unhide BZ] at HX
        clear BJ NJ AL BZ
        go_wp2_with (refine wpList_store_row rfl 26 _ _ rfl (w.heap.size + 2) #[.int .i64 0, .int .i64 0, .string ⟨#[]⟩, .slice none 0 0] rfl rfl 26 _ ((unhide X3).res) szE rfl (ex_one _ _ _ _ _ _) ?_)
        refine bodyPost_ret (results_cell_row (P := Tryd.prog) rfl _ _ (w.heap.size + 2) 26 #[.int .i64 0, .int .i64 0, .string ⟨#[]⟩, .slice none 0 0] (0, 0) _ rfl (setRow_heap _ _ _ _ _ _ ((unhide X3).res)) Tryd.underlying26 rfl szE) rfl ?_
        rw [← unhide HX]
        exact By.end (x := zX) (unhide X3) (PX.leaf _ _ _ _ _ _) _
      · have NN := hide (unhide NJ rfl)
        clear BJ NJ AL
        go_wp2
        go_roundw
        case rel => exact ⟨j + 1, by omega, by go_num, unhide X3, unhide NN⟩
        case measure => simp [intOf]; omega
    · obtain rfl : j = vn := by omega
      have XJ := hide hby
      have AE := hide (unhide ALL hall)
      have OX1 := hide (unhide OX (unhide SZX hall))
      have PU1 := hide (unhide PU wr hby.bel)
      clear hby hall BADV OV ALL SZX PU VV OX hv0
      go_wp2_with (first | (refine wpList_load_row rfl 26 _ rfl w.heap.size rfl 26 #[.int .i64 e.k, .int .i64 e.n, .string e.s, .slice b e.l.length cap] (0, 0) _ ((unhide XJ).boxa) Tryd.underlying26 rfl (by kernel_rfl) ?_) | (refine wpList_load_row rfl 26 _ rfl (w.heap.size + 1) rfl 26 #[.int .i64 here.k, .int .i64 here.n, .string here.s, .slice hb here.l.length hcp] (0, 0) _ ((unhide XJ).boxb) Tryd.underlying26 rfl (by kernel_rfl) ?_))
      refine (unhide PU1).mono ?_
      rintro r w4 ⟨c4, cp4, rfl, hx4, hb4⟩
      have hzr := (unhide XJ).lt
      have hb5 := below_new w4 (.cells #[.int .i64 x.k, .int .i64 x.n, .string x.s, .slice c4 x.l.length cp4] 26)
      have X5 := hide (((unhide XJ).later hb4).later hb5)
      have A4 := (show PX w4 (Oy w (Up w)) x c4 from hx4.mono (fun b h => up_oy (w := w) (b := b) (Nat.le_trans hzr h)))
      have A5 := hide (A4.later hb5)
      have G5 := hide (show (w4.alloc (.cells #[.int .i64 x.k, .int .i64 x.n, .string x.s, .slice c4 x.l.length cp4] 26)).heap[w4.heap.size]? = some (.cells #[.int .i64 x.k, .int .i64 x.n, .string x.s, .slice c4 x.l.length cp4] 26 (0, 0)) from Array.getElem?_push_size)
      have O5 := hide (unhide OX1 c4 cp4 _ (unhide A5).rd)
      clear hx4 hb4 hb5 A4 XJ PU1 OX1
      go_wp2_with (refine wpList_load_row rfl 26 _ rfl w4.heap.size rfl 26 #[.int .i64 x.k, .int .i64 x.n, .string x.s, .slice c4 x.l.length cp4] (0, 0) _ (unhide G5) Tryd.underlying26 rfl (by kernel_rfl) ?_)
      generalize w4.alloc (.cells #[.int .i64 x.k, .int .i64 x.n, .string x.s, .slice c4 x.l.length cp4] 26) = w5 at *
      generalize w4.heap.size = g4 at *
      cases hq : okF 6 false x with
      | false =>
        rw [hq] at O5 AE
        have AZ := hide (show pa = zX from unhide AE)
        rw [unhide AZ] at HX
        refine (unhide O5).mono ?_
        rintro r w6 ⟨rfl, hb6⟩
        have X6 := hide ((unhide X5).later hb6)
        clear hb6 X5 A5 G5 O5 AE AZ
        go_wp2_with (refine wpList_store_row rfl 26 _ _ rfl (w.heap.size + 2) #[.int .i64 0, .int .i64 0, .string ⟨#[]⟩, .slice none 0 0] rfl rfl 26 _ ((unhide X6).res) szE rfl (ex_one _ _ _ _ _ _) ?_)
        refine bodyPost_ret (results_cell_row (P := Tryd.prog) rfl _ _ (w.heap.size + 2) 26 #[.int .i64 0, .int .i64 0, .string ⟨#[]⟩, .slice none 0 0] (0, 0) _ rfl (setRow_heap _ _ _ _ _ _ ((unhide X6).res)) Tryd.underlying26 rfl szE) rfl ?_
        rw [← unhide HX]
        exact By.end (x := zX) (unhide X6) (PX.leaf _ _ _ _ _ _) _
      | true =>
        rw [hq] at O5 AE
        have AZ := hide (show pa = x from unhide AE)
        rw [unhide AZ] at HX
        refine (unhide O5).mono ?_
        rintro r w6 ⟨rfl, hb6⟩
        have X6 := hide ((unhide X5).later hb6)
        have A6 := hide ((unhide A5).later hb6)
        have G6 := hide (row_keep (unhide G5) hb6)
        clear hb6 X5 A5 G5 O5 AE AZ
        go_wp2_with (first | (refine wpList_load_row rfl 26 _ rfl g4 rfl 26 #[.int .i64 x.k, .int .i64 x.n, .string x.s, .slice c4 x.l.length cp4] (0, 0) _ (unhide G6) Tryd.underlying26 rfl (by kernel_rfl) ?_) | (refine wpList_store_row rfl 26 _ _ rfl (w.heap.size + 2) #[.int .i64 x.k, .int .i64 x.n, .string x.s, .slice c4 x.l.length cp4] rfl rfl 26 _ ((unhide X6).res) szE rfl (ex_one _ _ _ _ _ _) ?_))
        refine bodyPost_ret (results_cell_row (P := Tryd.prog) rfl _ _ (w.heap.size + 2) 26 #[.int .i64 x.k, .int .i64 x.n, .string x.s, .slice c4 x.l.length cp4] (0, 0) _ rfl (setRow_heap _ _ _ _ _ _ ((unhide X6).res)) Tryd.underlying26 rfl szE) rfl ?_
        rw [← unhide HX]
        exact (unhide X6).end (unhide A6) _
theorem putA_any (here : Ex) (L : List ByteArray) (vals : List Ex) (e : Ex) (b hb va : Option Addr) (cap hcp gn vcp : Nat) (w : World) (hr : RdX w 0 e b) (hv : Pv w here hb gn L va vals) (hze : e.sz ≤ 1048576) (hzh : here.sz ≤ 1048576) (hLn : L.length ≤ 1100000) (hVn : vals.length ≤ 1048576) (hzv : ∀ i, i < vals.length → (xAt vals i).sz ≤ 1048576) : Calls Tryd.prog 25 #[.agg (e.cs b cap), .agg (here.cs hb hcp), .slice (some ⟨gn, 0, none⟩) L.length L.length, .slice va vals.length vcp] w (GiR (putA here L vals e) (Up w) w) := by
  cases ho : okF 6 false e with
  | false => exact put_c1 here L vals e b hb va cap hcp gn vcp w hr hv hze hzh hLn hVn hzv ho
  | true =>
    cases hh : okF 6 false here with
    | false => exact put_c2 here L vals e b hb va cap hcp gn vcp w hr hv hze hzh hLn hVn hzv ho hh
    | true =>
      cases hl : ((L.length : Int) == (vals.length : Int)) with
      | false => exact put_c3 here L vals e b hb va cap hcp gn vcp w hr hv hze hzh hLn hVn hzv ho hh hl
      | true => exact put_c4 here L vals e b hb va cap hcp gn vcp w hr hv hze hzh hLn hVn hzv ho hh (by have := beq_iff_eq.1 hl; omega)
end Go.Proofs.YtkolflcjkofleaaDoor
