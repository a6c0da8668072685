/- Contracts over this seat's translation, laid together; conditions stand as hypotheses of each. -/
import Derived.Test.YthgbpofcfmnpdaaGreatDoorTxA
import Derived.Test.YthgbpofcfmnpdaaGreatDoorTxC
import Derived.Test.YthgbpofcfmnpdaaGreatDoorTxD
import Derived.Test.YthgbpofcfmnpdaaGreatDoorTxF
import Derived.Test.YthgbpofcfmnpdaaGreatDoorTxH

namespace Go.Proofs.YthgbpofcfmnpdaaGreatDoor
open Go.ChangeShapes Go.WideShapes Go.ChangeAt Go.RowKit
set_option linter.unusedVariables false
set_option maxRecDepth 8000
set_option linter.unusedSimpArgs false

theorem OwnT.sl {w : World} {B : Nat} {v : Value} {ts : List Tk} (h : OwnT w B v ts) (ok : AllOk ts) (hl : ts.length ≤ 1048576) : ∃ a n cap, v = .slice a n cap ∧ Sl w a n cap ts := by
  obtain ⟨a', cap', e1, hr⟩ := h.rd
  rcases h.form with ⟨rfl, rfl⟩ | ⟨g, cap, rfl, h1, h2, h3, h4⟩
  · exact ⟨none, 0, 0, rfl, ⟨rfl, Nat.le_refl _, by unfold maxLen; omega, .inl rfl, ok, by omega⟩⟩
  · cases e1
    exact ⟨_, _, _, rfl, ⟨rfl, h3, h4, hr, ok, hl⟩⟩
set_option maxHeartbeats 8000000 in
theorem parseI_any (s : ByteArray) (w : World) (hz : s.size ≤ 1048576) (he : Env w) (ht : TabG w) : Calls Tryz.prog 9 #[.string s] w (PaR s w) := by
  have B0 := hide (below_new w (.cells #[.int .i64 0, .int .i64 0, .string ⟨#[]⟩, .slice none 0 0] 26))
  have R0 := hide (heap_alloc_new w (.cells #[.int .i64 0, .int .i64 0, .string ⟨#[]⟩, .slice none 0 0] 26))
  have LX := hide (lexI_any s (w.alloc (.cells #[.int .i64 0, .int .i64 0, .string ⟨#[]⟩, .slice none 0 0] 26)) hz (he.later (unhide B0)))
  have TG0 := hide (ht.later (unhide B0) ht.lt)
  have LL := lex_len s
  have LO := hide (lex_ok s)
  have PS := hide (show parseE s = if (lexR s 0 []).2 = true then parseL (lexR s 0 []).1 else none from rfl)
  generalize hX : PaR s w = X
  have HX := hide hX
  generalize lexR s 0 [] = L at *
  obtain ⟨ts, ok⟩ := L
  simp only at LX LL LO PS
  clear he ht hX hz
  go_enter Tryz.func9, Tryz.ntmps9
  go_wp2_with fail
  generalize w.alloc (.cells #[.int .i64 0, .int .i64 0, .string ⟨#[]⟩, .slice none 0 0] 26) = W at *
  refine (unhide LX).mono ?_
  rintro r w1 ⟨v, rfl, ho, hb1⟩
  obtain ⟨a1, n1, c1, rfl, hs1⟩ := ho.sl (unhide LO) (by omega)
  have B1 := hide ((unhide B0).trans (hb1.mono (unhide B0).size))
  have R1 := hide (row_keep (unhide R0) hb1)
  have IH := hide (readI_all 6 (by omega) _ _ _ _ w1 hs1 ((unhide TG0).later hb1 (unhide TG0).lt))
  clear ho hb1 B0 R0 TG0 LX hs1 LL
  cases ok
  case false =>
    have PN := hide (show parseE s = none from unhide PS)
    clear PS IH LO
    go_wp2_with (refine wpList_store_row rfl 26 _ _ rfl w.heap.size #[.int .i64 0, .int .i64 0, .string ⟨#[]⟩, .slice none 0 0] rfl rfl 26 _ (unhide R1) szE rfl (ex_one _ _ _ _ _ _) ?_)
    refine bodyPost_ret (results_row2 (P := Tryz.prog) rfl _ _ w.heap.size 26 #[.int .i64 0, .int .i64 0, .string ⟨#[]⟩, .slice none 0 0] (0, 0) _ rfl (setRow_heap _ _ _ _ _ _ (unhide R1)) Tryz.underlying26 rfl szE) rfl ?_
    rw [← unhide HX]
    exact .inr ⟨unhide PN, rfl, (unhide B1).grown (grownBy_row _) (unhide B1).size (fun k e => by cases e; exact Nat.le_refl _)⟩
  case true =>
    have PT := hide (show parseE s = parseL ts from unhide PS)
    clear PS
    cases hr : readF 6 ts with
    | none =>
      rw [trR_none hr] at IH
      unfold NoR at IH
      have PN := hide (show parseE s = none by rw [unhide PT]; unfold parseL; rw [hr])
      go_wp2_with fail
      refine (unhide IH).mono ?_
      rintro r w2 ⟨hb2, v, xx, hv, rfl⟩
      have B2 := hide ((unhide B1).trans (hb2.mono (unhide B1).size))
      have R2 := hide (row_keep (unhide R1) hb2)
      clear hb2 IH B1 R1 hr PT hv LO
      go_wp2_with (refine wpList_store_row rfl 26 _ _ rfl w.heap.size #[.int .i64 0, .int .i64 0, .string ⟨#[]⟩, .slice none 0 0] rfl rfl 26 _ (unhide R2) szE rfl (ex_one _ _ _ _ _ _) ?_)
      refine bodyPost_ret (results_row2 (P := Tryz.prog) rfl _ _ w.heap.size 26 #[.int .i64 0, .int .i64 0, .string ⟨#[]⟩, .slice none 0 0] (0, 0) _ rfl (setRow_heap _ _ _ _ _ _ (unhide R2)) Tryz.underlying26 rfl szE) rfl ?_
      rw [← unhide HX]
      exact .inr ⟨unhide PN, rfl, (unhide B2).grown (grownBy_row _) (unhide B2).size (fun k e => by cases e; exact Nat.le_refl _)⟩
    | some p =>
      obtain ⟨e, q⟩ := p
      rw [trR_some hr] at IH
      unfold YeR at IH
      obtain ⟨ty, vv, hv⟩ := tv_if e
      rw [hv] at IH
      have HV := hide hv
      clear hv
      go_wp2_with fail
      refine (unhide IH).mono ?_
      rintro r w2 ⟨hb2, a2, n2, c2, rfl, hs2⟩
      have B2 := hide ((unhide B1).trans (hb2.mono (unhide B1).size))
      have R2 := hide (row_keep (unhide R1) hb2)
      have hn2 := hs2.ln
      clear hb2 IH B1 R1 hs2
      cases q with
      | cons t q2 =>
        have PN := hide (show parseE s = none by rw [unhide PT]; unfold parseL; rw [hr])
        have hp : (0 : Int) < (n2 : Int) := by simp at hn2; omega
        clear hr PT hn2 LO
        go_wp2_with (refine wpList_store_row rfl 26 _ _ rfl w.heap.size #[.int .i64 0, .int .i64 0, .string ⟨#[]⟩, .slice none 0 0] rfl rfl 26 _ (unhide R2) szE rfl (ex_one _ _ _ _ _ _) ?_)
        refine bodyPost_ret (results_row2 (P := Tryz.prog) rfl _ _ w.heap.size 26 #[.int .i64 0, .int .i64 0, .string ⟨#[]⟩, .slice none 0 0] (0, 0) _ rfl (setRow_heap _ _ _ _ _ _ (unhide R2)) Tryz.underlying26 rfl szE) rfl ?_
        rw [← unhide HX]
        exact .inr ⟨unhide PN, rfl, (unhide B2).grown (grownBy_row _) (unhide B2).size (fun k e => by cases e; exact Nat.le_refl _)⟩
      | nil =>
        obtain rfl : n2 = 0 := by simpa using hn2.symm
        have hok := (toks_read 6 ts e [] (unhide LO) hr).1
        have PY := hide (show parseE s = some e by rw [unhide PT]; unfold parseL; rw [hr]; simp only [hok, if_true])
        have OK := hide hok
        have XO := hide (xo_all 6 (by omega) e w2 hok)
        rw [unhide HV] at XO
        unfold XoR at XO
        clear hr PT hn2 hok HV LO
        go_wp2_with fail
        refine (unhide XO).mono ?_
        rintro r w3 ⟨c, cp, rfl, hnx, hb3⟩
        have B3 := hide ((unhide B2).trans (hb3.mono (unhide B2).size))
        have R3 := hide (row_keep (unhide R2) hb3)
        have hl2 : w.heap.size + 1 ≤ w2.heap.size := (Array.getElem?_eq_some_iff.1 (unhide R2)).1
        have N3 := hide (hnx.lower hl2)
        unfold Ex.cs
        clear hnx hb3 B2 R2 XO
        go_wp2_with (refine wpList_store_row rfl 26 _ _ rfl w.heap.size #[.int .i64 e.k, .int .i64 e.n, .string e.s, .slice c e.l.length cp] rfl rfl 26 _ (unhide R3) szE rfl (ex_one _ _ _ _ _ _) ?_)
        refine bodyPost_ret (results_row2 (P := Tryz.prog) rfl _ _ w.heap.size 26 #[.int .i64 e.k, .int .i64 e.n, .string e.s, .slice c e.l.length cp] (0, 0) _ rfl (setRow_heap _ _ _ _ _ _ (unhide R3)) Tryz.underlying26 rfl szE) rfl ?_
        rw [← unhide HX]
        exact .inl ⟨e, c, cp, unhide PY, unhide OK, rfl, ((unhide N3).row _ (Nat.lt_succ_self _)).lower (Nat.le_succ _), (unhide B3).grown (grownBy_row _) (unhide B3).size (fun k e => by cases e; exact Nat.le_refl _)⟩
end Go.Proofs.YthgbpofcfmnpdaaGreatDoor

namespace Go.Proofs.YthgbpofcfmnpdaaGreatDoor
open Go.ChangeShapes Go.WideShapes Go.ChangeAt Go.RowKit
set_option linter.unusedVariables false
set_option maxRecDepth 8000

/-- How many parts a term has, all within. -/
def Ex.ct : Ex → Nat
  | ⟨_, _, _, l⟩ => l.length + (l.map Ex.ct).sum
def ctX (l : List Ex) : Nat := l.length + (l.map Ex.ct).sum
theorem ct_is (e : Ex) : e.ct = ctX e.l := by obtain ⟨k, n, s, l⟩ := e; rw [Ex.ct]; rfl
theorem ctX_take (l : List Ex) (k : Nat) (h : k < l.length) : ctX (l.take (k + 1)) = ctX (l.take k) + 1 + (xAt l k).ct := by
  unfold ctX
  rw [List.take_succ_eq_append_getElem h, List.map_append, List.sum_append, List.length_append, xAt_get h]
  simp
  omega
theorem ctX_le (l : List Ex) (k : Nat) : ctX (l.take k) ≤ ctX l := by
  induction l generalizing k with
  | nil => simp [ctX]
  | cons a r ih =>
    cases k with
    | zero => simp [ctX]
    | succ k =>
      have := ih k
      unfold ctX at this ⊢
      simp only [List.take_succ_cons, List.map_cons, List.sum_cons, List.length_cons]
      omega
/-- Where the marks of a part begin. -/
def posX (l : List Ex) (k i : Nat) : Nat := k + 3 * ctX (l.take i)
theorem posX_0 (l : List Ex) (k : Nat) : posX l k 0 = k := by simp [posX, ctX]
theorem posX_s (l : List Ex) (k i : Nat) (h : i < l.length) : posX l k (i + 1) = posX l k i + 3 + 3 * (xAt l i).ct := by
  unfold posX
  rw [ctX_take l i h]
  omega
theorem posX_end (l : List Ex) (k : Nat) : posX l k l.length = k + 3 * ctX l := by unfold posX; rw [List.take_length]
theorem posX_le (l : List Ex) (k i : Nat) (h : i < l.length) : posX l k i + 3 + 3 * (xAt l i).ct ≤ k + 3 * ctX l := by
  rw [← posX_s l k i h]
  unfold posX
  have := ctX_le l (i + 1)
  omega
/-- A term whose parts are marked from k on. -/
def MkX : Ex → Nat → Ex → Prop
  | ⟨_, _, _, l⟩, k, e' => e'.l.length = l.length ∧ ∀ x ∈ l, ∀ i, l[i]? = some x → (xAt e'.l i).k = ((posX l k i : Nat) : Int) ∧ (xAt e'.l i).n = ((posX l k i + 1 : Nat) : Int) ∧ (xAt e'.l i).s = mkTx (posX l k i + 2) ∧ MkX x (posX l k i + 3) (xAt e'.l i)
def MkOne (l : List Ex) (k i : Nat) (y : Ex) : Prop := y.k = ((posX l k i : Nat) : Int) ∧ y.n = ((posX l k i + 1 : Nat) : Int) ∧ y.s = mkTx (posX l k i + 2) ∧ MkX (xAt l i) (posX l k i + 3) y
theorem MkX_eq (e : Ex) (k : Nat) (e' : Ex) : MkX e k e' ↔ (e'.l.length = e.l.length ∧ ∀ i, i < e.l.length → MkOne e.l k i (xAt e'.l i)) := by
  obtain ⟨ek, n, s, l⟩ := e
  rw [MkX]
  refine and_congr Iff.rfl ⟨fun h i hi => ?_, fun h x hx i hi => ?_⟩
  · exact h _ (xAt_mem hi) i (by rw [xAt_get hi]; exact List.getElem?_eq_getElem hi)
  · obtain ⟨hl, e⟩ := List.getElem?_eq_some_iff.1 hi
    have := h i hl
    unfold MkOne at this
    rw [xAt_get hl, e] at this
    exact this
theorem MkX.len {e : Ex} {k : Nat} {y : Ex} (h : MkX e k y) : y.l.length = e.l.length := ((MkX_eq e k y).1 h).1
theorem MkX.of {e : Ex} {k : Nat} {y z : Ex} (h : MkX e k y) (hl : z.l = y.l) : MkX e k z := by
  rw [MkX_eq] at h ⊢
  rw [hl]
  exact h
theorem xAt_set_eq {l : List Ex} {i : Nat} (h : i < l.length) (y : Ex) : xAt (l.set i y) i = y := by
  unfold xAt
  rw [List.getD_eq_getElem?_getD, List.getElem?_set_self h]
  rfl
theorem xAt_set_ne {l : List Ex} {i j : Nat} (h : i ≠ j) (y : Ex) : xAt (l.set i y) j = xAt l j := by
  unfold xAt
  rw [List.getD_eq_getElem?_getD, List.getD_eq_getElem?_getD, List.getElem?_set_ne h]
/-- Of lists whose members all differ no two share one. -/
theorem flat_apart : ∀ (Fs : List (List Nat)) (i j x : Nat), Fs.flatten.Nodup → i ≠ j → x ∈ Fs.getD i [] → x ∉ Fs.getD j [] := by
  intro Fs
  induction Fs with
  | nil => intro i j x _ _ h; simp at h
  | cons F r ih =>
    intro i j x hn hij hx hy
    rw [List.flatten_cons, List.nodup_append] at hn
    obtain ⟨h1, h2, h3⟩ := hn
    cases i with
    | zero =>
      cases j with
      | zero => exact hij rfl
      | succ j => exact h3 x (by simpa using hx) x (getD_flat (i := j) (by simpa using hy)) rfl
    | succ i =>
      cases j with
      | zero => exact h3 x (by simpa using hy) x (getD_flat (i := i) (by simpa using hx)) rfl
      | succ j => exact ih i j x h2 (by omega) (by simpa using hx) (by simpa using hy)
theorem flat_part : ∀ (Fs : List (List Nat)) (i : Nat), Fs.flatten.Nodup → (Fs.getD i []).Nodup := by
  intro Fs
  induction Fs with
  | nil => intro i _; simp
  | cons F r ih =>
    intro i hn
    rw [List.flatten_cons, List.nodup_append] at hn
    cases i with
    | zero => simpa using hn.1
    | succ i => simpa using ih i hn.2.1
/-- A row with one part turned, its parts within turned in their own blocks. -/
theorem OwOne.turn {wr w5 : World} {ys : List Ex} {b : Nat} {cs cs5 : Array Value} {Fs : List (List Nat)} {i : Nat} {y : Ex} {c : Option Addr} {cp : Nat}
    (hr : ∀ j, j < ys.length → OwOne wr cs j (xAt ys j) (Fs.getD j [])) (hn : (b :: Fs.flatten).Nodup) (hi : i < ys.length)
    (hs : ∀ j, j ≠ i * 4 → j ≠ i * 4 + 1 → j ≠ i * 4 + 2 → cs5[j]? = cs[j]?)
    (d0 : cs5[i * 4]? = some (.int .i64 y.k)) (d1 : cs5[i * 4 + 1]? = some (.int .i64 y.n)) (d2 : cs5[i * 4 + 2]? = some (.string y.s)) (d3 : cs5[i * 4 + 3]? = some (.slice c y.l.length cp)) (hx : OwX w5 y c (Fs.getD i []))
    (hk : ∀ g, g ∈ Fs.flatten → g ∉ Fs.getD i [] → w5.heap[g]? = wr.heap[g]?) : ∀ j, j < ys.length → OwOne w5 cs5 j (xAt (ys.set i y) j) (Fs.getD j []) := by
  rw [List.nodup_cons] at hn
  intro j hj
  by_cases hij : i = j
  · subst hij
    rw [xAt_set_eq hi]
    exact ⟨d0, d1, d2, c, cp, d3, hx⟩
  · rw [xAt_set_ne hij]
    obtain ⟨p0, p1, p2, c', cap', p3, p4⟩ := hr j hj
    exact ⟨(hs _ (by omega) (by omega) (by omega)).trans p0, (hs _ (by omega) (by omega) (by omega)).trans p1, (hs _ (by omega) (by omega) (by omega)).trans p2, c', cap', (hs _ (by omega) (by omega) (by omega)).trans p3, OwX.keep _ _ _ (fun g hg => hk g (getD_flat hg) (flat_apart _ _ _ _ hn.2 (Ne.symm hij) hg)) p4⟩
end Go.Proofs.YthgbpofcfmnpdaaGreatDoor

namespace Go.Proofs.YthgbpofcfmnpdaaGreatDoor
open Go.ChangeShapes Go.WideShapes Go.ChangeAt Go.RowKit
set_option linter.unusedVariables false
set_option maxRecDepth 8000

def MarkP (e : Ex) : Prop := ∀ (a : Option Addr) (cap k : Nat) (F : List Nat) (B : Nat) (w : World), OwX w e a F → F.Nodup → (∀ b ∈ F, B ≤ b) → B ≤ w.heap.size → 0 < k → k + 3 * e.ct ≤ 1000000 → Calls Tryz.prog 45 #[.slice a e.l.length cap, .int .i64 k] w fun r w' => ∃ e' : Ex, r = .returned (.int .i64 ((k + 3 * e.ct : Nat) : Int)) ∧ MkX e k e' ∧ OwX w' e' a F ∧ Below B w w' ∧ ∀ g, g < w.heap.size → g ∉ F → w'.heap[g]? = w.heap[g]?
/-- So many parts are marked. -/
structure Mkg (w wr : World) (l : List Ex) (K b : Nat) (Fs : List (List Nat)) (B i : Nat) (ys : List Ex) (cs : Array Value) (t : TypeId) : Prop where
  hyl : ys.length = l.length
  row : wr.heap[b]? = some (.cells cs t (0, 0))
  hz : l.length * 4 ≤ cs.size
  one : ∀ j, j < l.length → OwOne wr cs j (xAt ys j) (Fs.getD j [])
  done : ∀ j, j < i → MkOne l K j (xAt ys j)
  rest : ∀ j, i ≤ j → xAt ys j = xAt l j
  bel : Below B w wr
  fr : ∀ g, g < w.heap.size → g ∉ b :: Fs.flatten → wr.heap[g]? = w.heap[g]?
theorem OwX.of {w : World} {x z : Ex} {c : Option Addr} {F : List Nat} (h : OwX w x c F) (hl : z.l = x.l) : OwX w z c F := by
  rw [OwX_eq] at h ⊢
  rw [hl]
  exact h
theorem Mkg.step {w wr w3 w5 : World} {l ys : List Ex} {K b : Nat} {Fs : List (List Nat)} {B i : Nat} {cs : Array Value} {t : TypeId} {c : Option Addr} {cp : Nat} {x' : Ex}
    (h : Mkg w wr l K b Fs B i ys cs t) (hi : i < l.length) (hF : Fs.length = l.length) (hn : (b :: Fs.flatten).Nodup) (hB : ∀ g ∈ b :: Fs.flatten, B ≤ g)
    (q3 : cs[i * 4 + 3]? = some (.slice c (xAt l i).l.length cp))
    (hb3 : Below ((wr.setCell ⟨b, i * 4, none⟩ (.int .i64 ((posX l K i : Nat) : Int))).setCell ⟨b, i * 4 + 1, none⟩ (.int .i64 ((posX l K i + 1 : Nat) : Int))).heap.size ((wr.setCell ⟨b, i * 4, none⟩ (.int .i64 ((posX l K i : Nat) : Int))).setCell ⟨b, i * 4 + 1, none⟩ (.int .i64 ((posX l K i + 1 : Nat) : Int))) w3)
    (hmk : MkX (xAt l i) (posX l K i + 3) x') (hox : OwX w5 x' c (Fs.getD i []))
    (hb5 : Below B (w3.setCell ⟨b, i * 4 + 2, none⟩ (.string (mkTx (posX l K i + 2)))) w5)
    (hf5 : ∀ g, g < (w3.setCell ⟨b, i * 4 + 2, none⟩ (.string (mkTx (posX l K i + 2)))).heap.size → g ∉ Fs.getD i [] → w5.heap[g]? = (w3.setCell ⟨b, i * 4 + 2, none⟩ (.string (mkTx (posX l K i + 2)))).heap[g]?) :
    ∃ ys' cs', Mkg w w5 l K b Fs B (i + 1) ys' cs' t := by
  have hn' := List.nodup_cons.1 hn
  have hbl : b < wr.heap.size := (Array.getElem?_eq_some_iff.1 h.row).1
  have r1 := heap_setCell_same wr b (i * 4) cs t (.int .i64 ((posX l K i : Nat) : Int)) h.row
  have r2 := heap_setCell_same _ b (i * 4 + 1) _ t (.int .i64 ((posX l K i + 1 : Nat) : Int)) r1
  have hsz2 : ((wr.setCell ⟨b, i * 4, none⟩ (.int .i64 ((posX l K i : Nat) : Int))).setCell ⟨b, i * 4 + 1, none⟩ (.int .i64 ((posX l K i + 1 : Nat) : Int))).heap.size = wr.heap.size := by simp
  have hoth2 : ∀ g, g ≠ b → ((wr.setCell ⟨b, i * 4, none⟩ (.int .i64 ((posX l K i : Nat) : Int))).setCell ⟨b, i * 4 + 1, none⟩ (.int .i64 ((posX l K i + 1 : Nat) : Int))).heap[g]? = wr.heap[g]? := fun g hg => by
    rw [heap_setCell_other _ _ _ _ hg, heap_setCell_other _ _ _ _ hg]
  have hbel2 : Below B wr ((wr.setCell ⟨b, i * 4, none⟩ (.int .i64 ((posX l K i : Nat) : Int))).setCell ⟨b, i * 4 + 1, none⟩ (.int .i64 ((posX l K i + 1 : Nat) : Int))) := ((Below.refl B wr).setCell (p := ⟨b, _, none⟩) (hB b List.mem_cons_self) _).setCell (p := ⟨b, _, none⟩) (hB b List.mem_cons_self) _
  generalize (wr.setCell ⟨b, i * 4, none⟩ (.int .i64 ((posX l K i : Nat) : Int))).setCell ⟨b, i * 4 + 1, none⟩ (.int .i64 ((posX l K i + 1 : Nat) : Int)) = W2 at *
  rw [hsz2] at hb3
  have r3 := (hb3.block b hbl).trans r2
  have r4 := heap_setCell_same w3 b (i * 4 + 2) _ t (.string (mkTx (posX l K i + 2))) r3
  have hsz3 : wr.heap.size ≤ w3.heap.size := hsz2 ▸ hb3.size
  have hsz4 : (w3.setCell ⟨b, i * 4 + 2, none⟩ (.string (mkTx (posX l K i + 2)))).heap.size = w3.heap.size := by simp
  have hoth4 : ∀ g, g < wr.heap.size → g ≠ b → (w3.setCell ⟨b, i * 4 + 2, none⟩ (.string (mkTx (posX l K i + 2)))).heap[g]? = wr.heap[g]? := fun g hgl hg => by
    rw [heap_setCell_other _ _ _ _ hg, hb3.block g hgl, hoth2 g hg]
  have hbB : B ≤ b := hB b List.mem_cons_self
  have hbel4 : Below B wr (w3.setCell ⟨b, i * 4 + 2, none⟩ (.string (mkTx (posX l K i + 2)))) := (hbel2.trans (hb3.mono (by omega))).setCell (p := ⟨b, _, none⟩) hbB _
  rw [hsz4] at hf5
  have hbi : b ∉ Fs.getD i [] := fun hb => hn'.1 (getD_flat hb)
  have r5 := (hf5 b (by omega) hbi).trans r4
  have hlt : ∀ g ∈ Fs.flatten, g < wr.heap.size := fun g hg => by
    obtain ⟨G, hG, hx⟩ := List.mem_flatten.1 hg
    obtain ⟨j, hj, rfl⟩ := List.getElem_of_mem hG
    obtain ⟨_, _, _, c', cp', _, ho⟩ := h.one j (hF ▸ hj)
    rw [List.getD_eq_getElem?_getD, List.getElem?_eq_getElem hj] at ho
    exact OwX.lt _ _ _ ho _ hx
  have hk5 : ∀ g, g < wr.heap.size → g ≠ b → g ∉ Fs.getD i [] → w5.heap[g]? = wr.heap[g]? := fun g hgl hg hgi => (hf5 g (by omega) hgi).trans (hoth4 g hgl hg)
  have hz := h.hz
  have T := OwOne.turn (wr := wr) (w5 := w5) (ys := ys) (b := b) (cs := cs) (cs5 := ((cs.setIfInBounds (i * 4) (.int .i64 ((posX l K i : Nat) : Int))).setIfInBounds (i * 4 + 1) (.int .i64 ((posX l K i + 1 : Nat) : Int))).setIfInBounds (i * 4 + 2) (.string (mkTx (posX l K i + 2)))) (Fs := Fs) (i := i) (y := ⟨((posX l K i : Nat) : Int), ((posX l K i + 1 : Nat) : Int), mkTx (posX l K i + 2), x'.l⟩) (c := c) (cp := cp)
    (fun j hj => h.one j (h.hyl ▸ hj)) hn (by rw [h.hyl]; exact hi)
    (fun j h0 h1 h2 => by rw [Array.getElem?_setIfInBounds_ne (by omega), Array.getElem?_setIfInBounds_ne (by omega), Array.getElem?_setIfInBounds_ne (by omega)])
    (by rw [Array.getElem?_setIfInBounds_ne (by omega), Array.getElem?_setIfInBounds_ne (by omega), Array.getElem?_setIfInBounds_self_of_lt (by omega)])
    (by rw [Array.getElem?_setIfInBounds_ne (by omega), Array.getElem?_setIfInBounds_self_of_lt (by simp; omega)])
    (by rw [Array.getElem?_setIfInBounds_self_of_lt (by simp; omega)])
    (by rw [Array.getElem?_setIfInBounds_ne (by omega), Array.getElem?_setIfInBounds_ne (by omega), Array.getElem?_setIfInBounds_ne (by omega), show (Ex.mk ((posX l K i : Nat) : Int) ((posX l K i + 1 : Nat) : Int) (mkTx (posX l K i + 2)) x'.l).l.length = x'.l.length from rfl, hmk.len]; exact q3)
    (hox.of rfl) (fun g hg hgi => hk5 g (hlt g hg) (fun e => hn'.1 (e ▸ hg)) hgi)
  rw [h.hyl] at T
  refine ⟨ys.set i ⟨((posX l K i : Nat) : Int), ((posX l K i + 1 : Nat) : Int), mkTx (posX l K i + 2), x'.l⟩, _, ?_, r5, ?_, T, fun j hj => ?_, fun j hj => ?_, h.bel.trans (hbel4.trans hb5), fun g hgl hg => ?_⟩
  · rw [List.length_set]; exact h.hyl
  · simpa using hz
  · by_cases hij : i = j
    · subst hij
      rw [xAt_set_eq (by rw [h.hyl]; exact hi)]
      exact ⟨rfl, rfl, rfl, hmk.of rfl⟩
    · rw [xAt_set_ne hij]
      exact h.done j (by omega)
  · rw [xAt_set_ne (by omega)]
    exact h.rest j (by omega)
  · have h1 : g ≠ b := fun e => hg (e ▸ List.mem_cons_self)
    have h2 : g ∉ Fs.getD i [] := fun e => hg (List.mem_cons_of_mem _ (getD_flat e))
    exact (hk5 g (Nat.lt_of_lt_of_le hgl h.bel.size) h1 h2).trans (h.fr g hgl hg)
set_option maxHeartbeats 2000000 in
theorem markXS_of (e : Ex) (ih : ∀ i, i < e.l.length → MarkP (xAt e.l i)) : MarkP e := by
  intro a cap K F B w ho hnd hF hBw hK hbd
  have hct := ct_is e
  rw [OwX_eq] at ho
  generalize hl : e.l = l at *
  rw [hct] at hbd ⊢
  have FIN := hide (fun (y : Ex) => MkX_eq e K y)
  rw [hl] at FIN
  rcases ho with ⟨rfl, rfl⟩ | ⟨b, cs, t, Fs, rfl, hh, hz, hFl, rfl, hone⟩
  · have HE := hide (show MkX e K e from (unhide FIN e).2 ⟨by rw [hl], fun i hi => by cases hi⟩)
    have HO := hide (show OwX w e a [] from (OwX_eq _ _ _ _).2 (.inl ⟨hl, rfl⟩))
    clear ih hct hl FIN
    go_enter Tryz.func45, Tryz.ntmps45
    go_wp2
    go_loopw [1, 5] (fun kv i wr => i = .int .i64 0 ∧ kv = .int .i64 K ∧ wr = w) (fun _ i _ => 0)
    case atStart => exact ⟨rfl, rfl, rfl⟩
    case round =>
      obtain ⟨rfl, rfl, rfl⟩ := hrel
      go_wp2
      go_ret
      exact ⟨e, by simp [ctX], unhide HE, unhide HO, Below.refl _ _, fun g _ _ => rfl⟩
  · have M0 := hide (show Mkg w w l K b Fs B 0 l cs t from ⟨rfl, hh, hz, hone, fun j hj => by omega, fun j _ => rfl, Below.refl _ _, fun g _ _ => rfl⟩)
    have FN := hide (fun (wr : World) (ys : List Ex) (cs' : Array Value) (t' : TypeId) (h : Mkg w wr l K b Fs B l.length ys cs' t') => (show MkX e K ⟨0, 0, ⟨#[]⟩, ys⟩ ∧ OwX wr ⟨0, 0, ⟨#[]⟩, ys⟩ (some ⟨b, 0, none⟩) (b :: Fs.flatten) from
      ⟨(unhide FIN _).2 ⟨h.hyl, fun i hi => h.done i hi⟩, (OwX_eq _ _ _ _).2 (.inr ⟨b, cs', t', Fs, rfl, h.row, by show ys.length * 4 ≤ _; rw [h.hyl]; exact h.hz, by show Fs.length = ys.length; rw [h.hyl]; exact hFl, rfl, fun i hi => h.one i (by have : i < ys.length := hi; rwa [h.hyl] at this)⟩)⟩))
    have hcl : l.length ≤ ctX l := by unfold ctX; omega
    obtain ⟨n, hn⟩ : ∃ n, l.length = n := ⟨_, rfl⟩
    have hnl : n ≤ 1000000 := by omega
    have PE := hide (posX_end l K)
    have P0 := hide (posX_0 l K)
    clear hone hh hz FIN hct hl hcl
    rw [hn] at ih PE FN ⊢
    rw [← unhide PE]
    go_enter Tryz.func45, Tryz.ntmps45
    go_wp2
    go_loopw [1, 5] (fun kv i wr => ∃ k : Nat, k ≤ n ∧ i = .int .i64 k ∧ kv = .int .i64 ((posX l K k : Nat) : Int) ∧ ∃ ys cs t, Mkg w wr l K b Fs B k ys cs t) (fun _ i _ => n - (intOf i).toNat)
    case atStart => exact ⟨0, Nat.zero_le _, rfl, by rw [unhide P0], _, _, _, unhide M0⟩
    case round =>
      clear M0
      obtain ⟨k, hk, rfl, rfl, ys, cs, t, hM⟩ := hrel
      by_cases hlt : k < n
      · obtain ⟨q0, q1, q2, c, cp, q3, q4⟩ := hM.one k (by omega)
        rw [hM.rest k (Nat.le_refl _)] at q0 q1 q2 q3 q4
        have hh := hM.row
        have hz := hM.hz
        have c0 := (Lib.cell_of_heap hh (k * 4)).trans q0
        have c1 := (Lib.cell_of_heap hh (k * 4 + 1)).trans q1
        have f0 := Lib.frozen_of_heap hh (k * 4)
        have f1 := Lib.frozen_of_heap hh (k * 4 + 1)
        have hbl : b < wr.heap.size := (Array.getElem?_eq_some_iff.1 hh).1
        have hPl := posX_le l K k (by omega)
        have hPs := posX_s l K k (by omega)
        have r1 := heap_setCell_same wr b (k * 4) cs t (.int .i64 ((posX l K k : Nat) : Int)) hh
        have r2 := heap_setCell_same _ b (k * 4 + 1) _ t (.int .i64 ((posX l K k + 1 : Nat) : Int)) r1
        have C2 := hide (show ((wr.setCell ⟨b, k * 4, none⟩ (.int .i64 ((posX l K k : Nat) : Int))).setCell ⟨b, k * 4 + 1, none⟩ (.int .i64 ((posX l K k + 1 : Nat) : Int))).cell? ⟨b, k * 4 + 2, none⟩ = some (.string (xAt l k).s) by
          rw [Lib.cell_of_heap r2, Array.getElem?_setIfInBounds_ne (by omega), Array.getElem?_setIfInBounds_ne (by omega)]; exact q2)
        have C3 := hide (show ((wr.setCell ⟨b, k * 4, none⟩ (.int .i64 ((posX l K k : Nat) : Int))).setCell ⟨b, k * 4 + 1, none⟩ (.int .i64 ((posX l K k + 1 : Nat) : Int))).cell? ⟨b, k * 4 + 3, none⟩ = some (.slice c (xAt l k).l.length cp) by
          rw [Lib.cell_of_heap r2, Array.getElem?_setIfInBounds_ne (by omega), Array.getElem?_setIfInBounds_ne (by omega)]; exact q3)
        have F2 := hide (Lib.frozen_of_heap r2 (k * 4 + 2))
        have GL := hide (show b < ((wr.setCell ⟨b, k * 4, none⟩ (.int .i64 ((posX l K k : Nat) : Int))).setCell ⟨b, k * 4 + 1, none⟩ (.int .i64 ((posX l K k + 1 : Nat) : Int))).heap.size by simpa using hbl)
        have ST := hide (fun w3 w5 x' hb3 hmk hox hb5 hf5 => Mkg.step (w3 := w3) (w5 := w5) (x' := x') hM (by omega) hFl hnd hF q3 hb3 hmk hox hb5 hf5)
        have MX := hide (fun W => markTx_any (posX l K k + 2) (by omega) (by omega) W)
        have hn' := List.nodup_cons.1 hnd
        have OC := hide (fun w3 (hb3 : Below ((wr.setCell ⟨b, k * 4, none⟩ (.int .i64 ((posX l K k : Nat) : Int))).setCell ⟨b, k * 4 + 1, none⟩ (.int .i64 ((posX l K k + 1 : Nat) : Int))).heap.size ((wr.setCell ⟨b, k * 4, none⟩ (.int .i64 ((posX l K k : Nat) : Int))).setCell ⟨b, k * 4 + 1, none⟩ (.int .i64 ((posX l K k + 1 : Nat) : Int))) w3) (v : Value) =>
          ih k hlt c cp (posX l K k + 3) (Fs.getD k []) B (w3.setCell ⟨b, k * 4 + 2, none⟩ v)
            (OwX.keep _ _ _ (fun g hg => by
              have hne : g ≠ b := fun e => hn'.1 (e ▸ getD_flat hg)
              have hgl := OwX.lt _ _ _ q4 g hg
              rw [heap_setCell_other _ _ _ _ hne, hb3.block g (by simpa using hgl), heap_setCell_other _ _ _ _ hne, heap_setCell_other _ _ _ _ hne]) q4)
            (flat_part _ _ hn'.2) (fun g hg => hF g (List.mem_cons_of_mem _ (getD_flat hg))) (by have h1 := hb3.size; have h2 := hM.bel.size; simp at h1 ⊢; omega) (by omega) (by omega))
        have EN : ((posX l K k : Nat) : Int) + 1 = ((posX l K k + 1 : Nat) : Int) := by omega
        have EM : ((posX l K k + 1 : Nat) : Int) + 1 = ((posX l K k + 2 : Nat) : Int) := by omega
        have EP : ((posX l K k + 2 : Nat) : Int) + 1 = ((posX l K k + 3 : Nat) : Int) := by omega
        have EQ := hide (show ((posX l K k + 3 + 3 * (xAt l k).ct : Nat) : Int) = ((posX l K (k + 1) : Nat) : Int) by rw [hPs])
        have bA : 0 ≤ ((posX l K k : Nat) : Int) ∧ ((posX l K k : Nat) : Int) ≤ 1000000 := by omega
        have bA2 : 0 ≤ ((posX l K k + 1 : Nat) : Int) ∧ ((posX l K k + 1 : Nat) : Int) ≤ 1000001 := by omega
        have bA3 : 0 ≤ ((posX l K k + 2 : Nat) : Int) ∧ ((posX l K k + 2 : Nat) : Int) ≤ 1000002 := by omega
        clear r1 r2 q0 q1 q2 q3 q4 hM hh hz hPl hPs hn' ih FN
        generalize (xAt l k).ct = ctk at *
        generalize hA : ((posX l K k : Nat) : Int) = A at *
        generalize hB2 : ((posX l K k + 1 : Nat) : Int) = A2 at *
        generalize hC : ((posX l K k + 2 : Nat) : Int) = A3 at *
        generalize hD : ((posX l K k + 3 : Nat) : Int) = A4 at *
        generalize mkTx (posX l K k + 2) = X at *
        generalize (xAt l k).s = xs at *
        go_wp2_with fail
        generalize (wr.setCell ⟨b, k * 4, none⟩ (.int .i64 A)).setCell ⟨b, k * 4 + 1, none⟩ (.int .i64 A2) = W2 at *
        refine (unhide MX _).mono ?_
        rintro e w3 ⟨rfl, hb3⟩
        have d2 := (hb3.cell (p := ⟨b, k * 4 + 2, none⟩) (unhide GL)).trans (unhide C2)
        have d3 := (hb3.cell (p := ⟨b, k * 4 + 3, none⟩) (unhide GL)).trans (unhide C3)
        have e2 := (hb3.frozen (p := ⟨b, k * 4 + 2, none⟩) (unhide GL)).trans (unhide F2)
        have OD := hide (unhide OC w3 hb3 (.string X))
        have HB3 := hide hb3
        clear OC C2 C3 F2 GL MX c0 c1 f0 f1 hb3
        go_wp2_with fail
        refine (unhide OD).mono ?_
        rintro e w5 ⟨x', rfl, hmk, hox, hb5, hf5⟩
        have SS := hide (unhide ST w3 w5 x' (unhide HB3) hmk hox hb5 hf5)
        clear hmk hox hb5 hf5 OD ST d2 d3 e2
        go_wp2
        go_roundw
        case rel =>
          obtain ⟨ys', cs', hM'⟩ := unhide SS
          exact ⟨k + 1, by omega, by go_num, by rw [← unhide EQ]; congr 1; omega, ys', cs', _, hM'⟩
        case measure => simp [intOf]; omega
      · obtain rfl : k = n := by omega
        have HM := hide hM
        have FF := hide (unhide FN _ _ _ _ hM)
        clear hM
        go_wp2
        go_ret
        exact ⟨_, rfl, (unhide FF).1, (unhide FF).2, (unhide HM).bel, (unhide HM).fr⟩
theorem markXS_any (e : Ex) : MarkP e := by
  induction e using Ex.ind with
  | h k n s l ih => exact markXS_of _ (fun i hi => ih _ (xAt_mem hi))
end Go.Proofs.YthgbpofcfmnpdaaGreatDoor

namespace Go.Proofs.YthgbpofcfmnpdaaGreatDoor
open Go.ChangeShapes Go.WideShapes Go.ChangeAt Go.RowKit
set_option linter.unusedVariables false
set_option maxRecDepth 8000

def HeldP (e : Ex) : Prop := ∀ (a : Option Addr) (cap K : Nat) (y : Ex) (w : World), MkX e K y → RdX w 0 y a → 0 < K → K + 3 * e.ct ≤ 1000000 → Calls Tryz.prog 46 #[.slice a e.l.length cap, .int .i64 K] w fun r w' => r = .returned (.int .i64 ((K + 3 * e.ct : Nat) : Int)) ∧ Below w.heap.size w w'
set_option maxHeartbeats 2000000 in
theorem heldXS_of (e : Ex) (ih : ∀ i, i < e.l.length → HeldP (xAt e.l i)) : HeldP e := by
  intro a cap K y w hy hr hK hbd
  have hct := ct_is e
  rw [MkX_eq] at hy
  rw [RdX_eq] at hr
  generalize e.l = l at *
  rw [hct] at hbd ⊢
  obtain ⟨hyl, hy⟩ := hy
  generalize y.l = ys at *
  have hcl : l.length ≤ ctX l := by unfold ctX; omega
  obtain ⟨n, hn⟩ : ∃ n, l.length = n := ⟨_, rfl⟩
  have hnl : n ≤ 1000000 := by omega
  have PE := hide (posX_end l K)
  have P0 := hide (posX_0 l K)
  clear hct hcl
  rw [hn] at ih PE hy hyl ⊢
  rw [← unhide PE]
  go_enter Tryz.func46, Tryz.ntmps46
  go_wp2
  go_loopw [1, 5] (fun kv i wr => ∃ (k : Nat) (x : Sub w.heap.size w), k ≤ n ∧ i = .int .i64 k ∧ kv = .int .i64 ((posX l K k : Nat) : Int) ∧ wr = x.w) (fun _ i _ => n - (intOf i).toNat)
  case atStart => exact ⟨0, ⟨w, Below.refl _ _⟩, Nat.zero_le _, rfl, by rw [unhide P0], rfl⟩
  case round =>
    obtain ⟨k, x, hk, rfl, rfl, rfl⟩ := hrel
    by_cases hlt : k < n
    · rcases hr with h0 | ⟨p, po, rfl, _, hp, hpc⟩
      · rw [h0] at hyl; simp at hyl; omega
      obtain ⟨e0, e1, e2, c, cp, e3, e4⟩ := hpc k (by omega)
      obtain ⟨m0, m1, m2, m3⟩ := hy k hlt
      rw [m0] at e0
      rw [m1] at e1
      rw [m2] at e2
      rw [m3.len] at e3
      have d0 : ∀ z : Sub w.heap.size w, z.w.cell? ⟨p, po + k * 4, none⟩ = _ := fun z => (z.h.cell (p := ⟨p, _, none⟩) hp).trans e0
      have d1 : ∀ z : Sub w.heap.size w, z.w.cell? ⟨p, po + k * 4 + 1, none⟩ = _ := fun z => (z.h.cell (p := ⟨p, _, none⟩) hp).trans e1
      have d2 : ∀ z : Sub w.heap.size w, z.w.cell? ⟨p, po + k * 4 + 2, none⟩ = _ := fun z => (z.h.cell (p := ⟨p, _, none⟩) hp).trans e2
      have d3 : ∀ z : Sub w.heap.size w, z.w.cell? ⟨p, po + k * 4 + 3, none⟩ = _ := fun z => (z.h.cell (p := ⟨p, _, none⟩) hp).trans e3
      have hPl := posX_le l K k (by omega)
      have hPs := posX_s l K k (by omega)
      have MX := hide (fun W => markTx_any (posX l K k + 2) (by omega) (by omega) W)
      have HC := hide (fun z : Sub w.heap.size w => ih k hlt c cp (posX l K k + 3) (xAt ys k) z.w m3 (e4.later z.h) (by omega) (by omega))
      have ne := Sub.ne w.heap.size w
      have HZ := hide (Nat.le_refl w.heap.size)
      have EN : ((posX l K k : Nat) : Int) + 1 = ((posX l K k + 1 : Nat) : Int) := by omega
      have EM : ((posX l K k + 1 : Nat) : Int) + 1 = ((posX l K k + 2 : Nat) : Int) := by omega
      have EP : ((posX l K k + 2 : Nat) : Int) + 1 = ((posX l K k + 3 : Nat) : Int) := by omega
      have EQ := hide (show ((posX l K k + 3 + 3 * (xAt l k).ct : Nat) : Int) = ((posX l K (k + 1) : Nat) : Int) by rw [hPs])
      have bA : 0 ≤ ((posX l K k : Nat) : Int) ∧ ((posX l K k : Nat) : Int) ≤ 1000000 := by omega
      have bA2 : 0 ≤ ((posX l K k + 1 : Nat) : Int) ∧ ((posX l K k + 1 : Nat) : Int) ≤ 1000001 := by omega
      have bA3 : 0 ≤ ((posX l K k + 2 : Nat) : Int) ∧ ((posX l K k + 2 : Nat) : Int) ≤ 1000002 := by omega
      have bA5 : 0 ≤ ((posX l K k + 3 + 3 * (xAt l k).ct : Nat) : Int) := by omega
      clear e0 e1 e2 e3 e4 m0 m1 m2 m3 hpc hy hPl hPs ih
      generalize (xAt l k).l.length = ll at *
      generalize hE : ((posX l K k + 3 + 3 * (xAt l k).ct : Nat) : Int) = A5 at *
      generalize hA : ((posX l K k : Nat) : Int) = A at *
      generalize hB2 : ((posX l K k + 1 : Nat) : Int) = A2 at *
      generalize hC : ((posX l K k + 2 : Nat) : Int) = A3 at *
      generalize hD : ((posX l K k + 3 : Nat) : Int) = A4 at *
      generalize mkTx (posX l K k + 2) = X at *
      go_wp2_with fail
      refine wp_region_sub x (by kernel_rfl) (by kernel_rfl) ?_
      repeat (go_big_quiet_step (first | (go_at_call 74; exact Sub.call (unhide HZ) (unhide MX _))))
      refine wpQuiet_nil ?_
      intro z
      go_wp2_with fail
      refine (Sub.call (unhide HZ) (unhide HC _)).mono ?_
      rintro e _ ⟨rfl, z2, rfl⟩
      go_wp2
      go_roundw
      case rel => exact ⟨k + 1, z2, by omega, by go_num, congrArg (Value.int .i64) (unhide EQ), rfl⟩
      case measure => simp [intOf]; omega
    · obtain rfl : k = n := by omega
      go_wp2
      go_ret
      exact ⟨rfl, x.h⟩
theorem heldXS_any (e : Ex) : HeldP e := by
  induction e using Ex.ind with
  | h k n s l ih => exact heldXS_of _ (fun i hi => ih _ (xAt_mem hi))
set_option maxHeartbeats 1000000 in
theorem markX_any (e : Ex) (a : Option Addr) (cap k B : Nat) (w : World) (ho : NewX w B e a) (hB : B ≤ w.heap.size) (hk : 0 < k) (hb : k + 3 * e.ct ≤ 1000000) : Calls Tryz.prog 18 #[.agg (e.cs a cap), .int .i64 k] w fun r w' => ∃ y : Ex, r = .returned (.int .i64 ((k + 3 * e.ct : Nat) : Int)) ∧ MkX e k y ∧ NewX w' B y a ∧ Below B w w' := by
  obtain ⟨F, o1, o2, o3⟩ := ho
  have hbW : Below w.heap.size w (w.alloc (.cells (e.cs a cap) 26)) := (Below.refl _ _).alloc (Nat.le_refl _) _
  have MS := (markXS_any e a cap k F B (w.alloc (.cells (e.cs a cap) 26)) (o1.later hbW) o2 o3 (Nat.le_trans hB hbW.size) hk hb).mono (R' := fun r w' => ∃ y : Ex, r = .returned (.int .i64 ((k + 3 * e.ct : Nat) : Int)) ∧ MkX e k y ∧ NewX w' B y a ∧ Below B w w') (by
    rintro r w' ⟨y, rfl, h1, h2, h3, _⟩
    exact ⟨y, rfl, h1, ⟨F, h2, o2, o3⟩, (hbW.mono hB).trans h3⟩)
  have M := hide MS
  unfold Ex.cs at M ⊢
  clear o1 o2 o3 hbW MS
  generalize hc : ((k + 3 * e.ct : Nat) : Int) = C at *
  generalize e.l.length = ll at *
  go_enter Tryz.func18, Tryz.ntmps18
  go_wp2_with (go_at_call 45; refine (unhide M).mono ?_; rintro e w1 ⟨y, rfl, h1, h2, h3⟩)
  go_ret
  exact ⟨y, rfl, h1, h2, h3⟩
set_option maxHeartbeats 1000000 in
theorem heldX_any (e : Ex) (a : Option Addr) (cap k : Nat) (y : Ex) (w : World) (hm : MkX e k y) (hr : RdX w 0 y a) (hk : 0 < k) (hb : k + 3 * e.ct ≤ 1000000) (q n : Int) (s : ByteArray) : Calls Tryz.prog 19 #[.agg #[.int .i64 q, .int .i64 n, .string s, .slice a e.l.length cap], .int .i64 k] w fun r w' => r = .returned (.int .i64 ((k + 3 * e.ct : Nat) : Int)) ∧ Below w.heap.size w w' := by
  have hbW : Below w.heap.size w (w.alloc (.cells #[.int .i64 q, .int .i64 n, .string s, .slice a e.l.length cap] 26)) := (Below.refl _ _).alloc (Nat.le_refl _) _
  have MS := (heldXS_any e a cap k y (w.alloc (.cells #[.int .i64 q, .int .i64 n, .string s, .slice a e.l.length cap] 26)) hm (hr.later hbW) hk hb).mono (R' := fun r w' => r = .returned (.int .i64 ((k + 3 * e.ct : Nat) : Int)) ∧ Below w.heap.size w w') (by
    rintro r w' ⟨rfl, h1⟩
    exact ⟨rfl, hbW.trans (h1.mono hbW.size)⟩)
  have M := hide MS
  have hp : 0 ≤ ((k + 3 * e.ct : Nat) : Int) := by omega
  clear hbW MS hm hr
  generalize hc : ((k + 3 * e.ct : Nat) : Int) = C at *
  generalize e.l.length = ll at *
  go_enter Tryz.func19, Tryz.ntmps19
  go_wp2_with (go_at_call 46; refine (unhide M).mono ?_; rintro e w1 ⟨rfl, h1⟩)
  go_ret
  exact ⟨rfl, h1⟩
end Go.Proofs.YthgbpofcfmnpdaaGreatDoor

namespace Go.Proofs.YthgbpofcfmnpdaaGreatDoor
open Go.ChangeShapes Go.WideShapes Go.ChangeAt Go.RowKit
set_option linter.unusedVariables false
set_option maxRecDepth 8000
set_option linter.unusedSimpArgs false

/-- What the text's road reads: kept words, marks, digits' table. -/
structure TabX (w : World) : Prop where
  k : TabK w
  g : TabG w
  b : w.cell? ⟨8, 7, none⟩ = some (.int .u8 3)
theorem TabX.next {w w' : World} (h : TabX w) (hb : Below w.heap.size w w') : TabX w' :=
  ⟨h.k.next hb, h.g.later hb h.g.lt, (hb.cell (p := ⟨8, 7, none⟩) (World.block_lt_of_cell? w _ h.b)).trans h.b⟩
set_option maxHeartbeats 2000000 in
theorem textI_any (e : Ex) (b : Option Addr) (cap : Nat) (w : World) (hr : RdX w 0 e b) (hz : e.sz ≤ 1048576) (ht : TabX w) : Calls Tryz.prog 7 #[.agg (e.cs b cap)] w fun r w' => r = .returned (.string (textE e)) ∧ Below w.heap.size w w' := by
  have B0 := below_new w (.cells (e.cs b cap) 26)
  have HH := hide (term_all 6 (by omega) e b cap _ (hr.later B0) hz (ht.next B0).k)
  have HB := hide B0
  have IP := hide (fun w1 h => isp_all 6 e w1 h)
  have NP := hide (plain_not (d := 6) (e := e))
  have TB := hide (fun w1 (hb : Below w.heap.size w w1) => ht.next hb)
  have PU := hide (fun w1 (h : okF 6 true e = true) (hx : TabX w1) => put_all 6 (by omega) e [] (.slice none 0 0) w1.heap.size w1 h (ownT_none _ _) (Nat.le_refl _) (by have := mxT_le 6 (by omega); simp; omega) hx.g hx.g.lt)
  have LI := hide (fun w1 a c (h : okF 6 true e = true) (h2 : RdT w1 a (toksF 6 e)) hx => lineI_any a (toksF 6 e).length c (toksF 6 e) w1 rfl (text_len h) h2 hx)
  have TE := hide (show (okF 6 true e = true → textE e = strOf (lineOf (toksF 6 e))) ∧ (okF 6 true e = false → textE e = E0) from ⟨fun h => by unfold textE; rw [if_pos h], fun h => by unfold textE; rw [if_neg (by rw [h]; decide)]⟩)
  clear hr B0 ht
  unfold TermR at HH
  obtain ⟨t, x, e1⟩ := tv_if e
  rw [e1] at HH IP PU
  clear e1
  simp only [List.nil_append] at PU
  generalize okF 6 false e = q at *
  generalize okF 6 true e = q2 at *
  generalize toksF 6 e = ts at *
  generalize textE e = tx at *
  unfold Ex.cs at HH HB ⊢
  generalize e.l.length = ll at *
  go_enter Tryz.func7, Tryz.ntmps7
  go_wp2_with fail
  refine (unhide HH).mono ?_
  rintro r w1 ⟨v, rfl, hv, hb1⟩
  have BB := hide ((unhide HB).trans (hb1.mono (unhide HB).size))
  cases q with
  | false =>
    have E := hide ((unhide TE).2 (unhide NP rfl))
    clear hb1 HH HB hv IP PU LI TE NP
    go_wp2
    go_ret
    exact ⟨by rw [unhide E]; rfl, unhide BB⟩
  | true =>
    have hve := hv rfl
    subst hve
    have I2 := hide (unhide IP w1 rfl)
    clear hb1 HH HB hv IP NP
    go_wp2_with fail
    refine (unhide I2).mono ?_
    rintro r w2 ⟨rfl, hb2⟩
    have B2 := hide ((unhide BB).trans (hb2.mono (unhide BB).size))
    clear hb2 I2 BB
    cases q2 with
    | false =>
      have E := hide ((unhide TE).2 rfl)
      clear PU LI TE
      go_wp2
      go_ret
      exact ⟨by rw [unhide E]; rfl, unhide B2⟩
    | true =>
      have E := hide ((unhide TE).1 rfl)
      have P2 := hide (unhide PU w2 rfl (unhide TB w2 (unhide B2)))
      have L2 := hide (fun w1 a c => unhide LI w1 a c rfl)
      clear PU LI TE
      go_wp2_with fail
      refine (unhide P2).mono ?_
      rintro r w3 ⟨v3, rfl, o3, hb3, _⟩
      have B3 := hide ((unhide B2).trans (hb3.mono (unhide B2).size))
      obtain ⟨a3, c3, rfl, r3⟩ := o3.rd
      have L3 := hide (unhide L2 w3 a3 c3 r3 (unhide TB w3 (unhide B3)).b)
      clear o3 r3 hb3 P2 L2 B2
      go_wp2_with (go_at_call 24; refine (unhide L3).mono ?_; rintro r w4 ⟨rfl, hb4⟩)
      go_ret
      exact ⟨by rw [unhide E]; rfl, (unhide B3).trans (hb4.mono (unhide B3).size)⟩
end Go.Proofs.YthgbpofcfmnpdaaGreatDoor

namespace Go.Proofs.YthgbpofcfmnpdaaGreatDoor
open Go.ChangeShapes Go.WideShapes Go.ChangeAt Go.RowKit
set_option linter.unusedVariables false
set_option maxRecDepth 8000

section
variable {H : Type} {enc : TypeId × Value → H} {P : Program} {w : World} {spare : Nat → Bool}
theorem vars_three {n0 n1 n2 : String} {gs : List (DataW H)} {ps : List MemPlace} (h : DataW.TrodVars enc P w spare [n0, n1, n2] gs ps) : ∃ d0 d1 d2, gs = [d0, d1, d2] := by
  cases gs with
  | nil => simp [DataW.TrodVars] at h
  | cons d ds =>
    obtain ⟨g0, t0, cs0, f0, p0, q0, h1, h2, h3, h4, hs, e⟩ := h
    obtain ⟨g1, t1, cs1, f1, d1, p1, g2, t2, cs2, f2, d2, p2, rfl, _⟩ := trodVars_two hs
    exact ⟨d, d1, d2, rfl⟩
end
theorem gSg : Tryz.prog.globalNamed "loop.example/g00329/impl.signs" = some 0 := by kernel_rfl
theorem tSg : (Tryz.prog.globals[0]?).map (·.type) = some 110 := by kernel_rfl
theorem sgD_eq : (Rows.laid_loop_example_g00329_impl_signs : DataW Unit) = strData sgnL := by kernel_rfl
theorem tab3_of {W : World} (h : laidMet Tryz.prog [("loop.example/g00329/impl.opWords", Rows.laid_loop_example_g00329_impl_opWords), ("loop.example/g00329/impl.regWords", Rows.laid_loop_example_g00329_impl_regWords), ("loop.example/g00329/impl.signs", Rows.laid_loop_example_g00329_impl_signs)] W) : TabK W ∧ TabG W := by
  rw [opD_eq, rgD_eq, sgD_eq] at h
  exact ⟨⟨strs_of_head gOp tOp Tryz.underlying141 Tryz.underlying9 (by kernel_rfl) (by kernel_rfl) h, strs_of_head gRg tRg Tryz.underlying142 Tryz.underlying9 (by kernel_rfl) (by kernel_rfl) h.tail⟩, strs_of_head gSg tSg Tryz.underlying110 Tryz.underlying9 (by kernel_rfl) (by kernel_rfl) h.tail.tail⟩
theorem tabx_of {W : World} (h : laidMetH Tryz.prog [("math/bits.deBruijn32tab", Rows.laid_math_bits_deBruijn32tab), ("math/bits.deBruijn64tab", Rows.laid_math_bits_deBruijn64tab), ("internal/strconv.uint64pow10", Rows.laid_internal_strconv_uint64pow10), ("loop.example/g00329/impl.opWords", Rows.laid_loop_example_g00329_impl_opWords), ("loop.example/g00329/impl.regWords", Rows.laid_loop_example_g00329_impl_regWords), ("loop.example/g00329/impl.signs", Rows.laid_loop_example_g00329_impl_signs)] W) : TabX W := by
  rw [MakeChecks.laidMetH_plain _ _ _ (by kernel_rfl)] at h
  obtain ⟨h1, h2⟩ := tab3_of h.tail.tail.tail
  exact ⟨h1, h2, db_of h.tail⟩
/-- What reading a term leans on. -/
structure EnvX (w : World) : Prop where
  env : Env w
  x : TabX w
theorem EnvX.next {w w' : World} (h : EnvX w) (hb : Below w.heap.size w w') : EnvX w' := ⟨h.env.later hb, h.x.next hb⟩
theorem envx_of {W : World} (h : laidMetH Tryz.prog [("math/bits.deBruijn32tab", Rows.laid_math_bits_deBruijn32tab), ("math/bits.deBruijn64tab", Rows.laid_math_bits_deBruijn64tab), ("internal/strconv.uint64pow10", Rows.laid_internal_strconv_uint64pow10), ("strconv.ErrRange", Rows.laid_strconv_ErrRange), ("strconv.ErrSyntax", Rows.laid_strconv_ErrSyntax), ("loop.example/g00329/impl.opWords", Rows.laid_loop_example_g00329_impl_opWords), ("loop.example/g00329/impl.regWords", Rows.laid_loop_example_g00329_impl_regWords), ("loop.example/g00329/impl.signs", Rows.laid_loop_example_g00329_impl_signs)] W) : EnvX W := by
  rw [MakeChecks.laidMetH_plain _ _ _ (by kernel_rfl)] at h
  have h3 := h.tail.tail.tail
  obtain ⟨a2, s2, hv2, -, -, -⟩ := laid_sentinel h3 gER tER Tryz.underlying100 rowES Tryz.underlying172 Tryz.underlying174 rfl rfl Tryz.underlying9 cellsES cellsSt
  obtain ⟨a1, s1, hv1, -, -, -⟩ := laid_sentinel h3.tail gES tES Tryz.underlying100 rowES Tryz.underlying172 Tryz.underlying174 rfl rfl Tryz.underlying9 cellsES cellsSt
  obtain ⟨k1, k2⟩ := tab3_of h3.tail.tail
  exact ⟨⟨k1, db_of h.tail, ⟨_, _, by have h0 := World.var?_cell gES hv1 0; simpa using h0⟩, ⟨_, _, by have h0 := World.var?_cell gER hv2 0; simpa using h0⟩⟩, ⟨k1, k2, db_of h.tail⟩⟩
end Go.Proofs.YthgbpofcfmnpdaaGreatDoor

namespace Go.Proofs.YthgbpofcfmnpdaaGreatDoor
open Go.ChangeShapes Go.WideShapes Go.ChangeAt Go.RowKit
set_option linter.unusedVariables false
set_option maxRecDepth 8000
set_option linter.unusedSimpArgs false

theorem ct_sz (e : Ex) : e.ct ≤ e.sz := by
  induction e using Ex.ind with
  | h k n s l ih =>
    rw [Ex.ct, Ex.sz_eq]
    show l.length + (l.map Ex.ct).sum ≤ s.size + l.length + (l.map Ex.sz).sum
    have : (l.map Ex.ct).sum ≤ (l.map Ex.sz).sum := by
      clear k n s
      induction l with
      | nil => simp
      | cons x r ihr =>
        have h1 := ih x List.mem_cons_self
        have h2 := ihr (fun y hy => ih y (List.mem_cons_of_mem _ hy))
        simp only [List.map_cons, List.sum_cons]
        omega
    omega
/-- What a text is read as; nothing where it is none. -/
def prE (s : ByteArray) : Ex := (parseE s).getD ⟨0, 0, ⟨#[]⟩, []⟩
def prB (s : ByteArray) : Bool := (parseE s).isSome
theorem pr_small (s : ByteArray) : (prE s).sz ≤ 504 := by
  unfold prE
  cases h : parseE s with
  | none => exact (show (Ex.mk 0 0 ⟨#[]⟩ []).sz ≤ 504 by rw [sz_leaf]; show (0 : Nat) ≤ 504; omega)
  | some e => exact plain_small (parseE_some h).1
theorem PaR.all {s : ByteArray} {w : World} {r : Ending} {w' : World} (h : PaR s w r w') : ∃ (c : Option Addr) (cp : Nat), r = .returned (.tuple #[.agg ((prE s).cs c cp), .bool (prB s)]) ∧ NewX w' w.heap.size (prE s) c ∧ Below w.heap.size w w' := by
  unfold prE prB
  rcases h with ⟨e, c, cp, h1, h2, rfl, h4, h5⟩ | ⟨h1, rfl, h3⟩
  · rw [h1]
    exact ⟨c, cp, rfl, h4, h5⟩
  · rw [h1]
    exact ⟨none, 0, rfl, NewX.nil _ _ _ _ _ _, h3⟩
theorem HalfX.below {w w' : World} {B C : Nat} {e : Ex} {a : Option Addr} (h : HalfX w B C e a) (hb : Below C w w') : HalfX w' B C e a := by
  obtain ⟨F, h1, h2, h3⟩ := h
  exact ⟨F, OwX.keep e a F (fun b hF => hb.block b (h3 b hF).2) h1, h2, h3⟩
theorem HalfX.rd {w : World} {B C : Nat} {e : Ex} {a : Option Addr} (h : HalfX w B C e a) : RdX w 0 e a := h.new.rd.lower (Nat.zero_le _) _ _
set_option maxHeartbeats 1000000 in
theorem markX_keep (e : Ex) (a : Option Addr) (cap k B C : Nat) (w : World) (ho : HalfX w B C e a) (hB : B ≤ w.heap.size) (hk : 0 < k) (hb : k + 3 * e.ct ≤ 1000000) : Calls Tryz.prog 18 #[.agg (e.cs a cap), .int .i64 k] w fun r w' => ∃ y : Ex, r = .returned (.int .i64 ((k + 3 * e.ct : Nat) : Int)) ∧ MkX e k y ∧ HalfX w' B C y a ∧ Below B w w' ∧ ∀ g, C ≤ g → g < w.heap.size → w'.heap[g]? = w.heap[g]? := by
  obtain ⟨F, o1, o2, o3⟩ := ho
  have hbW : Below w.heap.size w (w.alloc (.cells (e.cs a cap) 26)) := (Below.refl _ _).alloc (Nat.le_refl _) _
  have MS := (markXS_any e a cap k F B (w.alloc (.cells (e.cs a cap) 26)) (o1.later hbW) o2 (fun b hb => (o3 b hb).1) (Nat.le_trans hB hbW.size) hk hb).mono (R' := fun r w' => ∃ y : Ex, r = .returned (.int .i64 ((k + 3 * e.ct : Nat) : Int)) ∧ MkX e k y ∧ HalfX w' B C y a ∧ Below B w w' ∧ ∀ g, C ≤ g → g < w.heap.size → w'.heap[g]? = w.heap[g]?) (by
    rintro r w' ⟨y, rfl, h1, h2, h3, h4⟩
    exact ⟨y, rfl, h1, ⟨F, h2, o2, o3⟩, (hbW.mono hB).trans h3, fun g hg hl => (h4 g (Nat.lt_of_lt_of_le hl hbW.size) (fun hF => by have := (o3 g hF).2; omega)).trans (hbW.block g hl)⟩)
  have M := hide MS
  unfold Ex.cs at M ⊢
  clear o1 o2 o3 hbW MS
  generalize hc : ((k + 3 * e.ct : Nat) : Int) = C' at *
  generalize e.l.length = ll at *
  go_enter Tryz.func18, Tryz.ntmps18
  go_wp2_with (go_at_call 45; refine (unhide M).mono ?_; rintro e w1 ⟨y, rfl, h1, h2, h3, h4⟩)
  go_ret
  exact ⟨y, rfl, h1, h2, h3, h4⟩
end Go.Proofs.YthgbpofcfmnpdaaGreatDoor

namespace Go.Proofs.YthgbpofcfmnpdaaGreatDoor
open Go.ChangeShapes Go.WideShapes Go.ChangeAt Go.RowKit
set_option linter.unusedVariables false
set_option maxRecDepth 8000

def EqP (e : Ex) : Prop := ∀ (a b : Option Addr) (c1 c2 : Nat) (w : World), RdX w 0 e a → RdX w 0 e b → e.sz ≤ 1048576 → Calls Tryz.prog 17 #[.agg (e.cs a c1), .agg (e.cs b c2)] w fun r w' => r = .returned (.bool true) ∧ Below w.heap.size w w'
set_option maxHeartbeats 1000000 in
theorem eqXS_of (e : Ex) (ih : ∀ i, i < e.l.length → EqP (xAt e.l i)) (a b : Option Addr) (c1 c2 : Nat) (w : World) (h1 : RdX w 0 e a) (h2 : RdX w 0 e b) (hz : e.sz ≤ 1048576) :
    Calls Tryz.prog 44 #[.slice a e.l.length c1, .slice b e.l.length c2] w fun r w' => r = .returned (.bool true) ∧ Below w.heap.size w w' := by
  have hsz := sz_is e
  rw [RdX_eq] at h1 h2
  have hp : ∀ i, i < e.l.length → (xAt e.l i).sz ≤ 1048576 := fun i hi => by have := sz_part hi; omega
  have hm : e.l.length ≤ 1048576 := by omega
  clear hsz hz
  generalize e.l = l at *
  obtain ⟨len, hl⟩ : ∃ len, l.length = len := ⟨_, rfl⟩
  rw [hl] at hm ih h1 h2 hp ⊢
  go_enter Tryz.func44, Tryz.ntmps44
  go_wp2
  go_loopw [5] (fun i wr => ∃ (k : Nat) (y : Sub w.heap.size w), k ≤ len ∧ i = .int .i64 k ∧ wr = y.w) (fun i _ => len - (intOf i).toNat)
  case atStart => exact ⟨0, ⟨w, Below.refl _ _⟩, Nat.zero_le _, rfl, rfl⟩
  case round =>
    obtain ⟨k, x, hk, rfl, rfl⟩ := hrel
    by_cases hlt : k < len
    · rcases h1 with h0 | ⟨p, po, rfl, _, hp1, hpc⟩
      · rw [h0] at hl; simp at hl; omega
      rcases h2 with h0 | ⟨q, qo, rfl, _, hq1, hqc⟩
      · rw [h0] at hl; simp at hl; omega
      obtain ⟨e0, e1, e2, pc, pp, e3, e4⟩ := hpc k (by omega)
      obtain ⟨g0, g1, g2, qc, qp, g3, g4⟩ := hqc k (by omega)
      have d0 : ∀ y : Sub w.heap.size w, y.w.cell? ⟨p, po + k * 4, none⟩ = _ := fun y => (y.h.cell (p := ⟨p, _, none⟩) hp1).trans e0
      have d1 : ∀ y : Sub w.heap.size w, y.w.cell? ⟨p, po + k * 4 + 1, none⟩ = _ := fun y => (y.h.cell (p := ⟨p, _, none⟩) hp1).trans e1
      have d2 : ∀ y : Sub w.heap.size w, y.w.cell? ⟨p, po + k * 4 + 2, none⟩ = _ := fun y => (y.h.cell (p := ⟨p, _, none⟩) hp1).trans e2
      have d3 : ∀ y : Sub w.heap.size w, y.w.cell? ⟨p, po + k * 4 + 3, none⟩ = _ := fun y => (y.h.cell (p := ⟨p, _, none⟩) hp1).trans e3
      have f0 : ∀ y : Sub w.heap.size w, y.w.cell? ⟨q, qo + k * 4, none⟩ = _ := fun y => (y.h.cell (p := ⟨q, _, none⟩) hq1).trans g0
      have f1 : ∀ y : Sub w.heap.size w, y.w.cell? ⟨q, qo + k * 4 + 1, none⟩ = _ := fun y => (y.h.cell (p := ⟨q, _, none⟩) hq1).trans g1
      have f2 : ∀ y : Sub w.heap.size w, y.w.cell? ⟨q, qo + k * 4 + 2, none⟩ = _ := fun y => (y.h.cell (p := ⟨q, _, none⟩) hq1).trans g2
      have f3 : ∀ y : Sub w.heap.size w, y.w.cell? ⟨q, qo + k * 4 + 3, none⟩ = _ := fun y => (y.h.cell (p := ⟨q, _, none⟩) hq1).trans g3
      have HE := hide (fun y : Sub w.heap.size w => ih k hlt pc qc pp qp y.w (e4.later y.h) (g4.later y.h) (hp k hlt))
      have ne := Sub.ne w.heap.size w
      have HZ := hide (Nat.le_refl w.heap.size)
      clear e0 e1 e2 e3 e4 g0 g1 g2 g3 g4 hpc hqc ih hp
      unfold Ex.cs at HE
      generalize (xAt l k).s = ss at *
      generalize (xAt l k).k = kk at *
      generalize (xAt l k).n = nn at *
      generalize (xAt l k).l.length = ll at *
      go_wp2_with fail
      refine wp_region_sub x (by kernel_rfl) (by kernel_rfl) ?_
      repeat (go_big_quiet_step (first | (go_at_call 17; exact Sub.call (unhide HZ) (unhide HE _))))
      refine wpQuiet_nil ?_
      intro y
      go_wp2
      go_roundw
      case rel => exact ⟨k + 1, y, by omega, by go_num, rfl⟩
      case measure => simp [intOf]; omega
    · go_wp2
      go_ret
      exact ⟨rfl, x.h⟩
set_option maxHeartbeats 1000000 in
theorem eqX_same (e : Ex) : EqP e := by
  induction e using Ex.ind with
  | h k n s l ih =>
    intro a b c1 c2 w h1 h2 hz
    have e2 : (Ex.mk k n s l).l = l := rfl
    have hbW : Below w.heap.size w ((w.alloc (.cells #[.int .i64 k, .int .i64 n, .string s, .slice a l.length c1] 26)).alloc (.cells #[.int .i64 k, .int .i64 n, .string s, .slice b l.length c2] 26)) := ((Below.refl _ _).alloc (Nat.le_refl _) _).alloc (by simp) _
    have HZ := eqXS_of ⟨k, n, s, l⟩ (fun i hi => ih _ (xAt_mem hi)) a b c1 c2 _ (h1.later hbW) (h2.later hbW) hz
    rw [e2] at HZ
    have HS := hide (HZ.mono (R' := fun r w' => r = .returned (.bool true) ∧ Below w.heap.size w w') (by rintro r w' ⟨rfl, h⟩; exact ⟨rfl, hbW.trans (h.mono hbW.size)⟩))
    unfold Ex.cs
    simp only
    clear h1 h2 hz ih HZ hbW e2
    generalize l.length = ll at *
    go_enter Tryz.func17, Tryz.ntmps17
    go_wp2_with (go_at_call 44; refine (unhide HS).mono ?_; rintro e w1 ⟨rfl, hb1⟩)
    go_ret
    exact ⟨rfl, hb1⟩
end Go.Proofs.YthgbpofcfmnpdaaGreatDoor
