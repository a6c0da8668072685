/- Contracts over this seat's translation, laid together; conditions stand as hypotheses of each. -/
import Derived.Test.YthgbpofcfmnpdaaGreatDoorTyB
import Derived.Test.YthgbpofcfmnpdaaGreatDoorTyC
import Derived.Test.YthgbpofcfmnpdaaGreatDoorTyD
import Derived.Test.YthgbpofcfmnpdaaGreatDoorTyE
import Derived.Test.YthgbpofcfmnpdaaGreatDoorTyF
import Derived.Test.YthgbpofcfmnpdaaGreatDoorTyG
import Derived.Test.YthgbpofcfmnpdaaGreatDoorTyH
import Derived.LaidEqlPtr
import Derived.Laws.StructEq
import Derived.MapKept
import Derived.Carry
import Derived.OwnWalk
import Derived.Laws.MakeOwn

namespace Go.Proofs.YthgbpofcfmnpdaaGreatDoor
open Go.ChangeShapes Go.WideShapes Go.ChangeAt Go.RowKit
set_option linter.unusedVariables false
set_option maxRecDepth 8000
set_option linter.unusedSimpArgs false

theorem OwnT.sl {w : World} {B : Nat} {v : Value} {ts : List Tk} (h : OwnT w B v ts) (ok : AllOk ts) (hl : ts.length ≤ 1048576) : ∃ a n cap, v = .slice a n cap ∧ Sl w a n cap ts := by
  obtain ⟨a', cap', e1, hr⟩ := h.rd
  rcases h.form with ⟨rfl, rfl⟩ | ⟨g, cap, rfl, h1, h2, h3, h4⟩
  · exact ⟨none, 0, 0, rfl, ⟨rfl, Nat.le_refl _, by unfold maxLen; omega, .inl rfl, ok, by omega⟩⟩
  · cases e1
    exact ⟨_, _, _, rfl, ⟨rfl, h3, h4, hr, ok, hl⟩⟩
set_option maxHeartbeats 8000000 in
theorem parseI_any (s : ByteArray) (w : World) (hz : s.size ≤ 1048576) (he : Env w) (ht : TabG w) : Calls Tryz.prog 9 #[.string s] w (PaR s w) := by
  have B0 := hide (below_new w (.cells #[.int .i64 0, .int .i64 0, .string ⟨#[]⟩, .slice none 0 0] 26))
  have R0 := hide (heap_alloc_new w (.cells #[.int .i64 0, .int .i64 0, .string ⟨#[]⟩, .slice none 0 0] 26))
  have LX := hide (lexI_any s (w.alloc (.cells #[.int .i64 0, .int .i64 0, .string ⟨#[]⟩, .slice none 0 0] 26)) hz (he.later (unhide B0)))
  have TG0 := hide (ht.later (unhide B0) ht.lt)
  have LL := lex_len s
  have LO := hide (lex_ok s)
  have PS := hide (show parseE s = if (lexR s 0 []).2 = true then parseL (lexR s 0 []).1 else none from rfl)
  generalize hX : PaR s w = X
  have HX := hide hX
  generalize lexR s 0 [] = L at *
  obtain ⟨ts, ok⟩ := L
  simp only at LX LL LO PS
  clear he ht hX hz
  go_enter Tryz.func9, Tryz.ntmps9
  go_wp2_with fail
  generalize w.alloc (.cells #[.int .i64 0, .int .i64 0, .string ⟨#[]⟩, .slice none 0 0] 26) = W at *
  refine (unhide LX).mono ?_
  rintro r w1 ⟨v, rfl, ho, hb1⟩
  obtain ⟨a1, n1, c1, rfl, hs1⟩ := ho.sl (unhide LO) (by omega)
  have B1 := hide ((unhide B0).trans (hb1.mono (unhide B0).size))
  have R1 := hide (row_keep (unhide R0) hb1)
  have IH := hide (readI_all 6 (by omega) _ _ _ _ w1 hs1 ((unhide TG0).later hb1 (unhide TG0).lt))
  clear ho hb1 B0 R0 TG0 LX hs1 LL
  cases ok
  case false =>
    have PN := hide (show parseE s = none from unhide PS)
    clear PS IH LO
    go_wp2_with (refine wpList_store_row rfl 26 _ _ rfl w.heap.size #[.int .i64 0, .int .i64 0, .string ⟨#[]⟩, .slice none 0 0] rfl rfl 26 _ (unhide R1) szE rfl (ex_one _ _ _ _ _ _) ?_)
    refine bodyPost_ret (results_row2 (P := Tryz.prog) rfl _ _ w.heap.size 26 #[.int .i64 0, .int .i64 0, .string ⟨#[]⟩, .slice none 0 0] (0, 0) _ rfl (setRow_heap _ _ _ _ _ _ (unhide R1)) Tryz.underlying26 rfl szE) rfl ?_
    rw [← unhide HX]
    exact .inr ⟨unhide PN, rfl, (unhide B1).grown (grownBy_row _) (unhide B1).size (fun k e => by cases e; exact Nat.le_refl _)⟩
  case true =>
    have PT := hide (show parseE s = parseL ts from unhide PS)
    clear PS
    cases hr : readF 6 ts with
    | none =>
      rw [trR_none hr] at IH
      unfold NoR at IH
      have PN := hide (show parseE s = none by rw [unhide PT]; unfold parseL; rw [hr])
      go_wp2_with fail
      refine (unhide IH).mono ?_
      rintro r w2 ⟨hb2, v, xx, hv, rfl⟩
      have B2 := hide ((unhide B1).trans (hb2.mono (unhide B1).size))
      have R2 := hide (row_keep (unhide R1) hb2)
      clear hb2 IH B1 R1 hr PT hv LO
      go_wp2_with (refine wpList_store_row rfl 26 _ _ rfl w.heap.size #[.int .i64 0, .int .i64 0, .string ⟨#[]⟩, .slice none 0 0] rfl rfl 26 _ (unhide R2) szE rfl (ex_one _ _ _ _ _ _) ?_)
      refine bodyPost_ret (results_row2 (P := Tryz.prog) rfl _ _ w.heap.size 26 #[.int .i64 0, .int .i64 0, .string ⟨#[]⟩, .slice none 0 0] (0, 0) _ rfl (setRow_heap _ _ _ _ _ _ (unhide R2)) Tryz.underlying26 rfl szE) rfl ?_
      rw [← unhide HX]
      exact .inr ⟨unhide PN, rfl, (unhide B2).grown (grownBy_row _) (unhide B2).size (fun k e => by cases e; exact Nat.le_refl _)⟩
    | some p =>
      obtain ⟨e, q⟩ := p
      rw [trR_some hr] at IH
      unfold YeR at IH
      obtain ⟨ty, vv, hv⟩ := tv_if e
      rw [hv] at IH
      have HV := hide hv
      clear hv
      go_wp2_with fail
      refine (unhide IH).mono ?_
      rintro r w2 ⟨hb2, a2, n2, c2, rfl, hs2⟩
      have B2 := hide ((unhide B1).trans (hb2.mono (unhide B1).size))
      have R2 := hide (row_keep (unhide R1) hb2)
      have hn2 := hs2.ln
      clear hb2 IH B1 R1 hs2
      cases q with
      | cons t q2 =>
        have PN := hide (show parseE s = none by rw [unhide PT]; unfold parseL; rw [hr])
        have hp : (0 : Int) < (n2 : Int) := by simp at hn2; omega
        clear hr PT hn2 LO
        go_wp2_with (refine wpList_store_row rfl 26 _ _ rfl w.heap.size #[.int .i64 0, .int .i64 0, .string ⟨#[]⟩, .slice none 0 0] rfl rfl 26 _ (unhide R2) szE rfl (ex_one _ _ _ _ _ _) ?_)
        refine bodyPost_ret (results_row2 (P := Tryz.prog) rfl _ _ w.heap.size 26 #[.int .i64 0, .int .i64 0, .string ⟨#[]⟩, .slice none 0 0] (0, 0) _ rfl (setRow_heap _ _ _ _ _ _ (unhide R2)) Tryz.underlying26 rfl szE) rfl ?_
        rw [← unhide HX]
        exact .inr ⟨unhide PN, rfl, (unhide B2).grown (grownBy_row _) (unhide B2).size (fun k e => by cases e; exact Nat.le_refl _)⟩
      | nil =>
        obtain rfl : n2 = 0 := by simpa using hn2.symm
        have hok := (toks_read 6 ts e [] (unhide LO) hr).1
        have PY := hide (show parseE s = some e by rw [unhide PT]; unfold parseL; rw [hr]; simp only [hok, if_true])
        have OK := hide hok
        have XO := hide (xo_all 6 (by omega) e w2 hok)
        rw [unhide HV] at XO
        unfold XoR at XO
        clear hr PT hn2 hok HV LO
        go_wp2_with fail
        refine (unhide XO).mono ?_
        rintro r w3 ⟨c, cp, rfl, hnx, hb3⟩
        have B3 := hide ((unhide B2).trans (hb3.mono (unhide B2).size))
        have R3 := hide (row_keep (unhide R2) hb3)
        have hl2 : w.heap.size + 1 ≤ w2.heap.size := (Array.getElem?_eq_some_iff.1 (unhide R2)).1
        have N3 := hide (hnx.lower hl2)
        unfold Ex.cs
        clear hnx hb3 B2 R2 XO
        go_wp2_with (refine wpList_store_row rfl 26 _ _ rfl w.heap.size #[.int .i64 e.k, .int .i64 e.n, .string e.s, .slice c e.l.length cp] rfl rfl 26 _ (unhide R3) szE rfl (ex_one _ _ _ _ _ _) ?_)
        refine bodyPost_ret (results_row2 (P := Tryz.prog) rfl _ _ w.heap.size 26 #[.int .i64 e.k, .int .i64 e.n, .string e.s, .slice c e.l.length cp] (0, 0) _ rfl (setRow_heap _ _ _ _ _ _ (unhide R3)) Tryz.underlying26 rfl szE) rfl ?_
        rw [← unhide HX]
        exact .inl ⟨e, c, cp, unhide PY, unhide OK, rfl, ((unhide N3).row _ (Nat.lt_succ_self _)).lower (Nat.le_succ _), (unhide B3).grown (grownBy_row _) (unhide B3).size (fun k e => by cases e; exact Nat.le_refl _)⟩
end Go.Proofs.YthgbpofcfmnpdaaGreatDoor

namespace Go.Proofs.YthgbpofcfmnpdaaGreatDoor
open Go.ChangeShapes Go.WideShapes Go.ChangeAt Go.RowKit
set_option linter.unusedVariables false
set_option maxRecDepth 8000

/-- How many parts a term has, all within. -/
def Ex.ct : Ex → Nat
  | ⟨_, _, _, l⟩ => l.length + (l.map Ex.ct).sum
def ctX (l : List Ex) : Nat := l.length + (l.map Ex.ct).sum
theorem ct_is (e : Ex) : e.ct = ctX e.l := by obtain ⟨k, n, s, l⟩ := e; rw [Ex.ct]; rfl
theorem ctX_take (l : List Ex) (k : Nat) (h : k < l.length) : ctX (l.take (k + 1)) = ctX (l.take k) + 1 + (xAt l k).ct := by
  unfold ctX
  rw [List.take_succ_eq_append_getElem h, List.map_append, List.sum_append, List.length_append, xAt_get h]
  simp
  omega
theorem ctX_le (l : List Ex) (k : Nat) : ctX (l.take k) ≤ ctX l := by
  induction l generalizing k with
  | nil => simp [ctX]
  | cons a r ih =>
    cases k with
    | zero => simp [ctX]
    | succ k =>
      have := ih k
      unfold ctX at this ⊢
      simp only [List.take_succ_cons, List.map_cons, List.sum_cons, List.length_cons]
      omega
/-- Where the marks of a part begin. -/
def posX (l : List Ex) (k i : Nat) : Nat := k + 3 * ctX (l.take i)
theorem posX_0 (l : List Ex) (k : Nat) : posX l k 0 = k := by simp [posX, ctX]
theorem posX_s (l : List Ex) (k i : Nat) (h : i < l.length) : posX l k (i + 1) = posX l k i + 3 + 3 * (xAt l i).ct := by
  unfold posX
  rw [ctX_take l i h]
  omega
theorem posX_end (l : List Ex) (k : Nat) : posX l k l.length = k + 3 * ctX l := by unfold posX; rw [List.take_length]
theorem posX_le (l : List Ex) (k i : Nat) (h : i < l.length) : posX l k i + 3 + 3 * (xAt l i).ct ≤ k + 3 * ctX l := by
  rw [← posX_s l k i h]
  unfold posX
  have := ctX_le l (i + 1)
  omega
/-- A term whose parts are marked from k on. -/
def MkX : Ex → Nat → Ex → Prop
  | ⟨_, _, _, l⟩, k, e' => e'.l.length = l.length ∧ ∀ x ∈ l, ∀ i, l[i]? = some x → (xAt e'.l i).k = ((posX l k i : Nat) : Int) ∧ (xAt e'.l i).n = ((posX l k i + 1 : Nat) : Int) ∧ (xAt e'.l i).s = mkTx (posX l k i + 2) ∧ MkX x (posX l k i + 3) (xAt e'.l i)
def MkOne (l : List Ex) (k i : Nat) (y : Ex) : Prop := y.k = ((posX l k i : Nat) : Int) ∧ y.n = ((posX l k i + 1 : Nat) : Int) ∧ y.s = mkTx (posX l k i + 2) ∧ MkX (xAt l i) (posX l k i + 3) y
theorem MkX_eq (e : Ex) (k : Nat) (e' : Ex) : MkX e k e' ↔ (e'.l.length = e.l.length ∧ ∀ i, i < e.l.length → MkOne e.l k i (xAt e'.l i)) := by
  obtain ⟨ek, n, s, l⟩ := e
  rw [MkX]
  refine and_congr Iff.rfl ⟨fun h i hi => ?_, fun h x hx i hi => ?_⟩
  · exact h _ (xAt_mem hi) i (by rw [xAt_get hi]; exact List.getElem?_eq_getElem hi)
  · obtain ⟨hl, e⟩ := List.getElem?_eq_some_iff.1 hi
    have := h i hl
    unfold MkOne at this
    rw [xAt_get hl, e] at this
    exact this
theorem MkX.len {e : Ex} {k : Nat} {y : Ex} (h : MkX e k y) : y.l.length = e.l.length := ((MkX_eq e k y).1 h).1
theorem MkX.of {e : Ex} {k : Nat} {y z : Ex} (h : MkX e k y) (hl : z.l = y.l) : MkX e k z := by
  rw [MkX_eq] at h ⊢
  rw [hl]
  exact h
theorem xAt_set_eq {l : List Ex} {i : Nat} (h : i < l.length) (y : Ex) : xAt (l.set i y) i = y := by
  unfold xAt
  rw [List.getD_eq_getElem?_getD, List.getElem?_set_self h]
  rfl
theorem xAt_set_ne {l : List Ex} {i j : Nat} (h : i ≠ j) (y : Ex) : xAt (l.set i y) j = xAt l j := by
  unfold xAt
  rw [List.getD_eq_getElem?_getD, List.getD_eq_getElem?_getD, List.getElem?_set_ne h]
/-- Of lists whose members all differ no two share one. -/
theorem flat_apart : ∀ (Fs : List (List Nat)) (i j x : Nat), Fs.flatten.Nodup → i ≠ j → x ∈ Fs.getD i [] → x ∉ Fs.getD j [] := by
  intro Fs
  induction Fs with
  | nil => intro i j x _ _ h; simp at h
  | cons F r ih =>
    intro i j x hn hij hx hy
    rw [List.flatten_cons, List.nodup_append] at hn
    obtain ⟨h1, h2, h3⟩ := hn
    cases i with
    | zero =>
      cases j with
      | zero => exact hij rfl
      | succ j => exact h3 x (by simpa using hx) x (getD_flat (i := j) (by simpa using hy)) rfl
    | succ i =>
      cases j with
      | zero => exact h3 x (by simpa using hy) x (getD_flat (i := i) (by simpa using hx)) rfl
      | succ j => exact ih i j x h2 (by omega) (by simpa using hx) (by simpa using hy)
theorem flat_part : ∀ (Fs : List (List Nat)) (i : Nat), Fs.flatten.Nodup → (Fs.getD i []).Nodup := by
  intro Fs
  induction Fs with
  | nil => intro i _; simp
  | cons F r ih =>
    intro i hn
    rw [List.flatten_cons, List.nodup_append] at hn
    cases i with
    | zero => simpa using hn.1
    | succ i => simpa using ih i hn.2.1
/-- A row with one part turned, its parts within turned in their own blocks. -/
theorem OwOne.turn {wr w5 : World} {ys : List Ex} {b : Nat} {cs cs5 : Array Value} {Fs : List (List Nat)} {i : Nat} {y : Ex} {c : Option Addr} {cp : Nat}
    (hr : ∀ j, j < ys.length → OwOne wr cs j (xAt ys j) (Fs.getD j [])) (hn : (b :: Fs.flatten).Nodup) (hi : i < ys.length)
    (hs : ∀ j, j ≠ i * 4 → j ≠ i * 4 + 1 → j ≠ i * 4 + 2 → cs5[j]? = cs[j]?)
    (d0 : cs5[i * 4]? = some (.int .i64 y.k)) (d1 : cs5[i * 4 + 1]? = some (.int .i64 y.n)) (d2 : cs5[i * 4 + 2]? = some (.string y.s)) (d3 : cs5[i * 4 + 3]? = some (.slice c y.l.length cp)) (hx : OwX w5 y c (Fs.getD i []))
    (hk : ∀ g, g ∈ Fs.flatten → g ∉ Fs.getD i [] → w5.heap[g]? = wr.heap[g]?) : ∀ j, j < ys.length → OwOne w5 cs5 j (xAt (ys.set i y) j) (Fs.getD j []) := by
  rw [List.nodup_cons] at hn
  intro j hj
  by_cases hij : i = j
  · subst hij
    rw [xAt_set_eq hi]
    exact ⟨d0, d1, d2, c, cp, d3, hx⟩
  · rw [xAt_set_ne hij]
    obtain ⟨p0, p1, p2, c', cap', p3, p4⟩ := hr j hj
    exact ⟨(hs _ (by omega) (by omega) (by omega)).trans p0, (hs _ (by omega) (by omega) (by omega)).trans p1, (hs _ (by omega) (by omega) (by omega)).trans p2, c', cap', (hs _ (by omega) (by omega) (by omega)).trans p3, OwX.keep _ _ _ (fun g hg => hk g (getD_flat hg) (flat_apart _ _ _ _ hn.2 (Ne.symm hij) hg)) p4⟩
end Go.Proofs.YthgbpofcfmnpdaaGreatDoor

namespace Go.Proofs.YthgbpofcfmnpdaaGreatDoor
open Go.ChangeShapes Go.WideShapes Go.ChangeAt Go.RowKit
set_option linter.unusedVariables false
set_option maxRecDepth 8000

def MarkP (e : Ex) : Prop := ∀ (a : Option Addr) (cap k : Nat) (F : List Nat) (B : Nat) (w : World), OwX w e a F → F.Nodup → (∀ b ∈ F, B ≤ b) → B ≤ w.heap.size → 0 < k → k + 3 * e.ct ≤ 1000000 → Calls Tryz.prog 45 #[.slice a e.l.length cap, .int .i64 k] w fun r w' => ∃ e' : Ex, r = .returned (.int .i64 ((k + 3 * e.ct : Nat) : Int)) ∧ MkX e k e' ∧ OwX w' e' a F ∧ Below B w w' ∧ ∀ g, g < w.heap.size → g ∉ F → w'.heap[g]? = w.heap[g]?
/-- So many parts are marked. -/
structure Mkg (w wr : World) (l : List Ex) (K b : Nat) (Fs : List (List Nat)) (B i : Nat) (ys : List Ex) (cs : Array Value) (t : TypeId) : Prop where
  hyl : ys.length = l.length
  row : wr.heap[b]? = some (.cells cs t (0, 0))
  hz : l.length * 4 ≤ cs.size
  one : ∀ j, j < l.length → OwOne wr cs j (xAt ys j) (Fs.getD j [])
  done : ∀ j, j < i → MkOne l K j (xAt ys j)
  rest : ∀ j, i ≤ j → xAt ys j = xAt l j
  bel : Below B w wr
  fr : ∀ g, g < w.heap.size → g ∉ b :: Fs.flatten → wr.heap[g]? = w.heap[g]?
theorem OwX.of {w : World} {x z : Ex} {c : Option Addr} {F : List Nat} (h : OwX w x c F) (hl : z.l = x.l) : OwX w z c F := by
  rw [OwX_eq] at h ⊢
  rw [hl]
  exact h
theorem Mkg.step {w wr w3 w5 : World} {l ys : List Ex} {K b : Nat} {Fs : List (List Nat)} {B i : Nat} {cs : Array Value} {t : TypeId} {c : Option Addr} {cp : Nat} {x' : Ex}
    (h : Mkg w wr l K b Fs B i ys cs t) (hi : i < l.length) (hF : Fs.length = l.length) (hn : (b :: Fs.flatten).Nodup) (hB : ∀ g ∈ b :: Fs.flatten, B ≤ g)
    (q3 : cs[i * 4 + 3]? = some (.slice c (xAt l i).l.length cp))
    (hb3 : Below ((wr.setCell ⟨b, i * 4, none⟩ (.int .i64 ((posX l K i : Nat) : Int))).setCell ⟨b, i * 4 + 1, none⟩ (.int .i64 ((posX l K i + 1 : Nat) : Int))).heap.size ((wr.setCell ⟨b, i * 4, none⟩ (.int .i64 ((posX l K i : Nat) : Int))).setCell ⟨b, i * 4 + 1, none⟩ (.int .i64 ((posX l K i + 1 : Nat) : Int))) w3)
    (hmk : MkX (xAt l i) (posX l K i + 3) x') (hox : OwX w5 x' c (Fs.getD i []))
    (hb5 : Below B (w3.setCell ⟨b, i * 4 + 2, none⟩ (.string (mkTx (posX l K i + 2)))) w5)
    (hf5 : ∀ g, g < (w3.setCell ⟨b, i * 4 + 2, none⟩ (.string (mkTx (posX l K i + 2)))).heap.size → g ∉ Fs.getD i [] → w5.heap[g]? = (w3.setCell ⟨b, i * 4 + 2, none⟩ (.string (mkTx (posX l K i + 2)))).heap[g]?) :
    ∃ ys' cs', Mkg w w5 l K b Fs B (i + 1) ys' cs' t := by
  have hn' := List.nodup_cons.1 hn
  have hbl : b < wr.heap.size := (Array.getElem?_eq_some_iff.1 h.row).1
  have r1 := heap_setCell_same wr b (i * 4) cs t (.int .i64 ((posX l K i : Nat) : Int)) h.row
  have r2 := heap_setCell_same _ b (i * 4 + 1) _ t (.int .i64 ((posX l K i + 1 : Nat) : Int)) r1
  have hsz2 : ((wr.setCell ⟨b, i * 4, none⟩ (.int .i64 ((posX l K i : Nat) : Int))).setCell ⟨b, i * 4 + 1, none⟩ (.int .i64 ((posX l K i + 1 : Nat) : Int))).heap.size = wr.heap.size := by simp
  have hoth2 : ∀ g, g ≠ b → ((wr.setCell ⟨b, i * 4, none⟩ (.int .i64 ((posX l K i : Nat) : Int))).setCell ⟨b, i * 4 + 1, none⟩ (.int .i64 ((posX l K i + 1 : Nat) : Int))).heap[g]? = wr.heap[g]? := fun g hg => by
    rw [heap_setCell_other _ _ _ _ hg, heap_setCell_other _ _ _ _ hg]
  have hbel2 : Below B wr ((wr.setCell ⟨b, i * 4, none⟩ (.int .i64 ((posX l K i : Nat) : Int))).setCell ⟨b, i * 4 + 1, none⟩ (.int .i64 ((posX l K i + 1 : Nat) : Int))) := ((Below.refl B wr).setCell (p := ⟨b, _, none⟩) (hB b List.mem_cons_self) _).setCell (p := ⟨b, _, none⟩) (hB b List.mem_cons_self) _
  generalize (wr.setCell ⟨b, i * 4, none⟩ (.int .i64 ((posX l K i : Nat) : Int))).setCell ⟨b, i * 4 + 1, none⟩ (.int .i64 ((posX l K i + 1 : Nat) : Int)) = W2 at *
  rw [hsz2] at hb3
  have r3 := (hb3.block b hbl).trans r2
  have r4 := heap_setCell_same w3 b (i * 4 + 2) _ t (.string (mkTx (posX l K i + 2))) r3
  have hsz3 : wr.heap.size ≤ w3.heap.size := hsz2 ▸ hb3.size
  have hsz4 : (w3.setCell ⟨b, i * 4 + 2, none⟩ (.string (mkTx (posX l K i + 2)))).heap.size = w3.heap.size := by simp
  have hoth4 : ∀ g, g < wr.heap.size → g ≠ b → (w3.setCell ⟨b, i * 4 + 2, none⟩ (.string (mkTx (posX l K i + 2)))).heap[g]? = wr.heap[g]? := fun g hgl hg => by
    rw [heap_setCell_other _ _ _ _ hg, hb3.block g hgl, hoth2 g hg]
  have hbB : B ≤ b := hB b List.mem_cons_self
  have hbel4 : Below B wr (w3.setCell ⟨b, i * 4 + 2, none⟩ (.string (mkTx (posX l K i + 2)))) := (hbel2.trans (hb3.mono (by omega))).setCell (p := ⟨b, _, none⟩) hbB _
  rw [hsz4] at hf5
  have hbi : b ∉ Fs.getD i [] := fun hb => hn'.1 (getD_flat hb)
  have r5 := (hf5 b (by omega) hbi).trans r4
  have hlt : ∀ g ∈ Fs.flatten, g < wr.heap.size := fun g hg => by
    obtain ⟨G, hG, hx⟩ := List.mem_flatten.1 hg
    obtain ⟨j, hj, rfl⟩ := List.getElem_of_mem hG
    obtain ⟨_, _, _, c', cp', _, ho⟩ := h.one j (hF ▸ hj)
    rw [List.getD_eq_getElem?_getD, List.getElem?_eq_getElem hj] at ho
    exact OwX.lt _ _ _ ho _ hx
  have hk5 : ∀ g, g < wr.heap.size → g ≠ b → g ∉ Fs.getD i [] → w5.heap[g]? = wr.heap[g]? := fun g hgl hg hgi => (hf5 g (by omega) hgi).trans (hoth4 g hgl hg)
  have hz := h.hz
  have T := OwOne.turn (wr := wr) (w5 := w5) (ys := ys) (b := b) (cs := cs) (cs5 := ((cs.setIfInBounds (i * 4) (.int .i64 ((posX l K i : Nat) : Int))).setIfInBounds (i * 4 + 1) (.int .i64 ((posX l K i + 1 : Nat) : Int))).setIfInBounds (i * 4 + 2) (.string (mkTx (posX l K i + 2)))) (Fs := Fs) (i := i) (y := ⟨((posX l K i : Nat) : Int), ((posX l K i + 1 : Nat) : Int), mkTx (posX l K i + 2), x'.l⟩) (c := c) (cp := cp)
    (fun j hj => h.one j (h.hyl ▸ hj)) hn (by rw [h.hyl]; exact hi)
    (fun j h0 h1 h2 => by rw [Array.getElem?_setIfInBounds_ne (by omega), Array.getElem?_setIfInBounds_ne (by omega), Array.getElem?_setIfInBounds_ne (by omega)])
    (by rw [Array.getElem?_setIfInBounds_ne (by omega), Array.getElem?_setIfInBounds_ne (by omega), Array.getElem?_setIfInBounds_self_of_lt (by omega)])
    (by rw [Array.getElem?_setIfInBounds_ne (by omega), Array.getElem?_setIfInBounds_self_of_lt (by simp; omega)])
    (by rw [Array.getElem?_setIfInBounds_self_of_lt (by simp; omega)])
    (by rw [Array.getElem?_setIfInBounds_ne (by omega), Array.getElem?_setIfInBounds_ne (by omega), Array.getElem?_setIfInBounds_ne (by omega), show (Ex.mk ((posX l K i : Nat) : Int) ((posX l K i + 1 : Nat) : Int) (mkTx (posX l K i + 2)) x'.l).l.length = x'.l.length from rfl, hmk.len]; exact q3)
    (hox.of rfl) (fun g hg hgi => hk5 g (hlt g hg) (fun e => hn'.1 (e ▸ hg)) hgi)
  rw [h.hyl] at T
  refine ⟨ys.set i ⟨((posX l K i : Nat) : Int), ((posX l K i + 1 : Nat) : Int), mkTx (posX l K i + 2), x'.l⟩, _, ?_, r5, ?_, T, fun j hj => ?_, fun j hj => ?_, h.bel.trans (hbel4.trans hb5), fun g hgl hg => ?_⟩
  · rw [List.length_set]; exact h.hyl
  · simpa using hz
  · by_cases hij : i = j
    · subst hij
      rw [xAt_set_eq (by rw [h.hyl]; exact hi)]
      exact ⟨rfl, rfl, rfl, hmk.of rfl⟩
    · rw [xAt_set_ne hij]
      exact h.done j (by omega)
  · rw [xAt_set_ne (by omega)]
    exact h.rest j (by omega)
  · have h1 : g ≠ b := fun e => hg (e ▸ List.mem_cons_self)
    have h2 : g ∉ Fs.getD i [] := fun e => hg (List.mem_cons_of_mem _ (getD_flat e))
    exact (hk5 g (Nat.lt_of_lt_of_le hgl h.bel.size) h1 h2).trans (h.fr g hgl hg)
set_option maxHeartbeats 2000000 in
theorem markXS_of (e : Ex) (ih : ∀ i, i < e.l.length → MarkP (xAt e.l i)) : MarkP e := by
  intro a cap K F B w ho hnd hF hBw hK hbd
  have hct := ct_is e
  rw [OwX_eq] at ho
  generalize hl : e.l = l at *
  rw [hct] at hbd ⊢
  have FIN := hide (fun (y : Ex) => MkX_eq e K y)
  rw [hl] at FIN
  rcases ho with ⟨rfl, rfl⟩ | ⟨b, cs, t, Fs, rfl, hh, hz, hFl, rfl, hone⟩
  · have HE := hide (show MkX e K e from (unhide FIN e).2 ⟨by rw [hl], fun i hi => by cases hi⟩)
    have HO := hide (show OwX w e a [] from (OwX_eq _ _ _ _).2 (.inl ⟨hl, rfl⟩))
    clear ih hct hl FIN
    go_enter Tryz.func45, Tryz.ntmps45
    go_wp2
    go_loopw [1, 5] (fun kv i wr => i = .int .i64 0 ∧ kv = .int .i64 K ∧ wr = w) (fun _ i _ => 0)
    case atStart => exact ⟨rfl, rfl, rfl⟩
    case round =>
      obtain ⟨rfl, rfl, rfl⟩ := hrel
      go_wp2
      go_ret
      exact ⟨e, by simp [ctX], unhide HE, unhide HO, Below.refl _ _, fun g _ _ => rfl⟩
  · have M0 := hide (show Mkg w w l K b Fs B 0 l cs t from ⟨rfl, hh, hz, hone, fun j hj => by omega, fun j _ => rfl, Below.refl _ _, fun g _ _ => rfl⟩)
    have FN := hide (fun (wr : World) (ys : List Ex) (cs' : Array Value) (t' : TypeId) (h : Mkg w wr l K b Fs B l.length ys cs' t') => (show MkX e K ⟨0, 0, ⟨#[]⟩, ys⟩ ∧ OwX wr ⟨0, 0, ⟨#[]⟩, ys⟩ (some ⟨b, 0, none⟩) (b :: Fs.flatten) from
      ⟨(unhide FIN _).2 ⟨h.hyl, fun i hi => h.done i hi⟩, (OwX_eq _ _ _ _).2 (.inr ⟨b, cs', t', Fs, rfl, h.row, by show ys.length * 4 ≤ _; rw [h.hyl]; exact h.hz, by show Fs.length = ys.length; rw [h.hyl]; exact hFl, rfl, fun i hi => h.one i (by have : i < ys.length := hi; rwa [h.hyl] at this)⟩)⟩))
    have hcl : l.length ≤ ctX l := by unfold ctX; omega
    obtain ⟨n, hn⟩ : ∃ n, l.length = n := ⟨_, rfl⟩
    have hnl : n ≤ 1000000 := by omega
    have PE := hide (posX_end l K)
    have P0 := hide (posX_0 l K)
    clear hone hh hz FIN hct hl hcl
    rw [hn] at ih PE FN ⊢
    rw [← unhide PE]
    go_enter Tryz.func45, Tryz.ntmps45
    go_wp2
    go_loopw [1, 5] (fun kv i wr => ∃ k : Nat, k ≤ n ∧ i = .int .i64 k ∧ kv = .int .i64 ((posX l K k : Nat) : Int) ∧ ∃ ys cs t, Mkg w wr l K b Fs B k ys cs t) (fun _ i _ => n - (intOf i).toNat)
    case atStart => exact ⟨0, Nat.zero_le _, rfl, by rw [unhide P0], _, _, _, unhide M0⟩
    case round =>
      clear M0
      obtain ⟨k, hk, rfl, rfl, ys, cs, t, hM⟩ := hrel
      by_cases hlt : k < n
      · obtain ⟨q0, q1, q2, c, cp, q3, q4⟩ := hM.one k (by omega)
        rw [hM.rest k (Nat.le_refl _)] at q0 q1 q2 q3 q4
        have hh := hM.row
        have hz := hM.hz
        have c0 := (Lib.cell_of_heap hh (k * 4)).trans q0
        have c1 := (Lib.cell_of_heap hh (k * 4 + 1)).trans q1
        have f0 := Lib.frozen_of_heap hh (k * 4)
        have f1 := Lib.frozen_of_heap hh (k * 4 + 1)
        have hbl : b < wr.heap.size := (Array.getElem?_eq_some_iff.1 hh).1
        have hPl := posX_le l K k (by omega)
        have hPs := posX_s l K k (by omega)
        have r1 := heap_setCell_same wr b (k * 4) cs t (.int .i64 ((posX l K k : Nat) : Int)) hh
        have r2 := heap_setCell_same _ b (k * 4 + 1) _ t (.int .i64 ((posX l K k + 1 : Nat) : Int)) r1
        have C2 := hide (show ((wr.setCell ⟨b, k * 4, none⟩ (.int .i64 ((posX l K k : Nat) : Int))).setCell ⟨b, k * 4 + 1, none⟩ (.int .i64 ((posX l K k + 1 : Nat) : Int))).cell? ⟨b, k * 4 + 2, none⟩ = some (.string (xAt l k).s) by
          rw [Lib.cell_of_heap r2, Array.getElem?_setIfInBounds_ne (by omega), Array.getElem?_setIfInBounds_ne (by omega)]; exact q2)
        have C3 := hide (show ((wr.setCell ⟨b, k * 4, none⟩ (.int .i64 ((posX l K k : Nat) : Int))).setCell ⟨b, k * 4 + 1, none⟩ (.int .i64 ((posX l K k + 1 : Nat) : Int))).cell? ⟨b, k * 4 + 3, none⟩ = some (.slice c (xAt l k).l.length cp) by
          rw [Lib.cell_of_heap r2, Array.getElem?_setIfInBounds_ne (by omega), Array.getElem?_setIfInBounds_ne (by omega)]; exact q3)
        have F2 := hide (Lib.frozen_of_heap r2 (k * 4 + 2))
        have GL := hide (show b < ((wr.setCell ⟨b, k * 4, none⟩ (.int .i64 ((posX l K k : Nat) : Int))).setCell ⟨b, k * 4 + 1, none⟩ (.int .i64 ((posX l K k + 1 : Nat) : Int))).heap.size by simpa using hbl)
        have ST := hide (fun w3 w5 x' hb3 hmk hox hb5 hf5 => Mkg.step (w3 := w3) (w5 := w5) (x' := x') hM (by omega) hFl hnd hF q3 hb3 hmk hox hb5 hf5)
        have MX := hide (fun W => markTx_any (posX l K k + 2) (by omega) (by omega) W)
        have hn' := List.nodup_cons.1 hnd
        have OC := hide (fun w3 (hb3 : Below ((wr.setCell ⟨b, k * 4, none⟩ (.int .i64 ((posX l K k : Nat) : Int))).setCell ⟨b, k * 4 + 1, none⟩ (.int .i64 ((posX l K k + 1 : Nat) : Int))).heap.size ((wr.setCell ⟨b, k * 4, none⟩ (.int .i64 ((posX l K k : Nat) : Int))).setCell ⟨b, k * 4 + 1, none⟩ (.int .i64 ((posX l K k + 1 : Nat) : Int))) w3) (v : Value) =>
          ih k hlt c cp (posX l K k + 3) (Fs.getD k []) B (w3.setCell ⟨b, k * 4 + 2, none⟩ v)
            (OwX.keep _ _ _ (fun g hg => by
              have hne : g ≠ b := fun e => hn'.1 (e ▸ getD_flat hg)
              have hgl := OwX.lt _ _ _ q4 g hg
              rw [heap_setCell_other _ _ _ _ hne, hb3.block g (by simpa using hgl), heap_setCell_other _ _ _ _ hne, heap_setCell_other _ _ _ _ hne]) q4)
            (flat_part _ _ hn'.2) (fun g hg => hF g (List.mem_cons_of_mem _ (getD_flat hg))) (by have h1 := hb3.size; have h2 := hM.bel.size; simp at h1 ⊢; omega) (by omega) (by omega))
        have EN : ((posX l K k : Nat) : Int) + 1 = ((posX l K k + 1 : Nat) : Int) := by omega
        have EM : ((posX l K k + 1 : Nat) : Int) + 1 = ((posX l K k + 2 : Nat) : Int) := by omega
        have EP : ((posX l K k + 2 : Nat) : Int) + 1 = ((posX l K k + 3 : Nat) : Int) := by omega
        have EQ := hide (show ((posX l K k + 3 + 3 * (xAt l k).ct : Nat) : Int) = ((posX l K (k + 1) : Nat) : Int) by rw [hPs])
        have bA : 0 ≤ ((posX l K k : Nat) : Int) ∧ ((posX l K k : Nat) : Int) ≤ 1000000 := by omega
        have bA2 : 0 ≤ ((posX l K k + 1 : Nat) : Int) ∧ ((posX l K k + 1 : Nat) : Int) ≤ 1000001 := by omega
        have bA3 : 0 ≤ ((posX l K k + 2 : Nat) : Int) ∧ ((posX l K k + 2 : Nat) : Int) ≤ 1000002 := by omega
        clear r1 r2 q0 q1 q2 q3 q4 hM hh hz hPl hPs hn' ih FN
        generalize (xAt l k).ct = ctk at *
        generalize hA : ((posX l K k : Nat) : Int) = A at *
        generalize hB2 : ((posX l K k + 1 : Nat) : Int) = A2 at *
        generalize hC : ((posX l K k + 2 : Nat) : Int) = A3 at *
        generalize hD : ((posX l K k + 3 : Nat) : Int) = A4 at *
        generalize mkTx (posX l K k + 2) = X at *
        generalize (xAt l k).s = xs at *
        go_wp2_with fail
        generalize (wr.setCell ⟨b, k * 4, none⟩ (.int .i64 A)).setCell ⟨b, k * 4 + 1, none⟩ (.int .i64 A2) = W2 at *
        refine (unhide MX _).mono ?_
        rintro e w3 ⟨rfl, hb3⟩
        have d2 := (hb3.cell (p := ⟨b, k * 4 + 2, none⟩) (unhide GL)).trans (unhide C2)
        have d3 := (hb3.cell (p := ⟨b, k * 4 + 3, none⟩) (unhide GL)).trans (unhide C3)
        have e2 := (hb3.frozen (p := ⟨b, k * 4 + 2, none⟩) (unhide GL)).trans (unhide F2)
        have OD := hide (unhide OC w3 hb3 (.string X))
        have HB3 := hide hb3
        clear OC C2 C3 F2 GL MX c0 c1 f0 f1 hb3
        go_wp2_with fail
        refine (unhide OD).mono ?_
        rintro e w5 ⟨x', rfl, hmk, hox, hb5, hf5⟩
        have SS := hide (unhide ST w3 w5 x' (unhide HB3) hmk hox hb5 hf5)
        clear hmk hox hb5 hf5 OD ST d2 d3 e2
        go_wp2
        go_roundw
        case rel =>
          obtain ⟨ys', cs', hM'⟩ := unhide SS
          exact ⟨k + 1, by omega, by go_num, by rw [← unhide EQ]; congr 1; omega, ys', cs', _, hM'⟩
        case measure => simp [intOf]; omega
      · obtain rfl : k = n := by omega
        have HM := hide hM
        have FF := hide (unhide FN _ _ _ _ hM)
        clear hM
        go_wp2
        go_ret
        exact ⟨_, rfl, (unhide FF).1, (unhide FF).2, (unhide HM).bel, (unhide HM).fr⟩
theorem markXS_any (e : Ex) : MarkP e := by
  induction e using Ex.ind with
  | h k n s l ih => exact markXS_of _ (fun i hi => ih _ (xAt_mem hi))
end Go.Proofs.YthgbpofcfmnpdaaGreatDoor

namespace Go.Proofs.YthgbpofcfmnpdaaGreatDoor
open Go.ChangeShapes Go.WideShapes Go.ChangeAt Go.RowKit
set_option linter.unusedVariables false
set_option maxRecDepth 8000

def HeldP (e : Ex) : Prop := ∀ (a : Option Addr) (cap K : Nat) (y : Ex) (w : World), MkX e K y → RdX w 0 y a → 0 < K → K + 3 * e.ct ≤ 1000000 → Calls Tryz.prog 46 #[.slice a e.l.length cap, .int .i64 K] w fun r w' => r = .returned (.int .i64 ((K + 3 * e.ct : Nat) : Int)) ∧ Below w.heap.size w w'
set_option maxHeartbeats 2000000 in
theorem heldXS_of (e : Ex) (ih : ∀ i, i < e.l.length → HeldP (xAt e.l i)) : HeldP e := by
  intro a cap K y w hy hr hK hbd
  have hct := ct_is e
  rw [MkX_eq] at hy
  rw [RdX_eq] at hr
  generalize e.l = l at *
  rw [hct] at hbd ⊢
  obtain ⟨hyl, hy⟩ := hy
  generalize y.l = ys at *
  have hcl : l.length ≤ ctX l := by unfold ctX; omega
  obtain ⟨n, hn⟩ : ∃ n, l.length = n := ⟨_, rfl⟩
  have hnl : n ≤ 1000000 := by omega
  have PE := hide (posX_end l K)
  have P0 := hide (posX_0 l K)
  clear hct hcl
  rw [hn] at ih PE hy hyl ⊢
  rw [← unhide PE]
  go_enter Tryz.func46, Tryz.ntmps46
  go_wp2
  go_loopw [1, 5] (fun kv i wr => ∃ (k : Nat) (x : Sub w.heap.size w), k ≤ n ∧ i = .int .i64 k ∧ kv = .int .i64 ((posX l K k : Nat) : Int) ∧ wr = x.w) (fun _ i _ => n - (intOf i).toNat)
  case atStart => exact ⟨0, ⟨w, Below.refl _ _⟩, Nat.zero_le _, rfl, by rw [unhide P0], rfl⟩
  case round =>
    obtain ⟨k, x, hk, rfl, rfl, rfl⟩ := hrel
    by_cases hlt : k < n
    · rcases hr with h0 | ⟨p, po, rfl, _, hp, hpc⟩
      · rw [h0] at hyl; simp at hyl; omega
      obtain ⟨e0, e1, e2, c, cp, e3, e4⟩ := hpc k (by omega)
      obtain ⟨m0, m1, m2, m3⟩ := hy k hlt
      rw [m0] at e0
      rw [m1] at e1
      rw [m2] at e2
      rw [m3.len] at e3
      have d0 : ∀ z : Sub w.heap.size w, z.w.cell? ⟨p, po + k * 4, none⟩ = _ := fun z => (z.h.cell (p := ⟨p, _, none⟩) hp).trans e0
      have d1 : ∀ z : Sub w.heap.size w, z.w.cell? ⟨p, po + k * 4 + 1, none⟩ = _ := fun z => (z.h.cell (p := ⟨p, _, none⟩) hp).trans e1
      have d2 : ∀ z : Sub w.heap.size w, z.w.cell? ⟨p, po + k * 4 + 2, none⟩ = _ := fun z => (z.h.cell (p := ⟨p, _, none⟩) hp).trans e2
      have d3 : ∀ z : Sub w.heap.size w, z.w.cell? ⟨p, po + k * 4 + 3, none⟩ = _ := fun z => (z.h.cell (p := ⟨p, _, none⟩) hp).trans e3
      have hPl := posX_le l K k (by omega)
      have hPs := posX_s l K k (by omega)
      have MX := hide (fun W => markTx_any (posX l K k + 2) (by omega) (by omega) W)
      have HC := hide (fun z : Sub w.heap.size w => ih k hlt c cp (posX l K k + 3) (xAt ys k) z.w m3 (e4.later z.h) (by omega) (by omega))
      have ne := Sub.ne w.heap.size w
      have HZ := hide (Nat.le_refl w.heap.size)
      have EN : ((posX l K k : Nat) : Int) + 1 = ((posX l K k + 1 : Nat) : Int) := by omega
      have EM : ((posX l K k + 1 : Nat) : Int) + 1 = ((posX l K k + 2 : Nat) : Int) := by omega
      have EP : ((posX l K k + 2 : Nat) : Int) + 1 = ((posX l K k + 3 : Nat) : Int) := by omega
      have EQ := hide (show ((posX l K k + 3 + 3 * (xAt l k).ct : Nat) : Int) = ((posX l K (k + 1) : Nat) : Int) by rw [hPs])
      have bA : 0 ≤ ((posX l K k : Nat) : Int) ∧ ((posX l K k : Nat) : Int) ≤ 1000000 := by omega
      have bA2 : 0 ≤ ((posX l K k + 1 : Nat) : Int) ∧ ((posX l K k + 1 : Nat) : Int) ≤ 1000001 := by omega
      have bA3 : 0 ≤ ((posX l K k + 2 : Nat) : Int) ∧ ((posX l K k + 2 : Nat) : Int) ≤ 1000002 := by omega
      have bA5 : 0 ≤ ((posX l K k + 3 + 3 * (xAt l k).ct : Nat) : Int) := by omega
      clear e0 e1 e2 e3 e4 m0 m1 m2 m3 hpc hy hPl hPs ih
      generalize (xAt l k).l.length = ll at *
      generalize hE : ((posX l K k + 3 + 3 * (xAt l k).ct : Nat) : Int) = A5 at *
      generalize hA : ((posX l K k : Nat) : Int) = A at *
      generalize hB2 : ((posX l K k + 1 : Nat) : Int) = A2 at *
      generalize hC : ((posX l K k + 2 : Nat) : Int) = A3 at *
      generalize hD : ((posX l K k + 3 : Nat) : Int) = A4 at *
      generalize mkTx (posX l K k + 2) = X at *
      go_wp2_with fail
      refine wp_region_sub x (by kernel_rfl) (by kernel_rfl) ?_
      repeat (go_big_quiet_step (first | (go_at_call 74; exact Sub.call (unhide HZ) (unhide MX _))))
      refine wpQuiet_nil ?_
      intro z
      go_wp2_with fail
      refine (Sub.call (unhide HZ) (unhide HC _)).mono ?_
      rintro e _ ⟨rfl, z2, rfl⟩
      go_wp2
      go_roundw
      case rel => exact ⟨k + 1, z2, by omega, by go_num, congrArg (Value.int .i64) (unhide EQ), rfl⟩
      case measure => simp [intOf]; omega
    · obtain rfl : k = n := by omega
      go_wp2
      go_ret
      exact ⟨rfl, x.h⟩
theorem heldXS_any (e : Ex) : HeldP e := by
  induction e using Ex.ind with
  | h k n s l ih => exact heldXS_of _ (fun i hi => ih _ (xAt_mem hi))
set_option maxHeartbeats 1000000 in
theorem markX_any (e : Ex) (a : Option Addr) (cap k B : Nat) (w : World) (ho : NewX w B e a) (hB : B ≤ w.heap.size) (hk : 0 < k) (hb : k + 3 * e.ct ≤ 1000000) : Calls Tryz.prog 18 #[.agg (e.cs a cap), .int .i64 k] w fun r w' => ∃ y : Ex, r = .returned (.int .i64 ((k + 3 * e.ct : Nat) : Int)) ∧ MkX e k y ∧ NewX w' B y a ∧ Below B w w' := by
  obtain ⟨F, o1, o2, o3⟩ := ho
  have hbW : Below w.heap.size w (w.alloc (.cells (e.cs a cap) 26)) := (Below.refl _ _).alloc (Nat.le_refl _) _
  have MS := (markXS_any e a cap k F B (w.alloc (.cells (e.cs a cap) 26)) (o1.later hbW) o2 o3 (Nat.le_trans hB hbW.size) hk hb).mono (R' := fun r w' => ∃ y : Ex, r = .returned (.int .i64 ((k + 3 * e.ct : Nat) : Int)) ∧ MkX e k y ∧ NewX w' B y a ∧ Below B w w') (by
    rintro r w' ⟨y, rfl, h1, h2, h3, _⟩
    exact ⟨y, rfl, h1, ⟨F, h2, o2, o3⟩, (hbW.mono hB).trans h3⟩)
  have M := hide MS
  unfold Ex.cs at M ⊢
  clear o1 o2 o3 hbW MS
  generalize hc : ((k + 3 * e.ct : Nat) : Int) = C at *
  generalize e.l.length = ll at *
  go_enter Tryz.func18, Tryz.ntmps18
  go_wp2_with (go_at_call 45; refine (unhide M).mono ?_; rintro e w1 ⟨y, rfl, h1, h2, h3⟩)
  go_ret
  exact ⟨y, rfl, h1, h2, h3⟩
set_option maxHeartbeats 1000000 in
theorem heldX_any (e : Ex) (a : Option Addr) (cap k : Nat) (y : Ex) (w : World) (hm : MkX e k y) (hr : RdX w 0 y a) (hk : 0 < k) (hb : k + 3 * e.ct ≤ 1000000) (q n : Int) (s : ByteArray) : Calls Tryz.prog 19 #[.agg #[.int .i64 q, .int .i64 n, .string s, .slice a e.l.length cap], .int .i64 k] w fun r w' => r = .returned (.int .i64 ((k + 3 * e.ct : Nat) : Int)) ∧ Below w.heap.size w w' := by
  have hbW : Below w.heap.size w (w.alloc (.cells #[.int .i64 q, .int .i64 n, .string s, .slice a e.l.length cap] 26)) := (Below.refl _ _).alloc (Nat.le_refl _) _
  have MS := (heldXS_any e a cap k y (w.alloc (.cells #[.int .i64 q, .int .i64 n, .string s, .slice a e.l.length cap] 26)) hm (hr.later hbW) hk hb).mono (R' := fun r w' => r = .returned (.int .i64 ((k + 3 * e.ct : Nat) : Int)) ∧ Below w.heap.size w w') (by
    rintro r w' ⟨rfl, h1⟩
    exact ⟨rfl, hbW.trans (h1.mono hbW.size)⟩)
  have M := hide MS
  have hp : 0 ≤ ((k + 3 * e.ct : Nat) : Int) := by omega
  clear hbW MS hm hr
  generalize hc : ((k + 3 * e.ct : Nat) : Int) = C at *
  generalize e.l.length = ll at *
  go_enter Tryz.func19, Tryz.ntmps19
  go_wp2_with (go_at_call 46; refine (unhide M).mono ?_; rintro e w1 ⟨rfl, h1⟩)
  go_ret
  exact ⟨rfl, h1⟩
end Go.Proofs.YthgbpofcfmnpdaaGreatDoor

namespace Go.Proofs.YthgbpofcfmnpdaaGreatDoor
open Go.ChangeShapes Go.WideShapes Go.ChangeAt Go.RowKit
set_option linter.unusedVariables false
set_option maxRecDepth 8000
set_option linter.unusedSimpArgs false

/-- What the text's road reads: kept words, marks, digits' table. -/
structure TabX (w : World) : Prop where
  k : TabK w
  g : TabG w
  b : w.cell? ⟨8, 7, none⟩ = some (.int .u8 3)
theorem TabX.next {w w' : World} (h : TabX w) (hb : Below w.heap.size w w') : TabX w' :=
  ⟨h.k.next hb, h.g.later hb h.g.lt, (hb.cell (p := ⟨8, 7, none⟩) (World.block_lt_of_cell? w _ h.b)).trans h.b⟩
set_option maxHeartbeats 2000000 in
theorem textI_any (e : Ex) (b : Option Addr) (cap : Nat) (w : World) (hr : RdX w 0 e b) (hz : e.sz ≤ 1048576) (ht : TabX w) : Calls Tryz.prog 7 #[.agg (e.cs b cap)] w fun r w' => r = .returned (.string (textE e)) ∧ Below w.heap.size w w' := by
  have B0 := below_new w (.cells (e.cs b cap) 26)
  have HH := hide (term_all 6 (by omega) e b cap _ (hr.later B0) hz (ht.next B0).k)
  have HB := hide B0
  have IP := hide (fun w1 h => isp_all 6 e w1 h)
  have NP := hide (plain_not (d := 6) (e := e))
  have TB := hide (fun w1 (hb : Below w.heap.size w w1) => ht.next hb)
  have PU := hide (fun w1 (h : okF 6 true e = true) (hx : TabX w1) => put_all 6 (by omega) e [] (.slice none 0 0) w1.heap.size w1 h (ownT_none _ _) (Nat.le_refl _) (by have := mxT_le 6 (by omega); simp; omega) hx.g hx.g.lt)
  have LI := hide (fun w1 a c (h : okF 6 true e = true) (h2 : RdT w1 a (toksF 6 e)) hx => lineI_any a (toksF 6 e).length c (toksF 6 e) w1 rfl (text_len h) h2 hx)
  have TE := hide (show (okF 6 true e = true → textE e = strOf (lineOf (toksF 6 e))) ∧ (okF 6 true e = false → textE e = E0) from ⟨fun h => by unfold textE; rw [if_pos h], fun h => by unfold textE; rw [if_neg (by rw [h]; decide)]⟩)
  clear hr B0 ht
  unfold TermR at HH
  obtain ⟨t, x, e1⟩ := tv_if e
  rw [e1] at HH IP PU
  clear e1
  simp only [List.nil_append] at PU
  generalize okF 6 false e = q at *
  generalize okF 6 true e = q2 at *
  generalize toksF 6 e = ts at *
  generalize textE e = tx at *
  unfold Ex.cs at HH HB ⊢
  generalize e.l.length = ll at *
  go_enter Tryz.func7, Tryz.ntmps7
  go_wp2_with fail
  refine (unhide HH).mono ?_
  rintro r w1 ⟨v, rfl, hv, hb1⟩
  have BB := hide ((unhide HB).trans (hb1.mono (unhide HB).size))
  cases q with
  | false =>
    have E := hide ((unhide TE).2 (unhide NP rfl))
    clear hb1 HH HB hv IP PU LI TE NP
    go_wp2
    go_ret
    exact ⟨by rw [unhide E]; rfl, unhide BB⟩
  | true =>
    have hve := hv rfl
    subst hve
    have I2 := hide (unhide IP w1 rfl)
    clear hb1 HH HB hv IP NP
    go_wp2_with fail
    refine (unhide I2).mono ?_
    rintro r w2 ⟨rfl, hb2⟩
    have B2 := hide ((unhide BB).trans (hb2.mono (unhide BB).size))
    clear hb2 I2 BB
    cases q2 with
    | false =>
      have E := hide ((unhide TE).2 rfl)
      clear PU LI TE
      go_wp2
      go_ret
      exact ⟨by rw [unhide E]; rfl, unhide B2⟩
    | true =>
      have E := hide ((unhide TE).1 rfl)
      have P2 := hide (unhide PU w2 rfl (unhide TB w2 (unhide B2)))
      have L2 := hide (fun w1 a c => unhide LI w1 a c rfl)
      clear PU LI TE
      go_wp2_with fail
      refine (unhide P2).mono ?_
      rintro r w3 ⟨v3, rfl, o3, hb3, _⟩
      have B3 := hide ((unhide B2).trans (hb3.mono (unhide B2).size))
      obtain ⟨a3, c3, rfl, r3⟩ := o3.rd
      have L3 := hide (unhide L2 w3 a3 c3 r3 (unhide TB w3 (unhide B3)).b)
      clear o3 r3 hb3 P2 L2 B2
      go_wp2_with (go_at_call 24; refine (unhide L3).mono ?_; rintro r w4 ⟨rfl, hb4⟩)
      go_ret
      exact ⟨by rw [unhide E]; rfl, (unhide B3).trans (hb4.mono (unhide B3).size)⟩
end Go.Proofs.YthgbpofcfmnpdaaGreatDoor

namespace Go.Proofs.YthgbpofcfmnpdaaGreatDoor
open Go.ChangeShapes Go.WideShapes Go.ChangeAt Go.RowKit
set_option linter.unusedVariables false
set_option maxRecDepth 8000

section
variable {H : Type} {enc : TypeId × Value → H} {P : Program} {w : World} {spare : Nat → Bool}
theorem vars_three {n0 n1 n2 : String} {gs : List (DataW H)} {ps : List MemPlace} (h : DataW.TrodVars enc P w spare [n0, n1, n2] gs ps) : ∃ d0 d1 d2, gs = [d0, d1, d2] := by
  cases gs with
  | nil => simp [DataW.TrodVars] at h
  | cons d ds =>
    obtain ⟨g0, t0, cs0, f0, p0, q0, h1, h2, h3, h4, hs, e⟩ := h
    obtain ⟨g1, t1, cs1, f1, d1, p1, g2, t2, cs2, f2, d2, p2, rfl, _⟩ := trodVars_two hs
    exact ⟨d, d1, d2, rfl⟩
end
theorem gSg : Tryz.prog.globalNamed "loop.example/g00329/impl.signs" = some 0 := by kernel_rfl
theorem tSg : (Tryz.prog.globals[0]?).map (·.type) = some 110 := by kernel_rfl
theorem sgD_eq : (Rows.laid_loop_example_g00329_impl_signs : DataW Unit) = strData sgnL := by kernel_rfl
theorem tab3_of {W : World} (h : laidMet Tryz.prog [("loop.example/g00329/impl.opWords", Rows.laid_loop_example_g00329_impl_opWords), ("loop.example/g00329/impl.regWords", Rows.laid_loop_example_g00329_impl_regWords), ("loop.example/g00329/impl.signs", Rows.laid_loop_example_g00329_impl_signs)] W) : TabK W ∧ TabG W := by
  rw [opD_eq, rgD_eq, sgD_eq] at h
  exact ⟨⟨strs_of_head gOp tOp Tryz.underlying141 Tryz.underlying9 (by kernel_rfl) (by kernel_rfl) h, strs_of_head gRg tRg Tryz.underlying142 Tryz.underlying9 (by kernel_rfl) (by kernel_rfl) h.tail⟩, strs_of_head gSg tSg Tryz.underlying110 Tryz.underlying9 (by kernel_rfl) (by kernel_rfl) h.tail.tail⟩
theorem tabx_of {W : World} (h : laidMetH Tryz.prog [("math/bits.deBruijn32tab", Rows.laid_math_bits_deBruijn32tab), ("math/bits.deBruijn64tab", Rows.laid_math_bits_deBruijn64tab), ("internal/strconv.uint64pow10", Rows.laid_internal_strconv_uint64pow10), ("loop.example/g00329/impl.opWords", Rows.laid_loop_example_g00329_impl_opWords), ("loop.example/g00329/impl.regWords", Rows.laid_loop_example_g00329_impl_regWords), ("loop.example/g00329/impl.signs", Rows.laid_loop_example_g00329_impl_signs)] W) : TabX W := by
  rw [MakeChecks.laidMetH_plain _ _ _ (by kernel_rfl)] at h
  obtain ⟨h1, h2⟩ := tab3_of h.tail.tail.tail
  exact ⟨h1, h2, db_of h.tail⟩
/-- What reading a term leans on. -/
structure EnvX (w : World) : Prop where
  env : Env w
  x : TabX w
theorem EnvX.next {w w' : World} (h : EnvX w) (hb : Below w.heap.size w w') : EnvX w' := ⟨h.env.later hb, h.x.next hb⟩
theorem envx_of {W : World} (h : laidMetH Tryz.prog [("math/bits.deBruijn32tab", Rows.laid_math_bits_deBruijn32tab), ("math/bits.deBruijn64tab", Rows.laid_math_bits_deBruijn64tab), ("internal/strconv.uint64pow10", Rows.laid_internal_strconv_uint64pow10), ("strconv.ErrRange", Rows.laid_strconv_ErrRange), ("strconv.ErrSyntax", Rows.laid_strconv_ErrSyntax), ("loop.example/g00329/impl.opWords", Rows.laid_loop_example_g00329_impl_opWords), ("loop.example/g00329/impl.regWords", Rows.laid_loop_example_g00329_impl_regWords), ("loop.example/g00329/impl.signs", Rows.laid_loop_example_g00329_impl_signs)] W) : EnvX W := by
  rw [MakeChecks.laidMetH_plain _ _ _ (by kernel_rfl)] at h
  have h3 := h.tail.tail.tail
  obtain ⟨a2, s2, hv2, -, -, -⟩ := laid_sentinel h3 gER tER Tryz.underlying100 rowES Tryz.underlying172 Tryz.underlying174 rfl rfl Tryz.underlying9 cellsES cellsSt
  obtain ⟨a1, s1, hv1, -, -, -⟩ := laid_sentinel h3.tail gES tES Tryz.underlying100 rowES Tryz.underlying172 Tryz.underlying174 rfl rfl Tryz.underlying9 cellsES cellsSt
  obtain ⟨k1, k2⟩ := tab3_of h3.tail.tail
  exact ⟨⟨k1, db_of h.tail, ⟨_, _, by have h0 := World.var?_cell gES hv1 0; simpa using h0⟩, ⟨_, _, by have h0 := World.var?_cell gER hv2 0; simpa using h0⟩⟩, ⟨k1, k2, db_of h.tail⟩⟩
end Go.Proofs.YthgbpofcfmnpdaaGreatDoor

namespace Go.Proofs.YthgbpofcfmnpdaaGreatDoor
open Go.ChangeShapes Go.WideShapes Go.ChangeAt Go.RowKit
set_option linter.unusedVariables false
set_option maxRecDepth 8000
set_option linter.unusedSimpArgs false

theorem ct_sz (e : Ex) : e.ct ≤ e.sz := by
  induction e using Ex.ind with
  | h k n s l ih =>
    rw [Ex.ct, Ex.sz_eq]
    show l.length + (l.map Ex.ct).sum ≤ s.size + l.length + (l.map Ex.sz).sum
    have : (l.map Ex.ct).sum ≤ (l.map Ex.sz).sum := by
      clear k n s
      induction l with
      | nil => simp
      | cons x r ihr =>
        have h1 := ih x List.mem_cons_self
        have h2 := ihr (fun y hy => ih y (List.mem_cons_of_mem _ hy))
        simp only [List.map_cons, List.sum_cons]
        omega
    omega
/-- What a text is read as; nothing where it is none. -/
def prE (s : ByteArray) : Ex := (parseE s).getD ⟨0, 0, ⟨#[]⟩, []⟩
def prB (s : ByteArray) : Bool := (parseE s).isSome
theorem pr_small (s : ByteArray) : (prE s).sz ≤ 504 := by
  unfold prE
  cases h : parseE s with
  | none => exact (show (Ex.mk 0 0 ⟨#[]⟩ []).sz ≤ 504 by rw [sz_leaf]; show (0 : Nat) ≤ 504; omega)
  | some e => exact plain_small (parseE_some h).1
theorem PaR.all {s : ByteArray} {w : World} {r : Ending} {w' : World} (h : PaR s w r w') : ∃ (c : Option Addr) (cp : Nat), r = .returned (.tuple #[.agg ((prE s).cs c cp), .bool (prB s)]) ∧ NewX w' w.heap.size (prE s) c ∧ Below w.heap.size w w' := by
  unfold prE prB
  rcases h with ⟨e, c, cp, h1, h2, rfl, h4, h5⟩ | ⟨h1, rfl, h3⟩
  · rw [h1]
    exact ⟨c, cp, rfl, h4, h5⟩
  · rw [h1]
    exact ⟨none, 0, rfl, NewX.nil _ _ _ _ _ _, h3⟩
theorem HalfX.below {w w' : World} {B C : Nat} {e : Ex} {a : Option Addr} (h : HalfX w B C e a) (hb : Below C w w') : HalfX w' B C e a := by
  obtain ⟨F, h1, h2, h3⟩ := h
  exact ⟨F, OwX.keep e a F (fun b hF => hb.block b (h3 b hF).2) h1, h2, h3⟩
theorem HalfX.rd {w : World} {B C : Nat} {e : Ex} {a : Option Addr} (h : HalfX w B C e a) : RdX w 0 e a := h.new.rd.lower (Nat.zero_le _) _ _
set_option maxHeartbeats 1000000 in
theorem markX_keep (e : Ex) (a : Option Addr) (cap k B C : Nat) (w : World) (ho : HalfX w B C e a) (hB : B ≤ w.heap.size) (hk : 0 < k) (hb : k + 3 * e.ct ≤ 1000000) : Calls Tryz.prog 18 #[.agg (e.cs a cap), .int .i64 k] w fun r w' => ∃ y : Ex, r = .returned (.int .i64 ((k + 3 * e.ct : Nat) : Int)) ∧ MkX e k y ∧ HalfX w' B C y a ∧ Below B w w' ∧ ∀ g, C ≤ g → g < w.heap.size → w'.heap[g]? = w.heap[g]? := by
  obtain ⟨F, o1, o2, o3⟩ := ho
  have hbW : Below w.heap.size w (w.alloc (.cells (e.cs a cap) 26)) := (Below.refl _ _).alloc (Nat.le_refl _) _
  have MS := (markXS_any e a cap k F B (w.alloc (.cells (e.cs a cap) 26)) (o1.later hbW) o2 (fun b hb => (o3 b hb).1) (Nat.le_trans hB hbW.size) hk hb).mono (R' := fun r w' => ∃ y : Ex, r = .returned (.int .i64 ((k + 3 * e.ct : Nat) : Int)) ∧ MkX e k y ∧ HalfX w' B C y a ∧ Below B w w' ∧ ∀ g, C ≤ g → g < w.heap.size → w'.heap[g]? = w.heap[g]?) (by
    rintro r w' ⟨y, rfl, h1, h2, h3, h4⟩
    exact ⟨y, rfl, h1, ⟨F, h2, o2, o3⟩, (hbW.mono hB).trans h3, fun g hg hl => (h4 g (Nat.lt_of_lt_of_le hl hbW.size) (fun hF => by have := (o3 g hF).2; omega)).trans (hbW.block g hl)⟩)
  have M := hide MS
  unfold Ex.cs at M ⊢
  clear o1 o2 o3 hbW MS
  generalize hc : ((k + 3 * e.ct : Nat) : Int) = C' at *
  generalize e.l.length = ll at *
  go_enter Tryz.func18, Tryz.ntmps18
  go_wp2_with (go_at_call 45; refine (unhide M).mono ?_; rintro e w1 ⟨y, rfl, h1, h2, h3, h4⟩)
  go_ret
  exact ⟨y, rfl, h1, h2, h3, h4⟩
end Go.Proofs.YthgbpofcfmnpdaaGreatDoor

namespace Go.Proofs.YthgbpofcfmnpdaaGreatDoor
open Go.ChangeShapes Go.WideShapes Go.ChangeAt Go.RowKit
set_option linter.unusedVariables false

theorem PaR.no {s : ByteArray} {w : World} {r : Ending} {w' : World} (hp : parseE s = none) (h : PaR s w r w') : r = .returned (.tuple #[.agg #[.int .i64 0, .int .i64 0, .string ⟨#[]⟩, .slice none 0 0], .bool false]) ∧ Below w.heap.size w w' := by
  rcases h with ⟨e, c, cp, h1, h2, h3, h4, h5⟩ | ⟨h1, h2, h3⟩
  · rw [hp] at h1; cases h1
  · exact ⟨h2, h3⟩
theorem PaR.yes {s : ByteArray} {w : World} {r : Ending} {w' : World} {e : Ex} (hp : parseE s = some e) (h : PaR s w r w') : ∃ (c : Option Addr) (cp : Nat), r = .returned (.tuple #[.agg (e.cs c cp), .bool true]) ∧ NewX w' w.heap.size e c ∧ Below w.heap.size w w' := by
  rcases h with ⟨e', c, cp, h1, h2, h3, h4, h5⟩ | ⟨h1, h2, h3⟩
  · rw [hp] at h1; cases h1; exact ⟨c, cp, h3, h4, h5⟩
  · rw [hp] at h1; cases h1
end Go.Proofs.YthgbpofcfmnpdaaGreatDoor

namespace Go.Proofs.YthgbpofcfmnpdaaGreatDoor
open Go.ChangeShapes Go.WideShapes Go.ChangeAt Go.RowKit
set_option linter.unusedVariables false
set_option maxRecDepth 8000
set_option linter.unusedSimpArgs false

/-- While a term is drawn and bent: the answer's block, the term's box, its parts, the cursor. -/
structure Ey (w wr : World) (cb g : Nat) (a : Option Addr) (len cap : Nat) (xs : List UInt8) (e : Ex) (c : Option Addr) (cp : Nat) : Prop where
  res : wr.heap[w.heap.size]? = some (.cells E0x 26 (0, 0))
  box : wr.heap[g]? = some (.cells (e.cs c cp) 26 (0, 0))
  dz : Dz w wr cb a len cap xs
  lt : w.heap.size < g
  own : ∃ F, OwX wr e c F ∧ F.Nodup ∧ ∀ b ∈ F, w.heap.size + 1 ≤ b ∧ b ≠ g
section
variable {w wr w' : World} {cb g : Nat} {a : Option Addr} {len cap : Nat} {xs : List UInt8} {e : Ex} {c : Option Addr} {cp : Nat}
theorem Ey.draw (h : Ey w wr cb g a len cap xs e c cp) (hc : Cur w' cb a len cap xs) (hg : wr.grownBy w' (some cb)) : Ey w w' cb g a len cap xs e c cp := by
  have hl := h.dz.lt
  refine ⟨h.dz.blk hg h.res (Nat.le_refl _), h.dz.blk hg h.box (Nat.le_of_lt h.lt), h.dz.draw hc hg, h.lt, ?_⟩
  obtain ⟨F, h1, h2, h3⟩ := h.own
  exact ⟨F, OwX.keep e c F (fun b hF => hg.block b (OwX.lt e c F h1 b hF) (fun e => by have := (h3 b hF).1; simp at e; omega)) h1, h2, h3⟩
theorem Ey.cells (h : Ey w wr cb g a len cap xs e c cp) : wr.cell? ⟨g, 0, none⟩ = some (.int .i64 e.k) ∧ wr.cell? ⟨g, 1, none⟩ = some (.int .i64 e.n) ∧ wr.cell? ⟨g, 2, none⟩ = some (.string e.s) ∧ wr.cell? ⟨g, 3, none⟩ = some (.slice c e.l.length cp) := ⟨Lib.cell_of_heap h.box 0, Lib.cell_of_heap h.box 1, Lib.cell_of_heap h.box 2, Lib.cell_of_heap h.box 3⟩
theorem Ey.frz (h : Ey w wr cb g a len cap xs e c cp) (j : Nat) : wr.frozen? ⟨g, j, none⟩ = false := by simp [World.frozen?, h.box]
theorem Ey.dzset (h : Ey w wr cb g a len cap xs e c cp) (j : Nat) (v : Value) : Dz w (wr.setCell ⟨g, j, none⟩ v) cb a len cap xs := h.dz.own (grownBy_set (b := g) (o := j) v) (fun k e => by cases e; exact Nat.le_of_lt h.lt)
theorem Ey.resset (h : Ey w wr cb g a len cap xs e c cp) (j : Nat) (v : Value) : (wr.setCell ⟨g, j, none⟩ v).heap[w.heap.size]? = some (.cells E0x 26 (0, 0)) := (heap_setCell_other wr ⟨g, j, none⟩ _ v (by have := h.lt; simp; omega)).trans h.res
theorem ow_l {w : World} {e f : Ex} {c : Option Addr} {F : List Nat} (h : OwX w e c F) (hl : e.l = f.l) : OwX w f c F := by
  rw [OwX_eq] at h ⊢
  rw [← hl]
  exact h
theorem Ey.ownset (h : Ey w wr cb g a len cap xs e c cp) (j : Nat) (v : Value) (f : Ex) (hl : e.l = f.l) : ∃ F, OwX (wr.setCell ⟨g, j, none⟩ v) f c F ∧ F.Nodup ∧ ∀ b ∈ F, w.heap.size + 1 ≤ b ∧ b ≠ g := by
  obtain ⟨F, h1, h2, h3⟩ := h.own
  exact ⟨F, ow_l (OwX.keep e c F (fun b hF => heap_setCell_other wr ⟨g, j, none⟩ b v (h3 b hF).2) h1) hl, h2, h3⟩
theorem Ey.setK (h : Ey w wr cb g a len cap xs e c cp) (y : Int) : Ey w (wr.setCell ⟨g, 0, none⟩ (.int .i64 y)) cb g a len cap xs ⟨y, e.n, e.s, e.l⟩ c cp :=
  ⟨h.resset _ _, heap_setCell_same wr g 0 _ _ _ h.box, h.dzset _ _, h.lt, h.ownset _ _ _ rfl⟩
theorem Ey.setN (h : Ey w wr cb g a len cap xs e c cp) (y : Int) : Ey w (wr.setCell ⟨g, 1, none⟩ (.int .i64 y)) cb g a len cap xs ⟨e.k, y, e.s, e.l⟩ c cp :=
  ⟨h.resset _ _, heap_setCell_same wr g 1 _ _ _ h.box, h.dzset _ _, h.lt, h.ownset _ _ _ rfl⟩
theorem Ey.setS (h : Ey w wr cb g a len cap xs e c cp) (y : ByteArray) : Ey w (wr.setCell ⟨g, 2, none⟩ (.string y)) cb g a len cap xs ⟨e.k, e.n, y, e.l⟩ c cp :=
  ⟨h.resset _ _, heap_setCell_same wr g 2 _ _ _ h.box, h.dzset _ _, h.lt, h.ownset _ _ _ rfl⟩
theorem Ey.later (h : Ey w wr cb g a len cap xs e c cp) (hb : Below wr.heap.size wr w') : Ey w w' cb g a len cap xs e c cp := h.draw (h.dz.cur.later hb) (grownBy_below hb)
/-- The term becomes a part of a new one. -/
theorem Ey.wrap (h : Ey w wr cb g a len cap xs e c cp) : Ey w ((wr.alloc (.cells #[.int .i64 e.k, .int .i64 e.n, .string e.s, .slice c e.l.length cp] 26)).setRow g #[.int .i64 4, .int .i64 0, .string ⟨#[]⟩, .slice (some ⟨wr.heap.size, 0, none⟩) 1 1]) cb g a len cap xs ⟨4, 0, ⟨#[]⟩, [e]⟩ (some ⟨wr.heap.size, 0, none⟩) 1 := by
  have hb := below_new wr (.cells #[.int .i64 e.k, .int .i64 e.n, .string e.s, .slice c e.l.length cp] 26)
  have h' := h.later hb
  have hlt := (Array.getElem?_eq_some_iff.1 h.box).1
  have hl := h.lt
  refine ⟨(setRow_other _ _ _ _ (by omega)).trans h'.res, setRow_heap _ _ _ _ _ _ h'.box, h'.dz.own (grownBy_row _) (fun k e => by cases e; omega), hl, ?_⟩
  obtain ⟨F, h1, h2, h3⟩ := h.own
  have hF := OwX.lt e c F h1
  refine ⟨wr.heap.size :: F, ?_, List.nodup_cons.2 ⟨fun h => by have := hF _ h; omega, h2⟩, fun b hb => ?_⟩
  · refine (OwX_eq _ _ _ _).2 (.inr ⟨wr.heap.size, #[.int .i64 e.k, .int .i64 e.n, .string e.s, .slice c e.l.length cp], 26, [F], rfl, (setRow_other _ _ _ _ (by omega)).trans Array.getElem?_push_size, by simp, rfl, by simp, fun i hi => ?_⟩)
    have hi : i < 1 := hi
    obtain rfl : i = 0 := by omega
    exact ⟨rfl, rfl, rfl, c, cp, rfl, OwX.keep e c F (fun b hb => setRow_other _ _ _ _ (h3 b hb).2) (OwX.later h1 hb)⟩
  · rcases List.mem_cons.1 hb with rfl | hb
    · omega
    · exact h3 b hb
theorem Ey.new (h : Ey w wr cb g a len cap xs e c cp) (cs : Array Value) : NewX (wr.setRow w.heap.size cs) w.heap.size e c := by
  obtain ⟨F, h1, h2, h3⟩ := h.own
  exact ⟨F, OwX.keep e c F (fun b hb => setRow_other _ _ _ _ (by have := (h3 b hb).1; omega)) h1, h2, fun b hb => Nat.le_of_succ_le (h3 b hb).1⟩
theorem Ey.start (hd : Dz w wr cb a len cap xs) (hr : wr.heap[w.heap.size]? = some (.cells E0x 26 (0, 0))) (hn : NewX wr (w.heap.size + 1) e c) : Ey w (wr.alloc (.cells (e.cs c cp) 26)) cb wr.heap.size a len cap xs e c cp := by
  have hb := below_new wr (.cells (e.cs c cp) 26)
  obtain ⟨F, h1, h2, h3⟩ := hn
  exact ⟨(hb.block _ (Array.getElem?_eq_some_iff.1 hr).1).trans hr, Array.getElem?_push_size, hd.later hb, (Array.getElem?_eq_some_iff.1 hr).1, F, OwX.later h1 hb, h2, fun b hb => ⟨h3 b hb, by have := OwX.lt e c F h1 b hb; omega⟩⟩
end
theorem sz_k (e : Ex) (y z : Int) : (Ex.mk y z e.s e.l).sz = e.sz := by obtain ⟨k, n, s, l⟩ := e; simp only [Ex.sz_eq]
theorem sz_s (e : Ex) (y : ByteArray) : (Ex.mk e.k e.n y e.l).sz ≤ y.size + e.sz := by obtain ⟨k, n, s, l⟩ := e; simp only [Ex.sz_eq]; omega
def L10c : List ByteArray := [⟨#[]⟩, ⟨#[97]⟩, ⟨#[109, 111, 118]⟩, ⟨#[65]⟩]
theorem sz10c : ∀ j : Fin 4, (L10c.getD j.val E0).size ≤ 3 := by decide +kernel
set_option maxHeartbeats 8000000 in
theorem anyD (cb : Nat) (a : Option Addr) (len cap : Nat) (xs : List UInt8) (w : World) (hc : Cur w cb a len cap xs) : Calls Tryz.prog 21 #[.pointer (some ⟨cb, 0, none⟩)] w (DrX 31 cb a len cap xs w) := by
  have D0 := hide ((dz_new hc).later (below_new w (.cells E0x 26)))
  have R0 := hide (heap_alloc_new w (.cells E0x 26))
  have hZ0 : w.heap.size < (w.alloc (.cells E0x 26)).heap.size := by simp
  unfold DrX
  unfold E0x at D0 R0 hZ0
  clear hc
  go_enter Tryz.func21, Tryz.ntmps21
  go_wp2_with fail
  generalize w.alloc (Obj.cells #[.int .i64 0, .int .i64 0, .string ⟨#[]⟩, .slice none 0 0] 26) = W at *
  refine (once_any cb a len cap xs 2 W (by omega) (unhide D0).cur).mono ?_
  rintro e w1 ⟨q, rfl, hc1, hg1⟩
  have D1 := hide ((unhide D0).draw hc1 hg1)
  have R1 := hide ((unhide D0).blk hg1 (unhide R0) (Nat.le_refl _))
  have hZ1 : w.heap.size < w1.heap.size := Nat.lt_of_lt_of_le hZ0 hg1.size
  have DX := hide (drawX3 3 rfl q cb a len cap xs w1 hc1)
  clear hc1 hg1 D0 R0 hZ0
  go_wp2_with fail
  refine (unhide DX).mono ?_
  rintro e w2 ⟨x, c, cp, rfl, hsx, hnx, hc2, hg2⟩
  have hsx : x.sz ≤ 22 := hsx
  have EY0 := hide (Ey.start (cp := cp) ((unhide D1).draw hc2 hg2) ((unhide D1).blk hg2 (unhide R1) (Nat.le_refl _)) (hnx.lower hZ1))
  obtain ⟨g, hg⟩ : ∃ g, w2.heap.size = g := ⟨_, rfl⟩
  clear hnx hc2 hg2 D1 R1 DX
  unfold Ex.cs
  unfold Ex.cs at EY0
  obtain ⟨W3, hW3⟩ : ∃ W3, w2.alloc (.cells #[.int .i64 x.k, .int .i64 x.n, .string x.s, .slice c x.l.length cp] 26) = W3 := ⟨_, rfl⟩
  rw [hW3] at EY0
  rw [hg] at EY0
  go_wp2_with fail
  refine (below_any cb a len cap xs 14 W3 (by omega) (unhide EY0).dz.cur).mono ?_
  rintro e w4 ⟨i, hx0, hx1, rfl, hc4, hg4⟩
  obtain ⟨hx2, hx3⟩ := hx0 (by omega)
  have EY := hide ((unhide EY0).draw hc4 hg4)
  clear hx0 hx1 hc4 hg4 EY0 hW3
  have h5 : i = 0 ∨ i = 1 ∨ i = 2 ∨ i = 3 ∨ 4 ≤ i := by omega
  have hcl := (unhide EY).dz.cur.lt
  rcases h5 with rfl | rfl | rfl | rfl | h5
  · have BL := hide (below_any cb a len cap xs 14 w4 (by omega) (unhide EY).dz.cur)
    go_wp2_with fail
    refine (unhide BL).mono ?_
    rintro e w5 ⟨y, _, _, rfl, hc5, hg5⟩
    have EX := hide ((unhide EY).draw hc5 hg5)
    have EZ := hide ((unhide EX).setK y)
    have f0 := (unhide EX).frz 0
    obtain ⟨x0, x1, x2, x3⟩ := (unhide EX).cells
    clear hc5 hg5 BL EY
    have RR := hide ((unhide EZ).res)
    unfold E0x at RR
    have hlg := (unhide EZ).lt
    have HSZ := hide (show Ex.sz ⟨y, x.n, x.s, x.l⟩ ≤ 31 from by rw [sz_k]; omega)
    go_wp2_with (refine wpList_store_row rfl 26 _ _ rfl w.heap.size #[.int .i64 y, .int .i64 x.n, .string x.s, .slice c x.l.length cp] rfl rfl 26 _ (unhide RR) szE rfl (ex_one _ _ _ _ _ _) ?_)
    refine bodyPost_ret (results_cell_row (P := Tryz.prog) rfl _ _ w.heap.size 26 #[.int .i64 y, .int .i64 x.n, .string x.s, .slice c x.l.length cp] (0, 0) _ rfl (setRow_heap _ _ _ _ _ _ (unhide RR)) Tryz.underlying26 rfl szE) rfl ?_
    exact ⟨⟨y, x.n, x.s, x.l⟩, c, cp, rfl, unhide HSZ, (unhide EZ).new _, ((unhide EZ).dz.row _).cur, ((unhide EZ).dz.row _).gr⟩
  · have I1 := hide (int_any cb a len cap xs (some ⟨w4.heap.size, 0, none⟩) 3 3 [-1, 1, 65536] (w4.alloc (.cells ([-1, 1, 65536].map (Value.int .i64)).toArray 3)) ((unhide EY).dz.cur.later ((Below.refl _ _).alloc (Nat.le_refl _) _)) (RdN_lit w4 _) (fun ad e => by cases e; show w4.heap.size ≠ cb; omega) rfl (by omega) (by omega))
    have G1 := hide (World.grownBy_alloc w4 (.cells ([-1, 1, 65536].map (Value.int .i64)).toArray 3) (some cb))
    go_wp2_with fail
    refine (unhide I1).mono ?_
    rintro e w5 ⟨j, hj, rfl, hc5, hg5⟩
    have EX := hide ((unhide EY).draw hc5 (grownBy_trans (unhide G1) hg5))
    generalize nAt [-1, 1, 65536] j = y at *
    have EZ := hide ((unhide EX).setN y)
    have f0 := (unhide EX).frz 1
    obtain ⟨x0, x1, x2, x3⟩ := (unhide EX).cells
    clear hc5 hg5 I1 G1 EY
    have RR := hide ((unhide EZ).res)
    unfold E0x at RR
    have hlg := (unhide EZ).lt
    have HSZ := hide (show Ex.sz ⟨x.k, y, x.s, x.l⟩ ≤ 31 from by rw [sz_k]; omega)
    go_wp2_with (refine wpList_store_row rfl 26 _ _ rfl w.heap.size #[.int .i64 x.k, .int .i64 y, .string x.s, .slice c x.l.length cp] rfl rfl 26 _ (unhide RR) szE rfl (ex_one _ _ _ _ _ _) ?_)
    refine bodyPost_ret (results_cell_row (P := Tryz.prog) rfl _ _ w.heap.size 26 #[.int .i64 x.k, .int .i64 y, .string x.s, .slice c x.l.length cp] (0, 0) _ rfl (setRow_heap _ _ _ _ _ _ (unhide RR)) Tryz.underlying26 rfl szE) rfl ?_
    exact ⟨⟨x.k, y, x.s, x.l⟩, c, cp, rfl, unhide HSZ, (unhide EZ).new _, ((unhide EZ).dz.row _).cur, ((unhide EZ).dz.row _).gr⟩
  · have S1 := hide (strD L10c 4 cb a len cap xs w4 rfl (by omega) (by omega) (unhide EY).dz.cur)
    go_wp2_with fail
    refine (unhide S1).mono ?_
    rintro e w5 ⟨j, hj, rfl, hc5, hg5⟩
    have EX := hide ((unhide EY).draw hc5 hg5)
    have OK := hide (sz10c ⟨j, hj⟩)
    simp only at OK
    generalize L10c.getD j E0 = y at *
    have EZ := hide ((unhide EX).setS y)
    have f0 := (unhide EX).frz 2
    obtain ⟨x0, x1, x2, x3⟩ := (unhide EX).cells
    clear hc5 hg5 S1 EY
    have RR := hide ((unhide EZ).res)
    unfold E0x at RR
    have hlg := (unhide EZ).lt
    have HSZ := hide (show Ex.sz ⟨x.k, x.n, y, x.l⟩ ≤ 31 from by have := sz_s x y; have := unhide OK; omega)
    go_wp2_with (refine wpList_store_row rfl 26 _ _ rfl w.heap.size #[.int .i64 x.k, .int .i64 x.n, .string y, .slice c x.l.length cp] rfl rfl 26 _ (unhide RR) szE rfl (ex_one _ _ _ _ _ _) ?_)
    refine bodyPost_ret (results_cell_row (P := Tryz.prog) rfl _ _ w.heap.size 26 #[.int .i64 x.k, .int .i64 x.n, .string y, .slice c x.l.length cp] (0, 0) _ rfl (setRow_heap _ _ _ _ _ _ (unhide RR)) Tryz.underlying26 rfl szE) rfl ?_
    exact ⟨⟨x.k, x.n, y, x.l⟩, c, cp, rfl, unhide HSZ, (unhide EZ).new _, ((unhide EZ).dz.row _).cur, ((unhide EZ).dz.row _).gr⟩
  · have BL := hide (below_any cb a len cap xs 7 w4 (by omega) (unhide EY).dz.cur)
    go_wp2_with fail
    refine (unhide BL).mono ?_
    rintro e w5 ⟨y, hy0, _, rfl, hc5, hg5⟩
    obtain ⟨hy2, hy3⟩ := hy0 (by omega)
    obtain ⟨j, rfl⟩ := Int.eq_ofNat_of_zero_le hy2
    have EX := hide ((unhide EY).draw hc5 hg5)
    have hj : j ≤ 6 := by omega
    have hxj : x.sz + j ≤ 28 := by omega
    clear hc5 hg5 BL EY hy0 hy2 hy3
    go_wp2
    go_loopw [4] (fun i wr => ∃ (m : Nat) (e : Ex) (c : Option Addr) (cp : Nat), i = .int .i64 m ∧ e.sz + m ≤ 28 ∧ Ey w wr cb g a len cap xs e c cp) (fun i _ => (intOf i).toNat)
    case atStart => exact ⟨j, x, c, cp, rfl, hxj, unhide EX⟩
    case round =>
      clear EX hj hxj hsx
      obtain ⟨m, v, d, dp, rfl, hm, hy⟩ := hrel
      have EZ := hide hy
      obtain ⟨x0, x1, x2, x3⟩ := hy.cells
      clear hy
      by_cases h0 : 0 < m
      · have hp : (0 : Int) < (m : Int) := by omega
        have EB := hide ((unhide EZ).later (below_new wr (.cells #[.int .i64 v.k, .int .i64 v.n, .string v.s, .slice d v.l.length dp] 26))).box
        have EW := hide (unhide EZ).wrap
        unfold Ex.cs at EB
        have hlg := (unhide EZ).lt
        go_wp2_with (refine wpList_store_row rfl 26 _ _ rfl g #[.int .i64 4, .int .i64 0, .string ⟨#[]⟩, .slice (some ⟨wr.heap.size, 0, none⟩) 1 1] rfl rfl 26 _ (unhide EB) szE rfl (ex_one _ _ _ _ _ _) ?_)
        go_roundw
        case rel => exact ⟨m - 1, _, _, _, by go_num, by rw [sz_one]; omega, unhide EW⟩
        case measure => simp [intOf]; omega
      · obtain rfl : m = 0 := by omega
        have RR := hide ((unhide EZ).res)
        unfold E0x at RR
        have hlg := (unhide EZ).lt
        have HSZ := hide (show Ex.sz v ≤ 31 from by omega)
        go_wp2_with (refine wpList_store_row rfl 26 _ _ rfl w.heap.size #[.int .i64 v.k, .int .i64 v.n, .string v.s, .slice d v.l.length dp] rfl rfl 26 _ (unhide RR) szE rfl (ex_one _ _ _ _ _ _) ?_)
        refine bodyPost_ret (results_cell_row (P := Tryz.prog) rfl _ _ w.heap.size 26 #[.int .i64 v.k, .int .i64 v.n, .string v.s, .slice d v.l.length dp] (0, 0) _ rfl (setRow_heap _ _ _ _ _ _ (unhide RR)) Tryz.underlying26 rfl szE) rfl ?_
        exact ⟨v, d, dp, rfl, unhide HSZ, (unhide EZ).new _, ((unhide EZ).dz.row _).cur, ((unhide EZ).dz.row _).gr⟩
  · have h0 : ¬ i = 0 := by omega
    have h1 : ¬ i = 1 := by omega
    have h2 : ¬ i = 2 := by omega
    have h3 : ¬ i = 3 := by omega
    have EZ := hide (unhide EY)
    obtain ⟨x0, x1, x2, x3⟩ := (unhide EZ).cells
    clear EY
    have RR := hide ((unhide EZ).res)
    unfold E0x at RR
    have hlg := (unhide EZ).lt
    have HSZ := hide (show Ex.sz x ≤ 31 from by omega)
    go_wp2_with (refine wpList_store_row rfl 26 _ _ rfl w.heap.size #[.int .i64 x.k, .int .i64 x.n, .string x.s, .slice c x.l.length cp] rfl rfl 26 _ (unhide RR) szE rfl (ex_one _ _ _ _ _ _) ?_)
    refine bodyPost_ret (results_cell_row (P := Tryz.prog) rfl _ _ w.heap.size 26 #[.int .i64 x.k, .int .i64 x.n, .string x.s, .slice c x.l.length cp] (0, 0) _ rfl (setRow_heap _ _ _ _ _ _ (unhide RR)) Tryz.underlying26 rfl szE) rfl ?_
    exact ⟨x, c, cp, rfl, unhide HSZ, (unhide EZ).new _, ((unhide EZ).dz.row _).cur, ((unhide EZ).dz.row _).gr⟩
end Go.Proofs.YthgbpofcfmnpdaaGreatDoor

namespace Go.Proofs.YthgbpofcfmnpdaaGreatDoor
open Go.ChangeShapes Go.WideShapes Go.ChangeAt Go.RowKit
set_option linter.unusedVariables false
set_option maxRecDepth 8000
set_option linter.unusedSimpArgs false

set_option maxHeartbeats 2000000 in
theorem drawText_any (a : Option Addr) (len cap : Nat) (xs : List UInt8) (w : World) (hl : xs.length = len) (hm : len ≤ 1048576) (hr : Rd w a xs) :
    Calls Tryz.prog 6 #[.slice a len cap] w fun r w' => ∃ (e : Ex) (c : Option Addr) (cp : Nat), r = .returned (.agg (e.cs c cp)) ∧ e.sz ≤ 31 ∧ NewX w' w.heap.size e c ∧ Below w.heap.size w w' := by
  have B0 := hide (below_new w (.cells E0x 26))
  have R0 := hide (heap_alloc_new w (.cells E0x 26))
  have hZ0 : (w.alloc (.cells E0x 26)).heap.size = w.heap.size + 1 := by simp
  have N0 := hide (new_any a len cap xs (w.alloc (.cells E0x 26)) hl hm (hr.later (unhide B0)))
  unfold E0x at B0 R0 N0 hZ0
  have HZ := hide hZ0
  clear hr hZ0
  go_enter Tryz.func6, Tryz.ntmps6
  go_wp2_with fail
  generalize w.alloc (Obj.cells #[.int .i64 0, .int .i64 0, .string ⟨#[]⟩, .slice none 0 0] 26) = W at *
  refine (unhide N0).mono ?_
  rintro e w1 ⟨rfl, hc1, hb1⟩
  have R1 := hide ((hb1.block _ (Array.getElem?_eq_some_iff.1 (unhide R0)).1).trans (unhide R0))
  have B1 := hide ((unhide B0).trans (hb1.mono (unhide B0).size))
  have o1 : w.heap.size < W.heap.size := by have := unhide HZ; omega
  have hs1 := hb1.size
  have AD := hide (anyD W.heap.size a len cap xs w1 hc1)
  unfold DrX at AD
  generalize W.heap.size = cb at *
  clear hc1 hb1 N0 R0 B0 HZ
  go_wp2_with fail
  refine (unhide AD).mono ?_
  rintro e w2 ⟨x, c, cp, rfl, hsx, hnx, hc2, hg2⟩
  have B2 := hide ((unhide B1).grown hg2 (unhide B1).size (fun k e => by cases e; omega))
  have R2 := hide ((hg2.block _ (Array.getElem?_eq_some_iff.1 (unhide R1)).1 (fun e => by simp at e; omega)).trans (unhide R1))
  have X2 := hide (hnx.lower (show w.heap.size + 1 ≤ w1.heap.size by omega))
  unfold Ex.cs
  clear hnx hc2 hg2 B1 R1 AD
  go_wp2_with (refine wpList_store_row rfl 26 _ _ rfl w.heap.size #[.int .i64 x.k, .int .i64 x.n, .string x.s, .slice c x.l.length cp] rfl rfl 26 _ (unhide R2) szE rfl (ex_one _ _ _ _ _ _) ?_)
  refine bodyPost_ret (results_cell_row (P := Tryz.prog) rfl _ _ w.heap.size 26 #[.int .i64 x.k, .int .i64 x.n, .string x.s, .slice c x.l.length cp] (0, 0) _ rfl (setRow_heap _ _ _ _ _ _ (unhide R2)) Tryz.underlying26 rfl szE) rfl ?_
  exact ⟨x, c, cp, rfl, hsx, ((unhide X2).row _ (Nat.lt_succ_self _)).lower (Nat.le_succ _), (unhide B2).grown (grownBy_row _) (unhide B2).size (fun k e => by cases e; exact Nat.le_refl _)⟩

theorem text_small (e : Ex) : (textE e).size ≤ 10000 := by
  unfold textE
  split
  · rename_i h
    obtain ⟨h1, h2⟩ := toks_ok 6 e h
    have h3 := szL_allOk _ h1
    have h4 := mxT_le 6 (by omega)
    have h5 := lineT_len (toksF 6 e) (toksF 6 e).length (Nat.le_refl _)
    rw [List.take_length] at h5
    rw [strOf_size]
    unfold lineOf
    omega
  · show 0 ≤ 10000
    omega
def L10p : List ByteArray := [⟨#[]⟩, ⟨#[60, 49, 62]⟩, ⟨#[60, 97, 43, 49, 62]⟩, ⟨#[49, 32, 50]⟩, ⟨#[60, 49, 32, 43, 32, 62]⟩, ⟨#[45]⟩, ⟨#[45, 32, 45, 49]⟩, ⟨#[60, 97, 58, 98, 62]⟩, ⟨#[60, 46, 45, 97, 62]⟩, ⟨#[109, 111, 118]⟩, ⟨#[60, 49, 32, 37, 32, 50, 62]⟩, ⟨#[62]⟩, ⟨#[45, 45, 45, 45, 45, 45, 49]⟩]
def L10q : List ByteArray := [⟨#[32]⟩, ⟨#[60]⟩, ⟨#[62]⟩, ⟨#[120]⟩, ⟨#[43]⟩, ⟨#[59, 32]⟩]
theorem sz10p : ∀ j : Fin 13, (L10p.getD j.val E0).size ≤ 10 := by decide +kernel
theorem sz10q : ∀ j : Fin 6, (L10q.getD j.val E0).size ≤ 10 := by decide +kernel
set_option maxHeartbeats 4000000 in
theorem drawParse_any (a : Option Addr) (len cap : Nat) (xs : List UInt8) (w : World) (hl : xs.length = len) (hm : len ≤ 1048576) (hr : Rd w a xs) :
    Calls Tryz.prog 8 #[.slice a len cap] w fun e w' => ∃ s : ByteArray, s.size ≤ 1048576 ∧ e = .returned (.string s) ∧ Below w.heap.size w w' := by
  go_enter Tryz.func8, Tryz.ntmps8
  go_wp2_with fail
  refine (new_any a len cap xs w hl hm hr).mono ?_
  rintro e w1 ⟨rfl, hc1, hb1⟩
  have TD := hide (drawX3 3 rfl true _ a len cap xs w1 hc1)
  unfold DrX at TD
  have B1 := hide hb1
  clear hc1 hb1
  go_wp2_with fail
  refine (unhide TD).mono ?_
  rintro e w2 ⟨x, c, cp, rfl, hsx, hnx, hc2, hg2⟩
  have hsx2 : x.sz ≤ 1048576 := Nat.le_trans hsx (by decide)
  have B2 := hide (below_of_new (unhide B1) hg2)
  have C2 := hide hc2
  have LS := hide (textS_any x c cp w2 (hnx.rd.lower (Nat.zero_le _) _ _) hsx2)
  have SZ := text_small x
  generalize textE x = S at *
  clear hnx hc2 hg2 TD B1 hsx hsx2
  unfold Ex.cs at LS ⊢
  go_wp2_with fail
  refine (unhide LS).mono ?_
  rintro e w3 ⟨rfl, hb3⟩
  have B3 := hide ((unhide B2).trans (hb3.mono (unhide B2).size))
  have C3 := hide ((unhide C2).later hb3)
  have DB := hide (below_any _ a len cap xs 4 w3 (by omega) (unhide C3))
  clear hb3 B2 C2 LS
  go_wp2_with fail
  refine (unhide DB).mono ?_
  rintro e w4 ⟨y, hx0, hx1, rfl, hc4, hg4⟩
  obtain ⟨hx2, hx3⟩ := hx0 (by omega)
  have B4 := hide (below_of_new (unhide B3) hg4)
  have C4 := hide hc4
  clear hx0 hx1 hc4 hg4 B3 C3 DB
  have h4 : y = 0 ∨ y = 1 ∨ y = 2 ∨ y = 3 := by omega
  clear hx2 hx3
  rcases h4 with rfl | rfl | hx
  · have S1 := hide (strD L10p 13 _ a len cap xs w4 rfl (by omega) (by omega) (unhide C4))
    go_wp2_with (first | (go_at_call 29; refine (unhide S1).mono ?_; rintro e w5 ⟨j, hj, rfl, hc5, hg5⟩; have B5 := hide (below_of_new (unhide B4) hg5); have sz := sz10p ⟨j, hj⟩; simp only at sz; clear hc5 hg5; generalize L10p.getD j E0 = sx at *))
    go_ret
    exact ⟨sx, by omega, rfl, unhide B5⟩
  · have DB := hide (below_any _ a len cap xs (S.size + 1 : Nat) w4 (by omega) (unhide C4))
    go_wp2_with fail
    refine (unhide DB).mono ?_
    rintro e w5 ⟨k, hx0, hx1, rfl, hc5, hg5⟩
    obtain ⟨hk2, hk3⟩ := hx0 (by omega)
    have B5 := hide (below_of_new (unhide B4) hg5)
    have C5 := hide hc5
    clear hx0 hx1 hc5 hg5 B4 C4 DB
    obtain ⟨k, rfl⟩ : ∃ m : Nat, k = m := ⟨k.toNat, by omega⟩
    have hkS : k ≤ S.size := by omega
    clear hk2 hk3
    have S1 := hide (strD L10q 6 _ a len cap xs w5.drew rfl (by omega) (by omega) ((unhide C5).later below_drew))
    go_wp2_with fail
    have B5d := hide ((unhide B5).trans ((below_drew (w := w5)).mono (unhide B5).size))
    refine wp_region_held_drew (S := fun _ => True) (by kernel_rfl) trivial (fun hS => ?_)
    have HS := hide hS
    clear hS
    refine wpAnyH_take (i := 0) (v := .string S) rfl (by kernel_rfl) (by kernel_rfl) (by kernel_rfl) (fun _ _ _ h => h) (Or.inl ⟨by rfl, fun w hc => ?_⟩) (unhide HS) ?_
    · clear hc; go_simp
    go_simp
    refine wpAnyH_take (i := 1) (v := .int .i64 k) rfl (by kernel_rfl) (by kernel_rfl) (by kernel_rfl) (fun _ _ _ h => h) (Or.inl ⟨by rfl, fun w hc => ?_⟩) (unhide HS) ?_
    · clear hc; go_simp
    go_simp
    refine wpAnyH_take (i := 2) (v := .string (S.extract 0 k)) rfl (by kernel_rfl) (by kernel_rfl) (by kernel_rfl) (fun _ _ _ h => h) (Or.inl ⟨by rfl, fun w hc => ?_⟩) (unhide HS) ?_
    · clear hc; go_simp
    go_simp
    refine wpAnyH_take (i := 3) (v := .pointer (some ⟨w.heap.size, 0, none⟩)) rfl (by kernel_rfl) (by kernel_rfl) (by kernel_rfl) (fun _ _ _ h => h) (Or.inl ⟨by rfl, fun w hc => ?_⟩) (unhide HS) ?_
    · clear hc; go_simp
    go_simp
    refine wpAnyH_take (i := 7) (v := .string S) rfl (by kernel_rfl) (by kernel_rfl) (by kernel_rfl) (fun _ _ _ h => h) (Or.inl ⟨by rfl, fun w hc => ?_⟩) (unhide HS) ?_
    · clear hc; go_simp
    go_simp
    refine wpAnyH_take (i := 8) (v := .int .i64 k) rfl (by kernel_rfl) (by kernel_rfl) (by kernel_rfl) (fun _ _ _ h => h) (Or.inl ⟨by rfl, fun w hc => ?_⟩) (unhide HS) ?_
    · clear hc; go_simp
    go_simp
    refine wpAnyH_take (i := 9) (v := .string (S.extract k S.size)) rfl (by kernel_rfl) (by kernel_rfl) (by kernel_rfl) (fun _ _ _ h => h) (Or.inl ⟨by rfl, fun w hc => ?_⟩) (unhide HS) ?_
    · clear hc; go_simp
    go_simp
    refine wpAnyH_ready (rs := [4]) (by kernel_rfl) (by simp) ?_
    refine AllReadyH.cons rfl (fun K2 hK => ?_) AllReadyH.nil
    go_simp
    refine hK.out _ _ (trivial) (fun hS => ?_)
    clear HS
    have HS := hide hS
    clear hS hK K2
    refine wpAnyH_ready (rs := [5]) (by kernel_rfl) (by simp) ?_
    refine AllReadyH.cons rfl (fun K2 hK => ?_) AllReadyH.nil
    go_simp
    refine (unhide S1).mono ?_
    rintro e w6 ⟨j, hj, rfl, hc6, hg6⟩
    have B6 := hide (below_of_new (unhide B5d) hg6)
    have sz := sz10q ⟨j, hj⟩
    simp only at sz
    clear hc6 hg6
    generalize L10q.getD j E0 = sx at *
    refine hK.out _ _ (trivial) (fun hS => ?_)
    clear HS
    have HS := hide hS
    clear hS hK K2
    refine wpAnyH_take (i := 6) (v := .string (S.extract 0 k ++ sx)) rfl (by kernel_rfl) (by kernel_rfl) (by kernel_rfl) (fun _ _ _ h => h) (Or.inl ⟨by rfl, fun w hc => ?_⟩) (unhide HS) ?_
    · clear hc; go_simp; omega
    go_simp
    refine wpAnyH_take (i := 10) (v := .string (S.extract 0 k ++ sx ++ S.extract k S.size)) rfl (by kernel_rfl) (by kernel_rfl) (by kernel_rfl) (fun _ _ _ h => h) (Or.inl ⟨by rfl, fun w hc => ?_⟩) (unhide HS) ?_
    · clear hc; go_simp; omega
    go_simp
    refine wpAnyH_take (i := 11) (v := .string (S.extract 0 k ++ sx ++ S.extract k S.size)) rfl (by kernel_rfl) (by kernel_rfl) (by kernel_rfl) (fun _ _ _ h => h) (Or.inl ⟨by rfl, fun w hc => ?_⟩) (unhide HS) ?_
    · clear hc; go_simp
    go_simp
    refine wpAnyH_done (by kernel_rfl) ?_ _
    go_wp2
    go_ret
    exact ⟨_, by rw [ByteArray.size_append, ByteArray.size_append, ByteArray.size_extract, ByteArray.size_extract]; omega, rfl, unhide B6⟩
  · have hxa : (y == 0) = false := beq_eq_false_iff_ne.2 (by omega)
    have hxb : (y == 1) = false := beq_eq_false_iff_ne.2 (by omega)
    clear hx
    go_wp2
    go_ret
    exact ⟨S, by omega, rfl, unhide B4⟩
end Go.Proofs.YthgbpofcfmnpdaaGreatDoor

namespace Go.Proofs.YthgbpofcfmnpdaaGreatDoor
open Go.ChangeShapes Go.WideShapes Go.ChangeAt Go.RowKit
set_option linter.unusedVariables false
set_option maxRecDepth 8000
set_option linter.unusedSimpArgs false

/-- Two lists, by where they begin, and how long they are. -/
structure Ky where
  a : Nat
  b : Nat
  n : Nat
def Ky.v (k : Ky) : Value := .agg #[.pointer (some ⟨k.a, 0, none⟩), .pointer (some ⟨k.b, 0, none⟩), .int .i64 k.n]
def Ky.same (k l : Ky) : Bool := k.a == l.a && (k.b == l.b && k.n == l.n)
theorem Ky.same_iff (k l : Ky) : k.same l = true ↔ k = l := by
  obtain ⟨a, b, n⟩ := k
  obtain ⟨c, d, m⟩ := l
  simp [Ky.same]
/-- A block that is a row of cells, not frozen. -/
def Clean (w : World) (b : Nat) : Prop := ∃ cs t, w.heap[b]? = some (.cells cs t (0, 0))
theorem run_ptr_eq (d : Nat) (w : World) (a b : Nat) (ha : Clean w a) (hb : Clean w b) : (Op.equalIn (d + 1) 71 (.pointer (some ⟨a, 0, none⟩)) (.pointer (some ⟨b, 0, none⟩))).run Tryz.prog w = .ok (a == b) w := by
  obtain ⟨i0, hi, hz0, hz1, hz2⟩ := info_parts infoX
  have hsz : i0.size ≠ 0 := by rw [hz1]; decide
  by_cases e : a = b
  · subst e
    simp [Op.equalIn, run_underlying Tryz.underlying71, sizeOf, typeInfo, hi, hsz, run_sameAddr_same]
  · obtain ⟨ca, ta, ha⟩ := ha
    obtain ⟨cb, tb, hb⟩ := hb
    have hne : (⟨a, 0, none⟩ : Addr) ≠ ⟨b, 0, none⟩ := fun h => e (by cases h; rfl)
    simp [Op.equalIn, run_underlying Tryz.underlying71, sizeOf, typeInfo, hi, hsz, run_sameAddr_other w hne ha hb, e]
theorem run_key_eq (w : World) (k l : Ky) (ka : Clean w k.a) (kb : Clean w k.b) (la : Clean w l.a) (lb : Clean w l.b) : (Op.equal 73 k.v l.v).run Tryz.prog w = .ok (k.same l) w := by
  unfold Op.equal Op.maxDepth Ky.v
  rw [run_equalIn_struct w 9999 73 _ _ (by kernel_rfl) (by kernel_rfl)]
  have hf : (Tryz.prog.fieldsOf 73).toList.map (fun f => (f.name, f.type, f.offset)) = [("one", 71, 0), ("other", 71, 1), ("size", 3, 2)] := by kernel_rfl
  have hlen := congrArg List.length hf
  rw [List.length_map] at hlen
  generalize (Tryz.prog.fieldsOf 73).toList = fs at *
  match fs, hlen, hf with
  | [f0, f1, f2], _, hf =>
    simp only [List.map_cons, List.map_nil, List.cons.injEq, Prod.mk.injEq] at hf
    obtain ⟨⟨n0, t0, o0⟩, ⟨n1, t1, o1⟩, ⟨n2, t2, o2⟩, _⟩ := hf
    have p0 : ∀ a b c : Value, (part 71 #[.pointer (some ⟨k.a, 0, none⟩), b, c] 0).run Tryz.prog w = .ok (.pointer (some ⟨k.a, 0, none⟩)) w := fun a b c => by kernel_rfl
    have q0 : (part 71 #[.pointer (some ⟨k.a, 0, none⟩), .pointer (some ⟨k.b, 0, none⟩), .int .i64 k.n] 0).run Tryz.prog w = .ok (.pointer (some ⟨k.a, 0, none⟩)) w := by kernel_rfl
    have q1 : (part 71 #[.pointer (some ⟨k.a, 0, none⟩), .pointer (some ⟨k.b, 0, none⟩), .int .i64 k.n] 1).run Tryz.prog w = .ok (.pointer (some ⟨k.b, 0, none⟩)) w := by kernel_rfl
    have q2 : (part 3 #[.pointer (some ⟨k.a, 0, none⟩), .pointer (some ⟨k.b, 0, none⟩), .int .i64 k.n] 2).run Tryz.prog w = .ok (.int .i64 k.n) w := by kernel_rfl
    have r0 : (part 71 #[.pointer (some ⟨l.a, 0, none⟩), .pointer (some ⟨l.b, 0, none⟩), .int .i64 l.n] 0).run Tryz.prog w = .ok (.pointer (some ⟨l.a, 0, none⟩)) w := by kernel_rfl
    have r1 : (part 71 #[.pointer (some ⟨l.a, 0, none⟩), .pointer (some ⟨l.b, 0, none⟩), .int .i64 l.n] 1).run Tryz.prog w = .ok (.pointer (some ⟨l.b, 0, none⟩)) w := by kernel_rfl
    have r2 : (part 3 #[.pointer (some ⟨l.a, 0, none⟩), .pointer (some ⟨l.b, 0, none⟩), .int .i64 l.n] 2).run Tryz.prog w = .ok (.int .i64 l.n) w := by kernel_rfl
    have s0 := run_ptr_eq 9998 w k.a l.a ka la
    have s1 := run_ptr_eq 9998 w k.b l.b kb lb
    have s2 := run_equalIn_int w 9998 3 .i64 .i64 (k.n : Int) (l.n : Int) Tryz.underlying3
    clear p0
    unfold Ky.same
    simp only [Op.eqFields, n0, n1, n2, t0, t1, t2, o0, o1, o2, Sem.run_bind, Sem.run_ite, q0, q1, q2, r0, r1, r2, Result.andThen_ok, s0, s1, s2]
    have en : ((k.n : Int) == (l.n : Int)) = (k.n == l.n) := by rw [Bool.eq_iff_iff, beq_iff_eq, beq_iff_eq]; omega
    rw [en]
    cases k.a == l.a <;> cases k.b == l.b <;> cases k.n == l.n <;> simp
/-- The entries of a map of keys. -/
def esOf (ks : List Ky) (born : Nat) : List MapEntry := match ks with
  | [] => []
  | k :: r => { key := k.v, val := .agg #[], born := born } :: esOf r (born + 1)
def hasK (ks : List Ky) (k : Ky) : Bool := ks.any (fun l => k.same l)
theorem hasK_iff (ks : List Ky) (k : Ky) : hasK ks k = true ↔ k ∈ ks := by
  unfold hasK
  rw [List.any_eq_true]
  constructor
  · rintro ⟨l, hl, h⟩; rw [(Ky.same_iff _ _).1 h]; exact hl
  · intro h; exact ⟨k, h, (Ky.same_iff _ _).2 rfl⟩
theorem run_asking (w : World) (k : Ky) (ka : Clean w k.a) (kb : Clean w k.b) : ∀ (ks : List Ky) (born i : Nat), (∀ l ∈ ks, Clean w l.a ∧ Clean w l.b) → ∃ r, (Instr.findAsking 73 k.v (esOf ks born) i).run Tryz.prog w = .ok r w ∧ ((hasK ks k = false ∧ r = none) ∨ (hasK ks k = true ∧ ∃ j, r = some (j, .agg #[]))) := by
  intro ks
  induction ks with
  | nil => intro born i _; exact ⟨none, rfl, .inl ⟨rfl, rfl⟩⟩
  | cons l r ih =>
    intro born i hc
    obtain ⟨la, lb⟩ := hc l List.mem_cons_self
    have he := run_key_eq w k l ka kb la lb
    obtain ⟨q, hq, hr⟩ := ih (born + 1) (i + 1) (fun x hx => hc x (List.mem_cons_of_mem _ hx))
    have hh : hasK (l :: r) k = (k.same l || hasK r k) := by simp [hasK]
    cases hs : k.same l with
    | true =>
      rw [hs] at he
      exact ⟨some (i, .agg #[]), by simp [esOf, Instr.findAsking, he], .inr ⟨by rw [hh, hs]; rfl, i, rfl⟩⟩
    | false =>
      rw [hs] at he
      exact ⟨q, by simp [esOf, Instr.findAsking, he, hq], by rw [hh, hs, Bool.false_or]; exact hr⟩
theorem find_struct (w : World) (k : Ky) (ks : List Ky) (born : Nat) : (Instr.findKey 73 k.v (esOf ks born)).run Tryz.prog w = (Instr.findAsking 73 k.v (esOf ks born) 0).run Tryz.prog w := by
  cases ks with
  | nil => simp [esOf, Instr.findKey, Instr.findAsking, run_underlying Tryz.underlying73, Instr.findNow]
  | cons l r => simp [esOf, Instr.findKey, run_underlying Tryz.underlying73, Instr.findNow, Instr.sameNow, Ky.v]
/-- Block b is a map of these keys. -/
def IsMp (w : World) (b : Nat) (ks : List Ky) : Prop := w.heap[b]? = some (.map (esOf ks 0).toArray ks.length)
theorem run_key_ok (em : Bool) (k : Ky) (w : World) : (Instr.checkKey em 10000 73 k.v).run Tryz.prog w = .ok () w := by
  cases em <;> kernel_rfl
theorem run_look {w : World} {b : Nat} {ks : List Ky} (h : IsMp w b ks) (k : Ky) (ka : Clean w k.a) (kb : Clean w k.b) (hc : ∀ l ∈ ks, Clean w l.a ∧ Clean w l.b) : (Instr.lookup 68 (.map (some b)) k.v true).run Tryz.prog w = .ok (.tuple #[.agg #[], .bool (hasK ks k)]) w := by
  obtain ⟨r, hr, hh⟩ := run_asking w k ka kb ks 0 0 hc
  have hf := (find_struct w k ks 0).trans hr
  have hz : (zeroValue 74).run Tryz.prog w = .ok (.agg #[]) w := by kernel_rfl
  rcases hh with ⟨h1, rfl⟩ | ⟨h1, j, rfl⟩
  · simp [Instr.lookup, run_underlying Tryz.underlying68, MapKept.run_getObj_map h, run_key_ok, hf, hz, h1, Result.andThen]
  · simp [Instr.lookup, run_underlying Tryz.underlying68, MapKept.run_getObj_map h, run_key_ok, hf, h1, Result.andThen]
theorem esOf_snoc (ks : List Ky) (k : Ky) : ∀ born, esOf (ks ++ [k]) born = esOf ks born ++ [{ key := k.v, val := .agg #[], born := born + ks.length }] := by
  induction ks with
  | nil => intro born; rfl
  | cons l r ih => intro born; simp only [List.cons_append, esOf, ih, List.length_cons]; congr 4; omega
theorem run_put {w : World} {b : Nat} {ks : List Ky} (h : IsMp w b ks) (k : Ky) (ka : Clean w k.a) (kb : Clean w k.b) (hc : ∀ l ∈ ks, Clean w l.a ∧ Clean w l.b) (hn : hasK ks k = false) : ∃ w', (Instr.mapUpdate 68 (.map (some b)) k.v (.agg #[])).run Tryz.prog w = .ok () w' ∧ IsMp w' b (ks ++ [k]) ∧ w'.heap.size = w.heap.size ∧ (∀ g, g ≠ b → w'.heap[g]? = w.heap[g]?) ∧ w'.os = w.os ∧ w'.tape = w.tape ∧ w'.output = w.output := by
  obtain ⟨r, hr, hh⟩ := run_asking w k ka kb ks 0 0 hc
  have hf := (find_struct w k ks 0).trans hr
  rcases hh with ⟨h1, rfl⟩ | ⟨h1, j, rfl⟩
  · have hrun : (Instr.mapUpdate 68 (.map (some b)) k.v (.agg #[])).run Tryz.prog w = .ok () { w with heap := w.heap.setIfInBounds b (.map ((esOf ks 0).toArray.push { key := k.v, val := .agg #[], born := ks.length }) (ks.length + 1)) } := by
      simp [Instr.mapUpdate, run_underlying Tryz.underlying68, MapKept.run_getObj_map h, run_key_ok, hf, MapKept.run_setObj_map _ h, Result.andThen]
    refine ⟨_, hrun, ?_, by simp, fun g hg => ?_, rfl, rfl, rfl⟩
    · have hl : b < w.heap.size := (Array.getElem?_eq_some_iff.1 h).1
      unfold IsMp
      simp [hl, esOf_snoc]
    · simp [Array.getElem?_setIfInBounds, Ne.symm hg]
  · rw [hn] at h1; cases h1
end Go.Proofs.YthgbpofcfmnpdaaGreatDoor

namespace Go.Proofs.YthgbpofcfmnpdaaGreatDoor
open Go.ChangeShapes Go.WideShapes Go.ChangeAt Go.RowKit
set_option linter.unusedVariables false
set_option maxRecDepth 8000

def eqB (a b : ByteArray) : Bool := a.toList == b.toList
theorem eqB_iff (a b : ByteArray) : eqB a b = true ↔ a = b := by
  unfold eqB
  rw [ByteArray.toList_eq, ByteArray.toList_eq, beq_iff_eq]
  exact ⟨fun h => bytes_inj h, fun h => by rw [h]⟩
/-- The same but for the parts. -/
def headX (a b : Ex) : Bool := a.k == b.k && (a.n == b.n && (eqB a.s b.s && a.l.length == b.l.length))
theorem headX_iff (a b : Ex) : headX a b = true ↔ a.k = b.k ∧ a.n = b.n ∧ a.s = b.s ∧ a.l.length = b.l.length := by
  unfold headX
  simp only [Bool.and_eq_true, beq_iff_eq, eqB_iff]
/-- Whether two terms are the same. -/
def sameX : Ex → Ex → Bool
  | ⟨k, n, s, l⟩ => fun b => headX ⟨k, n, s, l⟩ b && ((l.map sameX).zip b.l).all (fun p => p.1 p.2)
theorem sameX_eq (a b : Ex) : sameX a b = (headX a b && ((a.l.map sameX).zip b.l).all (fun p => p.1 p.2)) := by
  obtain ⟨k, n, s, l⟩ := a
  rw [sameX]
theorem sameX_iff (a : Ex) : ∀ b, sameX a b = true ↔ a = b := by
  induction a using Ex.ind with
  | h k n s l ih =>
    intro b
    rw [sameX_eq, Bool.and_eq_true, headX_iff, List.all_eq_true]
    constructor
    · rintro ⟨⟨h1, h2, h3, h4⟩, h5⟩
      obtain ⟨bk, bn, bs, bl⟩ := b
      simp only at h1 h2 h3 h4 h5
      subst h1 h2 h3
      congr 1
      apply List.ext_getElem h4
      intro i hi hj
      have hm : (sameX l[i], bl[i]) ∈ (l.map sameX).zip bl := by
        have hz : i < ((l.map sameX).zip bl).length := by simp; omega
        have := List.getElem_mem hz
        simpa using this
      exact (ih _ (List.getElem_mem hi) _).1 (h5 _ hm)
    · rintro rfl
      refine ⟨⟨rfl, rfl, rfl, rfl⟩, fun p hp => ?_⟩
      simp only at hp
      obtain ⟨i, hi, rfl⟩ := List.getElem_of_mem hp
      simp only [List.length_zip, List.length_map] at hi
      simp only [List.getElem_zip, List.getElem_map]
      exact (ih _ (List.getElem_mem (by omega)) _).2 rfl
/-- The first so many parts are the same. -/
def sameN (l m : List Ex) (k : Nat) : Bool := (List.range k).all (fun i => sameX (xAt l i) (xAt m i))
theorem sameN_0 (l m : List Ex) : sameN l m 0 = true := rfl
theorem sameN_s (l m : List Ex) (k : Nat) : sameN l m (k + 1) = (sameN l m k && sameX (xAt l k) (xAt m k)) := by
  unfold sameN
  rw [List.range_succ, List.all_append]
  simp
theorem sameN_part {l m : List Ex} {k n : Nat} (hk : k < n) (h : sameX (xAt l k) (xAt m k) = false) : sameN l m n = false := by
  unfold sameN
  rw [List.all_eq_false]
  exact ⟨k, by simpa using hk, by rw [h]; decide⟩
theorem sameX_n (a b : Ex) : sameX a b = (headX a b && sameN a.l b.l a.l.length) := by
  rw [Bool.eq_iff_iff, sameX_iff]
  constructor
  · rintro rfl
    rw [Bool.and_eq_true]
    refine ⟨(headX_iff _ _).2 ⟨rfl, rfl, rfl, rfl⟩, ?_⟩
    unfold sameN
    rw [List.all_eq_true]
    intro i _
    exact (sameX_iff _ _).2 rfl
  · intro h
    rw [Bool.and_eq_true, headX_iff] at h
    obtain ⟨⟨h1, h2, h3, h4⟩, h5⟩ := h
    unfold sameN at h5
    rw [List.all_eq_true] at h5
    obtain ⟨ak, an, as_, al⟩ := a
    obtain ⟨bk, bn, bs, bl⟩ := b
    simp only at h1 h2 h3 h4 h5
    subst h1 h2 h3
    congr 1
    apply List.ext_getElem h4
    intro i hi hj
    have := (sameX_iff _ _).1 (h5 i (by simpa using hi))
    rwa [xAt_get hi, xAt_get hj] at this
end Go.Proofs.YthgbpofcfmnpdaaGreatDoor

namespace Go.Proofs.YthgbpofcfmnpdaaGreatDoor
open Go.ChangeShapes Go.WideShapes Go.ChangeAt Go.RowKit
set_option linter.unusedVariables false
set_option maxRecDepth 8000
set_option linter.unusedSimpArgs false

/-- Two terms that wait, each with where its parts lie. -/
structure Pr where
  x : Ex
  y : Ex
  p : Option Addr
  q : Option Addr
  c : Nat
  d : Nat
def Pr.cs (r : Pr) : List Value := [.int .i64 r.x.k, .int .i64 r.x.n, .string r.x.s, .slice r.p r.x.l.length r.c, .int .i64 r.y.k, .int .i64 r.y.n, .string r.y.s, .slice r.q r.y.l.length r.d]
def cellsP : List Pr → List Value
  | [] => []
  | r :: l => r.cs ++ cellsP l
theorem cellsP_len (l : List Pr) : (cellsP l).length = l.length * 8 := by
  induction l with
  | nil => rfl
  | cons r l ih => simp only [cellsP, List.length_append, ih, List.length_cons, Pr.cs, List.length_nil]; omega
theorem cellsP_app (a b : List Pr) : cellsP (a ++ b) = cellsP a ++ cellsP b := by
  induction a with
  | nil => rfl
  | cons r l ih => simp only [List.cons_append, cellsP, ih, List.append_assoc]
theorem cellsP_last (l : List Pr) (r : Pr) (j : Nat) (h : j < 8) : (cellsP (l ++ [r]))[l.length * 8 + j]? = r.cs[j]? := by
  rw [cellsP_app, List.getElem?_append_right (by rw [cellsP_len]; omega), cellsP_len]
  simp only [cellsP, List.append_nil]
  congr 1
  omega
/-- What is met: the same but for the parts, and these have been laid open. -/
def R2 (ks : List Ky) (x : Ex) (p : Option Addr) (y : Ex) (q : Option Addr) : Prop := headX x y = true ∧ (x.l.length = 0 ∨ ∃ a b, p = some ⟨a, 0, none⟩ ∧ q = some ⟨b, 0, none⟩ ∧ Ky.mk a b x.l.length ∈ ks)
theorem R2.mono {ks ks' : List Ky} {x y : Ex} {p q : Option Addr} (h : R2 ks x p y q) (hk : ∀ k ∈ ks, k ∈ ks') : R2 ks' x p y q := by
  obtain ⟨h1, h2 | ⟨a, b, e1, e2, e3⟩⟩ := h
  · exact ⟨h1, .inl h2⟩
  · exact ⟨h1, .inr ⟨a, b, e1, e2, hk _ e3⟩⟩
/-- Two lists that were laid open: each pair of parts waits, or is met. -/
def Ent (w : World) (L : List Pr) (ks : List Ky) (k : Ky) : Prop := ∃ (x y : Ex) (F G : List Nat), OwX w x (some ⟨k.a, 0, none⟩) F ∧ OwX w y (some ⟨k.b, 0, none⟩) G ∧ x.l.length = k.n ∧ y.l.length = k.n ∧ 0 < k.n ∧ ∀ i, i < k.n → ∃ (c d : Option Addr) (cc cd : Nat), w.cell? ⟨k.a, i * 4 + 3, none⟩ = some (.slice c (xAt x.l i).l.length cc) ∧ w.cell? ⟨k.b, i * 4 + 3, none⟩ = some (.slice d (xAt y.l i).l.length cd) ∧ (Pr.mk (xAt x.l i) (xAt y.l i) c d cc cd ∈ L ∨ R2 ks (xAt x.l i) c (xAt y.l i) d)
structure Cmp (w : World) (a b : Ex) (pa pb : Option Addr) (ca cb : Nat) (L : List Pr) (ks : List Ky) : Prop where
  ok : ∀ r ∈ L, (∃ F, OwX w r.x r.p F) ∧ (∃ G, OwX w r.y r.q G)
  eq : a = b → ∀ r ∈ L, r.x = r.y
  root : Pr.mk a b pa pb ca cb ∈ L ∨ R2 ks a pa b pb
  ent : ∀ k ∈ ks, Ent w L ks k
/-- Where a term's parts lie tells them. -/
theorem OwX.det {w : World} (x : Ex) : ∀ (x' : Ex) (a : Nat) (F G : List Nat), OwX w x (some ⟨a, 0, none⟩) F → OwX w x' (some ⟨a, 0, none⟩) G → x.l.length = x'.l.length → x.l = x'.l := by
  induction x using Ex.ind with
  | h k n s l ih =>
    intro x' a F G h1 h2 hl
    rw [OwX_eq] at h1 h2
    rcases h1 with ⟨e, _⟩ | ⟨b, cs, t, Fs, ea, hh, hz, hF, rfl, h3⟩
    · rw [e] at hl
      rw [e]
      exact (List.eq_nil_of_length_eq_zero hl.symm).symm
    · rcases h2 with ⟨e, _⟩ | ⟨b', cs', t', Fs', ea', hh', hz', hF', rfl, h3'⟩
      · rw [e] at hl
        exact (List.eq_nil_of_length_eq_zero hl).trans e.symm
      · cases ea
        cases ea'
        rw [hh] at hh'
        cases hh'
        apply List.ext_getElem hl
        intro i hi hj
        obtain ⟨p0, p1, p2, c, cap, p3, p4⟩ := h3 i hi
        obtain ⟨q0, q1, q2, c', cap', q3, q4⟩ := h3' i hj
        rw [p0] at q0; rw [p1] at q1; rw [p2] at q2; rw [p3] at q3
        simp only [Option.some.injEq, Value.int.injEq, true_and, Value.string.injEq, Value.slice.injEq] at q0 q1 q2 q3
        obtain ⟨rfl, ql, _⟩ := q3
        have hi' : i < (Ex.mk k n s l).l.length := hi
        have e := ih _ (xAt_mem hi') (xAt x'.l i)
        have e0 : xAt (Ex.mk k n s l).l i = (Ex.mk k n s l).l[i] := xAt_get hi
        have e1 : xAt x'.l i = x'.l[i] := xAt_get hj
        rw [← e0, ← e1]
        have el : (xAt (Ex.mk k n s l).l i).l = (xAt x'.l i).l := by
          by_cases h0 : (xAt (Ex.mk k n s l).l i).l.length = 0
          · exact (List.eq_nil_of_length_eq_zero h0).trans (List.eq_nil_of_length_eq_zero (ql.symm.trans h0)).symm
          · rw [OwX_eq] at p4
            rcases p4 with ⟨z, _⟩ | ⟨b2, cs2, t2, Fs2, rfl, hh2, hz2, hF2, eF, h4⟩
            · rw [z] at h0; exact absurd rfl h0
            · exact e b2 _ _ ((OwX_eq _ _ _ _).2 (.inr ⟨b2, cs2, t2, Fs2, rfl, hh2, hz2, hF2, eF, h4⟩)) q4 ql
        generalize xAt (Ex.mk k n s l).l i = u at *
        generalize xAt x'.l i = v at *
        obtain ⟨uk, un, us, ul⟩ := u
        obtain ⟨vk, vn, vs, vl⟩ := v
        simp only at q0 q1 q2 el
        rw [q0, q1, q2, el]
theorem OwX.cell {w : World} {x : Ex} {a : Nat} {F : List Nat} (h : OwX w x (some ⟨a, 0, none⟩) F) {i : Nat} (hi : i < x.l.length) : ∃ c cc G, w.cell? ⟨a, i * 4, none⟩ = some (.int .i64 (xAt x.l i).k) ∧ w.cell? ⟨a, i * 4 + 1, none⟩ = some (.int .i64 (xAt x.l i).n) ∧ w.cell? ⟨a, i * 4 + 2, none⟩ = some (.string (xAt x.l i).s) ∧ w.cell? ⟨a, i * 4 + 3, none⟩ = some (.slice c (xAt x.l i).l.length cc) ∧ OwX w (xAt x.l i) c G := by
  rw [OwX_eq] at h
  rcases h with ⟨e, _⟩ | ⟨b, cs, t, Fs, ea, hh, hz, hF, rfl, h3⟩
  · rw [e] at hi; simp at hi
  · cases ea
    obtain ⟨p0, p1, p2, c, cap, p3, p4⟩ := h3 i hi
    exact ⟨c, cap, _, (Lib.cell_of_heap hh _).trans p0, (Lib.cell_of_heap hh _).trans p1, (Lib.cell_of_heap hh _).trans p2, (Lib.cell_of_heap hh _).trans p3, p4⟩
theorem OwX.at {w : World} {x : Ex} {p : Option Addr} {F : List Nat} (h : OwX w x p F) (hl : 0 < x.l.length) : ∃ a, p = some ⟨a, 0, none⟩ ∧ Clean w a := by
  rw [OwX_eq] at h
  rcases h with ⟨e, _⟩ | ⟨b, cs, t, Fs, ea, hh, _⟩
  · rw [e] at hl; simp at hl
  · exact ⟨b, ea, cs, t, hh⟩
/-- With nothing left, what is met is the same. -/
theorem met_same {w : World} {ks : List Ky} (he : ∀ k ∈ ks, Ent w [] ks k) (x : Ex) : ∀ (y : Ex) (p q : Option Addr) (F G : List Nat), OwX w x p F → OwX w y q G → R2 ks x p y q → x = y := by
  induction x using Ex.ind with
  | h k n s l ih =>
    intro y p q F G hx hy hR
    obtain ⟨hh, hR⟩ := hR
    obtain ⟨e1, e2, e3, e4⟩ := (headX_iff _ _).1 hh
    have el : l = y.l := by
      rcases hR with h0 | ⟨a, b, rfl, rfl, hk⟩
      · have h0 : l.length = 0 := h0
        have e4 : l.length = y.l.length := e4
        exact (List.eq_nil_of_length_eq_zero h0).trans (List.eq_nil_of_length_eq_zero (by omega)).symm
      · obtain ⟨x', y', F', G', hx', hy', l1, l2, hp, hi⟩ := he _ hk
        have d1 : l = x'.l := OwX.det _ _ _ _ _ hx hx' l1.symm
        have d2 : y.l = y'.l := OwX.det _ _ _ _ _ hy hy' (by rw [l2]; exact e4.symm)
        apply List.ext_getElem e4
        intro i hi1 hi2
        have hi1 : i < l.length := hi1
        obtain ⟨c, d, cc, cd, c1, c2, h | h⟩ := hi i hi1
        · cases h
        · rw [← d1] at c1 h
          rw [← d2] at c2 h
          obtain ⟨c', cc', F2, _, _, _, c3, o1⟩ := OwX.cell hx (i := i) hi1
          obtain ⟨d', cd', G2, _, _, _, c4, o2⟩ := OwX.cell hy (i := i) hi2
          have c3 : w.cell? ⟨a, i * 4 + 3, none⟩ = some (.slice c' (xAt l i).l.length cc') := c3
          have o1 : OwX w (xAt l i) c' F2 := o1
          rw [c1] at c3
          rw [c2] at c4
          simp only [Option.some.injEq, Value.slice.injEq] at c3 c4
          obtain ⟨rfl, _, _⟩ := c3
          obtain ⟨rfl, _, _⟩ := c4
          have := ih _ (xAt_mem hi1) (xAt y.l i) _ _ _ _ o1 o2 h
          rwa [xAt_get hi1, xAt_get hi2] at this
    obtain ⟨yk, yn, ys, yl⟩ := y
    simp only at e1 e2 e3 el
    rw [e1, e2, e3, el]
section
variable {w : World} {a b : Ex} {pa pb : Option Addr} {ca cb : Nat} {L : List Pr} {ks : List Ky} {r : Pr}
theorem Cmp.start (ha : ∃ F, OwX w a pa F) (hb : ∃ G, OwX w b pb G) : Cmp w a b pa pb ca cb [⟨a, b, pa, pb, ca, cb⟩] [] :=
  ⟨fun r hr => by rw [List.mem_singleton] at hr; subst hr; exact ⟨ha, hb⟩, fun e r hr => by rw [List.mem_singleton] at hr; subst hr; exact e, .inl (List.mem_singleton.2 rfl), fun k hk => by cases hk⟩
theorem Cmp.end (h : Cmp w a b pa pb ca cb [] ks) (ha : ∃ F, OwX w a pa F) (hb : ∃ G, OwX w b pb G) : sameX a b = true := by
  obtain ⟨F, ha⟩ := ha
  obtain ⟨G, hb⟩ := hb
  rcases h.root with h1 | h1
  · cases h1
  · exact (sameX_iff _ _).2 (met_same h.ent a b pa pb F G ha hb h1)
theorem Cmp.no (h : Cmp w a b pa pb ca cb (L ++ [r]) ks) (hh : headX r.x r.y = false) : sameX a b = false := by
  cases hs : sameX a b with
  | false => rfl
  | true =>
    have e := h.eq ((sameX_iff _ _).1 hs) r (List.mem_append.2 (.inr (List.mem_singleton.2 rfl)))
    rw [e, (headX_iff _ _).2 ⟨rfl, rfl, rfl, rfl⟩] at hh
    cases hh
theorem Ent.drop {k : Ky} (h : Ent w (L ++ [r]) ks k) (hr : R2 ks r.x r.p r.y r.q) : Ent w L ks k := by
  obtain ⟨x, y, F, G, h1, h2, h3, h4, h5, h6⟩ := h
  refine ⟨x, y, F, G, h1, h2, h3, h4, h5, fun i hi => ?_⟩
  obtain ⟨c, d, cc, cd, c1, c2, h | h⟩ := h6 i hi
  · rcases List.mem_append.1 h with h | h
    · exact ⟨c, d, cc, cd, c1, c2, .inl h⟩
    · rw [List.mem_singleton] at h
      subst h
      exact ⟨c, d, cc, cd, c1, c2, .inr hr⟩
  · exact ⟨c, d, cc, cd, c1, c2, .inr h⟩
theorem Cmp.drop (h : Cmp w a b pa pb ca cb (L ++ [r]) ks) (hr : R2 ks r.x r.p r.y r.q) : Cmp w a b pa pb ca cb L ks := by
  refine ⟨fun x hx => h.ok x (List.mem_append.2 (.inl hx)), fun e x hx => h.eq e x (List.mem_append.2 (.inl hx)), ?_, fun k hk => (h.ent k hk).drop hr⟩
  rcases h.root with h1 | h1
  · rcases List.mem_append.1 h1 with h1 | h1
    · exact .inl h1
    · rw [List.mem_singleton] at h1
      subst h1
      exact .inr hr
  · exact .inr h1
/-- The pairs of parts, so many. -/
def kids (w : World) (x y : Ex) (k : Ky) (m : Nat) (M : List Pr) : Prop := M.length = m ∧ ∀ i, i < m → ∃ (c d : Option Addr) (cc cd : Nat), M[i]? = some ⟨xAt x.l i, xAt y.l i, c, d, cc, cd⟩ ∧ w.cell? ⟨k.a, i * 4 + 3, none⟩ = some (.slice c (xAt x.l i).l.length cc) ∧ w.cell? ⟨k.b, i * 4 + 3, none⟩ = some (.slice d (xAt y.l i).l.length cd) ∧ (∃ F, OwX w (xAt x.l i) c F) ∧ (∃ G, OwX w (xAt y.l i) d G)
theorem Cmp.open (h : Cmp w a b pa pb ca cb (L ++ [r]) ks) (hh : headX r.x r.y = true) (k : Ky) (hp : r.p = some ⟨k.a, 0, none⟩) (hq : r.q = some ⟨k.b, 0, none⟩) (hn : k.n = r.x.l.length) (h0 : 0 < k.n) {M : List Pr} (hM : kids w r.x r.y k k.n M) : Cmp w a b pa pb ca cb (L ++ M) (ks ++ [k]) := by
  obtain ⟨e1, e2, e3, e4⟩ := (headX_iff _ _).1 hh
  have hkm : ∀ l ∈ ks, l ∈ ks ++ [k] := fun l hl => List.mem_append.2 (.inl hl)
  have hr : R2 (ks ++ [k]) r.x r.p r.y r.q := ⟨hh, .inr ⟨k.a, k.b, hp, hq, List.mem_append.2 (.inr (List.mem_singleton.2 (by rw [← hn])))⟩⟩
  obtain ⟨hok, hok2⟩ := h.ok r (List.mem_append.2 (.inr (List.mem_singleton.2 rfl)))
  refine ⟨fun x hx => ?_, fun e x hx => ?_, ?_, fun l hl => ?_⟩
  · rcases List.mem_append.1 hx with hx | hx
    · exact h.ok x (List.mem_append.2 (.inl hx))
    · obtain ⟨i, hi, rfl⟩ := List.getElem_of_mem hx
      obtain ⟨c, d, cc, cd, m1, _, _, o1, o2⟩ := hM.2 i (by rw [← hM.1]; exact hi)
      rw [List.getElem?_eq_getElem hi, Option.some.injEq] at m1
      rw [m1]
      exact ⟨o1, o2⟩
  · rcases List.mem_append.1 hx with hx | hx
    · exact h.eq e x (List.mem_append.2 (.inl hx))
    · obtain ⟨i, hi, rfl⟩ := List.getElem_of_mem hx
      obtain ⟨c, d, cc, cd, m1, _, _, o1, o2⟩ := hM.2 i (by rw [← hM.1]; exact hi)
      rw [List.getElem?_eq_getElem hi, Option.some.injEq] at m1
      rw [m1, h.eq e r (List.mem_append.2 (.inr (List.mem_singleton.2 rfl)))]
  · rcases h.root with h1 | h1
    · rcases List.mem_append.1 h1 with h1 | h1
      · exact .inl (List.mem_append.2 (.inl h1))
      · rw [List.mem_singleton] at h1
        subst h1
        exact .inr hr
    · exact .inr (h1.mono hkm)
  · rcases List.mem_append.1 hl with hl | hl
    · obtain ⟨x, y, F, G, h1, h2, h3, h4, h5, h6⟩ := h.ent l hl
      refine ⟨x, y, F, G, h1, h2, h3, h4, h5, fun i hi => ?_⟩
      obtain ⟨c, d, cc, cd, c1, c2, h | h⟩ := h6 i hi
      · rcases List.mem_append.1 h with h | h
        · exact ⟨c, d, cc, cd, c1, c2, .inl (List.mem_append.2 (.inl h))⟩
        · rw [List.mem_singleton] at h
          subst h
          exact ⟨c, d, cc, cd, c1, c2, .inr hr⟩
      · exact ⟨c, d, cc, cd, c1, c2, .inr (h.mono hkm)⟩
    · rw [List.mem_singleton] at hl
      subst hl
      obtain ⟨F, o1⟩ := hok
      obtain ⟨G, o2⟩ := hok2
      rw [hp] at o1
      rw [hq] at o2
      refine ⟨r.x, r.y, F, G, o1, o2, hn.symm, by rw [← e4]; exact hn.symm, h0, fun i hi => ?_⟩
      obtain ⟨c, d, cc, cd, m1, c1, c2, _⟩ := hM.2 i hi
      exact ⟨c, d, cc, cd, c1, c2, .inl (List.mem_append.2 (.inr (List.mem_of_getElem? m1)))⟩
theorem Cmp.clean (h : Cmp w a b pa pb ca cb L ks) : ∀ l ∈ ks, Clean w l.a ∧ Clean w l.b := by
  intro l hl
  obtain ⟨x, y, F, G, h1, h2, h3, h4, h5, _⟩ := h.ent l hl
  obtain ⟨a1, e1, c1⟩ := OwX.at h1 (by omega)
  obtain ⟨a2, e2, c2⟩ := OwX.at h2 (by omega)
  cases e1
  cases e2
  exact ⟨c1, c2⟩
end
/-- How much waits. -/
def waitN : List Pr → Nat
  | [] => 0
  | r :: l => 1 + r.x.sz + waitN l
theorem waitN_app (a b : List Pr) : waitN (a ++ b) = waitN a + waitN b := by
  induction a with
  | nil => simp [waitN]
  | cons r l ih => simp only [List.cons_append, waitN, ih]; omega
theorem waitN_len (l : List Pr) : l.length ≤ waitN l := by
  induction l with
  | nil => simp [waitN]
  | cons r l ih => simp only [waitN, List.length_cons]; omega
end Go.Proofs.YthgbpofcfmnpdaaGreatDoor

namespace Go.Proofs.YthgbpofcfmnpdaaGreatDoor
open Go.ChangeShapes Go.WideShapes Go.ChangeAt Go.RowKit
set_option linter.unusedVariables false
set_option maxRecDepth 8000
set_option linter.unusedSimpArgs false

theorem infoP : (Tryz.prog.info? 69).map (fun i => (i.zero, i.size, i.bytes)) = some (some (.agg #[.int .i64 0, .int .i64 0, .string ⟨#[]⟩, .slice none 0 0, .int .i64 0, .int .i64 0, .string ⟨#[]⟩, .slice none 0 0]), 8, 112) := by kernel_rfl
/-- v is a slice of the call's own (blocks from B on) that holds these pairs. -/
def OwnP (w : World) (B : Nat) (v : Value) (L : List Pr) : Prop := w.ownsRow B 69 8 v L.length (cellsP L)
section
variable {w w' : World} {B : Nat} {v : Value} {L : List Pr} {r : Pr}
theorem OwnP.keep (h : OwnP w B v L) (hs : ∀ g, v.ownBlock = some g → g < w.heap.size → w'.heap[g]? = w.heap[g]?) : OwnP w' B v L := by
  obtain ⟨h1, h2 | ⟨g, cap, cur, rfl, hg, hh, r⟩⟩ := h
  · exact ⟨h1, .inl h2⟩
  · exact ⟨h1, .inr ⟨g, cap, cur, rfl, hg, (hs g rfl (Array.getElem?_eq_some_iff.1 hh).1).trans hh, r⟩⟩
theorem OwnP.later (h : OwnP w B v L) (hb : Below w.heap.size w w') : OwnP w' B v L := h.keep fun g _ hg => hb.block g hg
theorem OwnP.lt (h : OwnP w B v L) {g : Nat} (hg : v.ownBlock = some g) : B ≤ g ∧ g < w.heap.size := World.ownsRow.lt h g hg
theorem OwnP.at (h : OwnP w B v (L ++ [r])) : ∃ g cap, v = .slice (some ⟨g, 0, none⟩) (L.length + 1) cap ∧ L.length + 1 ≤ cap ∧ cap ≤ maxLen ∧ g < w.heap.size ∧ (∀ j, j < 8 → w.cell? ⟨g, L.length * 8 + j, none⟩ = r.cs[j]?) ∧ OwnP w B (.slice (some ⟨g, 0, none⟩) L.length cap) L := by
  have hlen : (L ++ [r]).length = L.length + 1 := by simp
  obtain ⟨h1, ⟨rfl, h0⟩ | ⟨g, cap, cur, rfl, hg, hh, hn, hm, hz, ht⟩⟩ := h
  · simp at h0
  · rw [hlen] at hn ht
    refine ⟨g, cap, by rw [hlen], hn, hm, (Array.getElem?_eq_some_iff.1 hh).1, fun j hj => ?_, ?_⟩
    · rw [Lib.cell_of_heap hh, ← cellsP_last L r j hj, ← ht, List.getElem?_take, if_pos (by omega), Array.getElem?_toList]
    · refine ⟨cellsP_len L, .inr ⟨g, cap, cur, rfl, hg, hh, by omega, hm, hz, ?_⟩⟩
      have e : cellsP L = (cellsP (L ++ [r])).take (L.length * 8) := by
        rw [cellsP_app, List.take_append_of_le_length (by rw [cellsP_len]; exact Nat.le_refl _), List.take_of_length_le (by rw [cellsP_len]; exact Nat.le_refl _)]
      rw [e, ← ht, List.take_take]
      congr 1
      omega
theorem ownP_app (h : w.ownsRow B 69 8 v (L.length + 1) (cellsP L ++ r.cs)) : OwnP w B v (L ++ [r]) := by
  unfold OwnP
  rw [List.length_append, cellsP_app]
  simp only [cellsP, List.append_nil]
  exact h
end
theorem cellN (W : World) (cs : Array Value) (t : TypeId) : ∀ j u, cs.toList[j]? = some u → (W.alloc (.cells cs t)).cell? ((⟨W.heap.size, 0, none⟩ : Addr).add j) = some u := by
  intro j u hu
  have h : (W.alloc (.cells cs t)).cell? ⟨W.heap.size, j, none⟩ = some u := by rw [World.cell?_alloc_at _ _ _ _ rfl]; simpa using hu
  unfold Addr.add
  by_cases h0 : j = 0
  · subst h0; simpa using h
  · simpa [h0] using h
theorem pr_one (r : Pr) : ∀ u ∈ r.cs, u.oneCell' = true := by
  intro u hu
  simp only [Pr.cs, List.mem_cons, List.not_mem_nil, or_false] at hu
  rcases hu with rfl | rfl | rfl | rfl | rfl | rfl | rfl | rfl <;> rfl
theorem OwnP.row {w w' : World} {B : Nat} {v : Value} {L : List Pr} (h : OwnP w B v L) (hg : w.grownBy w' v.ownBlock) {gx : Nat} {cs : Array Value} {fr : Nat × Nat} (hx : w.heap[gx]? = some (.cells cs 26 fr)) : w'.heap[gx]? = some (.cells cs 26 fr) := by
  refine (hg.block gx (Array.getElem?_eq_some_iff.1 hx).1 (fun e => ?_)).trans hx
  obtain ⟨_, ⟨rfl, _⟩ | ⟨g, cap, cur, rfl, _, hh, _⟩⟩ := h
  · simp [Value.ownBlock] at e
  · simp [Value.ownBlock] at e
    subst e
    rw [hh] at hx
    cases hx
theorem kids.snoc {w : World} {x y : Ex} {k : Ky} {m : Nat} {M : List Pr} (h : kids w x y k m M) {c d : Option Addr} {cc cd : Nat} (c1 : w.cell? ⟨k.a, m * 4 + 3, none⟩ = some (.slice c (xAt x.l m).l.length cc)) (c2 : w.cell? ⟨k.b, m * 4 + 3, none⟩ = some (.slice d (xAt y.l m).l.length cd)) (o1 : ∃ F, OwX w (xAt x.l m) c F) (o2 : ∃ G, OwX w (xAt y.l m) d G) : kids w x y k (m + 1) (M ++ [⟨xAt x.l m, xAt y.l m, c, d, cc, cd⟩]) := by
  refine ⟨by rw [List.length_append, h.1]; rfl, fun i hi => ?_⟩
  by_cases e : i = m
  · subst e
    refine ⟨c, d, cc, cd, ?_, c1, c2, o1, o2⟩
    rw [List.getElem?_append_right (by rw [h.1]; exact Nat.le_refl _), h.1]
    simp
  · obtain ⟨c', d', cc', cd', m1, r⟩ := h.2 i (by omega)
    exact ⟨c', d', cc', cd', by rw [List.getElem?_append_left (by rw [h.1]; omega)]; exact m1, r⟩
/-- While pairs wait: the map of what was met, the pairs. -/
structure Cs (w wr : World) (mb : Nat) (v : Value) (L : List Pr) (ks : List Ky) : Prop where
  bel : Below w.heap.size w wr
  mp : IsMp wr mb ks
  mbB : w.heap.size ≤ mb
  own : OwnP wr w.heap.size v L
section
variable {w wr w' : World} {mb : Nat} {v : Value} {L : List Pr} {ks : List Ky}
theorem IsMp.lt (h : IsMp wr mb ks) : mb < wr.heap.size := (Array.getElem?_eq_some_iff.1 h).1
theorem Cs.later (h : Cs w wr mb v L ks) (hb : Below wr.heap.size wr w') : Cs w w' mb v L ks :=
  ⟨h.bel.trans (hb.mono h.bel.size), (hb.block _ h.mp.lt).trans h.mp, h.mbB, h.own.later hb⟩
theorem Cs.apart (h : Cs w wr mb v L ks) : v.ownBlock ≠ some mb := by
  intro e
  obtain ⟨_, ⟨rfl, _⟩ | ⟨g, cap, cur, rfl, hg, hh, _⟩⟩ := h.own
  · simp [Value.ownBlock] at e
  · simp [Value.ownBlock] at e
    subst e
    have := h.mp
    unfold IsMp at this
    rw [hh] at this
    cases this
theorem Clean.later {k : Nat} (h : Clean w k) (hb : Below w.heap.size w w') : Clean w' k := by
  obtain ⟨cs, t, h⟩ := h
  exact ⟨cs, t, (hb.block _ (Array.getElem?_eq_some_iff.1 h).1).trans h⟩
theorem Cs.put {k : Ky} (h : Cs w wr mb v L ks) (hm : IsMp w' mb (ks ++ [k])) (hz : w'.heap.size = wr.heap.size) (ho : ∀ g, g ≠ mb → w'.heap[g]? = wr.heap[g]?) (h1 : w'.os = wr.os) (h2 : w'.tape = wr.tape) (h3 : w'.output = wr.output) : Cs w w' mb v L (ks ++ [k]) :=
  ⟨⟨h1.trans h.bel.os, h2.trans h.bel.tape, h3.trans h.bel.output, by rw [hz]; exact h.bel.size, fun g hg => (ho g (by have := h.mbB; omega)).trans (h.bel.block g hg)⟩, hm, h.mbB, h.own.keep fun g hg _ => ho g (fun e => h.apart (by rw [hg, e]))⟩
theorem Cs.app {L' : List Pr} {v' : Value} (h : Cs w wr mb v L ks) (hg : wr.grownBy w' v.ownBlock) (ho : OwnP w' w.heap.size v' L') : Cs w w' mb v' L' ks :=
  ⟨h.bel.grown hg h.bel.size (fun g e => (h.own.lt e).1), (hg.block _ h.mp.lt (fun e => h.apart e.symm)).trans h.mp, h.mbB, ho⟩
end
end Go.Proofs.YthgbpofcfmnpdaaGreatDoor
