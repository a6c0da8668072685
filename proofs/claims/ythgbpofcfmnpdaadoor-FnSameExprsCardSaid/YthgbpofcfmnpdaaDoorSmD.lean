/- What the program's list of pairs still to be compared, and the lists that were met, say of two terms; conditions stand as hypotheses of each. -/
import Derived.Test.YthgbpofcfmnpdaaDoorSmM
import Derived.Test.YthgbpofcfmnpdaaDoorSmA
import Derived.Test.YthgbpofcfmnpdaaDoorHeT
namespace Go.Proofs.YthgbpofcfmnpdaaDoor
open Go.ChangeShapes Go.WideShapes Go.ChangeAt Go.RowKit
set_option linter.unusedVariables false
set_option maxRecDepth 8000
set_option linter.unusedSimpArgs false

/-- Two terms that wait, each with where its parts lie. -/
structure Pr where
  x : Ex
  y : Ex
  p : Option Addr
  q : Option Addr
  c : Nat
  d : Nat
def Pr.cs (r : Pr) : List Value := [.int .i64 r.x.k, .int .i64 r.x.n, .string r.x.s, .slice r.p r.x.l.length r.c, .int .i64 r.y.k, .int .i64 r.y.n, .string r.y.s, .slice r.q r.y.l.length r.d]
def cellsP : List Pr → List Value
  | [] => []
  | r :: l => r.cs ++ cellsP l
theorem cellsP_len (l : List Pr) : (cellsP l).length = l.length * 8 := by
  induction l with
  | nil => rfl
  | cons r l ih => simp only [cellsP, List.length_append, ih, List.length_cons, Pr.cs, List.length_nil]; omega
theorem cellsP_app (a b : List Pr) : cellsP (a ++ b) = cellsP a ++ cellsP b := by
  induction a with
  | nil => rfl
  | cons r l ih => simp only [List.cons_append, cellsP, ih, List.append_assoc]
theorem cellsP_last (l : List Pr) (r : Pr) (j : Nat) (h : j < 8) : (cellsP (l ++ [r]))[l.length * 8 + j]? = r.cs[j]? := by
  rw [cellsP_app, List.getElem?_append_right (by rw [cellsP_len]; omega), cellsP_len]
  simp only [cellsP, List.append_nil]
  congr 1
  omega
/-- What is met: the same but for the parts, and these have been laid open. -/
def R2 (ks : List Ky) (x : Ex) (p : Option Addr) (y : Ex) (q : Option Addr) : Prop := headX x y = true ∧ (x.l.length = 0 ∨ ∃ a b, p = some ⟨a, 0, none⟩ ∧ q = some ⟨b, 0, none⟩ ∧ Ky.mk a b x.l.length ∈ ks)
theorem R2.mono {ks ks' : List Ky} {x y : Ex} {p q : Option Addr} (h : R2 ks x p y q) (hk : ∀ k ∈ ks, k ∈ ks') : R2 ks' x p y q := by
  obtain ⟨h1, h2 | ⟨a, b, e1, e2, e3⟩⟩ := h
  · exact ⟨h1, .inl h2⟩
  · exact ⟨h1, .inr ⟨a, b, e1, e2, hk _ e3⟩⟩
/-- Two lists that were laid open: each pair of parts waits, or is met. -/
def Ent (w : World) (L : List Pr) (ks : List Ky) (k : Ky) : Prop := ∃ (x y : Ex) (F G : List Nat), OwX w x (some ⟨k.a, 0, none⟩) F ∧ OwX w y (some ⟨k.b, 0, none⟩) G ∧ x.l.length = k.n ∧ y.l.length = k.n ∧ 0 < k.n ∧ ∀ i, i < k.n → ∃ (c d : Option Addr) (cc cd : Nat), w.cell? ⟨k.a, i * 4 + 3, none⟩ = some (.slice c (xAt x.l i).l.length cc) ∧ w.cell? ⟨k.b, i * 4 + 3, none⟩ = some (.slice d (xAt y.l i).l.length cd) ∧ (Pr.mk (xAt x.l i) (xAt y.l i) c d cc cd ∈ L ∨ R2 ks (xAt x.l i) c (xAt y.l i) d)
structure Cmp (w : World) (a b : Ex) (pa pb : Option Addr) (ca cb : Nat) (L : List Pr) (ks : List Ky) : Prop where
  ok : ∀ r ∈ L, (∃ F, OwX w r.x r.p F) ∧ (∃ G, OwX w r.y r.q G)
  eq : a = b → ∀ r ∈ L, r.x = r.y
  root : Pr.mk a b pa pb ca cb ∈ L ∨ R2 ks a pa b pb
  ent : ∀ k ∈ ks, Ent w L ks k
/-- Where a term's parts lie tells them. -/
theorem OwX.det {w : World} (x : Ex) : ∀ (x' : Ex) (a : Nat) (F G : List Nat), OwX w x (some ⟨a, 0, none⟩) F → OwX w x' (some ⟨a, 0, none⟩) G → x.l.length = x'.l.length → x.l = x'.l := by
  induction x using Ex.ind with
  | h k n s l ih =>
    intro x' a F G h1 h2 hl
    rw [OwX_eq] at h1 h2
    rcases h1 with ⟨e, _⟩ | ⟨b, cs, t, Fs, ea, hh, hz, hF, rfl, h3⟩
    · rw [e] at hl
      rw [e]
      exact (List.eq_nil_of_length_eq_zero hl.symm).symm
    · rcases h2 with ⟨e, _⟩ | ⟨b', cs', t', Fs', ea', hh', hz', hF', rfl, h3'⟩
      · rw [e] at hl
        exact (List.eq_nil_of_length_eq_zero hl).trans e.symm
      · cases ea
        cases ea'
        rw [hh] at hh'
        cases hh'
        apply List.ext_getElem hl
        intro i hi hj
        obtain ⟨p0, p1, p2, c, cap, p3, p4⟩ := h3 i hi
        obtain ⟨q0, q1, q2, c', cap', q3, q4⟩ := h3' i hj
        rw [p0] at q0; rw [p1] at q1; rw [p2] at q2; rw [p3] at q3
        simp only [Option.some.injEq, Value.int.injEq, true_and, Value.string.injEq, Value.slice.injEq] at q0 q1 q2 q3
        obtain ⟨rfl, ql, _⟩ := q3
        have hi' : i < (Ex.mk k n s l).l.length := hi
        have e := ih _ (xAt_mem hi') (xAt x'.l i)
        have e0 : xAt (Ex.mk k n s l).l i = (Ex.mk k n s l).l[i] := xAt_get hi
        have e1 : xAt x'.l i = x'.l[i] := xAt_get hj
        rw [← e0, ← e1]
        have el : (xAt (Ex.mk k n s l).l i).l = (xAt x'.l i).l := by
          by_cases h0 : (xAt (Ex.mk k n s l).l i).l.length = 0
          · exact (List.eq_nil_of_length_eq_zero h0).trans (List.eq_nil_of_length_eq_zero (ql.symm.trans h0)).symm
          · rw [OwX_eq] at p4
            rcases p4 with ⟨z, _⟩ | ⟨b2, cs2, t2, Fs2, rfl, hh2, hz2, hF2, eF, h4⟩
            · rw [z] at h0; exact absurd rfl h0
            · exact e b2 _ _ ((OwX_eq _ _ _ _).2 (.inr ⟨b2, cs2, t2, Fs2, rfl, hh2, hz2, hF2, eF, h4⟩)) q4 ql
        generalize xAt (Ex.mk k n s l).l i = u at *
        generalize xAt x'.l i = v at *
        obtain ⟨uk, un, us, ul⟩ := u
        obtain ⟨vk, vn, vs, vl⟩ := v
        simp only at q0 q1 q2 el
        rw [q0, q1, q2, el]
theorem OwX.cell {w : World} {x : Ex} {a : Nat} {F : List Nat} (h : OwX w x (some ⟨a, 0, none⟩) F) {i : Nat} (hi : i < x.l.length) : ∃ c cc G, w.cell? ⟨a, i * 4, none⟩ = some (.int .i64 (xAt x.l i).k) ∧ w.cell? ⟨a, i * 4 + 1, none⟩ = some (.int .i64 (xAt x.l i).n) ∧ w.cell? ⟨a, i * 4 + 2, none⟩ = some (.string (xAt x.l i).s) ∧ w.cell? ⟨a, i * 4 + 3, none⟩ = some (.slice c (xAt x.l i).l.length cc) ∧ OwX w (xAt x.l i) c G := by
  rw [OwX_eq] at h
  rcases h with ⟨e, _⟩ | ⟨b, cs, t, Fs, ea, hh, hz, hF, rfl, h3⟩
  · rw [e] at hi; simp at hi
  · cases ea
    obtain ⟨p0, p1, p2, c, cap, p3, p4⟩ := h3 i hi
    exact ⟨c, cap, _, (Lib.cell_of_heap hh _).trans p0, (Lib.cell_of_heap hh _).trans p1, (Lib.cell_of_heap hh _).trans p2, (Lib.cell_of_heap hh _).trans p3, p4⟩
theorem OwX.at {w : World} {x : Ex} {p : Option Addr} {F : List Nat} (h : OwX w x p F) (hl : 0 < x.l.length) : ∃ a, p = some ⟨a, 0, none⟩ ∧ Clean w a := by
  rw [OwX_eq] at h
  rcases h with ⟨e, _⟩ | ⟨b, cs, t, Fs, ea, hh, _⟩
  · rw [e] at hl; simp at hl
  · exact ⟨b, ea, cs, t, hh⟩
/-- With nothing left, what is met is the same. -/
theorem met_same {w : World} {ks : List Ky} (he : ∀ k ∈ ks, Ent w [] ks k) (x : Ex) : ∀ (y : Ex) (p q : Option Addr) (F G : List Nat), OwX w x p F → OwX w y q G → R2 ks x p y q → x = y := by
  induction x using Ex.ind with
  | h k n s l ih =>
    intro y p q F G hx hy hR
    obtain ⟨hh, hR⟩ := hR
    obtain ⟨e1, e2, e3, e4⟩ := (headX_iff _ _).1 hh
    have el : l = y.l := by
      rcases hR with h0 | ⟨a, b, rfl, rfl, hk⟩
      · have h0 : l.length = 0 := h0
        have e4 : l.length = y.l.length := e4
        exact (List.eq_nil_of_length_eq_zero h0).trans (List.eq_nil_of_length_eq_zero (by omega)).symm
      · obtain ⟨x', y', F', G', hx', hy', l1, l2, hp, hi⟩ := he _ hk
        have d1 : l = x'.l := OwX.det _ _ _ _ _ hx hx' l1.symm
        have d2 : y.l = y'.l := OwX.det _ _ _ _ _ hy hy' (by rw [l2]; exact e4.symm)
        apply List.ext_getElem e4
        intro i hi1 hi2
        have hi1 : i < l.length := hi1
        obtain ⟨c, d, cc, cd, c1, c2, h | h⟩ := hi i hi1
        · cases h
        · rw [← d1] at c1 h
          rw [← d2] at c2 h
          obtain ⟨c', cc', F2, _, _, _, c3, o1⟩ := OwX.cell hx (i := i) hi1
          obtain ⟨d', cd', G2, _, _, _, c4, o2⟩ := OwX.cell hy (i := i) hi2
          have c3 : w.cell? ⟨a, i * 4 + 3, none⟩ = some (.slice c' (xAt l i).l.length cc') := c3
          have o1 : OwX w (xAt l i) c' F2 := o1
          rw [c1] at c3
          rw [c2] at c4
          simp only [Option.some.injEq, Value.slice.injEq] at c3 c4
          obtain ⟨rfl, _, _⟩ := c3
          obtain ⟨rfl, _, _⟩ := c4
          have := ih _ (xAt_mem hi1) (xAt y.l i) _ _ _ _ o1 o2 h
          rwa [xAt_get hi1, xAt_get hi2] at this
    obtain ⟨yk, yn, ys, yl⟩ := y
    simp only at e1 e2 e3 el
    rw [e1, e2, e3, el]
section
variable {w : World} {a b : Ex} {pa pb : Option Addr} {ca cb : Nat} {L : List Pr} {ks : List Ky} {r : Pr}
theorem Cmp.start (ha : ∃ F, OwX w a pa F) (hb : ∃ G, OwX w b pb G) : Cmp w a b pa pb ca cb [⟨a, b, pa, pb, ca, cb⟩] [] :=
  ⟨fun r hr => by rw [List.mem_singleton] at hr; subst hr; exact ⟨ha, hb⟩, fun e r hr => by rw [List.mem_singleton] at hr; subst hr; exact e, .inl (List.mem_singleton.2 rfl), fun k hk => by cases hk⟩
theorem Cmp.end (h : Cmp w a b pa pb ca cb [] ks) (ha : ∃ F, OwX w a pa F) (hb : ∃ G, OwX w b pb G) : sameX a b = true := by
  obtain ⟨F, ha⟩ := ha
  obtain ⟨G, hb⟩ := hb
  rcases h.root with h1 | h1
  · cases h1
  · exact (sameX_iff _ _).2 (met_same h.ent a b pa pb F G ha hb h1)
theorem Cmp.no (h : Cmp w a b pa pb ca cb (L ++ [r]) ks) (hh : headX r.x r.y = false) : sameX a b = false := by
  cases hs : sameX a b with
  | false => rfl
  | true =>
    have e := h.eq ((sameX_iff _ _).1 hs) r (List.mem_append.2 (.inr (List.mem_singleton.2 rfl)))
    rw [e, (headX_iff _ _).2 ⟨rfl, rfl, rfl, rfl⟩] at hh
    cases hh
theorem Ent.drop {k : Ky} (h : Ent w (L ++ [r]) ks k) (hr : R2 ks r.x r.p r.y r.q) : Ent w L ks k := by
  obtain ⟨x, y, F, G, h1, h2, h3, h4, h5, h6⟩ := h
  refine ⟨x, y, F, G, h1, h2, h3, h4, h5, fun i hi => ?_⟩
  obtain ⟨c, d, cc, cd, c1, c2, h | h⟩ := h6 i hi
  · rcases List.mem_append.1 h with h | h
    · exact ⟨c, d, cc, cd, c1, c2, .inl h⟩
    · rw [List.mem_singleton] at h
      subst h
      exact ⟨c, d, cc, cd, c1, c2, .inr hr⟩
  · exact ⟨c, d, cc, cd, c1, c2, .inr h⟩
theorem Cmp.drop (h : Cmp w a b pa pb ca cb (L ++ [r]) ks) (hr : R2 ks r.x r.p r.y r.q) : Cmp w a b pa pb ca cb L ks := by
  refine ⟨fun x hx => h.ok x (List.mem_append.2 (.inl hx)), fun e x hx => h.eq e x (List.mem_append.2 (.inl hx)), ?_, fun k hk => (h.ent k hk).drop hr⟩
  rcases h.root with h1 | h1
  · rcases List.mem_append.1 h1 with h1 | h1
    · exact .inl h1
    · rw [List.mem_singleton] at h1
      subst h1
      exact .inr hr
  · exact .inr h1
/-- The pairs of parts, so many. -/
def kids (w : World) (x y : Ex) (k : Ky) (m : Nat) (M : List Pr) : Prop := M.length = m ∧ ∀ i, i < m → ∃ (c d : Option Addr) (cc cd : Nat), M[i]? = some ⟨xAt x.l i, xAt y.l i, c, d, cc, cd⟩ ∧ w.cell? ⟨k.a, i * 4 + 3, none⟩ = some (.slice c (xAt x.l i).l.length cc) ∧ w.cell? ⟨k.b, i * 4 + 3, none⟩ = some (.slice d (xAt y.l i).l.length cd) ∧ (∃ F, OwX w (xAt x.l i) c F) ∧ (∃ G, OwX w (xAt y.l i) d G)
theorem Cmp.open (h : Cmp w a b pa pb ca cb (L ++ [r]) ks) (hh : headX r.x r.y = true) (k : Ky) (hp : r.p = some ⟨k.a, 0, none⟩) (hq : r.q = some ⟨k.b, 0, none⟩) (hn : k.n = r.x.l.length) (h0 : 0 < k.n) {M : List Pr} (hM : kids w r.x r.y k k.n M) : Cmp w a b pa pb ca cb (L ++ M) (ks ++ [k]) := by
  obtain ⟨e1, e2, e3, e4⟩ := (headX_iff _ _).1 hh
  have hkm : ∀ l ∈ ks, l ∈ ks ++ [k] := fun l hl => List.mem_append.2 (.inl hl)
  have hr : R2 (ks ++ [k]) r.x r.p r.y r.q := ⟨hh, .inr ⟨k.a, k.b, hp, hq, List.mem_append.2 (.inr (List.mem_singleton.2 (by rw [← hn])))⟩⟩
  obtain ⟨hok, hok2⟩ := h.ok r (List.mem_append.2 (.inr (List.mem_singleton.2 rfl)))
  refine ⟨fun x hx => ?_, fun e x hx => ?_, ?_, fun l hl => ?_⟩
  · rcases List.mem_append.1 hx with hx | hx
    · exact h.ok x (List.mem_append.2 (.inl hx))
    · obtain ⟨i, hi, rfl⟩ := List.getElem_of_mem hx
      obtain ⟨c, d, cc, cd, m1, _, _, o1, o2⟩ := hM.2 i (by rw [← hM.1]; exact hi)
      rw [List.getElem?_eq_getElem hi, Option.some.injEq] at m1
      rw [m1]
      exact ⟨o1, o2⟩
  · rcases List.mem_append.1 hx with hx | hx
    · exact h.eq e x (List.mem_append.2 (.inl hx))
    · obtain ⟨i, hi, rfl⟩ := List.getElem_of_mem hx
      obtain ⟨c, d, cc, cd, m1, _, _, o1, o2⟩ := hM.2 i (by rw [← hM.1]; exact hi)
      rw [List.getElem?_eq_getElem hi, Option.some.injEq] at m1
      rw [m1, h.eq e r (List.mem_append.2 (.inr (List.mem_singleton.2 rfl)))]
  · rcases h.root with h1 | h1
    · rcases List.mem_append.1 h1 with h1 | h1
      · exact .inl (List.mem_append.2 (.inl h1))
      · rw [List.mem_singleton] at h1
        subst h1
        exact .inr hr
    · exact .inr (h1.mono hkm)
  · rcases List.mem_append.1 hl with hl | hl
    · obtain ⟨x, y, F, G, h1, h2, h3, h4, h5, h6⟩ := h.ent l hl
      refine ⟨x, y, F, G, h1, h2, h3, h4, h5, fun i hi => ?_⟩
      obtain ⟨c, d, cc, cd, c1, c2, h | h⟩ := h6 i hi
      · rcases List.mem_append.1 h with h | h
        · exact ⟨c, d, cc, cd, c1, c2, .inl (List.mem_append.2 (.inl h))⟩
        · rw [List.mem_singleton] at h
          subst h
          exact ⟨c, d, cc, cd, c1, c2, .inr hr⟩
      · exact ⟨c, d, cc, cd, c1, c2, .inr (h.mono hkm)⟩
    · rw [List.mem_singleton] at hl
      subst hl
      obtain ⟨F, o1⟩ := hok
      obtain ⟨G, o2⟩ := hok2
      rw [hp] at o1
      rw [hq] at o2
      refine ⟨r.x, r.y, F, G, o1, o2, hn.symm, by rw [← e4]; exact hn.symm, h0, fun i hi => ?_⟩
      obtain ⟨c, d, cc, cd, m1, c1, c2, _⟩ := hM.2 i hi
      exact ⟨c, d, cc, cd, c1, c2, .inl (List.mem_append.2 (.inr (List.mem_of_getElem? m1)))⟩
theorem Cmp.clean (h : Cmp w a b pa pb ca cb L ks) : ∀ l ∈ ks, Clean w l.a ∧ Clean w l.b := by
  intro l hl
  obtain ⟨x, y, F, G, h1, h2, h3, h4, h5, _⟩ := h.ent l hl
  obtain ⟨a1, e1, c1⟩ := OwX.at h1 (by omega)
  obtain ⟨a2, e2, c2⟩ := OwX.at h2 (by omega)
  cases e1
  cases e2
  exact ⟨c1, c2⟩
end
/-- How much waits. -/
def waitN : List Pr → Nat
  | [] => 0
  | r :: l => 1 + r.x.sz + waitN l
theorem waitN_app (a b : List Pr) : waitN (a ++ b) = waitN a + waitN b := by
  induction a with
  | nil => simp [waitN]
  | cons r l ih => simp only [List.cons_append, waitN, ih]; omega
theorem waitN_len (l : List Pr) : l.length ≤ waitN l := by
  induction l with
  | nil => simp [waitN]
  | cons r l ih => simp only [waitN, List.length_cons]; omega
end Go.Proofs.YthgbpofcfmnpdaaDoor
