/- Contracts over this seat's translation, laid together; conditions stand as hypotheses of each. -/
import Derived.Test.YtboedaofbchdkaaDoorPsJ
import Derived.Laws.BitsAllLaws

namespace Go.Proofs.YtboedaofbchdkaaDoor
open Go.ChangeShapes Go.WideShapes Go.ChangeAt Go.RowKit
set_option linter.unusedVariables false
set_option maxRecDepth 8000
set_option linter.unusedSimpArgs false
/-- A slice of the call's own, at whatever place of its block. -/
def OwnO (w : World) (B : Nat) (s : Sl) (ns : List Int) : Prop :=
  (s = ⟨none, 0, 0⟩ ∧ ns = []) ∨ ∃ g off cap, s = ⟨some ⟨g, off, none⟩, ns.length, cap⟩ ∧ B ≤ g ∧ ns.length ≤ cap ∧ cap ≤ maxLen ∧ (∃ cur, w.heap[g]? = some (.cells cur 3 (0, 0)) ∧ off + ns.length ≤ cur.size) ∧ ∀ i, i < ns.length → w.cell? ⟨g, off + i, none⟩ = some (.int .i64 (nAt ns i))
section
variable {w w' : World} {B C : Nat} {s : Sl} {ns : List Int}
theorem OwnO.lt (h : OwnO w B s ns) {g : Nat} (hg : s.v.ownBlock = some g) : B ≤ g ∧ g < w.heap.size := by
  rcases h with ⟨rfl, _⟩ | ⟨b, off, cap, rfl, hB, _, _, ⟨cur, hc, _⟩, _⟩
  · cases hg
  · cases hg; exact ⟨hB, row_lt hc⟩
theorem OwnO.keep (h : OwnO w B s ns) (hs : ∀ g, s.v.ownBlock = some g → g < w.heap.size → w'.heap[g]? = w.heap[g]?) : OwnO w' B s ns := by
  rcases h with h | ⟨b, off, cap, rfl, hB, h1, h2, ⟨cur, hc, h3⟩, h4⟩
  · exact .inl h
  · have e := hs b rfl (row_lt hc)
    exact .inr ⟨b, off, cap, rfl, hB, h1, h2, ⟨cur, e.trans hc, h3⟩, fun i hi => by rw [cell_of_row w' b (off + i) cur 3 (0, 0) (e.trans hc), ← cell_of_row w b (off + i) cur 3 (0, 0) hc]; exact h4 i hi⟩
theorem OwnO.base (h : OwnO w B s ns) (hB : C ≤ B) : OwnO w C s ns := by
  rcases h with h | ⟨b, off, cap, e, h0, h⟩
  · exact .inl h
  · exact .inr ⟨b, off, cap, e, Nat.le_trans hB h0, h⟩
theorem OwnO.rdS (h : OwnO w B s ns) : RdN w s.a ns := by
  rcases h with ⟨_, h⟩ | ⟨b, off, cap, rfl, _, _, _, ⟨cur, hc, _⟩, h4⟩
  · exact .inl h
  · exact .inr ⟨b, off, rfl, row_lt hc, h4⟩
theorem OwnO.len (h : OwnO w B s ns) : ns.length = s.n := by
  rcases h with ⟨rfl, rfl⟩ | ⟨b, off, cap, rfl, _⟩ <;> rfl
theorem OwnN.toO (h : OwnN w B s.v ns) : OwnO w B s ns := by
  obtain ⟨sa, sn, sc⟩ := s
  obtain ⟨hl, ⟨e, h0⟩ | ⟨g, cap, cur, e, hB, hh, hn, hm, hs, ht⟩⟩ := id h
  · unfold Sl.v at e
    simp at e
    obtain ⟨rfl, rfl, rfl⟩ := e
    exact .inl ⟨rfl, List.eq_nil_of_length_eq_zero h0⟩
  · unfold Sl.v at e h
    simp at e
    obtain ⟨rfl, rfl, rfl⟩ := e
    exact .inr ⟨g, 0, sc, rfl, hB, hn, hm, ⟨cur, hh, by simp at hs; omega⟩, fun i hi => by rw [Nat.zero_add]; exact (h.cellAt i hi).1⟩
theorem OwnO.tl {g c : Nat} {x : Int} {xs : List Int} (h : OwnN w B (Sl.v ⟨some ⟨g, 0, none⟩, xs.length + 1, c⟩) (x :: xs)) : OwnO w B ⟨some ⟨g, 1, none⟩, xs.length, c - 1⟩ xs := by
  obtain ⟨hl, ⟨e, h0⟩ | ⟨g2, cap, cur, e, hB, hh, hn, hm, hs, ht⟩⟩ := id h
  · simp at h0
  · unfold Sl.v at e h
    simp at e
    obtain ⟨rfl, rfl⟩ := e
    refine .inr ⟨g, 1, c - 1, rfl, hB, by simp at hn; omega, by omega, ⟨cur, hh, by simp at hs hn; omega⟩, fun i hi => ?_⟩
    have k := (h.cellAt (i + 1) (by simp; omega)).1
    rw [Nat.add_comm 1 i]
    exact k
theorem OwnO.nil {g c : Nat} {xs : List Int} (h : OwnN w B (Sl.v ⟨some ⟨g, 0, none⟩, xs.length, c⟩) xs) : OwnO w B ⟨some ⟨g, 0, none⟩, 0, 0⟩ [] := by
  obtain ⟨hl, ⟨e, h0⟩ | ⟨g2, cap, cur, e, hB, hh, hn, hm, hs, ht⟩⟩ := id h
  · unfold Sl.v at e
    cases e
  · unfold Sl.v at e
    simp at e
    obtain ⟨rfl, rfl⟩ := e
    exact .inr ⟨g, 0, 0, rfl, hB, by simp, by omega, ⟨cur, hh, by simp⟩, fun i hi => by simp at hi⟩
end
/-- A machine of blocks from B on, each list in a block of its own; In may begin behind its block's beginning. -/
structure OwnE (w : World) (B : Nat) (x : Mv) (d : Md) : Prop where
  m : OwnN w B x.m.v d.m
  r : OwnN w B x.r.v d.r
  i : OwnO w B x.i d.i
  o : OwnN w B x.o.v d.o
  mr : Ap x.m x.r
  mi : Ap x.m x.i
  mo : Ap x.m x.o
  ri : Ap x.r x.i
  ro : Ap x.r x.o
  io : Ap x.i x.o
section
variable {w w' : World} {B C : Nat} {x : Mv} {d : Md}
theorem OwnM.toE (h : OwnM w B x d) : OwnE w B x d := ⟨h.m, h.r, h.i.toO, h.o, h.mr, h.mi, h.mo, h.ri, h.ro, h.io⟩
theorem OwnE.lo (h : OwnE w B x d) {b : Nat} (hb : x.at b) : B ≤ b ∧ b < w.heap.size := by
  rcases hb with h1 | h1 | h1 | h1
  · exact h.m.lt h1
  · exact h.r.lt h1
  · exact h.i.lt h1
  · exact h.o.lt h1
theorem OwnE.keepH (h : OwnE w B x d) (hs : ∀ g, x.at g → g < w.heap.size → w'.heap[g]? = w.heap[g]?) : OwnE w' B x d :=
  { h with m := h.m.keep fun g hv hg => hs g (.inl hv) hg, r := h.r.keep fun g hv hg => hs g (.inr (.inl hv)) hg, i := h.i.keep fun g hv hg => hs g (.inr (.inr (.inl hv))) hg, o := h.o.keep fun g hv hg => hs g (.inr (.inr (.inr hv))) hg }
theorem OwnE.later (h : OwnE w B x d) (hb : Below w.heap.size w w') : OwnE w' B x d := h.keepH fun g _ hg => hb.block g hg
theorem OwnE.base (h : OwnE w B x d) (hB : C ≤ B) : OwnE w C x d := { h with m := h.m.base hB, r := h.r.base hB, i := h.i.base hB, o := h.o.base hB }
theorem OwnE.rd (h : OwnE w B x d) : RdM w x d := ⟨h.m.rdS, h.r.rdS, h.i.rdS, h.o.rdS, h.m.len, h.r.len, h.i.len, h.o.len⟩
end
/-- The program's machine at a pointer, when its instruction is done. -/
structure Pe (w : World) (g B : Nat) (y : Mv) (t : Ms) (st : Int) : Prop where
  row : w.heap[g]? = some (.cells (bigA t.d.m y) 55 (0, 0))
  len : t.d.m.length = 256
  own : ∃ m0, m0.length = 256 ∧ OwnE w B y ⟨m0, t.d.r, t.d.i, t.d.o⟩
  fl : y.fl = t.fl st
  ne : ∀ b, y.at b → b ≠ g
theorem Pz.pe {w : World} {g B gr rc : Nat} {y : Mv} {t : Ms} {st : Int} {m0 : List Int} (h : Pz w g B gr rc y t st m0) (hm : m0.length = 256) : Pe w g B y t st := ⟨h.row, h.len, ⟨m0, hm, h.own.toE⟩, h.fl, h.ne⟩
/-- What is out is laid anew. -/
theorem Pz.putO {w w1 : World} {g B gr rc : Nat} {y : Mv} {t : Ms} {st : Int} {m0 ns : List Int} (h : Pz w g B gr rc y t st m0) (o' : Sl) (hg : w.grownBy w1 y.o.v.ownBlock) (ho : OwnN w1 B o'.v ns) (hb : ∀ b, o'.v.ownBlock = some b → y.o.v.ownBlock = some b ∨ w.heap.size ≤ b) :
    Pz (w1.setCell ⟨g, 263, none⟩ o'.v) g B gr rc { y with o := o' } (t.out ns) st m0 ∧ Fm w (w1.setCell ⟨g, 263, none⟩ o'.v) g y { y with o := o' } := by
  have hat : ∀ b, Mv.at { y with o := o' } b → y.at b ∨ w.heap.size ≤ b := fun b k => by
    rcases k with k | k | k | k
    · exact .inl (.inl k)
    · exact .inl (.inr (.inl k))
    · exact .inl (.inr (.inr (.inl k)))
    · exact (hb b k).elim (fun e => .inl (.inr (.inr (.inr e)))) .inr
  have hne : ∀ b, Mv.at { y with o := o' } b → b ≠ g := fun b k e => (hat b k).elim (fun a => h.ne b a e) (fun l => by have := row_lt h.row; omega)
  have hrow : w1.heap[g]? = some (.cells (bigA t.d.m y) 55 (0, 0)) := (hg.block g (row_lt h.row) (fun e => h.ne g (.inr (.inr (.inr e.symm))) rfl)).trans h.row
  have F1 : Fm w w1 g y { y with o := o' } := ⟨hg.os, hg.tape, hg.output, hg.size, fun k hk _ hy => hg.block k hk (fun e => hy (.inr (.inr (.inr e.symm)))), hat⟩
  refine ⟨⟨?_, h.len, (h.own.putO o' hg ho hb).keepH fun b k _ => Below.heap_setCell w1 ⟨g, 263, none⟩ o'.v b (hne b k), h.er, h.r8, h.fl, h.lo, hne⟩, F1.trans (Fm.grown (grownBy_set (b := g) (o := 263) o'.v) (.inl rfl) (fun k hk => hk))⟩
  rw [setCell_eq_setRow w1 g _ _ 55 (0, 0) _ hrow, show (263 : Nat) = 256 + 7 from rfl, bigA_setF y { y with o := o' } 7 o'.v h.len rfl]
  exact setRow_heap w1 g _ _ 55 _ hrow
/-- What is to come is laid anew: its end. -/
theorem Pz.putI {w : World} {g B gr rc : Nat} {y : Mv} {t : Ms} {st : Int} {m0 ns : List Int} (h : Pz w g B gr rc y t st m0) (i' : Sl) (hm : m0.length = 256) (ho : OwnO w B i' ns) (hb : ∀ b, i'.v.ownBlock = some b → y.i.v.ownBlock = some b) :
    Pe (w.setCell ⟨g, 262, none⟩ i'.v) g B { y with i := i' } (t.inp ns) st ∧ Fm w (w.setCell ⟨g, 262, none⟩ i'.v) g y { y with i := i' } := by
  have hat : ∀ b, Mv.at { y with i := i' } b → y.at b := fun b k => by
    rcases k with k | k | k | k
    · exact .inl k
    · exact .inr (.inl k)
    · exact .inr (.inr (.inl (hb b k)))
    · exact .inr (.inr (.inr k))
  have hne : ∀ b, Mv.at { y with i := i' } b → b ≠ g := fun b k e => h.ne b (hat b k) e
  have ow : OwnE w B { y with i := i' } ⟨m0, t.d.r, ns, t.d.o⟩ := ⟨h.own.m, h.own.r, ho, h.own.o, h.own.mr, (fun b a c => h.own.mi b a (hb b c)), h.own.mo, (fun b a c => h.own.ri b a (hb b c)), h.own.ro, (fun b a c => h.own.io b (hb b a) c)⟩
  refine ⟨⟨?_, h.len, ⟨m0, hm, ow.keepH fun b k _ => Below.heap_setCell w ⟨g, 262, none⟩ i'.v b (hne b k)⟩, h.fl, hne⟩, Fm.grown (grownBy_set (b := g) (o := 262) i'.v) (.inl rfl) hat⟩
  rw [setCell_eq_setRow w g _ _ 55 (0, 0) _ h.row, show (262 : Nat) = 256 + 6 from rfl, bigA_setF y { y with i := i' } 6 i'.v h.len rfl]
  exact setRow_heap w g _ _ 55 _ h.row
def SoIs (g B : Nat) (y : Mv) (t t2 : Ms) (st : Int) (ok : Bool) (w : World) : Prop :=
  Calls Tryd.prog 112 #[.pointer (some ⟨g, 0, none⟩)] w fun e w' => ∃ y', e = .returned (.bool ok) ∧ AcE ok (Pe w' g B y' t2 st) (Fm w w' g y y')
set_option maxHeartbeats 2000000 in
theorem send_no (g B gr rc : Nat) (y : Mv) (t : Ms) (st : Int) (w : World) (h : Pz w g B gr rc y t st t.d.m) (hk : Dk t.d) (hl : t.d.o.length = 50) : SoIs g B y t t st false w := by
  have F0 := hide (Fm.of (g := g) (y := y) (Below.refl w.heap.size w))
  have co : w.cell? ⟨g, 263, none⟩ = some (.slice y.o.a y.o.n y.o.c) := h.cell 7 _ rfl
  have hn : y.o.n = 50 := by have := h.own.o.len; simp at this; omega
  rw [hn] at co
  unfold SoIs
  clear h hk
  go_enter Tryd.func112, Tryd.ntmps112
  go_wp2
  go_ret
  exact ⟨y, rfl, ⟨fun h => by simp at h, unhide F0⟩⟩
set_option maxHeartbeats 4000000 in
theorem send_yes (g B gr rc : Nat) (y : Mv) (t : Ms) (st : Int) (w : World) (h : Pz w g B gr rc y t st t.d.m) (hk : Dk t.d) (hl : t.d.o.length < 50) : SoIs g B y t (t.out (t.d.o ++ [nAt t.d.r 0])) st true w := by
  have co : w.cell? ⟨g, 263, none⟩ = some (.slice y.o.a y.o.n y.o.c) := h.cell 7 _ rfl
  have hl2 := h.own.o.len
  simp at hl2
  have hne : (y.o.n : Int) ≠ 50 := by omega
  have hn : (y.o.n : Int) < 50 := by omega
  have HD := hide (h.later (below_drew (w := w)))
  have F0 := hide (Fm.of (g := g) (y := y) (below_drew (w := w)))
  have CO := hide (show w.drew.cell? ⟨g, 263, none⟩ = some (.slice y.o.a y.o.n y.o.c) from (unhide HD).cell 7 _ rfl)
  have C1 := hide (unhide HD).cr
  have C2 := hide ((unhide HD).atR 0 (by omega))
  have SH := hide (fun v (p : Pz v g B gr rc y t st t.d.m) => And.intro (show v.cell? ⟨g, 263, none⟩ = some (.slice y.o.a y.o.n y.o.c) from p.cell 7 _ rfl) (And.intro p.cr (p.atR 0 (by omega))))
  have ML := hide hk.ml
  have HL := hide hl
  unfold SoIs
  obtain ⟨r0, hr0⟩ : ∃ q, nAt t.d.r 0 = q := ⟨_, rfl⟩
  obtain ⟨oa, hoa⟩ : ∃ q, y.o.a = q := ⟨_, rfl⟩
  obtain ⟨on, hon⟩ : ∃ q, y.o.n = q := ⟨_, rfl⟩
  obtain ⟨oc, hoc⟩ : ∃ q, y.o.c = q := ⟨_, rfl⟩
  have HO := hide (show y.o.v = .slice oa on oc by unfold Sl.v; rw [hoa, hon, hoc])
  rw [hoa, hon, hoc] at co CO SH
  rw [hon] at hn hne
  rw [hr0] at C2 SH ⊢
  have hn0 : (0 : Int) ≤ (on : Int) := by omega
  clear hoa hon hoc h hk hl hl2 hr0
  go_enter Tryd.func112, Tryd.ntmps112
  go_wp2_with fail
  have HS := hide (show w.drew.cell? ⟨g, 263, none⟩ = some (.slice oa on oc) ∧ w.drew.cell? ⟨g, 257, none⟩ = some (.slice (some ⟨gr, 0, none⟩) 8 rc) ∧ w.drew.cell? ⟨gr, 0, none⟩ = some (.int .i64 r0) from ⟨unhide CO, unhide C1, unhide C2⟩)
  refine wp_region_last (fun v => v.cell? ⟨g, 263, none⟩ = some (.slice oa on oc) ∧ v.cell? ⟨g, 257, none⟩ = some (.slice (some ⟨gr, 0, none⟩) 8 rc) ∧ v.cell? ⟨gr, 0, none⟩ = some (.int .i64 r0)) 18 (by kernel_rfl) ?_
  generalize w.drew = wd at HD F0 CO C1 C2 HS ⊢
  refine wpAnyL_takeW (i := 0) (v := .pointer (some ⟨g, 0, none⟩)) rfl (by kernel_rfl) (by kernel_rfl) (by kernel_rfl) (by kernel_rfl) (fun _ _ _ h => h) (Or.inl ⟨by rfl, fun w hc => ?_⟩) (.inl (unhide HS)) ?_
  · clear hc; go_simp
  go_simp
  refine wpAnyL_takeW (i := 1) (v := .pointer (some ⟨g, 0, none⟩)) rfl (by kernel_rfl) (by kernel_rfl) (by kernel_rfl) (by kernel_rfl) (fun _ _ _ h => h) (Or.inl ⟨by rfl, fun w hc => ?_⟩) (.inl (unhide HS)) ?_
  · clear hc; go_simp
  go_simp
  refine wpAnyL_takeW (i := 2) (v := .pointer (some ⟨g, 0, none⟩)) rfl (by kernel_rfl) (by kernel_rfl) (by kernel_rfl) (by kernel_rfl) (fun _ _ _ h => h) (Or.inl ⟨by rfl, fun w hc => ?_⟩) (.inl (unhide HS)) ?_
  · clear hc; go_simp
  go_simp
  refine wpAnyL_takeW (i := 3) (v := .pointer (some ⟨g, 256, none⟩)) rfl (by kernel_rfl) (by kernel_rfl) (by kernel_rfl) (by kernel_rfl) (fun _ _ _ h => h) (Or.inl ⟨by rfl, fun w hc => ?_⟩) (.inl (unhide HS)) ?_
  · clear hc; go_simp
  go_simp
  refine wpAnyL_takeW (i := 4) (v := .pointer (some ⟨g, 263, none⟩)) rfl (by kernel_rfl) (by kernel_rfl) (by kernel_rfl) (by kernel_rfl) (fun _ _ _ h => h) (Or.inl ⟨by rfl, fun w hc => ?_⟩) (.inl (unhide HS)) ?_
  · clear hc; go_simp
  go_simp
  refine wpAnyL_takeS (i := 5) (v := .slice oa on oc) rfl (by kernel_rfl) (by kernel_rfl) (by kernel_rfl) (by kernel_rfl) (by kernel_rfl) (fun _ _ _ h => h) (Or.inl ⟨by rfl, fun w hc => ?_⟩) (unhide HS) ?_
  · obtain ⟨h1, h2, h3⟩ := hc; go_simp
  go_simp
  refine wpAnyL_takeW (i := 6) (v := .pointer (some ⟨g, 0, none⟩)) rfl (by kernel_rfl) (by kernel_rfl) (by kernel_rfl) (by kernel_rfl) (fun _ _ _ h => h) (Or.inl ⟨by rfl, fun w hc => ?_⟩) (.inl (unhide HS)) ?_
  · clear hc; go_simp
  go_simp
  refine wpAnyL_takeW (i := 7) (v := .pointer (some ⟨g, 0, none⟩)) rfl (by kernel_rfl) (by kernel_rfl) (by kernel_rfl) (by kernel_rfl) (fun _ _ _ h => h) (Or.inl ⟨by rfl, fun w hc => ?_⟩) (.inl (unhide HS)) ?_
  · clear hc; go_simp
  go_simp
  refine wpAnyL_takeW (i := 8) (v := .pointer (some ⟨g, 256, none⟩)) rfl (by kernel_rfl) (by kernel_rfl) (by kernel_rfl) (by kernel_rfl) (fun _ _ _ h => h) (Or.inl ⟨by rfl, fun w hc => ?_⟩) (.inl (unhide HS)) ?_
  · clear hc; go_simp
  go_simp
  refine wpAnyL_takeW (i := 9) (v := .pointer (some ⟨g, 257, none⟩)) rfl (by kernel_rfl) (by kernel_rfl) (by kernel_rfl) (by kernel_rfl) (fun _ _ _ h => h) (Or.inl ⟨by rfl, fun w hc => ?_⟩) (.inl (unhide HS)) ?_
  · clear hc; go_simp
  go_simp
  refine wpAnyL_takeS (i := 10) (v := .slice (some ⟨gr, 0, none⟩) 8 rc) rfl (by kernel_rfl) (by kernel_rfl) (by kernel_rfl) (by kernel_rfl) (by kernel_rfl) (fun _ _ _ h => h) (Or.inl ⟨by rfl, fun w hc => ?_⟩) (unhide HS) ?_
  · obtain ⟨h1, h2, h3⟩ := hc; go_simp
  go_simp
  refine wpAnyL_takeW (i := 11) (v := .pointer (some ⟨gr, 0, none⟩)) rfl (by kernel_rfl) (by kernel_rfl) (by kernel_rfl) (by kernel_rfl) (fun _ _ _ h => h) (Or.inl ⟨by rfl, fun w hc => ?_⟩) (.inl (unhide HS)) ?_
  · clear hc; go_simp
  go_simp
  refine wpAnyL_takeS (i := 12) (v := .int .i64 r0) rfl (by kernel_rfl) (by kernel_rfl) (by kernel_rfl) (by kernel_rfl) (by kernel_rfl) (fun _ _ _ h => h) (Or.inl ⟨by rfl, fun w hc => ?_⟩) (unhide HS) ?_
  · obtain ⟨h1, h2, h3⟩ := hc; go_simp
  go_simp
  refine wpAnyL_one (i := 13) (by kernel_rfl) rfl (fun K2 hK => ?_)
  go_simp
  have HA := hide ((unhide HD).later (below_new wd (Obj.cells #[.int .i64 r0] 3)))
  have FA := hide ((unhide F0).trans (Fm.of (below_new wd (Obj.cells #[.int .i64 r0] 3))))
  have RA := hide (heap_alloc_last wd (Obj.cells #[.int .i64 r0] 3))
  refine hK.out _ _ (fun _ => unhide SH _ (unhide HA)) ?_
  clear hK K2
  refine wpAnyL_one (i := 14) (by kernel_rfl) rfl (fun K2 hK => ?_)
  rw [if_pos (by rfl)]
  refine wp_app _ _ rfl B (.slice oa on oc) t.d.o rfl (by rw [← unhide HO]; exact (unhide HA).own.o) ⟨some ⟨wd.heap.size, 0, none⟩, 1, 1⟩ [r0] rfl (rdN_one (unhide RA)) rfl (fun e => by cases e) (by have := unhide HL; simp; omega) (by have := (unhide HA).lo; have := row_lt (unhide HA).row; omega) (fun v' w2 o2 g2 b2 => ?_)
  have G2 := hide (show (wd.alloc (Obj.cells #[.int .i64 r0] 3)).grownBy w2 y.o.v.ownBlock by rw [unhide HO]; exact g2)
  have F2 := hide (show Fm (wd.alloc (Obj.cells #[.int .i64 r0] 3)) w2 g y y from ⟨(unhide G2).os, (unhide G2).tape, (unhide G2).output, (unhide G2).size, fun k hk _ hy => (unhide G2).block k hk (fun e => hy (.inr (.inr (.inr e.symm)))), fun b hb => .inl hb⟩)
  have G3 := hide (show w2.heap[g]? = (wd.alloc (Obj.cells #[.int .i64 r0] 3)).heap[g]? from (unhide G2).block g (row_lt (unhide HA).row) (fun e => (unhide HA).ne g (.inr (.inr (.inr e.symm))) rfl))
  have G4 := hide (show w2.heap[gr]? = (wd.alloc (Obj.cells #[.int .i64 r0] 3)).heap[gr]? from (unhide G2).block gr ((unhide HA).yl (unhide HA).atr) (fun e => (unhide HA).own.ro gr (by rw [(unhide HA).er]; rfl) e.symm))
  have C3 := hide (show w2.cell? ⟨g, 263, none⟩ = some (.slice oa on oc) ∧ w2.cell? ⟨g, 257, none⟩ = some (.slice (some ⟨gr, 0, none⟩) 8 rc) ∧ w2.cell? ⟨gr, 0, none⟩ = some (.int .i64 r0) from by
    have k := unhide SH _ (unhide HA)
    unfold World.cell? at k ⊢
    simp only [unhide G3, unhide G4]
    exact k)
  have C4 := hide (show w2.frozen? ⟨g, 263, none⟩ = false from by
    have k := (unhide HA).fz 263
    unfold World.frozen? at k ⊢
    simp only [unhide G3]
    exact k)
  rcases o2.form with ⟨_, e0⟩ | ⟨gb, cap, rfl, _⟩
  · exact absurd e0 (by simp)
  have PO := hide ((unhide HA).putO ⟨some ⟨gb, 0, none⟩, (t.d.o ++ [r0]).length, cap⟩ (unhide G2) o2 (fun b hb => b2.elim (fun k => .inl (by rw [unhide HO, ← k]; exact hb)) (fun k => .inr (by have k2 := hb.symm.trans k; cases k2; exact Nat.le_refl _))))
  have H9 := hide ((unhide PO).1.pe (unhide ML))
  have F9 := hide ((unhide FA).trans (unhide PO).2)
  generalize hN : (t.d.o ++ [r0]).length = oN at H9 F9 ⊢
  refine hK.out _ _ (fun _ => unhide C3) ?_
  clear hK K2 HS o2 g2 b2 PO G2 RA HA FA hN
  have HS := hide (unhide C3)
  refine wpAnyL_takeW (i := 15) (v := .pointer (some ⟨g, 0, none⟩)) rfl (by kernel_rfl) (by kernel_rfl) (by kernel_rfl) (by kernel_rfl) (fun _ _ _ h => h) (Or.inl ⟨by rfl, fun w hc => ?_⟩) (.inl (unhide HS)) ?_
  · clear hc; go_simp
  go_simp
  refine wpAnyL_takeW (i := 16) (v := .pointer (some ⟨g, 256, none⟩)) rfl (by kernel_rfl) (by kernel_rfl) (by kernel_rfl) (by kernel_rfl) (fun _ _ _ h => h) (Or.inl ⟨by rfl, fun w hc => ?_⟩) (.inl (unhide HS)) ?_
  · clear hc; go_simp
  go_simp
  refine wpAnyL_takeW (i := 17) (v := .pointer (some ⟨g, 263, none⟩)) rfl (by kernel_rfl) (by kernel_rfl) (by kernel_rfl) (by kernel_rfl) (fun _ _ _ h => h) (Or.inl ⟨by rfl, fun w hc => ?_⟩) (.inl (unhide HS)) ?_
  · clear hc; go_simp
  go_simp
  have c1 := (unhide C3).1
  have c2 := unhide C4
  refine wpAnyL_one (i := 18) (by kernel_rfl) rfl (fun K2 hK => ?_)
  go_simp
  refine hK.out _ _ (fun h => absurd h (by decide)) ?_
  clear hK K2
  refine wpAnyL_done (by kernel_rfl) ?_ _
  clear c1 c2
  unfold Sl.v at H9 F9
  generalize w2.setCell ⟨g, 263, none⟩ (.slice (some ⟨gb, 0, none⟩) oN cap) = w3 at H9 F9 ⊢
  go_wp2
  go_ret
  exact ⟨_, rfl, ⟨fun _ => unhide H9, unhide F9⟩⟩
end Go.Proofs.YtboedaofbchdkaaDoor

namespace Go.Proofs.YtboedaofbchdkaaDoor
open Go.ChangeShapes Go.WideShapes Go.ChangeAt Go.RowKit
set_option linter.unusedVariables false
set_option maxRecDepth 8000
set_option linter.unusedSimpArgs false
def TiIs (g B : Nat) (y : Mv) (t2 : Ms) (st : Int) (w : World) : Prop :=
  Calls Tryd.prog 113 #[.pointer (some ⟨g, 0, none⟩)] w fun e w' => ∃ y', e = .returned (.tuple #[]) ∧ Pe w' g B y' t2 st ∧ Fm w w' g y y'
set_option maxHeartbeats 2000000 in
theorem take_e (g B gr rc : Nat) (y : Mv) (t : Ms) (st : Int) (w : World) (h : Pz w g B gr rc y t st t.d.m) (hk : Dk t.d) (hl : t.d.i = []) : TiIs g B y ((t.rg 0 65535).cs true) st w := by
  have ci : w.cell? ⟨g, 262, none⟩ = some (.slice y.i.a y.i.n y.i.c) := h.cell 6 _ rfl
  have hn : y.i.n = 0 := by have := h.own.i.len; simp [hl] at this; omega
  rw [hn] at ci
  have c5 : w.cell? ⟨g, 261, none⟩ = some (.bool y.c) := h.cell 5 _ rfl
  have f5 := h.fz 261
  obtain ⟨h2, f2⟩ := h.setC true
  have d5 : (w.setCell ⟨g, 261, none⟩ (.bool true)).cell? ⟨g, 261, none⟩ = some (.bool true) := h2.cell 5 _ rfl
  have d1 := h2.cr
  obtain ⟨h3, f3, d2, d3⟩ := h2.setR 0 65535 (by omega)
  have H3 := hide (h3.pe hk.ml)
  have F3 := hide (f2.trans f3)
  unfold TiIs
  clear h hk h2 f2 h3 f3 hn
  go_enter Tryd.func113, Tryd.ntmps113
  go_wp2
  refine bodyPost_ret (results_none rfl _ _ _) rfl ?_
  first | exact ⟨rfl, _, unhide H3, unhide F3⟩ | exact ⟨_, rfl, unhide H3, unhide F3⟩
set_option maxHeartbeats 4000000 in
theorem take_x (g B gr rc : Nat) (y : Mv) (t : Ms) (st : Int) (w : World) (h : Pz w g B gr rc y t st t.d.m) (hk : Dk t.d) (x : Int) (xs : List Int) (hi : t.d.i = x :: xs) : TiIs g B y (((t.rg 0 x).inp xs).cs false) st w := by
  obtain ⟨gi, ic, ei, hic⟩ : ∃ g c, y.i = ⟨some ⟨g, 0, none⟩, xs.length + 1, c⟩ ∧ xs.length + 1 ≤ c := by
    obtain ⟨a, b, q1, q2⟩ := own_formL h.own.i (by simp [hi])
    simp only [hi] at q1 q2
    exact ⟨a, b, q1, q2⟩
  have HSI := hide (fun (v : World) (y' : Mv) (t' : Ms) (ey : y'.i = y.i) (hv : Pz v g B gr rc y' t' st t.d.m) (hx : t'.d.i = x :: xs) => (show v.cell? ⟨g, 257, none⟩ = some (.slice (some ⟨gr, 0, none⟩) 8 rc) ∧ v.cell? ⟨g, 262, none⟩ = some (.slice (some ⟨gi, 0, none⟩) (xs.length + 1) ic) ∧ v.cell? ⟨gi, 0, none⟩ = some (.int .i64 x) from ⟨hv.cr, by have k := hv.cell 6 (.slice y'.i.a y'.i.n y'.i.c) rfl; rw [ey, ei] at k; exact k, by
    have k := hv.own.i
    rw [ey, ei] at k
    simp only [hx] at k
    exact (k.cellAt 0 (by simp)).1⟩))
  have ci := (unhide HSI w y t rfl h hi).2.1
  have hlt : xs.length + 1 ≤ 50 := by
    have := hk.il
    rw [hi] at this
    simpa using this
  have il0 : ¬ ((xs.length + 1 : Nat) : Int) = 0 := by omega
  have il2 : ¬ ((xs.length + 1 : Nat) : Int) ≤ 0 := by omega
  have il1 : (0 : Int) < ((xs.length + 1 : Nat) : Int) := by omega
  have il3 : (1 : Int) ≤ ((xs.length + 1 : Nat) : Int) := by omega
  have c5 : w.cell? ⟨g, 261, none⟩ = some (.bool y.c) := h.cell 5 _ rfl
  have f5 := h.fz 261
  obtain ⟨h2, f2⟩ := h.setC false
  have d5 : (w.setCell ⟨g, 261, none⟩ (.bool false)).cell? ⟨g, 261, none⟩ = some (.bool false) := h2.cell 5 _ rfl
  have HD := hide (h2.later (below_drew (w := w.setCell ⟨g, 261, none⟩ (.bool false))))
  have FD := hide (f2.trans (Fm.of (below_drew (w := w.setCell ⟨g, 261, none⟩ (.bool false)))))
  have HS := hide (unhide HSI _ _ _ (show ({ y with c := false } : Mv).i = y.i from rfl) (unhide HD) hi)
  have SC := hide ((unhide HD).setR 0 x (by omega))
  have CK := hide (unhide SC).2.2
  have C4 := hide (unhide HSI _ _ _ (show ({ y with c := false } : Mv).i = y.i from rfl) (unhide SC).1 hi)
  have C6 := hide ((unhide SC).1.fz 262)
  have OI := hide (show OwnN _ B (Sl.v ⟨some ⟨gi, 0, none⟩, xs.length + 1, ic⟩) (x :: xs) from by
    have k := (unhide SC).1.own.i
    rw [show ({ y with c := false } : Mv).i = y.i from rfl, ei] at k
    rw [← hi]
    exact k)
  have EB := hide (show y.i.v.ownBlock = some gi by rw [ei]; rfl)
  have hic2 : xs.length + 1 ≤ ic := hic
  unfold TiIs
  by_cases hc1 : ic = 1
  · obtain rfl : xs = [] := List.eq_nil_of_length_eq_zero (by omega)
    subst hc1
    have PI := hide ((unhide SC).1.putI ⟨some ⟨gi, 0, none⟩, 0, 0⟩ hk.ml (OwnO.nil (unhide OI)) (fun b hb => by rw [show ({ y with c := false } : Mv).i = y.i from rfl, unhide EB]; exact hb))
    have H5 := hide (unhide PI).1
    have F5 := hide (((unhide FD).trans (unhide SC).2.1).trans (unhide PI).2)
    clear h hk h2 f2 SC PI HSI ei hic hi OI EB HD FD hic2
    clear il0 il1 il2 il3 hlt
    simp only [List.length_nil, Nat.zero_add] at ci HS C4 H5 F5
    go_enter Tryd.func113, Tryd.ntmps113
    go_wp2_with fail
    refine wp_region_last (fun v => v.cell? ⟨g, 257, none⟩ = some (.slice (some ⟨gr, 0, none⟩) 8 rc) ∧ v.cell? ⟨g, 262, none⟩ = some (.slice (some ⟨gi, 0, none⟩) 1 1) ∧ v.cell? ⟨gi, 0, none⟩ = some (.int .i64 x)) 24 (by kernel_rfl) ?_
    generalize (w.setCell ⟨g, 261, none⟩ (.bool false)).drew = wd at HS CK C4 C6 H5 F5 ⊢
    refine wpAnyL_takeW (i := 0) (v := .pointer (some ⟨g, 0, none⟩)) rfl (by kernel_rfl) (by kernel_rfl) (by kernel_rfl) (by kernel_rfl) (fun _ _ _ h => h) (Or.inl ⟨by rfl, fun w hc => ?_⟩) (.inl (unhide HS)) ?_
    · clear hc; go_simp
    go_simp
    refine wpAnyL_takeW (i := 1) (v := .pointer (some ⟨g, 0, none⟩)) rfl (by kernel_rfl) (by kernel_rfl) (by kernel_rfl) (by kernel_rfl) (fun _ _ _ h => h) (Or.inl ⟨by rfl, fun w hc => ?_⟩) (.inl (unhide HS)) ?_
    · clear hc; go_simp
    go_simp
    refine wpAnyL_takeW (i := 2) (v := .pointer (some ⟨g, 256, none⟩)) rfl (by kernel_rfl) (by kernel_rfl) (by kernel_rfl) (by kernel_rfl) (fun _ _ _ h => h) (Or.inl ⟨by rfl, fun w hc => ?_⟩) (.inl (unhide HS)) ?_
    · clear hc; go_simp
    go_simp
    refine wpAnyL_takeW (i := 3) (v := .pointer (some ⟨g, 257, none⟩)) rfl (by kernel_rfl) (by kernel_rfl) (by kernel_rfl) (by kernel_rfl) (fun _ _ _ h => h) (Or.inl ⟨by rfl, fun w hc => ?_⟩) (.inl (unhide HS)) ?_
    · clear hc; go_simp
    go_simp
    refine wpAnyL_takeS (i := 4) (v := .slice (some ⟨gr, 0, none⟩) 8 rc) rfl (by kernel_rfl) (by kernel_rfl) (by kernel_rfl) (by kernel_rfl) (by kernel_rfl) (fun _ _ _ h => h) (Or.inl ⟨by rfl, fun w hc => ?_⟩) (unhide HS) ?_
    · obtain ⟨h1, h2, h3⟩ := hc; go_simp
    go_simp
    refine wpAnyL_takeW (i := 5) (v := .pointer (some ⟨g, 0, none⟩)) rfl (by kernel_rfl) (by kernel_rfl) (by kernel_rfl) (by kernel_rfl) (fun _ _ _ h => h) (Or.inl ⟨by rfl, fun w hc => ?_⟩) (.inl (unhide HS)) ?_
    · clear hc; go_simp
    go_simp
    refine wpAnyL_takeW (i := 6) (v := .pointer (some ⟨g, 0, none⟩)) rfl (by kernel_rfl) (by kernel_rfl) (by kernel_rfl) (by kernel_rfl) (fun _ _ _ h => h) (Or.inl ⟨by rfl, fun w hc => ?_⟩) (.inl (unhide HS)) ?_
    · clear hc; go_simp
    go_simp
    refine wpAnyL_takeW (i := 7) (v := .pointer (some ⟨g, 0, none⟩)) rfl (by kernel_rfl) (by kernel_rfl) (by kernel_rfl) (by kernel_rfl) (fun _ _ _ h => h) (Or.inl ⟨by rfl, fun w hc => ?_⟩) (.inl (unhide HS)) ?_
    · clear hc; go_simp
    go_simp
    refine wpAnyL_takeW (i := 8) (v := .pointer (some ⟨g, 256, none⟩)) rfl (by kernel_rfl) (by kernel_rfl) (by kernel_rfl) (by kernel_rfl) (fun _ _ _ h => h) (Or.inl ⟨by rfl, fun w hc => ?_⟩) (.inl (unhide HS)) ?_
    · clear hc; go_simp
    go_simp
    refine wpAnyL_takeW (i := 9) (v := .pointer (some ⟨g, 262, none⟩)) rfl (by kernel_rfl) (by kernel_rfl) (by kernel_rfl) (by kernel_rfl) (fun _ _ _ h => h) (Or.inl ⟨by rfl, fun w hc => ?_⟩) (.inl (unhide HS)) ?_
    · clear hc; go_simp
    go_simp
    refine wpAnyL_takeS (i := 10) (v := .slice (some ⟨gi, 0, none⟩) 1 1) rfl (by kernel_rfl) (by kernel_rfl) (by kernel_rfl) (by kernel_rfl) (by kernel_rfl) (fun _ _ _ h => h) (Or.inl ⟨by rfl, fun w hc => ?_⟩) (unhide HS) ?_
    · obtain ⟨h1, h2, h3⟩ := hc; go_simp
    go_simp
    refine wpAnyL_takeW (i := 11) (v := .pointer (some ⟨gi, 0, none⟩)) rfl (by kernel_rfl) (by kernel_rfl) (by kernel_rfl) (by kernel_rfl) (fun _ _ _ h => h) (Or.inl ⟨by rfl, fun w hc => ?_⟩) (.inl (unhide HS)) ?_
    · clear hc; go_simp
    go_simp
    refine wpAnyL_takeS (i := 12) (v := .int .i64 x) rfl (by kernel_rfl) (by kernel_rfl) (by kernel_rfl) (by kernel_rfl) (by kernel_rfl) (fun _ _ _ h => h) (Or.inl ⟨by rfl, fun w hc => ?_⟩) (unhide HS) ?_
    · obtain ⟨h1, h2, h3⟩ := hc; go_simp
    go_simp
    refine wpAnyL_takeW (i := 13) (v := .pointer (some ⟨g, 0, none⟩)) rfl (by kernel_rfl) (by kernel_rfl) (by kernel_rfl) (by kernel_rfl) (fun _ _ _ h => h) (Or.inl ⟨by rfl, fun w hc => ?_⟩) (.inl (unhide HS)) ?_
    · clear hc; go_simp
    go_simp
    refine wpAnyL_takeW (i := 14) (v := .pointer (some ⟨g, 0, none⟩)) rfl (by kernel_rfl) (by kernel_rfl) (by kernel_rfl) (by kernel_rfl) (fun _ _ _ h => h) (Or.inl ⟨by rfl, fun w hc => ?_⟩) (.inl (unhide HS)) ?_
    · clear hc; go_simp
    go_simp
    refine wpAnyL_takeW (i := 15) (v := .pointer (some ⟨g, 256, none⟩)) rfl (by kernel_rfl) (by kernel_rfl) (by kernel_rfl) (by kernel_rfl) (fun _ _ _ h => h) (Or.inl ⟨by rfl, fun w hc => ?_⟩) (.inl (unhide HS)) ?_
    · clear hc; go_simp
    go_simp
    refine wpAnyL_takeW (i := 16) (v := .pointer (some ⟨g, 262, none⟩)) rfl (by kernel_rfl) (by kernel_rfl) (by kernel_rfl) (by kernel_rfl) (fun _ _ _ h => h) (Or.inl ⟨by rfl, fun w hc => ?_⟩) (.inl (unhide HS)) ?_
    · clear hc; go_simp
    go_simp
    refine wpAnyL_takeS (i := 17) (v := .slice (some ⟨gi, 0, none⟩) 1 1) rfl (by kernel_rfl) (by kernel_rfl) (by kernel_rfl) (by kernel_rfl) (by kernel_rfl) (fun _ _ _ h => h) (Or.inl ⟨by rfl, fun w hc => ?_⟩) (unhide HS) ?_
    · obtain ⟨h1, h2, h3⟩ := hc; go_simp
    go_simp
    refine wpAnyL_takeW (i := 18) (v := .slice (some ⟨gi, 0, none⟩) 0 0) rfl (by kernel_rfl) (by kernel_rfl) (by kernel_rfl) (by kernel_rfl) (fun _ _ _ h => h) (Or.inl ⟨by rfl, fun w hc => ?_⟩) (.inl (unhide HS)) ?_
    · clear hc; go_simp
    go_simp
    refine wpAnyL_takeW (i := 19) (v := .pointer (some ⟨gr, 0, none⟩)) rfl (by kernel_rfl) (by kernel_rfl) (by kernel_rfl) (by kernel_rfl) (fun _ _ _ h => h) (Or.inl ⟨by rfl, fun w hc => ?_⟩) (.inl (unhide HS)) ?_
    · clear hc; go_simp
    go_simp
    have c2 := (unhide CK).1
    have c3 := (unhide CK).2
    refine wpAnyL_one (i := 20) (by kernel_rfl) rfl (fun K2 hK => ?_)
    go_simp
    refine hK.out _ _ (fun _ => unhide C4) ?_
    clear hK K2 HS c2 c3
    have HS := hide (unhide C4)
    refine wpAnyL_takeW (i := 21) (v := .pointer (some ⟨g, 0, none⟩)) rfl (by kernel_rfl) (by kernel_rfl) (by kernel_rfl) (by kernel_rfl) (fun _ _ _ h => h) (Or.inl ⟨by rfl, fun w hc => ?_⟩) (.inl (unhide HS)) ?_
    · clear hc; go_simp
    go_simp
    refine wpAnyL_takeW (i := 22) (v := .pointer (some ⟨g, 256, none⟩)) rfl (by kernel_rfl) (by kernel_rfl) (by kernel_rfl) (by kernel_rfl) (fun _ _ _ h => h) (Or.inl ⟨by rfl, fun w hc => ?_⟩) (.inl (unhide HS)) ?_
    · clear hc; go_simp
    go_simp
    refine wpAnyL_takeW (i := 23) (v := .pointer (some ⟨g, 262, none⟩)) rfl (by kernel_rfl) (by kernel_rfl) (by kernel_rfl) (by kernel_rfl) (fun _ _ _ h => h) (Or.inl ⟨by rfl, fun w hc => ?_⟩) (.inl (unhide HS)) ?_
    · clear hc; go_simp
    go_simp
    have c1 := (unhide C4).2.1
    have c2 := unhide C6
    refine wpAnyL_one (i := 24) (by kernel_rfl) rfl (fun K2 hK => ?_)
    go_simp
    refine hK.out _ _ (fun h => absurd h (by decide)) ?_
    clear hK K2
    refine wpAnyL_done (by kernel_rfl) ?_ _
    clear c1 c2
    unfold Sl.v at H5 F5
    generalize (wd.setCell ⟨gr, 0, none⟩ (.int .i64 x)).setCell ⟨g, 262, none⟩ (.slice (some ⟨gi, 0, none⟩) 0 0) = w5 at H5 F5 ⊢
    go_wp2
    go_end0
    first | exact ⟨_, rfl, unhide H5, unhide F5⟩ | exact ⟨rfl, _, unhide H5, unhide F5⟩
  · have hc2 : 1 < ic := by omega
    have PI := hide ((unhide SC).1.putI ⟨some ⟨gi, 1, none⟩, xs.length, ic - 1⟩ hk.ml (OwnO.tl (unhide OI)) (fun b hb => by rw [show ({ y with c := false } : Mv).i = y.i from rfl, unhide EB]; exact hb))
    have H5 := hide (unhide PI).1
    have F5 := hide (((unhide FD).trans (unhide SC).2.1).trans (unhide PI).2)
    clear h hk h2 f2 SC PI HSI ei hic hi OI EB HD FD
    go_enter Tryd.func113, Tryd.ntmps113
    go_wp2_with fail
    refine wp_region_last (fun v => v.cell? ⟨g, 257, none⟩ = some (.slice (some ⟨gr, 0, none⟩) 8 rc) ∧ v.cell? ⟨g, 262, none⟩ = some (.slice (some ⟨gi, 0, none⟩) (xs.length + 1) ic) ∧ v.cell? ⟨gi, 0, none⟩ = some (.int .i64 x)) 24 (by kernel_rfl) ?_
    generalize (w.setCell ⟨g, 261, none⟩ (.bool false)).drew = wd at HS CK C4 C6 H5 F5 ⊢
    refine wpAnyL_takeW (i := 0) (v := .pointer (some ⟨g, 0, none⟩)) rfl (by kernel_rfl) (by kernel_rfl) (by kernel_rfl) (by kernel_rfl) (fun _ _ _ h => h) (Or.inl ⟨by rfl, fun w hc => ?_⟩) (.inl (unhide HS)) ?_
    · clear hc; go_simp
    go_simp
    refine wpAnyL_takeW (i := 1) (v := .pointer (some ⟨g, 0, none⟩)) rfl (by kernel_rfl) (by kernel_rfl) (by kernel_rfl) (by kernel_rfl) (fun _ _ _ h => h) (Or.inl ⟨by rfl, fun w hc => ?_⟩) (.inl (unhide HS)) ?_
    · clear hc; go_simp
    go_simp
    refine wpAnyL_takeW (i := 2) (v := .pointer (some ⟨g, 256, none⟩)) rfl (by kernel_rfl) (by kernel_rfl) (by kernel_rfl) (by kernel_rfl) (fun _ _ _ h => h) (Or.inl ⟨by rfl, fun w hc => ?_⟩) (.inl (unhide HS)) ?_
    · clear hc; go_simp
    go_simp
    refine wpAnyL_takeW (i := 3) (v := .pointer (some ⟨g, 257, none⟩)) rfl (by kernel_rfl) (by kernel_rfl) (by kernel_rfl) (by kernel_rfl) (fun _ _ _ h => h) (Or.inl ⟨by rfl, fun w hc => ?_⟩) (.inl (unhide HS)) ?_
    · clear hc; go_simp
    go_simp
    refine wpAnyL_takeS (i := 4) (v := .slice (some ⟨gr, 0, none⟩) 8 rc) rfl (by kernel_rfl) (by kernel_rfl) (by kernel_rfl) (by kernel_rfl) (by kernel_rfl) (fun _ _ _ h => h) (Or.inl ⟨by rfl, fun w hc => ?_⟩) (unhide HS) ?_
    · obtain ⟨h1, h2, h3⟩ := hc; go_simp
    go_simp
    refine wpAnyL_takeW (i := 5) (v := .pointer (some ⟨g, 0, none⟩)) rfl (by kernel_rfl) (by kernel_rfl) (by kernel_rfl) (by kernel_rfl) (fun _ _ _ h => h) (Or.inl ⟨by rfl, fun w hc => ?_⟩) (.inl (unhide HS)) ?_
    · clear hc; go_simp
    go_simp
    refine wpAnyL_takeW (i := 6) (v := .pointer (some ⟨g, 0, none⟩)) rfl (by kernel_rfl) (by kernel_rfl) (by kernel_rfl) (by kernel_rfl) (fun _ _ _ h => h) (Or.inl ⟨by rfl, fun w hc => ?_⟩) (.inl (unhide HS)) ?_
    · clear hc; go_simp
    go_simp
    refine wpAnyL_takeW (i := 7) (v := .pointer (some ⟨g, 0, none⟩)) rfl (by kernel_rfl) (by kernel_rfl) (by kernel_rfl) (by kernel_rfl) (fun _ _ _ h => h) (Or.inl ⟨by rfl, fun w hc => ?_⟩) (.inl (unhide HS)) ?_
    · clear hc; go_simp
    go_simp
    refine wpAnyL_takeW (i := 8) (v := .pointer (some ⟨g, 256, none⟩)) rfl (by kernel_rfl) (by kernel_rfl) (by kernel_rfl) (by kernel_rfl) (fun _ _ _ h => h) (Or.inl ⟨by rfl, fun w hc => ?_⟩) (.inl (unhide HS)) ?_
    · clear hc; go_simp
    go_simp
    refine wpAnyL_takeW (i := 9) (v := .pointer (some ⟨g, 262, none⟩)) rfl (by kernel_rfl) (by kernel_rfl) (by kernel_rfl) (by kernel_rfl) (fun _ _ _ h => h) (Or.inl ⟨by rfl, fun w hc => ?_⟩) (.inl (unhide HS)) ?_
    · clear hc; go_simp
    go_simp
    refine wpAnyL_takeS (i := 10) (v := .slice (some ⟨gi, 0, none⟩) (xs.length + 1) ic) rfl (by kernel_rfl) (by kernel_rfl) (by kernel_rfl) (by kernel_rfl) (by kernel_rfl) (fun _ _ _ h => h) (Or.inl ⟨by rfl, fun w hc => ?_⟩) (unhide HS) ?_
    · obtain ⟨h1, h2, h3⟩ := hc; go_simp
    go_simp
    refine wpAnyL_takeW (i := 11) (v := .pointer (some ⟨gi, 0, none⟩)) rfl (by kernel_rfl) (by kernel_rfl) (by kernel_rfl) (by kernel_rfl) (fun _ _ _ h => h) (Or.inl ⟨by rfl, fun w hc => ?_⟩) (.inl (unhide HS)) ?_
    · clear hc; go_simp
    go_simp
    refine wpAnyL_takeS (i := 12) (v := .int .i64 x) rfl (by kernel_rfl) (by kernel_rfl) (by kernel_rfl) (by kernel_rfl) (by kernel_rfl) (fun _ _ _ h => h) (Or.inl ⟨by rfl, fun w hc => ?_⟩) (unhide HS) ?_
    · obtain ⟨h1, h2, h3⟩ := hc; go_simp
    go_simp
    refine wpAnyL_takeW (i := 13) (v := .pointer (some ⟨g, 0, none⟩)) rfl (by kernel_rfl) (by kernel_rfl) (by kernel_rfl) (by kernel_rfl) (fun _ _ _ h => h) (Or.inl ⟨by rfl, fun w hc => ?_⟩) (.inl (unhide HS)) ?_
    · clear hc; go_simp
    go_simp
    refine wpAnyL_takeW (i := 14) (v := .pointer (some ⟨g, 0, none⟩)) rfl (by kernel_rfl) (by kernel_rfl) (by kernel_rfl) (by kernel_rfl) (fun _ _ _ h => h) (Or.inl ⟨by rfl, fun w hc => ?_⟩) (.inl (unhide HS)) ?_
    · clear hc; go_simp
    go_simp
    refine wpAnyL_takeW (i := 15) (v := .pointer (some ⟨g, 256, none⟩)) rfl (by kernel_rfl) (by kernel_rfl) (by kernel_rfl) (by kernel_rfl) (fun _ _ _ h => h) (Or.inl ⟨by rfl, fun w hc => ?_⟩) (.inl (unhide HS)) ?_
    · clear hc; go_simp
    go_simp
    refine wpAnyL_takeW (i := 16) (v := .pointer (some ⟨g, 262, none⟩)) rfl (by kernel_rfl) (by kernel_rfl) (by kernel_rfl) (by kernel_rfl) (fun _ _ _ h => h) (Or.inl ⟨by rfl, fun w hc => ?_⟩) (.inl (unhide HS)) ?_
    · clear hc; go_simp
    go_simp
    refine wpAnyL_takeS (i := 17) (v := .slice (some ⟨gi, 0, none⟩) (xs.length + 1) ic) rfl (by kernel_rfl) (by kernel_rfl) (by kernel_rfl) (by kernel_rfl) (by kernel_rfl) (fun _ _ _ h => h) (Or.inl ⟨by rfl, fun w hc => ?_⟩) (unhide HS) ?_
    · obtain ⟨h1, h2, h3⟩ := hc; go_simp
    go_simp
    refine wpAnyL_takeW (i := 18) (v := .slice (some ⟨gi, 1, none⟩) xs.length (ic - 1)) rfl (by kernel_rfl) (by kernel_rfl) (by kernel_rfl) (by kernel_rfl) (fun _ _ _ h => h) (Or.inl ⟨by rfl, fun w hc => ?_⟩) (.inl (unhide HS)) ?_
    · clear hc; go_simp
      intro hh
      omega
    go_simp
    refine wpAnyL_takeW (i := 19) (v := .pointer (some ⟨gr, 0, none⟩)) rfl (by kernel_rfl) (by kernel_rfl) (by kernel_rfl) (by kernel_rfl) (fun _ _ _ h => h) (Or.inl ⟨by rfl, fun w hc => ?_⟩) (.inl (unhide HS)) ?_
    · clear hc; go_simp
    go_simp
    have c2 := (unhide CK).1
    have c3 := (unhide CK).2
    refine wpAnyL_one (i := 20) (by kernel_rfl) rfl (fun K2 hK => ?_)
    go_simp
    refine hK.out _ _ (fun _ => unhide C4) ?_
    clear hK K2 HS c2 c3
    have HS := hide (unhide C4)
    refine wpAnyL_takeW (i := 21) (v := .pointer (some ⟨g, 0, none⟩)) rfl (by kernel_rfl) (by kernel_rfl) (by kernel_rfl) (by kernel_rfl) (fun _ _ _ h => h) (Or.inl ⟨by rfl, fun w hc => ?_⟩) (.inl (unhide HS)) ?_
    · clear hc; go_simp
    go_simp
    refine wpAnyL_takeW (i := 22) (v := .pointer (some ⟨g, 256, none⟩)) rfl (by kernel_rfl) (by kernel_rfl) (by kernel_rfl) (by kernel_rfl) (fun _ _ _ h => h) (Or.inl ⟨by rfl, fun w hc => ?_⟩) (.inl (unhide HS)) ?_
    · clear hc; go_simp
    go_simp
    refine wpAnyL_takeW (i := 23) (v := .pointer (some ⟨g, 262, none⟩)) rfl (by kernel_rfl) (by kernel_rfl) (by kernel_rfl) (by kernel_rfl) (fun _ _ _ h => h) (Or.inl ⟨by rfl, fun w hc => ?_⟩) (.inl (unhide HS)) ?_
    · clear hc; go_simp
    go_simp
    have c1 := (unhide C4).2.1
    have c2 := unhide C6
    refine wpAnyL_one (i := 24) (by kernel_rfl) rfl (fun K2 hK => ?_)
    go_simp
    refine hK.out _ _ (fun h => absurd h (by decide)) ?_
    clear hK K2
    refine wpAnyL_done (by kernel_rfl) ?_ _
    clear c1 c2
    unfold Sl.v at H5 F5
    generalize (wd.setCell ⟨gr, 0, none⟩ (.int .i64 x)).setCell ⟨g, 262, none⟩ (.slice (some ⟨gi, 1, none⟩) xs.length (ic - 1)) = w5 at H5 F5 ⊢
    go_wp2
    go_end0
    first | exact ⟨_, rfl, unhide H5, unhide F5⟩ | exact ⟨rfl, _, unhide H5, unhide F5⟩
end Go.Proofs.YtboedaofbchdkaaDoor

namespace Go.Proofs.YtboedaofbchdkaaDoor
open Go.ChangeShapes Go.WideShapes Go.ChangeAt Go.RowKit
set_option linter.unusedVariables false
set_option maxRecDepth 8000
set_option linter.unusedSimpArgs false
/-- What an action answers, whatever its machine has become. -/
def DoE (g B : Nat) (y : Mv) (t2 : Ms) (st2 : Int) (ok : Bool) (w : World) (e : Ending) (w' : World) : Prop := ∃ y', e = .returned (.bool ok) ∧ AcE ok (Pe w' g B y' t2 st2) (Fm w w' g y y')
set_option maxHeartbeats 2000000 in
theorem exchange_any (g B gr rc op sm sr dm dr : Nat) (sx dx n : Int) (y : Mv) (t : Ms) (st : Int) (w : World) (h : Pz w g B gr rc y t st t.d.m) (hk : Dk t.d) :
    Calls Tryd.prog 95 #[.pointer (some ⟨g, 0, none⟩), .agg #[.int .i64 (op : Int), .int .i64 (sm : Int), .int .i64 (sr : Int), .int .i64 sx, .int .i64 (dm : Int), .int .i64 (dr : Int), .int .i64 dx, .int .i64 n]] w (DoE g B y (t.emt n) st (t.emtB n) w) := by
  have H1 := hide (h.later (below_new w (Obj.cells #[.int .i64 (op : Int), .int .i64 (sm : Int), .int .i64 (sr : Int), .int .i64 sx, .int .i64 (dm : Int), .int .i64 (dr : Int), .int .i64 dx, .int .i64 n] 30)))
  have F1 := hide (Fm.of (g := g) (y := y) (below_new w (Obj.cells #[.int .i64 (op : Int), .int .i64 (sm : Int), .int .i64 (sr : Int), .int .i64 sx, .int .i64 (dm : Int), .int .i64 (dr : Int), .int .i64 dx, .int .i64 n] 30)))
  have k7 := insR 7 _ (heap_alloc_last w (Obj.cells #[.int .i64 (op : Int), .int .i64 (sm : Int), .int .i64 (sr : Int), .int .i64 sx, .int .i64 (dm : Int), .int .i64 (dr : Int), .int .i64 dx, .int .i64 n] 30)) rfl
  by_cases n1 : n = 1
  · subst n1
    have SO := hide (show SoIs g B y t (t.out (t.d.o ++ [nAt t.d.r 0])) st (decide (t.d.o.length < 50)) (w.alloc (Obj.cells #[.int .i64 (op : Int), .int .i64 (sm : Int), .int .i64 (sr : Int), .int .i64 sx, .int .i64 (dm : Int), .int .i64 (dr : Int), .int .i64 dx, .int .i64 1] 30)) from by
      by_cases hl : t.d.o.length < 50
      · rw [decide_eq_true hl]
        exact send_yes g B gr rc y t st _ (unhide H1) hk hl
      · rw [decide_eq_false hl]
        have q := send_no g B gr rc y t st _ (unhide H1) hk (by have := hk.ol; omega)
        unfold SoIs at q ⊢
        exact q.mono fun e w' ⟨y', a, b⟩ => ⟨y', a, ⟨fun h => Bool.noConfusion h, b.fm⟩⟩)
    unfold SoIs at SO
    unfold DoE Ms.emt Ms.emtB
    simp only [if_true]
    generalize decide (t.d.o.length < 50) = ok at SO ⊢
    clear h hk
    go_enter Tryd.func95, Tryd.ntmps95
    go_wp2_with fail
    refine (unhide SO).mono ?_
    rintro e w2 ⟨y2, rfl, a2⟩
    have A2 := hide a2
    clear a2 SO
    go_wp2
    go_ret
    first | exact ⟨y2, rfl, ⟨fun h => (unhide A2).yes h, (unhide F1).trans (unhide A2).fm⟩⟩ | exact ⟨rfl, y2, ⟨fun h => (unhide A2).yes h, (unhide F1).trans (unhide A2).fm⟩⟩
  · by_cases n2 : n = 2
    · subst n2
      have TI := hide (show TiIs g B y (t.emt 2) st (w.alloc (Obj.cells #[.int .i64 (op : Int), .int .i64 (sm : Int), .int .i64 (sr : Int), .int .i64 sx, .int .i64 (dm : Int), .int .i64 (dr : Int), .int .i64 dx, .int .i64 2] 30)) from by
        unfold Ms.emt
        rw [if_neg (by omega)]
        cases hi : t.d.i with
        | nil => exact take_e g B gr rc y t st _ (unhide H1) hk hi
        | cons x xs => exact take_x g B gr rc y t st _ (unhide H1) hk x xs hi)
      unfold TiIs at TI
      unfold DoE Ms.emtB
      simp only [if_neg n1]
      generalize t.emt 2 = t2 at TI ⊢
      clear h hk
      go_enter Tryd.func95, Tryd.ntmps95
      go_wp2_with fail
      refine (unhide TI).mono ?_
      rintro e w2 ⟨y2, rfl, a2, f2⟩
      have A2 := hide a2
      have F2 := hide ((unhide F1).trans f2)
      clear a2 f2 TI
      go_wp2
      go_ret
      first | exact ⟨y2, rfl, ⟨fun _ => unhide A2, unhide F2⟩⟩ | exact ⟨rfl, y2, ⟨fun _ => unhide A2, unhide F2⟩⟩
    · unfold DoE Ms.emtB
      rw [if_neg n1, decide_eq_false n2]
      clear h hk
      go_enter Tryd.func95, Tryd.ntmps95
      go_wp2
      go_ret
      first | exact ⟨y, rfl, ⟨fun h => by simp at h, unhide F1⟩⟩ | exact ⟨rfl, y, ⟨fun h => by simp at h, unhide F1⟩⟩
theorem or_w {d s : Int} (d0 : 0 ≤ d) (d1 : d ≤ 65535) (s0 : 0 ≤ s) (s1 : s ≤ 65535) : 0 ≤ bits .or .i64 d s ∧ bits .or .i64 d s ≤ 65535 := by
  obtain ⟨a, rfl⟩ := Int.eq_ofNat_of_zero_le d0
  obtain ⟨b, rfl⟩ := Int.eq_ofNat_of_zero_le s0
  rw [(bits_nat .i64 16 (by decide) (fun n h0 h1 => by rw [IntKind.wrap_i64]; omega) a b (by omega) (by omega)).2]
  have : a ||| b < 2 ^ 16 := Nat.or_lt_two_pow (by omega) (by omega)
  omega
theorem andNot_w {d s : Int} (d0 : 0 ≤ d) (d1 : d ≤ 65535) (s0 : 0 ≤ s) (s1 : s ≤ 65535) : 0 ≤ bits .andNot .i64 d s ∧ bits .andNot .i64 d s ≤ 65535 := by
  obtain ⟨a, rfl⟩ := Int.eq_ofNat_of_zero_le d0
  obtain ⟨b, rfl⟩ := Int.eq_ofNat_of_zero_le s0
  have hx : (BitVec.ofInt 64 (a : Int) &&& ~~~BitVec.ofInt 64 (b : Int)).toNat ≤ a := by
    rw [BitVec.toNat_and]
    refine Nat.le_trans Nat.and_le_left ?_
    rw [BitVec.toNat_ofInt]
    omega
  have e : bits .andNot .i64 (a : Int) (b : Int) = IntKind.i64.wrap ((BitVec.ofInt 64 (a : Int) &&& ~~~BitVec.ofInt 64 (b : Int)).toNat : Int) := rfl
  rw [e, IntKind.wrap_i64]
  omega
theorem wkR_w (op : Nat) {s d : Int} (s0 : 0 ≤ s) (s1 : s ≤ 65535) (d0 : 0 ≤ d) (d1 : d ≤ 65535) : 0 ≤ wkR op s d ∧ wkR op s d ≤ 65535 := by
  unfold wkR
  split
  · omega
  · omega
  · exact andNot_w d0 d1 s0 s1
  · exact or_w d0 d1 s0 s1
  all_goals omega
theorem stD_mod (d : Md) (r a n : Int) : d.stD r a (n % 65536) = d.stD r a n := by
  unfold Md.stD Md.put
  rw [Int.emod_emod]
theorem sgB_w {n : Int} (h0 : 0 ≤ n) (h1 : n ≤ 65535) : sgB n = sgI n := by
  unfold sgB sgI
  rw [Int.emod_eq_of_lt h0 (by omega)]
theorem sgB_m (n : Int) : sgB n = sgI (n % 65536) := rfl
/-- What an instruction of two operands leaves: the program's is the model's. -/
theorem two_eqI (t : Ms) (op : Nat) (s qr qa : Int) (ho : 1 ≤ op ∧ op ≤ 6 ∧ op ≠ 2) (s0 : 0 ≤ s) (s1 : s ≤ 65535) (d0 : 0 ≤ t.d.ldV qr qa) (d1 : t.d.ldV qr qa ≤ 65535) :
    ((t.wk op s (t.d.ldV qr qa)).nzI (wkR op s (t.d.ldV qr qa))).st qr qa (wkR op s (t.d.ldV qr qa)) = t.two op s qr qa := by
  have e : op = 1 ∨ op = 3 ∨ op = 4 ∨ op = 5 ∨ op = 6 := by omega
  rcases e with rfl | rfl | rfl | rfl | rfl
  · simp only [Ms.two, Ms.st, Ms.nzI, Ms.wk, Ms.nz, wkR, wkV, wkC, sgB_w s0 s1, Int.emod_eq_of_lt s0 (show s < 65536 by omega)]
  · have b := andNot_w d0 d1 s0 s1
    simp only [Ms.two, Ms.st, Ms.nzI, Ms.wk, Ms.nz, wkR, wkV, wkC, sgB_w b.1 b.2, Int.emod_eq_of_lt b.1 (show bits .andNot .i64 (t.d.ldV qr qa) s < 65536 by omega)]
  · have b := or_w d0 d1 s0 s1
    simp only [Ms.two, Ms.st, Ms.nzI, Ms.wk, Ms.nz, wkR, wkV, wkC, sgB_w b.1 b.2, Int.emod_eq_of_lt b.1 (show bits .or .i64 (t.d.ldV qr qa) s < 65536 by omega)]
  · simp only [Ms.two, Ms.st, Ms.cs, Ms.nzI, Ms.wk, Ms.nz, wkR, wkV, wkC, sgB_w s0 s1, sgB_w d0 d1, sgB_m ((t.d.ldV qr qa + s) % 65536), Int.emod_emod, Int.add_comm s (t.d.ldV qr qa)]
    congr 1
    · generalize sgI s = a
      generalize sgI (t.d.ldV qr qa) = b
      cases a <;> cases b <;> rfl
    · unfold inB
      by_cases h : 65535 < t.d.ldV qr qa + s
      · rw [decide_eq_true h]; simp; omega
      · rw [decide_eq_false h]; simp; omega
  · simp only [Ms.two, Ms.st, Ms.cs, Ms.nzI, Ms.wk, Ms.nz, wkR, wkV, wkC, sgB_w s0 s1, sgB_w d0 d1, sgB_m ((t.d.ldV qr qa - s) % 65536), Int.emod_emod]
    congr 1
    generalize sgI s = a
    generalize sgI (t.d.ldV qr qa) = b
    cases a <;> cases b <;> rfl
theorem cmp_eqI (t : Ms) (s qr qa : Int) (s0 : 0 ≤ s) (s1 : s ≤ 65535) (d0 : 0 ≤ t.d.ldV qr qa) (d1 : t.d.ldV qr qa ≤ 65535) :
    (t.wk 2 s (t.d.ldV qr qa)).nzI (wkR 2 s (t.d.ldV qr qa)) = t.two 2 s qr qa := by
  simp only [Ms.two, Ms.st, Ms.cs, Ms.nzI, Ms.wk, Ms.nz, wkR, wkV, wkC, sgB_w s0 s1, sgB_w d0 d1, sgB_m ((s - t.d.ldV qr qa) % 65536), Int.emod_emod]
theorem one_eqI (t : Ms) (op : Nat) (qr qa : Int) (ho : 7 ≤ op ∧ op ≤ 13 ∧ op ≠ 11) (d0 : 0 ≤ t.d.ldV qr qa) (d1 : t.d.ldV qr qa ≤ 65535) :
    ((t.wk op 0 (t.d.ldV qr qa)).nzI (wkR op 0 (t.d.ldV qr qa))).st qr qa (wkR op 0 (t.d.ldV qr qa)) = t.one op qr qa := by
  have e : op = 7 ∨ op = 8 ∨ op = 9 ∨ op = 10 ∨ op = 12 ∨ op = 13 := by omega
  rcases e with rfl | rfl | rfl | rfl | rfl | rfl
  · simp only [Ms.one, Ms.st, Ms.cs, Ms.nzI, Ms.wk, Ms.nz, wkR, wkV, wkC]
    rfl
  · simp only [Ms.one, Ms.st, Ms.cs, Ms.nzI, Ms.wk, Ms.nz, wkR, wkV, wkC, sgB_m, stD_mod]
  · simp only [Ms.one, Ms.st, Ms.cs, Ms.nzI, Ms.wk, Ms.nz, wkR, wkV, wkC, sgB_m, stD_mod]
  · simp only [Ms.one, Ms.st, Ms.cs, Ms.nzI, Ms.wk, Ms.nz, wkR, wkV, wkC, sgB_m, stD_mod]
    congr 1
    · by_cases h : t.d.ldV qr qa = 32768
      · rw [h]; rfl
      · rw [beq_false_of_ne h, beq_false_of_ne (by omega)]
    · by_cases h : t.d.ldV qr qa = 0
      · rw [h]; rfl
      · simp only [bne]
        rw [beq_false_of_ne h, beq_false_of_ne (by omega)]
  · simp only [Ms.one, Ms.shift, Ms.st, Ms.cs, Ms.nzI, Ms.wk, Ms.nz, wkR, wkV, wkC, shR, shC, sgB_m, stD_mod, Int.emod_emod, if_true]
  · simp only [Ms.one, Ms.shift, Ms.st, Ms.cs, Ms.nzI, Ms.wk, Ms.nz, wkR, wkV, wkC, shR, shC, stD_mod, sgB_m ((t.d.ldV qr qa * 2) % 65536), Int.emod_emod, sgB_w d0 d1, Int.mul_comm 2, show ¬ (13 : Nat) = 12 by omega, if_false]
theorem tst_eqI (t : Ms) (qr qa : Int) (d0 : 0 ≤ t.d.ldV qr qa) (d1 : t.d.ldV qr qa ≤ 65535) :
    (t.wk 11 0 (t.d.ldV qr qa)).nzI (wkR 11 0 (t.d.ldV qr qa)) = t.one 11 qr qa := by
  simp only [Ms.one, Ms.cs, Ms.nzI, Ms.wk, Ms.nz, wkR, wkV, wkC, sgB_w d0 d1, Int.emod_eq_of_lt d0 (show t.d.ldV qr qa < 65536 by omega)]
/-- Whether an instruction is none that faults. -/
def Ms.doB (t : Ms) (op sm sr dm dr : Nat) (n : Int) : Bool :=
  if op ≤ 13 then t.woB op sm sr dm dr else if op = 14 then tgO t dm dr else if op = 15 then clO t dm dr else if op = 16 then (t.back1 n.toNat).d.has (nAt t.d.r 6) else if op ≤ 22 then true else t.emtB n
/-- What it leaves. -/
def Ms.dos (t : Ms) (op sm sr dm dr : Nat) (n : Int) : Ms :=
  if op ≤ 6 then ((t.op sm sr).op dm dr).two op (t.opV sm sr) ((t.op sm sr).d.plR dm dr) ((t.op sm sr).d.plA dm dr)
  else if op ≤ 13 then (t.op dm dr).one op (t.d.plR dm dr) (t.d.plA dm dr)
  else if op = 14 then (t.op dm dr).rg 7 (t.d.plA dm dr)
  else if op = 15 then (t.op dm dr).call n.toNat (t.d.plA dm dr)
  else if op = 16 then t.back n.toNat
  else if op ≤ 21 then t.branch op n
  else if op = 22 then t
  else t.emt n
def doS (op : Nat) (st : Int) : Int := if op = 22 then 1 else st
/-- The numbers of an instruction that is right. -/
structure InsN (op sm sr dm dr : Nat) (n : Int) : Prop where
  lo : 1 ≤ op
  hi : op ≤ 23
  src : op ≤ 6 → sm ≤ 7 ∧ sr < 8
  dst : op ≤ 15 → dm ≤ 7 ∧ dr < 8
  reg : op = 15 ∨ op = 16 → 0 ≤ n ∧ n ≤ 7
  bra : 17 ≤ op ∧ op ≤ 21 → -1000 ≤ n ∧ n ≤ 1000
/-- The action's value, and what its call answers. -/
def DoV (g B op sm sr dm dr b : Nat) (sx dx n : Int) (y : Mv) (t : Ms) (st : Int) (w : World) : Prop :=
  (∃ fn, actV op b = .func (.func fn) #[] #[.pointer (some ⟨b, 0, none⟩)] ∧ (∀ vs w, (callFunc fn vs).run Tryd.prog w = .ok (.enter fn vs) w) ∧ Calls Tryd.prog fn #[.pointer (some ⟨g, 0, none⟩), .agg #[.int .i64 (op : Int), .int .i64 (sm : Int), .int .i64 (sr : Int), .int .i64 sx, .int .i64 (dm : Int), .int .i64 (dr : Int), .int .i64 dx, .int .i64 n], .pointer (some ⟨b, 0, none⟩)] w (DoE g B y (t.dos op sm sr dm dr n) (doS op st) (t.doB op sm sr dm dr n) w)) ∨
  (∃ fn, actV op b = .func (.func fn) #[] #[] ∧ (∀ vs w, (callFunc fn vs).run Tryd.prog w = .ok (.enter fn vs) w) ∧ Calls Tryd.prog fn #[.pointer (some ⟨g, 0, none⟩), .agg #[.int .i64 (op : Int), .int .i64 (sm : Int), .int .i64 (sr : Int), .int .i64 sx, .int .i64 (dm : Int), .int .i64 (dr : Int), .int .i64 dx, .int .i64 n]] w (DoE g B y (t.dos op sm sr dm dr n) (doS op st) (t.doB op sm sr dm dr n) w))
section
variable {g B gr rc op sm sr dm dr b : Nat} {sx dx n : Int} {y : Mv} {t : Ms} {st : Int} {w : World}
theorem do_st (f : Nat) (h : Pz w g B gr rc y t st t.d.m) (hk : Dk t.d) (hi : InsN op sm sr dm dr n) (h13 : op ≤ 13) (hn : op ≠ 2 ∧ op ≠ 11) (wk : WkIs f op) (hcf : ∀ vs w, (callFunc f vs).run Tryd.prog w = .ok (.enter f vs) w) (hb : Bx w b f 118) :
    Calls Tryd.prog 100 #[.pointer (some ⟨g, 0, none⟩), .agg #[.int .i64 (op : Int), .int .i64 (sm : Int), .int .i64 (sr : Int), .int .i64 sx, .int .i64 (dm : Int), .int .i64 (dr : Int), .int .i64 dx, .int .i64 n], .pointer (some ⟨b, 0, none⟩)] w (DoE g B y (t.dos op sm sr dm dr n) (doS op st) (t.doB op sm sr dm dr n) w) := by
  have d := hi.dst (by omega)
  have VB := sV_b hk op sm sr
  have DB := op_v (dk_sT hk op sm sr) dm dr
  have RB := wkR_w op VB.1 VB.2 DB.1 DB.2
  have q := stored_any f b g B gr rc op sm sr dm dr sx dx n y t st w h hk hi.lo h13 hi.src d.1 d.2 wk hcf hb RB.1 RB.2
  unfold ActIs at q
  have e1 : t.doB op sm sr dm dr n = t.woB op sm sr dm dr := by unfold Ms.doB; rw [if_pos h13]
  have e2 : doS op st = st := by unfold doS; rw [if_neg (by omega)]
  have e3 : (t.wo op sm sr dm dr).st ((t.sT op sm sr).d.plR dm dr) ((t.sT op sm sr).d.plA dm dr) (wkS t op sm sr dm dr) = t.dos op sm sr dm dr n := by
    unfold Ms.dos Ms.wo wkS Ms.woT
    by_cases h6 : op ≤ 6
    · have s0 := op_v hk sm sr
      have d0 := op_v (dk_op hk sm sr) dm dr
      simp only [Ms.sT, Ms.sV, if_pos h6]
      exact two_eqI _ op (t.opV sm sr) _ _ ⟨hi.lo, h6, hn.1⟩ s0.1 s0.2 d0.1 d0.2
    · have d0 := op_v hk dm dr
      simp only [Ms.sT, Ms.sV, if_neg h6, if_pos h13]
      exact one_eqI _ op _ _ ⟨by omega, h13, hn.2⟩ d0.1 d0.2
  rw [e1, e2, ← e3]
  exact q.mono fun e w' ⟨a, c⟩ => ⟨_, a, ⟨fun ho => (c.yes ho).pe (dk_op (dk_sT hk op sm sr) dm dr).ml, c.fm.dst (fun b hb => hb)⟩⟩
theorem do_td (f : Nat) (h : Pz w g B gr rc y t st t.d.m) (hk : Dk t.d) (hi : InsN op sm sr dm dr n) (hn : op = 2 ∨ op = 11) (wk : WkIs f op) (hcf : ∀ vs w, (callFunc f vs).run Tryd.prog w = .ok (.enter f vs) w) (hb : Bx w b f 118) :
    Calls Tryd.prog 102 #[.pointer (some ⟨g, 0, none⟩), .agg #[.int .i64 (op : Int), .int .i64 (sm : Int), .int .i64 (sr : Int), .int .i64 sx, .int .i64 (dm : Int), .int .i64 (dr : Int), .int .i64 dx, .int .i64 n], .pointer (some ⟨b, 0, none⟩)] w (DoE g B y (t.dos op sm sr dm dr n) (doS op st) (t.doB op sm sr dm dr n) w) := by
  have h13 : op ≤ 13 := by omega
  have d := hi.dst (by omega)
  have q := told_any f b g B gr rc op sm sr dm dr sx dx n y t st w h hk hi.lo h13 hi.src d.1 d.2 wk hcf hb
  unfold ActIs at q
  have e1 : t.doB op sm sr dm dr n = t.woB op sm sr dm dr := by unfold Ms.doB; rw [if_pos h13]
  have e2 : doS op st = st := by unfold doS; rw [if_neg (by omega)]
  have e3 : t.wo op sm sr dm dr = t.dos op sm sr dm dr n := by
    unfold Ms.dos Ms.wo wkS Ms.woT
    rcases hn with rfl | rfl
    · have s0 := op_v hk sm sr
      have d0 := op_v (dk_op hk sm sr) dm dr
      exact cmp_eqI _ (t.opV sm sr) _ _ s0.1 s0.2 d0.1 d0.2
    · have d0 := op_v hk dm dr
      exact tst_eqI _ _ _ d0.1 d0.2
  rw [e1, e2, ← e3]
  exact q.mono fun e w' ⟨a, c⟩ => ⟨_, a, ⟨fun ho => (c.yes ho).pe (dk_op (dk_sT hk op sm sr) dm dr).ml, c.fm.dst (fun b hb => hb)⟩⟩
theorem do_br (f : Nat) (q : Ms → Bool) (h : Pz w g B gr rc y t st t.d.m) (hk : Dk t.d) (hi : InsN op sm sr dm dr n) (ho : 17 ≤ op ∧ op ≤ 21) (G : GoesIs f q) (eq : t.goes op = q t) (hcf : ∀ vs w, (callFunc f vs).run Tryd.prog w = .ok (.enter f vs) w) (hb : Bx w b f 112) :
    Calls Tryd.prog 111 #[.pointer (some ⟨g, 0, none⟩), .agg #[.int .i64 (op : Int), .int .i64 (sm : Int), .int .i64 (sr : Int), .int .i64 sx, .int .i64 (dm : Int), .int .i64 (dr : Int), .int .i64 dx, .int .i64 n], .pointer (some ⟨b, 0, none⟩)] w (DoE g B y (t.dos op sm sr dm dr n) (doS op st) (t.doB op sm sr dm dr n) w) := by
  have r := br_goes f b g B gr rc op sm sr dm dr sx dx n y t st _ w q G hcf h hk (hi.bra ho) hb
  have e1 : t.doB op sm sr dm dr n = true := by unfold Ms.doB; rw [if_neg (by omega), if_neg (by omega), if_neg (by omega), if_neg (by omega), if_pos (by omega)]
  have e2 : doS op st = st := by unfold doS; rw [if_neg (by omega)]
  have e3 : t.dos op sm sr dm dr n = if q t = true then t.rg 7 ((nAt t.d.r 7 + 2 * n) % 65536) else t := by
    unfold Ms.dos; rw [if_neg (by omega), if_neg (by omega), if_neg (by omega), if_neg (by omega), if_neg (by omega), if_pos ho.2]; unfold Ms.branch; rw [eq]
  rw [e1, e2, e3]
  exact r.mono fun e w' ⟨a, c, f⟩ => ⟨y, a, ⟨fun _ => c.pe hk.ml, f⟩⟩
end
set_option maxHeartbeats 1000000 in
theorem do_any (g B gr rc op sm sr dm dr b C : Nat) (sx dx n : Int) (y : Mv) (t : Ms) (st : Int) (w : World) (h : Pz w g B gr rc y t st t.d.m) (hk : Dk t.d) (hi : InsN op sm sr dm dr n) (hb : actB C w op b) : DoV g B op sm sr dm dr b sx dx n y t st w := by
  have e : op = 1 ∨ op = 2 ∨ op = 3 ∨ op = 4 ∨ op = 5 ∨ op = 6 ∨ op = 7 ∨ op = 8 ∨ op = 9 ∨ op = 10 ∨ op = 11 ∨ op = 12 ∨ op = 13 ∨ op = 14 ∨ op = 15 ∨ op = 16 ∨ op = 17 ∨ op = 18 ∨ op = 19 ∨ op = 20 ∨ op = 21 ∨ op = 22 ∨ op = 23 := by have := hi.lo; have := hi.hi; omega
  rcases e with rfl | rfl | rfl | rfl | rfl | rfl | rfl | rfl | rfl | rfl | rfl | rfl | rfl | rfl | rfl | rfl | rfl | rfl | rfl | rfl | rfl | rfl | rfl
  · exact .inl ⟨_, rfl, (fun _ _ => by simp [go_sem]), do_st _ h hk hi (by omega) (by omega) wk_1 (fun _ _ => by simp [go_sem]) hb.2⟩
  · exact .inl ⟨_, rfl, (fun _ _ => by simp [go_sem]), do_td _ h hk hi (by omega) wk_2 (fun _ _ => by simp [go_sem]) hb.2⟩
  · exact .inl ⟨_, rfl, (fun _ _ => by simp [go_sem]), do_st _ h hk hi (by omega) (by omega) wk_3 (fun _ _ => by simp [go_sem]) hb.2⟩
  · exact .inl ⟨_, rfl, (fun _ _ => by simp [go_sem]), do_st _ h hk hi (by omega) (by omega) wk_4 (fun _ _ => by simp [go_sem]) hb.2⟩
  · exact .inl ⟨_, rfl, (fun _ _ => by simp [go_sem]), do_st _ h hk hi (by omega) (by omega) wk_5 (fun _ _ => by simp [go_sem]) hb.2⟩
  · exact .inl ⟨_, rfl, (fun _ _ => by simp [go_sem]), do_st _ h hk hi (by omega) (by omega) wk_6 (fun _ _ => by simp [go_sem]) hb.2⟩
  · exact .inl ⟨_, rfl, (fun _ _ => by simp [go_sem]), do_st _ h hk hi (by omega) (by omega) wk_7 (fun _ _ => by simp [go_sem]) hb.2⟩
  · exact .inl ⟨_, rfl, (fun _ _ => by simp [go_sem]), do_st _ h hk hi (by omega) (by omega) wk_8 (fun _ _ => by simp [go_sem]) hb.2⟩
  · exact .inl ⟨_, rfl, (fun _ _ => by simp [go_sem]), do_st _ h hk hi (by omega) (by omega) wk_9 (fun _ _ => by simp [go_sem]) hb.2⟩
  · exact .inl ⟨_, rfl, (fun _ _ => by simp [go_sem]), do_st _ h hk hi (by omega) (by omega) wk_10 (fun _ _ => by simp [go_sem]) hb.2⟩
  · exact .inl ⟨_, rfl, (fun _ _ => by simp [go_sem]), do_td _ h hk hi (by omega) wk_11 (fun _ _ => by simp [go_sem]) hb.2⟩
  · exact .inl ⟨_, rfl, (fun _ _ => by simp [go_sem]), do_st _ h hk hi (by omega) (by omega) wk_12 (fun _ _ => by simp [go_sem]) hb.2⟩
  · exact .inl ⟨_, rfl, (fun _ _ => by simp [go_sem]), do_st _ h hk hi (by omega) (by omega) wk_13 (fun _ _ => by simp [go_sem]) hb.2⟩
  · refine .inr ⟨_, rfl, (fun _ _ => by simp [go_sem]), ?_⟩
    have d := hi.dst (by omega)
    have q := jump_any g B gr rc 14 sm sr dm dr sx dx n y t st w h hk d.1 d.2
    unfold JpIs at q
    exact q.mono fun e w' ⟨a, c⟩ => ⟨y, a, ⟨fun ho => (c.yes ho).pe (dk_op hk dm dr).ml, c.fm⟩⟩
  · refine .inr ⟨_, rfl, (fun _ _ => by simp [go_sem]), ?_⟩
    have d := hi.dst (by omega)
    have r := hi.reg (.inl rfl)
    obtain ⟨k, rfl⟩ := Int.eq_ofNat_of_zero_le r.1
    have q : ClIs g B gr rc 15 sm sr dm dr k sx dx y t st (clO t dm dr) w := by
      cases hc : clO t dm dr
      · exact call_no g B gr rc 15 sm sr dm dr k sx dx y t st w h hk d.1 d.2 hc
      · exact call_yes g B gr rc 15 sm sr dm dr k sx dx y t st w h hk d.1 d.2 (by omega) hc
    unfold ClIs at q
    exact q.mono fun e w' ⟨a, c⟩ => ⟨y, a, ⟨fun ho => (c.yes ho).pe (dk_op hk dm dr).ml, c.fm⟩⟩
  · refine .inr ⟨_, rfl, (fun _ _ => by simp [go_sem]), ?_⟩
    have r := hi.reg (.inr rfl)
    obtain ⟨k, rfl⟩ := Int.eq_ofNat_of_zero_le r.1
    have q := back_anyI g B gr rc 16 sm sr dm dr k sx dx y t st w h hk (by omega)
    unfold CbIs at q
    exact q.mono fun e w' ⟨a, c⟩ => ⟨y, a, ⟨fun ho => (c.yes ho).pe hk.ml, c.fm⟩⟩
  · exact .inl ⟨_, rfl, (fun _ _ => by simp [go_sem]), do_br _ _ h hk hi (by omega) goes_always rfl (fun _ _ => by simp [go_sem]) hb.2⟩
  · exact .inl ⟨_, rfl, (fun _ _ => by simp [go_sem]), do_br _ _ h hk hi (by omega) goes_notZero rfl (fun _ _ => by simp [go_sem]) hb.2⟩
  · exact .inl ⟨_, rfl, (fun _ _ => by simp [go_sem]), do_br _ _ h hk hi (by omega) goes_zero rfl (fun _ _ => by simp [go_sem]) hb.2⟩
  · exact .inl ⟨_, rfl, (fun _ _ => by simp [go_sem]), do_br _ _ h hk hi (by omega) goes_notLess rfl (fun _ _ => by simp [go_sem]) hb.2⟩
  · exact .inl ⟨_, rfl, (fun _ _ => by simp [go_sem]), do_br _ _ h hk hi (by omega) goes_less rfl (fun _ _ => by simp [go_sem]) hb.2⟩
  · refine .inr ⟨_, rfl, (fun _ _ => by simp [go_sem]), ?_⟩
    exact (halt_any g B gr rc 22 sm sr dm dr sx dx n y t st w h hk).mono fun e w' ⟨a, c, f⟩ => ⟨_, a, ⟨fun _ => c.pe hk.ml, f⟩⟩
  · refine .inr ⟨_, rfl, (fun _ _ => by simp [go_sem]), ?_⟩
    exact exchange_any g B gr rc 23 sm sr dm dr sx dx n y t st w h hk
end Go.Proofs.YtboedaofbchdkaaDoor
