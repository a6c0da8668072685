/- Contracts over this seat's translation, laid together; conditions stand as hypotheses of each. -/
import Derived.Test.YtmhcbehplhfgfaaDoorTxA
import Derived.Test.YtmhcbehplhfgfaaDoorTxB

namespace Go.Proofs.YtmhcbehplhfgfaaDoor
open Go.ChangeShapes Go.WideShapes Go.ChangeAt Go.RowKit
set_option linter.unusedVariables false
set_option maxRecDepth 8000

theorem box4 (w : World) (e : Ex) (b : Option Addr) (cap : Nat) (ty : TypeId) : (w.alloc (.cells (e.cs b cap) ty)).cell? ⟨w.heap.size, 0, none⟩ = some (.int .i64 e.k) ∧ (w.alloc (.cells (e.cs b cap) ty)).cell? ⟨w.heap.size, 1, none⟩ = some (.int .i64 e.n) ∧ (w.alloc (.cells (e.cs b cap) ty)).cell? ⟨w.heap.size, 2, none⟩ = some (.string e.s) ∧ (w.alloc (.cells (e.cs b cap) ty)).cell? ⟨w.heap.size, 3, none⟩ = some (.slice b e.l.length cap) := by
  have h : (w.alloc (.cells (e.cs b cap) ty)).heap[w.heap.size]? = some (.cells (e.cs b cap) ty (0, 0)) := Array.getElem?_push_size
  exact ⟨Lib.cell_of_heap h 0, Lib.cell_of_heap h 1, Lib.cell_of_heap h 2, Lib.cell_of_heap h 3⟩
theorem all_take (l : List Ex) (f : Ex → Bool) (k : Nat) (h : k < l.length) : (l.take (k + 1)).all f = ((l.take k).all f && f (xAt l k)) := by
  rw [List.take_succ_eq_append_getElem h, List.all_append, xAt_get h]
  simp
theorem all_part {l : List Ex} {f : Ex → Bool} {k : Nat} (h : k < l.length) (hf : f (xAt l k) = false) : l.all f = false := by
  rw [List.all_eq_false]
  exact ⟨_, xAt_mem h, by rw [hf]; decide⟩
theorem okF_s (d : Nat) (p : Bool) (e : Ex) : okF (d + 1) p e = (e.here && (!(p && (e.k == 11 || e.k == 12)) && e.l.all (okF d p))) := rfl
set_option maxHeartbeats 2000000 in
theorem okS_all : ∀ d : Nat, d ≤ 6 → ∀ (e : Ex) (b : Option Addr) (cap : Nat) (p : Bool) (w : World), RdX w 0 e b → e.sz ≤ 1048576 → Calls Tryd.prog 38 #[.agg (e.cs b cap), .int .i64 (7 - (d : Int)), .bool p] w fun r w' => r = .returned (.bool (okF d p e)) ∧ Below w.heap.size w w' := by
  intro d
  induction d with
  | zero =>
    intro _ e b cap p w hr hz
    have B0 := hide (below_new w (.cells (e.cs b cap) 31))
    rw [show okF 0 p e = false from rfl]
    unfold Ex.cs at B0 ⊢
    go_enter Tryd.func38, Tryd.ntmps38
    go_wp2
    go_ret
    exact ⟨rfl, unhide B0⟩
  | succ d ih =>
    intro hd e b cap p w hr hz
    have hsz := sz_is e
    rw [okF_s]
    have hbW := below_new w (.cells (e.cs b cap) 31)
    have B0 := hide hbW
    have HH := hereS_any e b cap (w.alloc (.cells (e.cs b cap) 31)) (by omega) (by omega)
    obtain ⟨x0, x1, x2, x3⟩ := box4 w e b cap 31
    have xl : w.heap.size < (w.alloc (.cells (e.cs b cap) 31)).heap.size := by simp
    have hrW := hr.later hbW
    rw [RdX_eq] at hrW
    have hp : ∀ i, i < e.l.length → (xAt e.l i).sz ≤ 1048576 := fun i hi => by have := sz_part hi; omega
    have hm : e.l.length ≤ 1048576 := by omega
    have ihd := ih (by omega)
    have hD : (7 : Int) - ((d + 1 : Nat) : Int) + 1 = 7 - (d : Int) := by omega
    have hD6 : ¬ (6 < (7 : Int) - ((d + 1 : Nat) : Int)) := by omega
    have hDb : -100 ≤ (7 : Int) - ((d + 1 : Nat) : Int) ∧ (7 : Int) - ((d + 1 : Nat) : Int) ≤ 100 := by omega
    generalize hDD : (7 : Int) - ((d + 1 : Nat) : Int) = DD at *
    clear hr hsz hz hbW ih hDD
    generalize e.here = hq at *
    unfold Ex.cs at B0 HH x0 x1 x2 x3 xl hrW ⊢
    generalize e.l = l at *
    generalize e.k = k at *
    generalize e.n = n at *
    generalize e.s = s at *
    obtain ⟨len, hl⟩ : ∃ len, l.length = len := ⟨_, rfl⟩
    rw [hl] at hm hp HH x0 x1 x2 x3 B0 xl hrW ⊢
    obtain ⟨W, hW⟩ : ∃ W, w.alloc (.cells #[.int .i64 k, .int .i64 n, .string s, .slice b len cap] 31) = W := ⟨_, rfl⟩
    rw [hW] at HH x0 x1 x2 x3 B0 xl hrW
    have HC := hide HH
    have E0 : ∀ y : Sub W.heap.size W, y.w.cell? ⟨w.heap.size, 0, none⟩ = _ := fun y => (y.h.cell (p := ⟨w.heap.size, _, none⟩) xl).trans x0
    have E3 : ∀ y : Sub W.heap.size W, y.w.cell? ⟨w.heap.size, 3, none⟩ = _ := fun y => (y.h.cell (p := ⟨w.heap.size, _, none⟩) xl).trans x3
    have ne := Sub.ne W.heap.size W
    have HZ := hide (Nat.le_refl W.heap.size)
    have HB := hide (fun y : Sub W.heap.size W => (unhide B0).trans (y.h.mono (unhide B0).size))
    clear HH xl
    obtain ⟨T, hT⟩ : ∃ T, (hq && (!(p && (k == 11 || k == 12)) && l.all (okF d p))) = T := ⟨_, rfl⟩
    have HT := hide hT
    rw [hT]
    clear hT
    go_enter Tryd.func38, Tryd.ntmps38
    go_wp2_with fail
    refine (Sub.call (x := ⟨W, Below.refl _ _⟩) (unhide HZ) (unhide HC)).mono ?_
    rintro r _ ⟨rfl, y, rfl⟩
    clear HC x0 x1 x2 x3
    cases hq with
    | false =>
      have EF := hide ((unhide HT).symm.trans (Bool.false_and _))
      go_wp2
      go_ret
      exact ⟨by rw [unhide EF]; rfl, unhide HB _⟩
    | true =>
      by_cases hx : (p && (k == 11 || k == 12)) = true
      · have EF := hide (show T = false by rw [← unhide HT, hx]; rfl)
        have hpp : p = true := by cases p with | true => rfl | false => simp at hx
        subst hpp
        by_cases h11 : k = 11
        · subst h11
          go_wp2
          go_ret
          exact ⟨by rw [unhide EF]; rfl, unhide HB _⟩
        · have h12 : k = 12 := by simpa [h11] using hx
          subst h12
          go_wp2
          go_ret
          exact ⟨by rw [unhide EF]; rfl, unhide HB _⟩
      · have hxf : (p && (k == 11 || k == 12)) = false := by simpa using hx
        rw [hxf] at HT
        have HT := hide (show l.all (okF d p) = T by rw [← unhide HT]; simp)
        clear hxf
        cases p with
        | false =>
          clear hx
          go_wp2
          go_loopw [7] (fun i wr => ∃ (j : Nat) (z : Sub W.heap.size W), j ≤ len ∧ i = .int .i64 j ∧ (l.take j).all (okF d false) = true ∧ wr = z.w) (fun i _ => len - (intOf i).toNat)
          case atStart => exact ⟨0, y, Nat.zero_le _, rfl, rfl, rfl⟩
          case round =>
            obtain ⟨j, z, hj, rfl, hdone, rfl⟩ := hrel
            have HD := hide hdone
            clear hdone
            by_cases hlt : j < len
            · rcases hrW with h0 | ⟨p1, po, hb1, _, hp1, hpc⟩
              · rw [h0] at hl; simp at hl; omega
              subst hb1
              obtain ⟨e0, e1, e2, pc, pp, e3, e4⟩ := hpc j (by omega)
              have d0 : ∀ y : Sub W.heap.size W, y.w.cell? ⟨p1, po + j * 4, none⟩ = _ := fun y => (y.h.cell (p := ⟨p1, _, none⟩) hp1).trans e0
              have d1 : ∀ y : Sub W.heap.size W, y.w.cell? ⟨p1, po + j * 4 + 1, none⟩ = _ := fun y => (y.h.cell (p := ⟨p1, _, none⟩) hp1).trans e1
              have d2 : ∀ y : Sub W.heap.size W, y.w.cell? ⟨p1, po + j * 4 + 2, none⟩ = _ := fun y => (y.h.cell (p := ⟨p1, _, none⟩) hp1).trans e2
              have d3 : ∀ y : Sub W.heap.size W, y.w.cell? ⟨p1, po + j * 4 + 3, none⟩ = _ := fun y => (y.h.cell (p := ⟨p1, _, none⟩) hp1).trans e3
              have HE := hide (fun y : Sub W.heap.size W => ihd (xAt l j) pc pp false y.w (e4.later y.h) (hp j hlt))
              have AT := hide (all_take l (okF d false) j (by omega))
              have AP := hide (fun h => all_part (f := okF d false) (show j < l.length by omega) h)
              clear e0 e1 e2 e3 e4 hpc ihd hp
              unfold Ex.cs at HE
              generalize okF d false (xAt l j) = q at *
              generalize (xAt l j).s = ss at *
              generalize (xAt l j).k = kk at *
              generalize (xAt l j).n = nn at *
              generalize (xAt l j).l.length = ll at *
              cases q with
              | false =>
                have EF := hide ((unhide HT).symm.trans (unhide AP rfl))
                go_wp2_with (go_at_call 38; refine (Sub.call (unhide HZ) (unhide HE _)).mono ?_; rintro r _ ⟨rfl, z2, rfl⟩)
                go_ret
                exact ⟨by rw [unhide EF]; rfl, unhide HB _⟩
              | true =>
                go_wp2_with (go_at_call 38; refine (Sub.call (unhide HZ) (unhide HE _)).mono ?_; rintro r _ ⟨rfl, z2, rfl⟩)
                go_roundw
                case rel => exact ⟨j + 1, z2, by omega, by go_num, by rw [unhide AT, unhide HD]; rfl, rfl⟩
                case measure => simp [intOf]; omega
            · obtain rfl : j = len := by omega
              have EF := hide ((unhide HT).symm.trans ((show l.all (okF d false) = (l.take j).all (okF d false) by rw [← hl, List.take_length]).trans (unhide HD)))
              go_wp2
              go_ret
              exact ⟨by rw [unhide EF]; rfl, unhide HB _⟩
        | true =>
          have h11 : (k == 11) = false := by simp at hx; simp [hx.1]
          have h12 : (k == 12) = false := by simp at hx; simp [hx.2]
          clear hx
          go_wp2
          go_loopw [7] (fun i wr => ∃ (j : Nat) (z : Sub W.heap.size W), j ≤ len ∧ i = .int .i64 j ∧ (l.take j).all (okF d true) = true ∧ wr = z.w) (fun i _ => len - (intOf i).toNat)
          case atStart => exact ⟨0, y, Nat.zero_le _, rfl, rfl, rfl⟩
          case round =>
            obtain ⟨j, z, hj, rfl, hdone, rfl⟩ := hrel
            have HD := hide hdone
            clear hdone
            by_cases hlt : j < len
            · rcases hrW with h0 | ⟨p1, po, hb1, _, hp1, hpc⟩
              · rw [h0] at hl; simp at hl; omega
              subst hb1
              obtain ⟨e0, e1, e2, pc, pp, e3, e4⟩ := hpc j (by omega)
              have d0 : ∀ y : Sub W.heap.size W, y.w.cell? ⟨p1, po + j * 4, none⟩ = _ := fun y => (y.h.cell (p := ⟨p1, _, none⟩) hp1).trans e0
              have d1 : ∀ y : Sub W.heap.size W, y.w.cell? ⟨p1, po + j * 4 + 1, none⟩ = _ := fun y => (y.h.cell (p := ⟨p1, _, none⟩) hp1).trans e1
              have d2 : ∀ y : Sub W.heap.size W, y.w.cell? ⟨p1, po + j * 4 + 2, none⟩ = _ := fun y => (y.h.cell (p := ⟨p1, _, none⟩) hp1).trans e2
              have d3 : ∀ y : Sub W.heap.size W, y.w.cell? ⟨p1, po + j * 4 + 3, none⟩ = _ := fun y => (y.h.cell (p := ⟨p1, _, none⟩) hp1).trans e3
              have HE := hide (fun y : Sub W.heap.size W => ihd (xAt l j) pc pp true y.w (e4.later y.h) (hp j hlt))
              have AT := hide (all_take l (okF d true) j (by omega))
              have AP := hide (fun h => all_part (f := okF d true) (show j < l.length by omega) h)
              clear e0 e1 e2 e3 e4 hpc ihd hp
              unfold Ex.cs at HE
              generalize okF d true (xAt l j) = q at *
              generalize (xAt l j).s = ss at *
              generalize (xAt l j).k = kk at *
              generalize (xAt l j).n = nn at *
              generalize (xAt l j).l.length = ll at *
              cases q with
              | false =>
                have EF := hide ((unhide HT).symm.trans (unhide AP rfl))
                go_wp2_with (go_at_call 38; refine (Sub.call (unhide HZ) (unhide HE _)).mono ?_; rintro r _ ⟨rfl, z2, rfl⟩)
                go_ret
                exact ⟨by rw [unhide EF]; rfl, unhide HB _⟩
              | true =>
                go_wp2_with (go_at_call 38; refine (Sub.call (unhide HZ) (unhide HE _)).mono ?_; rintro r _ ⟨rfl, z2, rfl⟩)
                go_roundw
                case rel => exact ⟨j + 1, z2, by omega, by go_num, by rw [unhide AT, unhide HD]; rfl, rfl⟩
                case measure => simp [intOf]; omega
            · obtain rfl : j = len := by omega
              have EF := hide ((unhide HT).symm.trans ((show l.all (okF d true) = (l.take j).all (okF d true) by rw [← hl, List.take_length]).trans (unhide HD)))
              go_wp2
              go_ret
              exact ⟨by rw [unhide EF]; rfl, unhide HB _⟩
set_option maxHeartbeats 1000000 in
theorem plainS_any (e : Ex) (b : Option Addr) (cap : Nat) (w : World) (hr : RdX w 0 e b) (hz : e.sz ≤ 1048576) : Calls Tryd.prog 21 #[.agg (e.cs b cap)] w fun r w' => r = .returned (.bool (okF 6 true e)) ∧ Below w.heap.size w w' := by
  have B0 := below_new w (.cells (e.cs b cap) 31)
  have H := (okS_all 6 (by omega) e b cap true _ (hr.later B0) hz).mono (R' := fun r w' => r = .returned (.bool (okF 6 true e)) ∧ Below w.heap.size w w') (fun r w' h => ⟨h.1, B0.trans (h.2.mono B0.size)⟩)
  rw [show (7 : Int) - ((6 : Nat) : Int) = 1 by omega] at H
  have HH := hide H
  clear H hr B0
  unfold Ex.cs at HH ⊢
  generalize okF 6 true e = q at *
  generalize e.l.length = ll at *
  go_enter Tryd.func21, Tryd.ntmps21
  go_wp2_with (go_at_call 38; refine (unhide HH).mono ?_; rintro r w1 ⟨rfl, hb1⟩)
  go_ret
  exact ⟨rfl, hb1⟩
end Go.Proofs.YtmhcbehplhfgfaaDoor

namespace Go.Proofs.YtmhcbehplhfgfaaDoor
open Go.ChangeShapes Go.WideShapes Go.ChangeAt Go.RowKit
set_option linter.unusedVariables false
set_option maxRecDepth 8000
set_option linter.unusedSimpArgs false

/-- An operand. -/
structure Ag where
  f : Int
  r : Int
  e : Ex
/-- An operand's value, its term's parts lying at b. -/
def Ag.cs (a : Ag) (b : Option Addr) (cap : Nat) : Array Value := #[.int .i64 a.f, .int .i64 a.r, .int .i64 a.e.k, .int .i64 a.e.n, .string a.e.s, .slice b a.e.l.length cap]
/-- A line. -/
structure Ln where
  k : Int
  s : ByteArray
  op : Int
  src : Ag
  dst : Ag
  n : Int
  l : List Ex
/-- Where the lists of a line lie: the operands' terms' parts, and its terms. -/
structure La where
  b1 : Option Addr
  c1 : Nat
  b2 : Option Addr
  c2 : Nat
  b3 : Option Addr
  c3 : Nat
def Ln.cs (x : Ln) (p : La) : Array Value := #[.int .i64 x.k, .string x.s, .int .i64 x.op, .int .i64 x.src.f, .int .i64 x.src.r, .int .i64 x.src.e.k, .int .i64 x.src.e.n, .string x.src.e.s, .slice p.b1 x.src.e.l.length p.c1, .int .i64 x.dst.f, .int .i64 x.dst.r, .int .i64 x.dst.e.k, .int .i64 x.dst.e.n, .string x.dst.e.s, .slice p.b2 x.dst.e.l.length p.c2, .int .i64 x.n, .slice p.b3 x.l.length p.c3]
def zroV (k n : Int) (s : ByteArray) (ll : Nat) : Bool := k == 0 && (n == 0 && (eqS s E0 && ll == 0))
/-- No term at all. -/
def zroX (e : Ex) : Bool := zroV e.k e.n e.s e.l.length
/-- No operand at all. -/
def nonX (a : Ag) : Bool := a.f == 0 && (a.r == 0 && zroX a.e)
/-- An operand that is right. -/
def agX (a : Ag) : Bool := if inB a.f 0 5 = true then inB a.r 0 7 && zroX a.e else if a.f == 6 || a.f == 7 then inB a.r 0 7 && okF 6 true a.e else if inB a.f 8 11 = true then a.r == 0 && okF 6 true a.e else false
set_option maxHeartbeats 2000000 in
theorem zroS (k n : Int) (s : ByteArray) (ll : Nat) (hs : s.size ≤ 1099511627776) (hl : ll ≤ 1099511627776) (b : Option Addr) (cap : Nat) (w : World) : Calls Tryd.prog 20 #[.agg #[.int .i64 k, .int .i64 n, .string s, .slice b ll cap]] w fun r w' => r = .returned (.bool (zroV k n s ll)) ∧ Below w.heap.size w w' := by
  by_cases h1 : k = 0
  · subst h1
    by_cases h2 : n = 0
    · subst h2
      by_cases h3 : s = ⟨#[]⟩
      · subst h3
        by_cases h4 : ll = 0
        · subst h4
          have B0 := hide (below_new w (.cells #[.int .i64 0, .int .i64 0, .string ⟨#[]⟩, .slice b 0 cap] 31))
          have V : zroV 0 0 ⟨#[]⟩ 0 = true := by simp [zroV, eqE, eqE1, *]
          rw [V]
          clear V
          go_enter Tryd.func20, Tryd.ntmps20
          go_wp2
          go_ret
          exact ⟨rfl, unhide B0⟩
        have h4f : (ll == 0) = false := beq_eq_false_iff_ne.2 h4
        have h4g : ((ll : Int) == 0) = false := beq_eq_false_iff_ne.2 (by omega)
        have B0 := hide (below_new w (.cells #[.int .i64 0, .int .i64 0, .string ⟨#[]⟩, .slice b ll cap] 31))
        have V : zroV 0 0 ⟨#[]⟩ ll = false := by simp [zroV, eqE, eqE1, *]
        rw [V]
        clear V
        go_enter Tryd.func20, Tryd.ntmps20
        go_wp2
        go_ret
        exact ⟨rfl, unhide B0⟩
      obtain ⟨h3a, h3b⟩ := emp_E s h3
      have B0 := hide (below_new w (.cells #[.int .i64 0, .int .i64 0, .string s, .slice b ll cap] 31))
      have V : zroV 0 0 s ll = false := by simp [zroV, eqE, eqE1, *]
      rw [V]
      clear V
      go_enter Tryd.func20, Tryd.ntmps20
      go_wp2
      go_ret
      exact ⟨rfl, unhide B0⟩
    have h2f : (n == 0) = false := beq_eq_false_iff_ne.2 h2
    have B0 := hide (below_new w (.cells #[.int .i64 0, .int .i64 n, .string s, .slice b ll cap] 31))
    have V : zroV 0 n s ll = false := by simp [zroV, eqE, eqE1, *]
    rw [V]
    clear V
    go_enter Tryd.func20, Tryd.ntmps20
    go_wp2
    go_ret
    exact ⟨rfl, unhide B0⟩
  have h1f : (k == 0) = false := beq_eq_false_iff_ne.2 h1
  have B0 := hide (below_new w (.cells #[.int .i64 k, .int .i64 n, .string s, .slice b ll cap] 31))
  have V : zroV k n s ll = false := by simp [zroV, eqE, eqE1, *]
  rw [V]
  clear V
  go_enter Tryd.func20, Tryd.ntmps20
  go_wp2
  go_ret
  exact ⟨rfl, unhide B0⟩
def nonV (f r : Int) (q : Bool) : Bool := f == 0 && (r == 0 && q)
set_option maxHeartbeats 2000000 in
theorem nonS_any (a : Ag) (hs : a.e.s.size ≤ 1099511627776) (hl : a.e.l.length ≤ 1099511627776) (b : Option Addr) (cap : Nat) (w : World) : Calls Tryd.prog 27 #[.agg (a.cs b cap)] w fun r w' => r = .returned (.bool (nonX a)) ∧ Below w.heap.size w w' := by
  have Q := hide (fun w => zroS a.e.k a.e.n a.e.s a.e.l.length hs hl b cap w)
  unfold Ag.cs
  rw [show nonX a = nonV a.f a.r (zroX a.e) from rfl]
  rw [show zroX a.e = zroV a.e.k a.e.n a.e.s a.e.l.length from rfl]
  generalize zroV a.e.k a.e.n a.e.s a.e.l.length = q at *
  generalize a.f = f at *
  generalize a.r = r at *
  generalize a.e.k = k at *
  generalize a.e.n = n at *
  generalize a.e.s = s at *
  generalize a.e.l.length = ll at *
  by_cases h15 : f = 0
  · subst h15
    by_cases h16 : r = 0
    · subst h16
      have B0 := hide (below_new w (.cells #[.int .i64 0, .int .i64 0, .int .i64 k, .int .i64 n, .string s, .slice b ll cap] 33))
      have V : nonV 0 0 q = q := by simp [nonV, *]
      rw [V]
      clear V
      go_enter Tryd.func27, Tryd.ntmps27
      go_wp2_with (go_at_call 20; refine (unhide Q _).mono ?_; rintro e w1 ⟨rfl, hb1⟩)
      go_ret
      exact ⟨rfl, (unhide B0).trans (hb1.mono (unhide B0).size)⟩
    have h16f : (r == 0) = false := beq_eq_false_iff_ne.2 h16
    have B0 := hide (below_new w (.cells #[.int .i64 0, .int .i64 r, .int .i64 k, .int .i64 n, .string s, .slice b ll cap] 33))
    have V : nonV 0 r q = false := by simp [nonV, *]
    rw [V]
    clear V
    go_enter Tryd.func27, Tryd.ntmps27
    go_wp2_with (go_at_call 20; refine (unhide Q _).mono ?_; rintro e w1 ⟨rfl, hb1⟩)
    go_ret
    exact ⟨rfl, unhide B0⟩
  have h15f : (f == 0) = false := beq_eq_false_iff_ne.2 h15
  have B0 := hide (below_new w (.cells #[.int .i64 f, .int .i64 r, .int .i64 k, .int .i64 n, .string s, .slice b ll cap] 33))
  have V : nonV f r q = false := by simp [nonV, *]
  rw [V]
  clear V
  go_enter Tryd.func27, Tryd.ntmps27
  go_wp2_with (go_at_call 20; refine (unhide Q _).mono ?_; rintro e w1 ⟨rfl, hb1⟩)
  go_ret
  exact ⟨rfl, unhide B0⟩
def agV (f r : Int) (q p : Bool) : Bool := if inB f 0 5 = true then inB r 0 7 && q else if f == 6 || f == 7 then inB r 0 7 && p else if inB f 8 11 = true then r == 0 && p else false
set_option maxHeartbeats 4000000 in
theorem agS_any (a : Ag) (b : Option Addr) (cap : Nat) (w : World) (hr : RdX w 0 a.e b) (hz : a.e.sz ≤ 1048576) : Calls Tryd.prog 7 #[.agg (a.cs b cap)] w fun r w' => r = .returned (.bool (agX a)) ∧ Below w.heap.size w w' := by
  have hsz := sz_is a.e
  have Q := hide (fun w => zroS a.e.k a.e.n a.e.s a.e.l.length (by omega) (by omega) b cap w)
  have P := hide (fun w' (h : Below w.heap.size w w') => plainS_any a.e b cap w' (hr.later h) hz)
  unfold Ex.cs at P
  unfold Ag.cs
  rw [show agX a = agV a.f a.r (zroX a.e) (okF 6 true a.e) from rfl]
  rw [show zroX a.e = zroV a.e.k a.e.n a.e.s a.e.l.length from rfl]
  generalize zroV a.e.k a.e.n a.e.s a.e.l.length = q at *
  generalize okF 6 true a.e = p at *
  generalize a.f = f at *
  generalize a.r = r at *
  generalize a.e.k = k at *
  generalize a.e.n = n at *
  generalize a.e.s = s at *
  generalize a.e.l.length = ll at *
  clear hsz hr hz
  cases h23 : inB f 0 5 with
  | true =>
    cases h24 : inB r 0 7 with
    | true =>
      have B0 := hide (below_new w (.cells #[.int .i64 f, .int .i64 r, .int .i64 k, .int .i64 n, .string s, .slice b ll cap] 33))
      have V : agV f r q p = q := by simp [agV, *]
      rw [V]
      clear V
      go_enter Tryd.func7, Tryd.ntmps7
      go_wp2_with (first | (go_at_call 19; refine (in_any _ _ _ _).mono ?_; rintro e w' ⟨rfl, hw'⟩; rw [hw']; clear hw' w') | (go_at_call 20; refine (unhide Q _).mono ?_; rintro e w1 ⟨rfl, hb1⟩))
      go_ret
      exact ⟨rfl, (unhide B0).trans (hb1.mono (unhide B0).size)⟩
    | false =>
      have B0 := hide (below_new w (.cells #[.int .i64 f, .int .i64 r, .int .i64 k, .int .i64 n, .string s, .slice b ll cap] 33))
      have V : agV f r q p = false := by simp [agV, *]
      rw [V]
      clear V
      go_enter Tryd.func7, Tryd.ntmps7
      go_wp2_with (go_at_call 19; refine (in_any _ _ _ _).mono ?_; rintro e w' ⟨rfl, hw'⟩; rw [hw']; clear hw' w')
      go_ret
      exact ⟨rfl, unhide B0⟩
  | false =>
    by_cases h29 : f = 6
    · subst h29
      cases h30 : inB r 0 7 with
      | true =>
        have B0 := hide (below_new w (.cells #[.int .i64 6, .int .i64 r, .int .i64 k, .int .i64 n, .string s, .slice b ll cap] 33))
        have V : agV 6 r q p = p := by simp [agV, *]
        rw [V]
        clear V
        have P1 := hide (unhide P _ (unhide B0))
        go_enter Tryd.func7, Tryd.ntmps7
        go_wp2_with (first | (go_at_call 19; refine (in_any _ _ _ _).mono ?_; rintro e w' ⟨rfl, hw'⟩; rw [hw']; clear hw' w') | (go_at_call 21; refine (unhide P1).mono ?_; rintro e w1 ⟨rfl, hb1⟩))
        go_ret
        exact ⟨rfl, (unhide B0).trans (hb1.mono (unhide B0).size)⟩
      | false =>
        have B0 := hide (below_new w (.cells #[.int .i64 6, .int .i64 r, .int .i64 k, .int .i64 n, .string s, .slice b ll cap] 33))
        have V : agV 6 r q p = false := by simp [agV, *]
        rw [V]
        clear V
        go_enter Tryd.func7, Tryd.ntmps7
        go_wp2_with (go_at_call 19; refine (in_any _ _ _ _).mono ?_; rintro e w' ⟨rfl, hw'⟩; rw [hw']; clear hw' w')
        go_ret
        exact ⟨rfl, unhide B0⟩
    have h29f : (f == 6) = false := beq_eq_false_iff_ne.2 h29
    by_cases h35 : f = 7
    · subst h35
      cases h36 : inB r 0 7 with
      | true =>
        have B0 := hide (below_new w (.cells #[.int .i64 7, .int .i64 r, .int .i64 k, .int .i64 n, .string s, .slice b ll cap] 33))
        have V : agV 7 r q p = p := by simp [agV, *]
        rw [V]
        clear V
        have P1 := hide (unhide P _ (unhide B0))
        go_enter Tryd.func7, Tryd.ntmps7
        go_wp2_with (first | (go_at_call 19; refine (in_any _ _ _ _).mono ?_; rintro e w' ⟨rfl, hw'⟩; rw [hw']; clear hw' w') | (go_at_call 21; refine (unhide P1).mono ?_; rintro e w1 ⟨rfl, hb1⟩))
        go_ret
        exact ⟨rfl, (unhide B0).trans (hb1.mono (unhide B0).size)⟩
      | false =>
        have B0 := hide (below_new w (.cells #[.int .i64 7, .int .i64 r, .int .i64 k, .int .i64 n, .string s, .slice b ll cap] 33))
        have V : agV 7 r q p = false := by simp [agV, *]
        rw [V]
        clear V
        go_enter Tryd.func7, Tryd.ntmps7
        go_wp2_with (go_at_call 19; refine (in_any _ _ _ _).mono ?_; rintro e w' ⟨rfl, hw'⟩; rw [hw']; clear hw' w')
        go_ret
        exact ⟨rfl, unhide B0⟩
    have h35f : (f == 7) = false := beq_eq_false_iff_ne.2 h35
    cases h41 : inB f 8 11 with
    | true =>
      by_cases h42 : r = 0
      · subst h42
        have B0 := hide (below_new w (.cells #[.int .i64 f, .int .i64 0, .int .i64 k, .int .i64 n, .string s, .slice b ll cap] 33))
        have V : agV f 0 q p = p := by simp [agV, *]
        rw [V]
        clear V
        have P1 := hide (unhide P _ (unhide B0))
        go_enter Tryd.func7, Tryd.ntmps7
        go_wp2_with (first | (go_at_call 19; refine (in_any _ _ _ _).mono ?_; rintro e w' ⟨rfl, hw'⟩; rw [hw']; clear hw' w') | (go_at_call 21; refine (unhide P1).mono ?_; rintro e w1 ⟨rfl, hb1⟩))
        go_ret
        exact ⟨rfl, (unhide B0).trans (hb1.mono (unhide B0).size)⟩
      have h42f : (r == 0) = false := beq_eq_false_iff_ne.2 h42
      have B0 := hide (below_new w (.cells #[.int .i64 f, .int .i64 r, .int .i64 k, .int .i64 n, .string s, .slice b ll cap] 33))
      have V : agV f r q p = false := by simp [agV, *]
      rw [V]
      clear V
      go_enter Tryd.func7, Tryd.ntmps7
      go_wp2_with (go_at_call 19; refine (in_any _ _ _ _).mono ?_; rintro e w' ⟨rfl, hw'⟩; rw [hw']; clear hw' w')
      go_ret
      exact ⟨rfl, unhide B0⟩
    | false =>
      have B0 := hide (below_new w (.cells #[.int .i64 f, .int .i64 r, .int .i64 k, .int .i64 n, .string s, .slice b ll cap] 33))
      have V : agV f r q p = false := by simp [agV, *]
      rw [V]
      clear V
      go_enter Tryd.func7, Tryd.ntmps7
      go_wp2_with (go_at_call 19; refine (in_any _ _ _ _).mono ?_; rintro e w' ⟨rfl, hw'⟩; rw [hw']; clear hw' w')
      go_ret
      exact ⟨rfl, unhide B0⟩
end Go.Proofs.YtmhcbehplhfgfaaDoor

namespace Go.Proofs.YtmhcbehplhfgfaaDoor
open Go.ChangeShapes Go.WideShapes Go.ChangeAt Go.RowKit
set_option linter.unusedVariables false
set_option maxRecDepth 8000

set_option maxHeartbeats 1000000 in
theorem wordI_any (x : ByteArray) (w : World) (ht : TabK w) : Calls Tryd.prog 78 #[.string x] w fun e w' => e = .returned (wordT x).v ∧ Below w.heap.size w w' := by
  have WT := hide (wordT_v x)
  have B0 := hide (below_new w (.cells T0c 91))
  have R0 := hide (heap_alloc_new w (.cells T0c 91))
  have HK := hide (keptI_any x (w.alloc (.cells T0c 91)) (ht.next (unhide B0)))
  unfold T0c at B0 R0 HK
  generalize keptB x = q at *
  clear ht
  cases q
  · have W1 := hide ((unhide WT).2 rfl)
    rw [unhide W1]
    unfold Tk.v Tk.cs
    simp only
    clear WT
    go_enter Tryd.func78, Tryd.ntmps78
    go_wp2_with (first | (go_at_call 88; refine (unhide HK).mono ?_; rintro e w' ⟨rfl, hw'⟩; rw [hw']; clear hw' w') | (refine wpList_store_row rfl 91 _ _ rfl w.heap.size #[.int .i64 1, .int .i64 0, .string x] rfl rfl 91 _ (unhide R0) szK rfl (tk_one _ _ _) ?_))
    refine bodyPost_ret (results_cell_row (P := Tryd.prog) rfl _ _ w.heap.size 91 #[.int .i64 1, .int .i64 0, .string x] (0, 0) _ rfl (setRow_heap _ _ _ _ _ _ (unhide R0)) Tryd.underlying91 rfl szK) rfl ?_
    exact ⟨rfl, below_row (unhide B0)⟩
  · have W1 := hide ((unhide WT).1 rfl)
    rw [unhide W1]
    unfold Tk.v Tk.cs
    simp only
    clear WT
    go_enter Tryd.func78, Tryd.ntmps78
    go_wp2_with (first | (go_at_call 88; refine (unhide HK).mono ?_; rintro e w' ⟨rfl, hw'⟩; rw [hw']; clear hw' w') | (refine wpList_store_row rfl 91 _ _ rfl w.heap.size #[.int .i64 5, .int .i64 0, .string x] rfl rfl 91 _ (unhide R0) szK rfl (tk_one _ _ _) ?_))
    refine bodyPost_ret (results_cell_row (P := Tryd.prog) rfl _ _ w.heap.size 91 #[.int .i64 5, .int .i64 0, .string x] (0, 0) _ rfl (setRow_heap _ _ _ _ _ _ (unhide R0)) Tryd.underlying91 rfl szK) rfl ?_
    exact ⟨rfl, below_row (unhide B0)⟩
theorem num_dec (x : ByteArray) : (∃ m, m < 65536 ∧ x = strOf (octD m)) ∨ ∀ m, m < 65536 → x ≠ strOf (octD m) := by
  cases h : numV x with
  | some m => exact .inl ⟨m, numV_bd h⟩
  | none => exact .inr fun m hm e => by rw [numV_yes hm e] at h; cases h
end Go.Proofs.YtmhcbehplhfgfaaDoor

namespace Go.Proofs.YtmhcbehplhfgfaaDoor
open Go.ChangeShapes Go.WideShapes Go.ChangeAt Go.RowKit
set_option linter.unusedVariables false
set_option maxRecDepth 8000
set_option linter.unusedSimpArgs false

/-- The type of a kind of those of two. -/
def pairT (k : Int) : TypeId := if k = 5 then 138 else if k = 6 then 139 else if k = 7 then 140 else if k = 8 then 141 else if k = 9 then 142 else 143
/-- A term's value in the program, by the values of its parts. -/
def tvC (k n : Int) (s : ByteArray) (vs : List Value) : Value :=
  if k = 1 then .iface 123 (.agg #[.int .i64 n]) else if k = 2 then .iface 125 (.agg #[.string s]) else if k = 3 then .iface 127 (.agg #[])
  else if k = 4 then .iface 129 (.agg vs.toArray) else if k = 11 then .iface 135 (.agg #[.int .i64 n]) else if k = 12 then .iface 136 (.agg #[.string s]) else .iface (pairT k) (.agg vs.toArray)
def tv : Ex → Value
  | ⟨k, n, s, l⟩ => tvC k n s (l.map tv)
theorem tv_num (n : Int) (s : ByteArray) : tv ⟨1, n, s, []⟩ = .iface 123 (.agg #[.int .i64 n]) := by rw [tv]; rfl
theorem tv_sym (n : Int) (s : ByteArray) : tv ⟨2, n, s, []⟩ = .iface 125 (.agg #[.string s]) := by rw [tv]; rfl
theorem tv_here (n : Int) (s : ByteArray) : tv ⟨3, n, s, []⟩ = .iface 127 (.agg #[]) := by rw [tv]; rfl
theorem tv_neg (n : Int) (s : ByteArray) (a : Ex) : tv ⟨4, n, s, [a]⟩ = .iface 129 (.agg #[tv a]) := by rw [tv]; rfl
theorem tv_sect (n : Int) (s : ByteArray) : tv ⟨11, n, s, []⟩ = .iface 135 (.agg #[.int .i64 n]) := by rw [tv]; rfl
theorem tv_glob (n : Int) (s : ByteArray) : tv ⟨12, n, s, []⟩ = .iface 136 (.agg #[.string s]) := by rw [tv]; rfl
theorem tv_two {k : Int} (hk : 5 ≤ k ∧ k ≤ 10) (n : Int) (s : ByteArray) (a b : Ex) : tv ⟨k, n, s, [a, b]⟩ = .iface (pairT k) (.agg #[tv a, tv b]) := by
  rw [tv]
  unfold tvC
  rw [if_neg (by omega), if_neg (by omega), if_neg (by omega), if_neg (by omega), if_neg (by omega), if_neg (by omega)]
  rfl
/-- What an interface holds: nothing, or a value with its type. -/
def IfV (v : Value) : Prop := v = .nilIface ∨ ∃ t x, v = .iface t x
theorem IfV.of {v : Value} {p : Prop} (h : v = .nilIface ∨ ∃ t x, v = .iface t x) (hp : p) : IfV v ∧ p := ⟨h, hp⟩
theorem IfV.one {v : Value} (h : IfV v) : v.oneCell' = true := by
  rcases h with rfl | ⟨t, x, rfl⟩ <;> rfl
/-- What leafOf answers. -/
def LeafR (k n : Int) (s : ByteArray) (w : World) (r : Ending) (w' : World) : Prop := ∃ v, r = .returned (.tuple #[v, .bool (hereV k n s 0)]) ∧ (IfV v ∧ (hereV k n s 0 = true → v = tvC k n s [])) ∧ Below w.heap.size w w'
def LeafG (k n : Int) (s : ByteArray) : Prop := ∀ (b : Option Addr) (ll cap : Nat) (w : World), TabK w → Calls Tryd.prog 80 #[.agg #[.int .i64 k, .int .i64 n, .string s, .slice b ll cap]] w (LeafR k n s w)
theorem nil_val {r : Ending} {k n : Int} {s : ByteArray} {w w' : World} {v : Value} {q : Bool} (h : hereV k n s 0 = q) (hr : r = .returned (.tuple #[v, .bool q])) (hv : IfV v ∧ (q = true → v = tvC k n s [])) (hb : Below w.heap.size w w') : LeafR k n s w r w' := ⟨v, by rw [h]; exact hr, ⟨hv.1, fun e => hv.2 (by rw [← h]; exact e)⟩, hb⟩
set_option maxHeartbeats 2000000 in
theorem leaf1_0 (n : Int) (s : ByteArray) : LeafG 1 n ⟨#[]⟩ := by
  intro b ll cap w ht
  obtain ⟨W, hW⟩ : ∃ W, w.alloc (.cells #[.int .i64 1, .int .i64 n, .string ⟨#[]⟩, .slice b ll cap] 31) = W := ⟨_, rfl⟩
  have B0 := hide (below_new w (.cells #[.int .i64 1, .int .i64 n, .string ⟨#[]⟩, .slice b ll cap] 31))
  have hg : W.heap[w.heap.size]? = some (.cells #[.int .i64 1, .int .i64 n, .string ⟨#[]⟩, .slice b ll cap] 31 (0, 0)) := by rw [← hW]; exact Array.getElem?_push_size
  rw [hW] at B0
  have x0 := Lib.cell_of_heap hg 0
  have x1 := Lib.cell_of_heap hg 1
  have x2 := Lib.cell_of_heap hg 2
  have xl : w.heap.size < W.heap.size := (Array.getElem?_eq_some_iff.1 hg).1
  have y0 : ∀ y : Sub W.heap.size W, y.w.cell? ⟨w.heap.size, 0, none⟩ = some (.int .i64 1) := fun y => (y.h.cell (p := ⟨w.heap.size, _, none⟩) xl).trans x0
  have y1 : ∀ y : Sub W.heap.size W, y.w.cell? ⟨w.heap.size, 1, none⟩ = some (.int .i64 n) := fun y => (y.h.cell (p := ⟨w.heap.size, _, none⟩) xl).trans x1
  have y2 : ∀ y : Sub W.heap.size W, y.w.cell? ⟨w.heap.size, 2, none⟩ = some (.string ⟨#[]⟩) := fun y => (y.h.cell (p := ⟨w.heap.size, _, none⟩) xl).trans x2
  have ne := Sub.ne W.heap.size W
  have HZ := hide (Nat.le_refl W.heap.size)
  have TB := hide (fun y : Sub W.heap.size W => (ht.next (unhide B0)).next y.h)
  have HB := hide (fun y : Sub W.heap.size W => (unhide B0).trans (y.h.mono (unhide B0).size))
  clear hg xl ht
  have V := hide (show hereV 1 n ⟨#[]⟩ 0 = inB n 0 65535 by simp [hereV, Ex.here, eqE, eqE1, *])
  have FN := hide (fun r w' (v : Value) => nil_val (r := r) (w := w) (w' := w') (v := v) (unhide V))
  have Q := hide (fun y : Sub W.heap.size W => isWord_any n y.w)
  generalize inB n 0 65535 = q at *
  generalize LeafR 1 n ⟨#[]⟩ w = R at *
  cases q <;> (go_enter Tryd.func80, Tryd.ntmps80; go_wp2_with fail; refine wp_region_sub (⟨W, Below.refl _ _⟩ : Sub W.heap.size W) (by kernel_rfl) (by kernel_rfl) ?_; (repeat (go_big_quiet_step (first | (go_at_call 96; exact Sub.same (unhide Q _))))); refine wpQuiet_nil ?_; intro y; go_wp2; (try go_ret2); exact unhide FN _ _ _ rfl (IfV.of (by first | exact .inl rfl | exact .inr ⟨_, _, rfl⟩) (fun h => by first | rfl | cases h)) (unhide HB _))
set_option maxHeartbeats 2000000 in
theorem leaf1_s (n : Int) (s : ByteArray) (h : s ≠ E0) : LeafG 1 n s := by
  intro b ll cap w ht
  obtain ⟨W, hW⟩ : ∃ W, w.alloc (.cells #[.int .i64 1, .int .i64 n, .string s, .slice b ll cap] 31) = W := ⟨_, rfl⟩
  have B0 := hide (below_new w (.cells #[.int .i64 1, .int .i64 n, .string s, .slice b ll cap] 31))
  have hg : W.heap[w.heap.size]? = some (.cells #[.int .i64 1, .int .i64 n, .string s, .slice b ll cap] 31 (0, 0)) := by rw [← hW]; exact Array.getElem?_push_size
  rw [hW] at B0
  have x0 := Lib.cell_of_heap hg 0
  have x1 := Lib.cell_of_heap hg 1
  have x2 := Lib.cell_of_heap hg 2
  have xl : w.heap.size < W.heap.size := (Array.getElem?_eq_some_iff.1 hg).1
  have y0 : ∀ y : Sub W.heap.size W, y.w.cell? ⟨w.heap.size, 0, none⟩ = some (.int .i64 1) := fun y => (y.h.cell (p := ⟨w.heap.size, _, none⟩) xl).trans x0
  have y1 : ∀ y : Sub W.heap.size W, y.w.cell? ⟨w.heap.size, 1, none⟩ = some (.int .i64 n) := fun y => (y.h.cell (p := ⟨w.heap.size, _, none⟩) xl).trans x1
  have y2 : ∀ y : Sub W.heap.size W, y.w.cell? ⟨w.heap.size, 2, none⟩ = some (.string s) := fun y => (y.h.cell (p := ⟨w.heap.size, _, none⟩) xl).trans x2
  have ne := Sub.ne W.heap.size W
  have HZ := hide (Nat.le_refl W.heap.size)
  have TB := hide (fun y : Sub W.heap.size W => (ht.next (unhide B0)).next y.h)
  have HB := hide (fun y : Sub W.heap.size W => (unhide B0).trans (y.h.mono (unhide B0).size))
  clear hg xl ht
  obtain ⟨h1, h2⟩ := emp_E s h
  have V := hide (show hereV 1 n s 0 = false by simp [hereV, Ex.here, eqE, eqE1, *])
  have FN := hide (fun r w' (v : Value) => nil_val (r := r) (w := w) (w' := w') (v := v) (unhide V))
  have Q := hide (fun y : Sub W.heap.size W => isWord_any n y.w)
  generalize inB n 0 65535 = q at *
  generalize LeafR 1 n s w = R at *
  cases q <;> (go_enter Tryd.func80, Tryd.ntmps80; go_wp2_with fail; refine wp_region_sub (⟨W, Below.refl _ _⟩ : Sub W.heap.size W) (by kernel_rfl) (by kernel_rfl) ?_; (repeat (go_big_quiet_step (first | (go_at_call 96; exact Sub.same (unhide Q _))))); refine wpQuiet_nil ?_; intro y; go_wp2; (try go_ret2); exact unhide FN _ _ _ rfl (IfV.of (by first | exact .inl rfl | exact .inr ⟨_, _, rfl⟩) (fun h => by first | rfl | cases h)) (unhide HB _))
set_option maxHeartbeats 2000000 in
theorem leaf2_0 (n : Int) (s : ByteArray) (hs : s.size ≤ 1099511627776) : LeafG 2 0 s := by
  intro b ll cap w ht
  obtain ⟨W, hW⟩ : ∃ W, w.alloc (.cells #[.int .i64 2, .int .i64 0, .string s, .slice b ll cap] 31) = W := ⟨_, rfl⟩
  have B0 := hide (below_new w (.cells #[.int .i64 2, .int .i64 0, .string s, .slice b ll cap] 31))
  have hg : W.heap[w.heap.size]? = some (.cells #[.int .i64 2, .int .i64 0, .string s, .slice b ll cap] 31 (0, 0)) := by rw [← hW]; exact Array.getElem?_push_size
  rw [hW] at B0
  have x0 := Lib.cell_of_heap hg 0
  have x1 := Lib.cell_of_heap hg 1
  have x2 := Lib.cell_of_heap hg 2
  have xl : w.heap.size < W.heap.size := (Array.getElem?_eq_some_iff.1 hg).1
  have y0 : ∀ y : Sub W.heap.size W, y.w.cell? ⟨w.heap.size, 0, none⟩ = some (.int .i64 2) := fun y => (y.h.cell (p := ⟨w.heap.size, _, none⟩) xl).trans x0
  have y1 : ∀ y : Sub W.heap.size W, y.w.cell? ⟨w.heap.size, 1, none⟩ = some (.int .i64 0) := fun y => (y.h.cell (p := ⟨w.heap.size, _, none⟩) xl).trans x1
  have y2 : ∀ y : Sub W.heap.size W, y.w.cell? ⟨w.heap.size, 2, none⟩ = some (.string s) := fun y => (y.h.cell (p := ⟨w.heap.size, _, none⟩) xl).trans x2
  have ne := Sub.ne W.heap.size W
  have HZ := hide (Nat.le_refl W.heap.size)
  have TB := hide (fun y : Sub W.heap.size W => (ht.next (unhide B0)).next y.h)
  have HB := hide (fun y : Sub W.heap.size W => (unhide B0).trans (y.h.mono (unhide B0).size))
  clear hg xl ht
  have V := hide (show hereV 2 0 s 0 = nameB s by simp [hereV, Ex.here, eqE, eqE1, *])
  have FN := hide (fun r w' (v : Value) => nil_val (r := r) (w := w) (w' := w') (v := v) (unhide V))
  have Q := hide (fun y : Sub W.heap.size W => nameI_any s y.w hs (unhide TB y))
  generalize nameB s = q at *
  generalize LeafR 2 0 s w = R at *
  cases q <;> (go_enter Tryd.func80, Tryd.ntmps80; go_wp2_with fail; refine wp_region_sub (⟨W, Below.refl _ _⟩ : Sub W.heap.size W) (by kernel_rfl) (by kernel_rfl) ?_; (repeat (go_big_quiet_step (first | (go_at_call 69; exact Sub.same (unhide Q _))))); refine wpQuiet_nil ?_; intro y; go_wp2; (try go_ret2); exact unhide FN _ _ _ rfl (IfV.of (by first | exact .inl rfl | exact .inr ⟨_, _, rfl⟩) (fun h => by first | rfl | cases h)) (unhide HB _))
set_option maxHeartbeats 2000000 in
theorem leaf2_n (n : Int) (s : ByteArray) (h : n ≠ 0) (hs : s.size ≤ 1099511627776) : LeafG 2 n s := by
  intro b ll cap w ht
  obtain ⟨W, hW⟩ : ∃ W, w.alloc (.cells #[.int .i64 2, .int .i64 n, .string s, .slice b ll cap] 31) = W := ⟨_, rfl⟩
  have B0 := hide (below_new w (.cells #[.int .i64 2, .int .i64 n, .string s, .slice b ll cap] 31))
  have hg : W.heap[w.heap.size]? = some (.cells #[.int .i64 2, .int .i64 n, .string s, .slice b ll cap] 31 (0, 0)) := by rw [← hW]; exact Array.getElem?_push_size
  rw [hW] at B0
  have x0 := Lib.cell_of_heap hg 0
  have x1 := Lib.cell_of_heap hg 1
  have x2 := Lib.cell_of_heap hg 2
  have xl : w.heap.size < W.heap.size := (Array.getElem?_eq_some_iff.1 hg).1
  have y0 : ∀ y : Sub W.heap.size W, y.w.cell? ⟨w.heap.size, 0, none⟩ = some (.int .i64 2) := fun y => (y.h.cell (p := ⟨w.heap.size, _, none⟩) xl).trans x0
  have y1 : ∀ y : Sub W.heap.size W, y.w.cell? ⟨w.heap.size, 1, none⟩ = some (.int .i64 n) := fun y => (y.h.cell (p := ⟨w.heap.size, _, none⟩) xl).trans x1
  have y2 : ∀ y : Sub W.heap.size W, y.w.cell? ⟨w.heap.size, 2, none⟩ = some (.string s) := fun y => (y.h.cell (p := ⟨w.heap.size, _, none⟩) xl).trans x2
  have ne := Sub.ne W.heap.size W
  have HZ := hide (Nat.le_refl W.heap.size)
  have TB := hide (fun y : Sub W.heap.size W => (ht.next (unhide B0)).next y.h)
  have HB := hide (fun y : Sub W.heap.size W => (unhide B0).trans (y.h.mono (unhide B0).size))
  clear hg xl ht
  have hn : (n == 0) = false := beq_eq_false_iff_ne.2 h
  have V := hide (show hereV 2 n s 0 = false by simp [hereV, Ex.here, eqE, eqE1, *])
  have FN := hide (fun r w' (v : Value) => nil_val (r := r) (w := w) (w' := w') (v := v) (unhide V))
  have Q := hide (fun y : Sub W.heap.size W => nameI_any s y.w hs (unhide TB y))
  generalize nameB s = q at *
  generalize LeafR 2 n s w = R at *
  cases q <;> (go_enter Tryd.func80, Tryd.ntmps80; go_wp2_with fail; refine wp_region_sub (⟨W, Below.refl _ _⟩ : Sub W.heap.size W) (by kernel_rfl) (by kernel_rfl) ?_; (repeat (go_big_quiet_step (first | (go_at_call 69; exact Sub.same (unhide Q _))))); refine wpQuiet_nil ?_; intro y; go_wp2; (try go_ret2); exact unhide FN _ _ _ rfl (IfV.of (by first | exact .inl rfl | exact .inr ⟨_, _, rfl⟩) (fun h => by first | rfl | cases h)) (unhide HB _))
set_option maxHeartbeats 2000000 in
theorem leaf12_0 (n : Int) (s : ByteArray) (hs : s.size ≤ 1099511627776) : LeafG 12 0 s := by
  intro b ll cap w ht
  obtain ⟨W, hW⟩ : ∃ W, w.alloc (.cells #[.int .i64 12, .int .i64 0, .string s, .slice b ll cap] 31) = W := ⟨_, rfl⟩
  have B0 := hide (below_new w (.cells #[.int .i64 12, .int .i64 0, .string s, .slice b ll cap] 31))
  have hg : W.heap[w.heap.size]? = some (.cells #[.int .i64 12, .int .i64 0, .string s, .slice b ll cap] 31 (0, 0)) := by rw [← hW]; exact Array.getElem?_push_size
  rw [hW] at B0
  have x0 := Lib.cell_of_heap hg 0
  have x1 := Lib.cell_of_heap hg 1
  have x2 := Lib.cell_of_heap hg 2
  have xl : w.heap.size < W.heap.size := (Array.getElem?_eq_some_iff.1 hg).1
  have y0 : ∀ y : Sub W.heap.size W, y.w.cell? ⟨w.heap.size, 0, none⟩ = some (.int .i64 12) := fun y => (y.h.cell (p := ⟨w.heap.size, _, none⟩) xl).trans x0
  have y1 : ∀ y : Sub W.heap.size W, y.w.cell? ⟨w.heap.size, 1, none⟩ = some (.int .i64 0) := fun y => (y.h.cell (p := ⟨w.heap.size, _, none⟩) xl).trans x1
  have y2 : ∀ y : Sub W.heap.size W, y.w.cell? ⟨w.heap.size, 2, none⟩ = some (.string s) := fun y => (y.h.cell (p := ⟨w.heap.size, _, none⟩) xl).trans x2
  have ne := Sub.ne W.heap.size W
  have HZ := hide (Nat.le_refl W.heap.size)
  have TB := hide (fun y : Sub W.heap.size W => (ht.next (unhide B0)).next y.h)
  have HB := hide (fun y : Sub W.heap.size W => (unhide B0).trans (y.h.mono (unhide B0).size))
  clear hg xl ht
  have V := hide (show hereV 12 0 s 0 = nameB s by simp [hereV, Ex.here, eqE, eqE1, *])
  have FN := hide (fun r w' (v : Value) => nil_val (r := r) (w := w) (w' := w') (v := v) (unhide V))
  have Q := hide (fun y : Sub W.heap.size W => nameI_any s y.w hs (unhide TB y))
  generalize nameB s = q at *
  generalize LeafR 12 0 s w = R at *
  cases q <;> (go_enter Tryd.func80, Tryd.ntmps80; go_wp2_with fail; refine wp_region_sub (⟨W, Below.refl _ _⟩ : Sub W.heap.size W) (by kernel_rfl) (by kernel_rfl) ?_; (repeat (go_big_quiet_step (first | (go_at_call 69; exact Sub.same (unhide Q _))))); refine wpQuiet_nil ?_; intro y; go_wp2; (try go_ret2); exact unhide FN _ _ _ rfl (IfV.of (by first | exact .inl rfl | exact .inr ⟨_, _, rfl⟩) (fun h => by first | rfl | cases h)) (unhide HB _))
set_option maxHeartbeats 2000000 in
theorem leaf12_n (n : Int) (s : ByteArray) (h : n ≠ 0) (hs : s.size ≤ 1099511627776) : LeafG 12 n s := by
  intro b ll cap w ht
  obtain ⟨W, hW⟩ : ∃ W, w.alloc (.cells #[.int .i64 12, .int .i64 n, .string s, .slice b ll cap] 31) = W := ⟨_, rfl⟩
  have B0 := hide (below_new w (.cells #[.int .i64 12, .int .i64 n, .string s, .slice b ll cap] 31))
  have hg : W.heap[w.heap.size]? = some (.cells #[.int .i64 12, .int .i64 n, .string s, .slice b ll cap] 31 (0, 0)) := by rw [← hW]; exact Array.getElem?_push_size
  rw [hW] at B0
  have x0 := Lib.cell_of_heap hg 0
  have x1 := Lib.cell_of_heap hg 1
  have x2 := Lib.cell_of_heap hg 2
  have xl : w.heap.size < W.heap.size := (Array.getElem?_eq_some_iff.1 hg).1
  have y0 : ∀ y : Sub W.heap.size W, y.w.cell? ⟨w.heap.size, 0, none⟩ = some (.int .i64 12) := fun y => (y.h.cell (p := ⟨w.heap.size, _, none⟩) xl).trans x0
  have y1 : ∀ y : Sub W.heap.size W, y.w.cell? ⟨w.heap.size, 1, none⟩ = some (.int .i64 n) := fun y => (y.h.cell (p := ⟨w.heap.size, _, none⟩) xl).trans x1
  have y2 : ∀ y : Sub W.heap.size W, y.w.cell? ⟨w.heap.size, 2, none⟩ = some (.string s) := fun y => (y.h.cell (p := ⟨w.heap.size, _, none⟩) xl).trans x2
  have ne := Sub.ne W.heap.size W
  have HZ := hide (Nat.le_refl W.heap.size)
  have TB := hide (fun y : Sub W.heap.size W => (ht.next (unhide B0)).next y.h)
  have HB := hide (fun y : Sub W.heap.size W => (unhide B0).trans (y.h.mono (unhide B0).size))
  clear hg xl ht
  have hn : (n == 0) = false := beq_eq_false_iff_ne.2 h
  have V := hide (show hereV 12 n s 0 = false by simp [hereV, Ex.here, eqE, eqE1, *])
  have FN := hide (fun r w' (v : Value) => nil_val (r := r) (w := w) (w' := w') (v := v) (unhide V))
  have Q := hide (fun y : Sub W.heap.size W => nameI_any s y.w hs (unhide TB y))
  generalize nameB s = q at *
  generalize LeafR 12 n s w = R at *
  cases q <;> (go_enter Tryd.func80, Tryd.ntmps80; go_wp2_with fail; refine wp_region_sub (⟨W, Below.refl _ _⟩ : Sub W.heap.size W) (by kernel_rfl) (by kernel_rfl) ?_; (repeat (go_big_quiet_step (first | (go_at_call 69; exact Sub.same (unhide Q _))))); refine wpQuiet_nil ?_; intro y; go_wp2; (try go_ret2); exact unhide FN _ _ _ rfl (IfV.of (by first | exact .inl rfl | exact .inr ⟨_, _, rfl⟩) (fun h => by first | rfl | cases h)) (unhide HB _))
set_option maxHeartbeats 2000000 in
theorem leaf3_0 (n : Int) (s : ByteArray) : LeafG 3 0 ⟨#[]⟩ := by
  intro b ll cap w ht
  obtain ⟨W, hW⟩ : ∃ W, w.alloc (.cells #[.int .i64 3, .int .i64 0, .string ⟨#[]⟩, .slice b ll cap] 31) = W := ⟨_, rfl⟩
  have B0 := hide (below_new w (.cells #[.int .i64 3, .int .i64 0, .string ⟨#[]⟩, .slice b ll cap] 31))
  have hg : W.heap[w.heap.size]? = some (.cells #[.int .i64 3, .int .i64 0, .string ⟨#[]⟩, .slice b ll cap] 31 (0, 0)) := by rw [← hW]; exact Array.getElem?_push_size
  rw [hW] at B0
  have x0 := Lib.cell_of_heap hg 0
  have x1 := Lib.cell_of_heap hg 1
  have x2 := Lib.cell_of_heap hg 2
  have xl : w.heap.size < W.heap.size := (Array.getElem?_eq_some_iff.1 hg).1
  have y0 : ∀ y : Sub W.heap.size W, y.w.cell? ⟨w.heap.size, 0, none⟩ = some (.int .i64 3) := fun y => (y.h.cell (p := ⟨w.heap.size, _, none⟩) xl).trans x0
  have y1 : ∀ y : Sub W.heap.size W, y.w.cell? ⟨w.heap.size, 1, none⟩ = some (.int .i64 0) := fun y => (y.h.cell (p := ⟨w.heap.size, _, none⟩) xl).trans x1
  have y2 : ∀ y : Sub W.heap.size W, y.w.cell? ⟨w.heap.size, 2, none⟩ = some (.string ⟨#[]⟩) := fun y => (y.h.cell (p := ⟨w.heap.size, _, none⟩) xl).trans x2
  have ne := Sub.ne W.heap.size W
  have HZ := hide (Nat.le_refl W.heap.size)
  have TB := hide (fun y : Sub W.heap.size W => (ht.next (unhide B0)).next y.h)
  have HB := hide (fun y : Sub W.heap.size W => (unhide B0).trans (y.h.mono (unhide B0).size))
  clear hg xl ht
  have V := hide (show hereV 3 0 ⟨#[]⟩ 0 = true by simp [hereV, Ex.here, eqE, eqE1, *])
  have FN := hide (fun r w' (v : Value) => nil_val (r := r) (w := w) (w' := w') (v := v) (unhide V))
  generalize LeafR 3 0 ⟨#[]⟩ w = R at *
  (go_enter Tryd.func80, Tryd.ntmps80; go_wp2_with fail; refine wp_region_sub (⟨W, Below.refl _ _⟩ : Sub W.heap.size W) (by kernel_rfl) (by kernel_rfl) ?_; (repeat (go_big_quiet_step (first | fail))); refine wpQuiet_nil ?_; intro y; go_wp2; (try go_ret2); exact unhide FN _ _ _ rfl (IfV.of (by first | exact .inl rfl | exact .inr ⟨_, _, rfl⟩) (fun h => by first | rfl | cases h)) (unhide HB _))
set_option maxHeartbeats 2000000 in
theorem leaf3_n (n : Int) (s : ByteArray) (h : n ≠ 0) : LeafG 3 n s := by
  intro b ll cap w ht
  obtain ⟨W, hW⟩ : ∃ W, w.alloc (.cells #[.int .i64 3, .int .i64 n, .string s, .slice b ll cap] 31) = W := ⟨_, rfl⟩
  have B0 := hide (below_new w (.cells #[.int .i64 3, .int .i64 n, .string s, .slice b ll cap] 31))
  have hg : W.heap[w.heap.size]? = some (.cells #[.int .i64 3, .int .i64 n, .string s, .slice b ll cap] 31 (0, 0)) := by rw [← hW]; exact Array.getElem?_push_size
  rw [hW] at B0
  have x0 := Lib.cell_of_heap hg 0
  have x1 := Lib.cell_of_heap hg 1
  have x2 := Lib.cell_of_heap hg 2
  have xl : w.heap.size < W.heap.size := (Array.getElem?_eq_some_iff.1 hg).1
  have y0 : ∀ y : Sub W.heap.size W, y.w.cell? ⟨w.heap.size, 0, none⟩ = some (.int .i64 3) := fun y => (y.h.cell (p := ⟨w.heap.size, _, none⟩) xl).trans x0
  have y1 : ∀ y : Sub W.heap.size W, y.w.cell? ⟨w.heap.size, 1, none⟩ = some (.int .i64 n) := fun y => (y.h.cell (p := ⟨w.heap.size, _, none⟩) xl).trans x1
  have y2 : ∀ y : Sub W.heap.size W, y.w.cell? ⟨w.heap.size, 2, none⟩ = some (.string s) := fun y => (y.h.cell (p := ⟨w.heap.size, _, none⟩) xl).trans x2
  have ne := Sub.ne W.heap.size W
  have HZ := hide (Nat.le_refl W.heap.size)
  have TB := hide (fun y : Sub W.heap.size W => (ht.next (unhide B0)).next y.h)
  have HB := hide (fun y : Sub W.heap.size W => (unhide B0).trans (y.h.mono (unhide B0).size))
  clear hg xl ht
  have hn : (n == 0) = false := beq_eq_false_iff_ne.2 h
  have V := hide (show hereV 3 n s 0 = false by simp [hereV, Ex.here, eqE, eqE1, *])
  have FN := hide (fun r w' (v : Value) => nil_val (r := r) (w := w) (w' := w') (v := v) (unhide V))
  generalize LeafR 3 n s w = R at *
  (go_enter Tryd.func80, Tryd.ntmps80; go_wp2_with fail; refine wp_region_sub (⟨W, Below.refl _ _⟩ : Sub W.heap.size W) (by kernel_rfl) (by kernel_rfl) ?_; (repeat (go_big_quiet_step (first | fail))); refine wpQuiet_nil ?_; intro y; go_wp2; (try go_ret2); exact unhide FN _ _ _ rfl (IfV.of (by first | exact .inl rfl | exact .inr ⟨_, _, rfl⟩) (fun h => by first | rfl | cases h)) (unhide HB _))
set_option maxHeartbeats 2000000 in
theorem leaf3_s (n : Int) (s : ByteArray) (h : s ≠ E0) : LeafG 3 0 s := by
  intro b ll cap w ht
  obtain ⟨W, hW⟩ : ∃ W, w.alloc (.cells #[.int .i64 3, .int .i64 0, .string s, .slice b ll cap] 31) = W := ⟨_, rfl⟩
  have B0 := hide (below_new w (.cells #[.int .i64 3, .int .i64 0, .string s, .slice b ll cap] 31))
  have hg : W.heap[w.heap.size]? = some (.cells #[.int .i64 3, .int .i64 0, .string s, .slice b ll cap] 31 (0, 0)) := by rw [← hW]; exact Array.getElem?_push_size
  rw [hW] at B0
  have x0 := Lib.cell_of_heap hg 0
  have x1 := Lib.cell_of_heap hg 1
  have x2 := Lib.cell_of_heap hg 2
  have xl : w.heap.size < W.heap.size := (Array.getElem?_eq_some_iff.1 hg).1
  have y0 : ∀ y : Sub W.heap.size W, y.w.cell? ⟨w.heap.size, 0, none⟩ = some (.int .i64 3) := fun y => (y.h.cell (p := ⟨w.heap.size, _, none⟩) xl).trans x0
  have y1 : ∀ y : Sub W.heap.size W, y.w.cell? ⟨w.heap.size, 1, none⟩ = some (.int .i64 0) := fun y => (y.h.cell (p := ⟨w.heap.size, _, none⟩) xl).trans x1
  have y2 : ∀ y : Sub W.heap.size W, y.w.cell? ⟨w.heap.size, 2, none⟩ = some (.string s) := fun y => (y.h.cell (p := ⟨w.heap.size, _, none⟩) xl).trans x2
  have ne := Sub.ne W.heap.size W
  have HZ := hide (Nat.le_refl W.heap.size)
  have TB := hide (fun y : Sub W.heap.size W => (ht.next (unhide B0)).next y.h)
  have HB := hide (fun y : Sub W.heap.size W => (unhide B0).trans (y.h.mono (unhide B0).size))
  clear hg xl ht
  obtain ⟨h1, h2⟩ := emp_E s h
  have V := hide (show hereV 3 0 s 0 = false by simp [hereV, Ex.here, eqE, eqE1, *])
  have FN := hide (fun r w' (v : Value) => nil_val (r := r) (w := w) (w' := w') (v := v) (unhide V))
  generalize LeafR 3 0 s w = R at *
  (go_enter Tryd.func80, Tryd.ntmps80; go_wp2_with fail; refine wp_region_sub (⟨W, Below.refl _ _⟩ : Sub W.heap.size W) (by kernel_rfl) (by kernel_rfl) ?_; (repeat (go_big_quiet_step (first | fail))); refine wpQuiet_nil ?_; intro y; go_wp2; (try go_ret2); exact unhide FN _ _ _ rfl (IfV.of (by first | exact .inl rfl | exact .inr ⟨_, _, rfl⟩) (fun h => by first | rfl | cases h)) (unhide HB _))
set_option maxHeartbeats 2000000 in
theorem leaf11_s (n : Int) (s : ByteArray) (h : s ≠ E0) : LeafG 11 n s := by
  intro b ll cap w ht
  obtain ⟨W, hW⟩ : ∃ W, w.alloc (.cells #[.int .i64 11, .int .i64 n, .string s, .slice b ll cap] 31) = W := ⟨_, rfl⟩
  have B0 := hide (below_new w (.cells #[.int .i64 11, .int .i64 n, .string s, .slice b ll cap] 31))
  have hg : W.heap[w.heap.size]? = some (.cells #[.int .i64 11, .int .i64 n, .string s, .slice b ll cap] 31 (0, 0)) := by rw [← hW]; exact Array.getElem?_push_size
  rw [hW] at B0
  have x0 := Lib.cell_of_heap hg 0
  have x1 := Lib.cell_of_heap hg 1
  have x2 := Lib.cell_of_heap hg 2
  have xl : w.heap.size < W.heap.size := (Array.getElem?_eq_some_iff.1 hg).1
  have y0 : ∀ y : Sub W.heap.size W, y.w.cell? ⟨w.heap.size, 0, none⟩ = some (.int .i64 11) := fun y => (y.h.cell (p := ⟨w.heap.size, _, none⟩) xl).trans x0
  have y1 : ∀ y : Sub W.heap.size W, y.w.cell? ⟨w.heap.size, 1, none⟩ = some (.int .i64 n) := fun y => (y.h.cell (p := ⟨w.heap.size, _, none⟩) xl).trans x1
  have y2 : ∀ y : Sub W.heap.size W, y.w.cell? ⟨w.heap.size, 2, none⟩ = some (.string s) := fun y => (y.h.cell (p := ⟨w.heap.size, _, none⟩) xl).trans x2
  have ne := Sub.ne W.heap.size W
  have HZ := hide (Nat.le_refl W.heap.size)
  have TB := hide (fun y : Sub W.heap.size W => (ht.next (unhide B0)).next y.h)
  have HB := hide (fun y : Sub W.heap.size W => (unhide B0).trans (y.h.mono (unhide B0).size))
  clear hg xl ht
  obtain ⟨h1, h2⟩ := emp_E s h
  have V := hide (show hereV 11 n s 0 = false by simp [hereV, Ex.here, eqE, eqE1, *])
  have FN := hide (fun r w' (v : Value) => nil_val (r := r) (w := w) (w' := w') (v := v) (unhide V))
  generalize LeafR 11 n s w = R at *
  by_cases g1 : 0 ≤ n
  · by_cases g2 : n ≤ 9
    · (go_enter Tryd.func80, Tryd.ntmps80; go_wp2_with fail; refine wp_region_sub (⟨W, Below.refl _ _⟩ : Sub W.heap.size W) (by kernel_rfl) (by kernel_rfl) ?_; (repeat (go_big_quiet_step (first | fail))); refine wpQuiet_nil ?_; intro y; go_wp2; (try go_ret2); exact unhide FN _ _ _ rfl (IfV.of (by first | exact .inl rfl | exact .inr ⟨_, _, rfl⟩) (fun h => by first | rfl | cases h)) (unhide HB _))
    · have g4 : decide (n ≤ 9) = false := decide_eq_false g2
      (go_enter Tryd.func80, Tryd.ntmps80; go_wp2_with fail; refine wp_region_sub (⟨W, Below.refl _ _⟩ : Sub W.heap.size W) (by kernel_rfl) (by kernel_rfl) ?_; (repeat (go_big_quiet_step (first | fail))); refine wpQuiet_nil ?_; intro y; go_wp2; (try go_ret2); exact unhide FN _ _ _ rfl (IfV.of (by first | exact .inl rfl | exact .inr ⟨_, _, rfl⟩) (fun h => by first | rfl | cases h)) (unhide HB _))
  · have g3 : decide (0 ≤ n) = false := decide_eq_false g1
    (go_enter Tryd.func80, Tryd.ntmps80; go_wp2_with fail; refine wp_region_sub (⟨W, Below.refl _ _⟩ : Sub W.heap.size W) (by kernel_rfl) (by kernel_rfl) ?_; (repeat (go_big_quiet_step (first | fail))); refine wpQuiet_nil ?_; intro y; go_wp2; (try go_ret2); exact unhide FN _ _ _ rfl (IfV.of (by first | exact .inl rfl | exact .inr ⟨_, _, rfl⟩) (fun h => by first | rfl | cases h)) (unhide HB _))
set_option maxHeartbeats 2000000 in
theorem leaf11_0 (n : Int) (s : ByteArray) : LeafG 11 n ⟨#[]⟩ := by
  intro b ll cap w ht
  obtain ⟨W, hW⟩ : ∃ W, w.alloc (.cells #[.int .i64 11, .int .i64 n, .string ⟨#[]⟩, .slice b ll cap] 31) = W := ⟨_, rfl⟩
  have B0 := hide (below_new w (.cells #[.int .i64 11, .int .i64 n, .string ⟨#[]⟩, .slice b ll cap] 31))
  have hg : W.heap[w.heap.size]? = some (.cells #[.int .i64 11, .int .i64 n, .string ⟨#[]⟩, .slice b ll cap] 31 (0, 0)) := by rw [← hW]; exact Array.getElem?_push_size
  rw [hW] at B0
  have x0 := Lib.cell_of_heap hg 0
  have x1 := Lib.cell_of_heap hg 1
  have x2 := Lib.cell_of_heap hg 2
  have xl : w.heap.size < W.heap.size := (Array.getElem?_eq_some_iff.1 hg).1
  have y0 : ∀ y : Sub W.heap.size W, y.w.cell? ⟨w.heap.size, 0, none⟩ = some (.int .i64 11) := fun y => (y.h.cell (p := ⟨w.heap.size, _, none⟩) xl).trans x0
  have y1 : ∀ y : Sub W.heap.size W, y.w.cell? ⟨w.heap.size, 1, none⟩ = some (.int .i64 n) := fun y => (y.h.cell (p := ⟨w.heap.size, _, none⟩) xl).trans x1
  have y2 : ∀ y : Sub W.heap.size W, y.w.cell? ⟨w.heap.size, 2, none⟩ = some (.string ⟨#[]⟩) := fun y => (y.h.cell (p := ⟨w.heap.size, _, none⟩) xl).trans x2
  have ne := Sub.ne W.heap.size W
  have HZ := hide (Nat.le_refl W.heap.size)
  have TB := hide (fun y : Sub W.heap.size W => (ht.next (unhide B0)).next y.h)
  have HB := hide (fun y : Sub W.heap.size W => (unhide B0).trans (y.h.mono (unhide B0).size))
  clear hg xl ht
  by_cases g1 : 0 ≤ n
  · by_cases g2 : n ≤ 9
    · have e : inB n 0 9 = true := by unfold inB; simp <;> omega
      have V := hide (show hereV 11 n ⟨#[]⟩ 0 = true by simp [hereV, Ex.here, eqE, eqE1, e])
      have FN := hide (fun r w' (v : Value) => nil_val (r := r) (w := w) (w' := w') (v := v) (unhide V))
      generalize LeafR 11 n ⟨#[]⟩ w = R at *
      clear e
      (go_enter Tryd.func80, Tryd.ntmps80; go_wp2_with fail; refine wp_region_sub (⟨W, Below.refl _ _⟩ : Sub W.heap.size W) (by kernel_rfl) (by kernel_rfl) ?_; (repeat (go_big_quiet_step (first | fail))); refine wpQuiet_nil ?_; intro y; go_wp2; (try go_ret2); exact unhide FN _ _ _ rfl (IfV.of (by first | exact .inl rfl | exact .inr ⟨_, _, rfl⟩) (fun h => by first | rfl | cases h)) (unhide HB _))
    · have g4 : decide (n ≤ 9) = false := decide_eq_false g2
      have e : inB n 0 9 = false := by unfold inB; simp <;> omega
      have V := hide (show hereV 11 n ⟨#[]⟩ 0 = false by simp [hereV, Ex.here, eqE, eqE1, e])
      have FN := hide (fun r w' (v : Value) => nil_val (r := r) (w := w) (w' := w') (v := v) (unhide V))
      generalize LeafR 11 n ⟨#[]⟩ w = R at *
      clear e
      (go_enter Tryd.func80, Tryd.ntmps80; go_wp2_with fail; refine wp_region_sub (⟨W, Below.refl _ _⟩ : Sub W.heap.size W) (by kernel_rfl) (by kernel_rfl) ?_; (repeat (go_big_quiet_step (first | fail))); refine wpQuiet_nil ?_; intro y; go_wp2; (try go_ret2); exact unhide FN _ _ _ rfl (IfV.of (by first | exact .inl rfl | exact .inr ⟨_, _, rfl⟩) (fun h => by first | rfl | cases h)) (unhide HB _))
  · have g3 : decide (0 ≤ n) = false := decide_eq_false g1
    have e : inB n 0 9 = false := by unfold inB; simp <;> omega
    have V := hide (show hereV 11 n ⟨#[]⟩ 0 = false by simp [hereV, Ex.here, eqE, eqE1, e])
    have FN := hide (fun r w' (v : Value) => nil_val (r := r) (w := w) (w' := w') (v := v) (unhide V))
    generalize LeafR 11 n ⟨#[]⟩ w = R at *
    clear e
    (go_enter Tryd.func80, Tryd.ntmps80; go_wp2_with fail; refine wp_region_sub (⟨W, Below.refl _ _⟩ : Sub W.heap.size W) (by kernel_rfl) (by kernel_rfl) ?_; (repeat (go_big_quiet_step (first | fail))); refine wpQuiet_nil ?_; intro y; go_wp2; (try go_ret2); exact unhide FN _ _ _ rfl (IfV.of (by first | exact .inl rfl | exact .inr ⟨_, _, rfl⟩) (fun h => by first | rfl | cases h)) (unhide HB _))
set_option maxHeartbeats 2000000 in
theorem leaf_no (k n : Int) (s : ByteArray) (h1 : k ≠ 1) (h2 : k ≠ 2) (h3 : k ≠ 3) (h11 : k ≠ 11) (h12 : k ≠ 12) : LeafG k n s := by
  intro b ll cap w ht
  obtain ⟨W, hW⟩ : ∃ W, w.alloc (.cells #[.int .i64 k, .int .i64 n, .string s, .slice b ll cap] 31) = W := ⟨_, rfl⟩
  have B0 := hide (below_new w (.cells #[.int .i64 k, .int .i64 n, .string s, .slice b ll cap] 31))
  have hg : W.heap[w.heap.size]? = some (.cells #[.int .i64 k, .int .i64 n, .string s, .slice b ll cap] 31 (0, 0)) := by rw [← hW]; exact Array.getElem?_push_size
  rw [hW] at B0
  have x0 := Lib.cell_of_heap hg 0
  have x1 := Lib.cell_of_heap hg 1
  have x2 := Lib.cell_of_heap hg 2
  have xl : w.heap.size < W.heap.size := (Array.getElem?_eq_some_iff.1 hg).1
  have y0 : ∀ y : Sub W.heap.size W, y.w.cell? ⟨w.heap.size, 0, none⟩ = some (.int .i64 k) := fun y => (y.h.cell (p := ⟨w.heap.size, _, none⟩) xl).trans x0
  have y1 : ∀ y : Sub W.heap.size W, y.w.cell? ⟨w.heap.size, 1, none⟩ = some (.int .i64 n) := fun y => (y.h.cell (p := ⟨w.heap.size, _, none⟩) xl).trans x1
  have y2 : ∀ y : Sub W.heap.size W, y.w.cell? ⟨w.heap.size, 2, none⟩ = some (.string s) := fun y => (y.h.cell (p := ⟨w.heap.size, _, none⟩) xl).trans x2
  have ne := Sub.ne W.heap.size W
  have HZ := hide (Nat.le_refl W.heap.size)
  have TB := hide (fun y : Sub W.heap.size W => (ht.next (unhide B0)).next y.h)
  have HB := hide (fun y : Sub W.heap.size W => (unhide B0).trans (y.h.mono (unhide B0).size))
  clear hg xl ht
  have g1 : (k == 1) = false := beq_eq_false_iff_ne.2 h1
  have g2 : (k == 2) = false := beq_eq_false_iff_ne.2 h2
  have g3 : (k == 3) = false := beq_eq_false_iff_ne.2 h3
  have g11 : (k == 11) = false := beq_eq_false_iff_ne.2 h11
  have g12 : (k == 12) = false := beq_eq_false_iff_ne.2 h12
  have V := hide (show hereV k n s 0 = false by unfold hereV Ex.here; simp only [List.length_replicate]; split; rfl; rw [if_neg (by omega)]; (repeat' (first | rfl | split)); all_goals first | rfl | omega)
  have FN := hide (fun r w' (v : Value) => nil_val (r := r) (w := w) (w' := w') (v := v) (unhide V))
  generalize LeafR k n s w = R at *
  (go_enter Tryd.func80, Tryd.ntmps80; go_wp2; (try go_ret2); exact unhide FN _ _ _ rfl (IfV.of (by first | exact .inl rfl | exact .inr ⟨_, _, rfl⟩) (fun h => by cases h)) (unhide B0))
theorem leaf_any (k n : Int) (s : ByteArray) (b : Option Addr) (ll cap : Nat) (w : World) (hs : s.size ≤ 1099511627776) (ht : TabK w) : Calls Tryd.prog 80 #[.agg #[.int .i64 k, .int .i64 n, .string s, .slice b ll cap]] w (LeafR k n s w) := by
  revert b ll cap w
  show ∀ b ll cap w, TabK w → _
  by_cases c1 : k = 1
  · subst c1
    by_cases h : s = E0
    · subst h; exact leaf1_0 n E0
    · exact leaf1_s n s h
  by_cases c2 : k = 2
  · subst c2
    by_cases h : n = 0
    · subst h; exact leaf2_0 0 s hs
    · exact leaf2_n n s h hs
  by_cases c12 : k = 12
  · subst c12
    by_cases h : n = 0
    · subst h; exact leaf12_0 0 s hs
    · exact leaf12_n n s h hs
  by_cases c3 : k = 3
  · subst c3
    by_cases h : n = 0
    · subst h
      by_cases h : s = E0
      · subst h; exact leaf3_0 0 E0
      · exact leaf3_s 0 s h
    · exact leaf3_n n s h
  by_cases c11 : k = 11
  · subst c11
    by_cases h : s = E0
    · subst h; exact leaf11_0 n E0
    · exact leaf11_s n s h
  exact leaf_no k n s c1 c2 c3 c11 c12
end Go.Proofs.YtmhcbehplhfgfaaDoor

namespace Go.Proofs.YtmhcbehplhfgfaaDoor
open Go.ChangeShapes Go.WideShapes Go.ChangeAt Go.RowKit
set_option linter.unusedVariables false
set_option maxRecDepth 8000
set_option linter.unusedSimpArgs false

set_option maxHeartbeats 2000000 in
theorem pair_any (k : Int) (u v : Value) (w : World) : Calls Tryd.prog 81 #[.int .i64 k, .agg #[u, v]] w fun r w' => ∃ x, r = .returned (.tuple #[x, .bool (inB k 5 10)]) ∧ (IfV x ∧ (inB k 5 10 = true → x = .iface (pairT k) (.agg #[u, v]))) ∧ Below w.heap.size w w' := by
  have B0 := hide (below_new w (.cells #[u, v] 134))
  by_cases h5 : k = 5
  · subst h5
    rw [show inB 5 5 10 = true by decide]
    go_enter Tryd.func81, Tryd.ntmps81
    go_wp2
    go_ret2
    exact ⟨_, rfl, IfV.of (.inr ⟨_, _, rfl⟩) (fun _ => rfl), unhide B0⟩
  by_cases h6 : k = 6
  · subst h6
    rw [show inB 6 5 10 = true by decide]
    go_enter Tryd.func81, Tryd.ntmps81
    go_wp2
    go_ret2
    exact ⟨_, rfl, IfV.of (.inr ⟨_, _, rfl⟩) (fun _ => rfl), unhide B0⟩
  by_cases h7 : k = 7
  · subst h7
    rw [show inB 7 5 10 = true by decide]
    go_enter Tryd.func81, Tryd.ntmps81
    go_wp2
    go_ret2
    exact ⟨_, rfl, IfV.of (.inr ⟨_, _, rfl⟩) (fun _ => rfl), unhide B0⟩
  by_cases h8 : k = 8
  · subst h8
    rw [show inB 8 5 10 = true by decide]
    go_enter Tryd.func81, Tryd.ntmps81
    go_wp2
    go_ret2
    exact ⟨_, rfl, IfV.of (.inr ⟨_, _, rfl⟩) (fun _ => rfl), unhide B0⟩
  by_cases h9 : k = 9
  · subst h9
    rw [show inB 9 5 10 = true by decide]
    go_enter Tryd.func81, Tryd.ntmps81
    go_wp2
    go_ret2
    exact ⟨_, rfl, IfV.of (.inr ⟨_, _, rfl⟩) (fun _ => rfl), unhide B0⟩
  by_cases h10 : k = 10
  · subst h10
    rw [show inB 10 5 10 = true by decide]
    go_enter Tryd.func81, Tryd.ntmps81
    go_wp2
    go_ret2
    exact ⟨_, rfl, IfV.of (.inr ⟨_, _, rfl⟩) (fun _ => rfl), unhide B0⟩
  have g5 : (k == 5) = false := beq_eq_false_iff_ne.2 h5
  have g6 : (k == 6) = false := beq_eq_false_iff_ne.2 h6
  have g7 : (k == 7) = false := beq_eq_false_iff_ne.2 h7
  have g8 : (k == 8) = false := beq_eq_false_iff_ne.2 h8
  have g9 : (k == 9) = false := beq_eq_false_iff_ne.2 h9
  have g10 : (k == 10) = false := beq_eq_false_iff_ne.2 h10
  rw [show inB k 5 10 = false by unfold inB; simp; omega]
  go_enter Tryd.func81, Tryd.ntmps81
  go_wp2
  go_ret2
  exact ⟨_, rfl, IfV.of (.inl rfl) (fun h => by cases h), unhide B0⟩
theorem here_one (k : Int) : hereV k 0 ⟨#[]⟩ 1 = (k == 4) := by
  unfold hereV Ex.here
  simp only [List.length_replicate, eqE1]
  by_cases h1 : k = 1
  · subst h1; rfl
  by_cases h2 : k = 2
  · subst h2; simp
  by_cases h12 : k = 12
  · subst h12; simp
  by_cases h11 : k = 11
  · subst h11; simp
  by_cases h3 : k = 3
  · subst h3; rfl
  by_cases h4 : k = 4
  · subst h4; rfl
  rw [if_neg (by simp), if_neg h1, if_neg (by omega), if_neg h3, if_neg h4, show (k == 4) = false from beq_eq_false_iff_ne.2 h4]
  split
  · rfl
  · rfl
theorem here_two (k : Int) : hereV k 0 ⟨#[]⟩ 2 = inB k 5 10 := by
  unfold hereV Ex.here
  simp only [List.length_replicate, eqE1]
  by_cases h1 : k = 1
  · subst h1; rfl
  by_cases h2 : k = 2
  · subst h2; simp [inB]
  by_cases h12 : k = 12
  · subst h12; simp [inB]
  by_cases h11 : k = 11
  · subst h11; simp [inB]
  by_cases h3 : k = 3
  · subst h3; rfl
  by_cases h4 : k = 4
  · subst h4; rfl
  rw [if_neg (by simp), if_neg h1, if_neg (by omega), if_neg h3, if_neg h4]
  split
  · rename_i h; rw [inB_t _ _ _ h.1 h.2]; rfl
  · rename_i h; rw [inB_f _ _ _ h]
theorem here_more (k n : Int) (s : ByteArray) (ll : Nat) (h : 3 ≤ ll) : hereV k n s ll = false := by
  have e0 : (ll == 0) = false := beq_eq_false_iff_ne.2 (by omega)
  have e1 : (ll == 1) = false := beq_eq_false_iff_ne.2 (by omega)
  have e2 : (ll == 2) = false := beq_eq_false_iff_ne.2 (by omega)
  unfold hereV Ex.here
  simp only [List.length_replicate, e0, e1, e2, Bool.and_false]
  repeat' split
  all_goals rfl
theorem hereV_n (k n : Int) (s : ByteArray) (ll : Nat) (h : 1 ≤ ll) (hn : n ≠ 0) : hereV k n s ll = false := by
  have e0 : (ll == 0) = false := beq_eq_false_iff_ne.2 (by omega)
  have en : (n != 0) = true := by simp [hn]
  unfold hereV Ex.here
  simp only [List.length_replicate, e0, Bool.and_false, en, Bool.and_true]
  by_cases h1 : k = 1
  · subst h1; repeat' split
    all_goals first | rfl | omega
  by_cases h11 : k = 11
  · subst h11; repeat' split
    all_goals first | rfl | omega
  rw [if_pos (by simp [h1, h11])]
theorem hereV_s (k n : Int) (s : ByteArray) (ll : Nat) (h : 1 ≤ ll) (hs : s ≠ E0) : hereV k n s ll = false := by
  have e0 : (ll == 0) = false := beq_eq_false_iff_ne.2 (by omega)
  have es := (emp_E s hs).2
  unfold hereV Ex.here
  simp only [List.length_replicate, e0, Bool.and_false, es, Bool.not_false, Bool.and_true]
  by_cases h1 : k = 2
  · subst h1; repeat' split
    all_goals first | rfl | omega
  by_cases h11 : k = 12
  · subst h11; repeat' split
    all_goals first | rfl | omega
  rw [if_pos (by simp [h1, h11])]
theorem okf_v (d : Nat) (k n : Int) (s : ByteArray) (l : List Ex) : okF (d + 1) false ⟨k, n, s, l⟩ = (hereV k n s l.length && l.all (okF d false)) := by
  rw [okF_s, here_is]
  rfl
theorem tv_if (e : Ex) : ∃ t x, tv e = .iface t x := by
  obtain ⟨k, n, s, l⟩ := e
  rw [tv]
  unfold tvC
  repeat' split
  all_goals exact ⟨_, _, rfl⟩
def TermR (d : Nat) (e : Ex) (w : World) (r : Ending) (w' : World) : Prop := ∃ v, r = .returned (.tuple #[v, .bool (okF d false e)]) ∧ (IfV v ∧ (okF d false e = true → v = tv e)) ∧ Below w.heap.size w w'
theorem termR_of {d : Nat} {e : Ex} {w : World} {r : Ending} {w' : World} {v : Value} {q : Bool} (h : okF d false e = q) (hr : r = .returned (.tuple #[v, .bool q])) (hv : IfV v ∧ (q = true → v = tv e)) (hb : Below w.heap.size w w') : TermR d e w r w' := ⟨v, by rw [h]; exact hr, ⟨hv.1, fun x => hv.2 (h.symm.trans x)⟩, hb⟩
def TermP (d : Nat) : Prop := ∀ (e : Ex) (b : Option Addr) (cap : Nat) (w : World), RdX w 0 e b → e.sz ≤ 1048576 → TabK w → Calls Tryd.prog 64 #[.agg (e.cs b cap), .int .i64 d] w (TermR d e w)
theorem rd_at {w : World} {e : Ex} {b : Option Addr} (h : RdX w 0 e b) {i : Nat} (hi : i < e.l.length) : ∃ p po, b = some ⟨p, po, none⟩ ∧ p < w.heap.size ∧ OneX w 0 p (po + i * 4) (xAt e.l i) := by
  rw [RdX_eq] at h
  rcases h with h | ⟨p, po, rfl, _, hp, hc⟩
  · rw [h] at hi; simp at hi
  · exact ⟨p, po, rfl, hp, hc i hi⟩
set_option maxHeartbeats 2000000 in
theorem term_zero : TermP 0 := by
  intro e b cap w hr hz ht
  have B0 := hide (below_new w (.cells (e.cs b cap) 31))
  have FN := hide (fun r w' v => termR_of (d := 0) (e := e) (w := w) (r := r) (w' := w') (v := v) rfl)
  generalize TermR 0 e w = R at *
  unfold Ex.cs at B0 ⊢
  go_enter Tryd.func64, Tryd.ntmps64
  go_wp2
  (try go_ret2)
  exact unhide FN _ _ _ rfl (IfV.of (by first | exact .inl rfl | exact .inr ⟨_, _, rfl⟩) (fun h => by cases h)) (unhide B0)
set_option maxHeartbeats 2000000 in
theorem term_nil (d : Nat) (h6 : d ≤ 6) (k n : Int) (s : ByteArray) (b : Option Addr) (cap : Nat) (w : World) (hs : s.size ≤ 1048576) (ht : TabK w) : Calls Tryd.prog 64 #[.agg #[.int .i64 k, .int .i64 n, .string s, .slice b 0 cap], .int .i64 ((d + 1 : Nat) : Int)] w (TermR (d + 1) ⟨k, n, s, []⟩ w) := by
  obtain ⟨W, hW⟩ : ∃ W, w.alloc (.cells #[.int .i64 k, .int .i64 n, .string s, .slice b 0 cap] 31) = W := ⟨_, rfl⟩
  have B0 := hide (below_new w (.cells #[.int .i64 k, .int .i64 n, .string s, .slice b 0 cap] 31))
  have hg : W.heap[w.heap.size]? = some (.cells #[.int .i64 k, .int .i64 n, .string s, .slice b 0 cap] 31 (0, 0)) := by rw [← hW]; exact Array.getElem?_push_size
  rw [hW] at B0
  have x0 := Lib.cell_of_heap hg 0
  have x1 := Lib.cell_of_heap hg 1
  have x2 := Lib.cell_of_heap hg 2
  have x3 := Lib.cell_of_heap hg 3
  have xl : w.heap.size < W.heap.size := (Array.getElem?_eq_some_iff.1 hg).1
  have hd0 : (((d + 1 : Nat) : Int) == 0) = false := beq_eq_false_iff_ne.2 (by omega)
  have hd1 : ((d + 1 : Nat) : Int) - 1 = (d : Int) := by omega
  have hdb : 0 ≤ ((d + 1 : Nat) : Int) ∧ ((d + 1 : Nat) : Int) ≤ 100 := by omega
  have LF := hide (leaf_any k n s b 0 cap W (by omega) (ht.next (unhide B0)))
  have FN := hide (fun r w' v q (h : hereV k n s 0 = q) => termR_of (d := d + 1) (e := ⟨k, n, s, []⟩) (w := w) (r := r) (w' := w') (v := v) ((okf_v d k n s []).trans ((Bool.and_true _).trans h)))
  have TV := hide (show tv ⟨k, n, s, []⟩ = tvC k n s [] by rw [tv]; rfl)
  rw [unhide TV] at FN
  generalize TermR (d + 1) ⟨k, n, s, []⟩ w = R at *
  clear hg xl ht TV
  generalize hDD : ((d + 1 : Nat) : Int) = DD at *
  go_enter Tryd.func64, Tryd.ntmps64
  go_wp2_with fail
  refine (unhide LF).mono ?_
  rintro r w1 ⟨v, rfl, hv, hb1⟩
  have F2 := hide (unhide FN (.returned (.tuple #[v, .bool (hereV k n s 0)])) w1 v _ rfl rfl hv ((unhide B0).trans (hb1.mono (unhide B0).size)))
  generalize hereV k n s 0 = q at *
  clear FN hv hb1
  go_wp2
  (try go_ret2)
  exact unhide F2
set_option maxHeartbeats 2000000 in
theorem term_bad (d : Nat) (h6 : d ≤ 6) (k n : Int) (s : ByteArray) (l : List Ex) (b : Option Addr) (cap : Nat) (w : World) (hz : l.length ≤ 1048576) (h1 : 1 ≤ l.length) (h : 3 ≤ l.length ∨ n ≠ 0 ∨ s ≠ E0) : Calls Tryd.prog 64 #[.agg #[.int .i64 k, .int .i64 n, .string s, .slice b l.length cap], .int .i64 ((d + 1 : Nat) : Int)] w (TermR (d + 1) ⟨k, n, s, l⟩ w) := by
  have V : hereV k n s l.length = false := by
    rcases h with h | h | h
    · exact here_more k n s _ h
    · exact hereV_n k n s _ h1 h
    · exact hereV_s k n s _ h1 h
  have FN := hide (fun r w' v => termR_of (d := d + 1) (e := ⟨k, n, s, l⟩) (w := w) (r := r) (w' := w') (v := v) (q := false) (by rw [okf_v, V]; rfl))
  generalize TermR (d + 1) ⟨k, n, s, l⟩ w = R at *
  clear V
  generalize l.length = ll at *
  obtain ⟨W, hW⟩ : ∃ W, w.alloc (.cells #[.int .i64 k, .int .i64 n, .string s, .slice b ll cap] 31) = W := ⟨_, rfl⟩
  have B0 := hide (below_new w (.cells #[.int .i64 k, .int .i64 n, .string s, .slice b ll cap] 31))
  have hg : W.heap[w.heap.size]? = some (.cells #[.int .i64 k, .int .i64 n, .string s, .slice b ll cap] 31 (0, 0)) := by rw [← hW]; exact Array.getElem?_push_size
  rw [hW] at B0
  have x0 := Lib.cell_of_heap hg 0
  have x1 := Lib.cell_of_heap hg 1
  have x2 := Lib.cell_of_heap hg 2
  have x3 := Lib.cell_of_heap hg 3
  have xl : w.heap.size < W.heap.size := (Array.getElem?_eq_some_iff.1 hg).1
  have hd0 : (((d + 1 : Nat) : Int) == 0) = false := beq_eq_false_iff_ne.2 (by omega)
  have hd1 : ((d + 1 : Nat) : Int) - 1 = (d : Int) := by omega
  have hdb : 0 ≤ ((d + 1 : Nat) : Int) ∧ ((d + 1 : Nat) : Int) ≤ 100 := by omega
  clear hg xl
  have h0 : ((ll : Int) == 0) = false := beq_eq_false_iff_ne.2 (by omega)
  generalize hDD : ((d + 1 : Nat) : Int) = DD at *
  by_cases h3 : 3 ≤ ll
  · have g3 : (2 : Int) < (ll : Int) := by omega
    clear h
    go_enter Tryd.func64, Tryd.ntmps64
    go_wp2
    (try go_ret2)
    exact unhide FN _ _ _ rfl (IfV.of (by first | exact .inl rfl | exact .inr ⟨_, _, rfl⟩) (fun h => by cases h)) (unhide B0)
  · have g3 : decide ((2 : Int) < (ll : Int)) = false := decide_eq_false (by omega)
    have g4 : decide (2 < ll) = false := decide_eq_false (by omega)
    by_cases hn : n = 0
    · subst hn
      have hs : s ≠ E0 := by rcases h with h | h | h; omega; exact absurd rfl h; exact h
      obtain ⟨e1, e2⟩ := emp_E s hs
      clear h
      go_enter Tryd.func64, Tryd.ntmps64
      go_wp2
      (try go_ret2)
      exact unhide FN _ _ _ rfl (IfV.of (by first | exact .inl rfl | exact .inr ⟨_, _, rfl⟩) (fun h => by cases h)) (unhide B0)
    · have en : (n == 0) = false := beq_eq_false_iff_ne.2 hn
      clear h
      go_enter Tryd.func64, Tryd.ntmps64
      go_wp2
      (try go_ret2)
      exact unhide FN _ _ _ rfl (IfV.of (by first | exact .inl rfl | exact .inr ⟨_, _, rfl⟩) (fun h => by cases h)) (unhide B0)
set_option maxHeartbeats 4000000 in
theorem term_one (d : Nat) (h6 : d ≤ 6) (ih : TermP d) (k : Int) (a : Ex) (b : Option Addr) (cap : Nat) (w : World) (hr : RdX w 0 ⟨k, 0, ⟨#[]⟩, [a]⟩ b) (hz : a.sz ≤ 1048576) (ht : TabK w) : Calls Tryd.prog 64 #[.agg #[.int .i64 k, .int .i64 0, .string ⟨#[]⟩, .slice b 1 cap], .int .i64 ((d + 1 : Nat) : Int)] w (TermR (d + 1) ⟨k, 0, ⟨#[]⟩, [a]⟩ w) := by
  obtain ⟨W, hW⟩ : ∃ W, w.alloc (.cells #[.int .i64 k, .int .i64 0, .string ⟨#[]⟩, .slice b 1 cap] 31) = W := ⟨_, rfl⟩
  have B0 := hide (below_new w (.cells #[.int .i64 k, .int .i64 0, .string ⟨#[]⟩, .slice b 1 cap] 31))
  have hg : W.heap[w.heap.size]? = some (.cells #[.int .i64 k, .int .i64 0, .string ⟨#[]⟩, .slice b 1 cap] 31 (0, 0)) := by rw [← hW]; exact Array.getElem?_push_size
  rw [hW] at B0
  have x0 := Lib.cell_of_heap hg 0
  have x1 := Lib.cell_of_heap hg 1
  have x2 := Lib.cell_of_heap hg 2
  have x3 := Lib.cell_of_heap hg 3
  have xl : w.heap.size < W.heap.size := (Array.getElem?_eq_some_iff.1 hg).1
  have hd0 : (((d + 1 : Nat) : Int) == 0) = false := beq_eq_false_iff_ne.2 (by omega)
  have hd1 : ((d + 1 : Nat) : Int) - 1 = (d : Int) := by omega
  have hdb : 0 ≤ ((d + 1 : Nat) : Int) ∧ ((d + 1 : Nat) : Int) ≤ 100 := by omega
  obtain ⟨p, po, rfl, hp, o0⟩ := rd_at (hr.later (unhide B0)) (i := 0) (show 0 < [a].length by simp)
  obtain ⟨e00, e01, e02, c0, cp0, e03, e04⟩ := o0
  simp only [show xAt [a] 0 = a from rfl] at e00 e01 e02 e03 e04
  rw [Nat.zero_mul, Nat.add_zero] at e00 e01 e02 e03
  have IH := hide (ih a c0 cp0 W e04 hz (ht.next (unhide B0)))
  have FN := hide (fun r w' v q (h : (k == 4 && okF d false a) = q) => termR_of (d := d + 1) (e := ⟨k, 0, ⟨#[]⟩, [a]⟩) (w := w) (r := r) (w' := w') (v := v) (q := q) (by rw [okf_v, ← h, show [a].length = 1 from rfl, here_one]; simp))
  have TV := hide (show k = 4 → tv ⟨k, 0, ⟨#[]⟩, [a]⟩ = .iface 129 (.agg #[tv a]) by rintro rfl; exact tv_neg _ _ _)
  generalize tv ⟨k, 0, ⟨#[]⟩, [a]⟩ = tve at *
  generalize TermR (d + 1) ⟨k, 0, ⟨#[]⟩, [a]⟩ w = R at *
  unfold Ex.cs at IH
  generalize a.k = ak at *
  generalize a.n = an at *
  generalize a.s = asv at *
  generalize a.l.length = al at *
  have y0 : ∀ w1, Below W.heap.size W w1 → w1.cell? ⟨w.heap.size, 0, none⟩ = some (.int .i64 k) := fun w1 hb => (hb.cell (p := ⟨w.heap.size, _, none⟩) xl).trans x0
  have y3 : ∀ w1, Below W.heap.size W w1 → w1.cell? ⟨w.heap.size, 3, none⟩ = some (.slice (some ⟨p, po, none⟩) 1 cap) := fun w1 hb => (hb.cell (p := ⟨w.heap.size, _, none⟩) xl).trans x3
  have Y0 := hide y0
  have Y3 := hide y3
  have KQ : k = 4 ∨ k ≠ 4 := by omega
  clear hg xl ht hr hz ih e04 y0 y3 hp
  generalize hDD : ((d + 1 : Nat) : Int) = DD at *
  go_enter Tryd.func64, Tryd.ntmps64
  go_wp2_with fail
  refine (unhide IH).mono ?_
  rintro r w1 ⟨v, rfl, hv, hb1⟩
  have BB := hide ((unhide B0).trans (hb1.mono (unhide B0).size))
  have z0 := unhide Y0 w1 hb1
  have z3 := unhide Y3 w1 hb1
  have HV := hide hv
  generalize okF d false a = q at *
  clear hv hb1 Y0 Y3 IH x0 x1 x2 x3 e00 e01 e02 e03
  cases q with
  | false =>
    have F2 := hide (fun r w' v => unhide FN r w' v false (Bool.and_false _))
    clear FN
    go_wp2
    (try go_ret2)
    exact unhide F2 _ _ _ rfl (IfV.of (by first | exact .inl rfl | exact .inr ⟨_, _, rfl⟩) (fun h => by cases h)) (unhide BB)
  | true =>
    obtain ⟨t1, x1, e1⟩ := tv_if a
    have hve := (unhide HV).2 rfl
    rw [e1] at hve TV
    subst hve
    clear HV e1
    have xl1 : w.heap.size < w1.heap.size := World.block_lt_of_cell? w1 _ z0
    have q0 : ∀ y : Sub w1.heap.size w1, y.w.cell? ⟨w.heap.size, 0, none⟩ = some (.int .i64 k) := fun y => (y.h.cell (p := ⟨w.heap.size, _, none⟩) xl1).trans z0
    have ne := Sub.ne w1.heap.size w1
    have BY := hide (fun y : Sub w1.heap.size w1 => (unhide BB).trans (y.h.mono (unhide BB).size))
    clear xl1
    rcases KQ with rfl | hk
    · have F2 := hide (fun r w' (hr : r = .returned (.tuple #[.iface 129 (.agg #[.iface t1 x1]), .bool true])) hb => unhide FN r w' _ true rfl hr (IfV.of (.inr ⟨_, _, rfl⟩) (fun _ => (unhide TV rfl).symm)) hb)
      clear FN TV
      go_wp2_with fail
      refine wp_region_sub (⟨w1, Below.refl _ _⟩ : Sub w1.heap.size w1) (by kernel_rfl) (by kernel_rfl) ?_
      repeat (go_big_quiet_step (first | fail))
      refine wpQuiet_nil ?_
      intro y
      go_wp2
      (try go_ret2)
      exact unhide F2 _ _ rfl (unhide BY _)
    · have hk4 : (k == 4) = false := beq_eq_false_iff_ne.2 hk
      have F2 := hide (fun r w' v => unhide FN r w' v false (by rw [hk4]; rfl))
      clear FN TV
      go_wp2_with fail
      refine wp_region_sub (⟨w1, Below.refl _ _⟩ : Sub w1.heap.size w1) (by kernel_rfl) (by kernel_rfl) ?_
      repeat (go_big_quiet_step (first | fail))
      refine wpQuiet_nil ?_
      intro y
      go_wp2
      (try go_ret2)
      exact unhide F2 _ _ _ rfl (IfV.of (by first | exact .inl rfl | exact .inr ⟨_, _, rfl⟩) (fun h => by cases h)) (unhide BY _)
set_option maxHeartbeats 4000000 in
theorem term_two (d : Nat) (h6 : d ≤ 6) (ih : TermP d) (k : Int) (a a2 : Ex) (b : Option Addr) (cap : Nat) (w : World) (hr : RdX w 0 ⟨k, 0, ⟨#[]⟩, [a, a2]⟩ b) (hz : a.sz ≤ 1048576) (hz2 : a2.sz ≤ 1048576) (ht : TabK w) : Calls Tryd.prog 64 #[.agg #[.int .i64 k, .int .i64 0, .string ⟨#[]⟩, .slice b 2 cap], .int .i64 ((d + 1 : Nat) : Int)] w (TermR (d + 1) ⟨k, 0, ⟨#[]⟩, [a, a2]⟩ w) := by
  obtain ⟨W, hW⟩ : ∃ W, w.alloc (.cells #[.int .i64 k, .int .i64 0, .string ⟨#[]⟩, .slice b 2 cap] 31) = W := ⟨_, rfl⟩
  have B0 := hide (below_new w (.cells #[.int .i64 k, .int .i64 0, .string ⟨#[]⟩, .slice b 2 cap] 31))
  have hg : W.heap[w.heap.size]? = some (.cells #[.int .i64 k, .int .i64 0, .string ⟨#[]⟩, .slice b 2 cap] 31 (0, 0)) := by rw [← hW]; exact Array.getElem?_push_size
  rw [hW] at B0
  have x0 := Lib.cell_of_heap hg 0
  have x1 := Lib.cell_of_heap hg 1
  have x2 := Lib.cell_of_heap hg 2
  have x3 := Lib.cell_of_heap hg 3
  have xl : w.heap.size < W.heap.size := (Array.getElem?_eq_some_iff.1 hg).1
  have hd0 : (((d + 1 : Nat) : Int) == 0) = false := beq_eq_false_iff_ne.2 (by omega)
  have hd1 : ((d + 1 : Nat) : Int) - 1 = (d : Int) := by omega
  have hdb : 0 ≤ ((d + 1 : Nat) : Int) ∧ ((d + 1 : Nat) : Int) ≤ 100 := by omega
  obtain ⟨p, po, rfl, hp, o0⟩ := rd_at (hr.later (unhide B0)) (i := 0) (show 0 < [a, a2].length by simp)
  obtain ⟨_, _, hpe, _, o1⟩ := rd_at (hr.later (unhide B0)) (i := 1) (show 1 < [a, a2].length by simp)
  cases hpe
  obtain ⟨e00, e01, e02, c0, cp0, e03, e04⟩ := o0
  simp only [show xAt [a, a2] 0 = a from rfl] at e00 e01 e02 e03 e04
  obtain ⟨e10, e11, e12, c1, cp1, e13, e14⟩ := o1
  simp only [show xAt [a, a2] 1 = a2 from rfl] at e10 e11 e12 e13 e14
  rw [Nat.zero_mul, Nat.add_zero] at e00 e01 e02 e03
  rw [Nat.one_mul] at e10 e11 e12 e13
  have IH := hide (ih a c0 cp0 W e04 hz (ht.next (unhide B0)))
  have IH2 := hide (fun w1 (hb : Below W.heap.size W w1) => ih a2 c1 cp1 w1 (e14.later hb) hz2 ((ht.next (unhide B0)).next hb))
  have FN := hide (fun r w' v q (h : (inB k 5 10 && (okF d false a && okF d false a2)) = q) => termR_of (d := d + 1) (e := ⟨k, 0, ⟨#[]⟩, [a, a2]⟩) (w := w) (r := r) (w' := w') (v := v) (q := q) (by rw [okf_v, ← h, show [a, a2].length = 2 from rfl, here_two]; simp))
  have TV := hide (show inB k 5 10 = true → tv ⟨k, 0, ⟨#[]⟩, [a, a2]⟩ = .iface (pairT k) (.agg #[tv a, tv a2]) by intro h; exact tv_two ((inB_iff _ _ _).1 h) _ _ _ _)
  generalize tv ⟨k, 0, ⟨#[]⟩, [a, a2]⟩ = tve at *
  generalize TermR (d + 1) ⟨k, 0, ⟨#[]⟩, [a, a2]⟩ w = R at *
  unfold Ex.cs at IH IH2
  generalize a.k = ak at *
  generalize a.n = an at *
  generalize a.s = asv at *
  generalize a.l.length = al at *
  generalize a2.k = bk at *
  generalize a2.n = bn at *
  generalize a2.s = bs at *
  generalize a2.l.length = bl at *
  have Y0 := hide (fun w1 (hb : Below W.heap.size W w1) => (hb.cell (p := ⟨w.heap.size, 0, none⟩) xl).trans x0)
  have Y3 := hide (fun w1 (hb : Below W.heap.size W w1) => (hb.cell (p := ⟨w.heap.size, 3, none⟩) xl).trans x3)
  have U0 := hide (fun w1 (hb : Below W.heap.size W w1) => (hb.cell (p := ⟨p, po + 4, none⟩) hp).trans e10)
  have U1 := hide (fun w1 (hb : Below W.heap.size W w1) => (hb.cell (p := ⟨p, po + 4 + 1, none⟩) hp).trans e11)
  have U2 := hide (fun w1 (hb : Below W.heap.size W w1) => (hb.cell (p := ⟨p, po + 4 + 2, none⟩) hp).trans e12)
  have U3 := hide (fun w1 (hb : Below W.heap.size W w1) => (hb.cell (p := ⟨p, po + 4 + 3, none⟩) hp).trans e13)
  clear hg xl ht hr hz hz2 ih e04 e14 e10 e11 e12 e13 hp
  generalize hDD : ((d + 1 : Nat) : Int) = DD at *
  go_enter Tryd.func64, Tryd.ntmps64
  go_wp2_with fail
  refine (unhide IH).mono ?_
  rintro r w1 ⟨v, rfl, hv, hb1⟩
  have HB1 := hide hb1
  have BB := hide ((unhide B0).trans (hb1.mono (unhide B0).size))
  have z0 := unhide Y0 w1 hb1
  have z3 := unhide Y3 w1 hb1
  have u0 := unhide U0 w1 hb1
  have u1 := unhide U1 w1 hb1
  have u2 := unhide U2 w1 hb1
  have u3 := unhide U3 w1 hb1
  have HV := hide hv
  have J2 := hide (unhide IH2 w1 hb1)
  generalize okF d false a = q at *
  clear hv hb1 U0 U1 U2 U3 IH IH2 x0 x1 x2 x3 e00 e01 e02 e03
  cases q with
  | false =>
    have F2 := hide (fun r w' v => unhide FN r w' v false (by rw [Bool.false_and, Bool.and_false]))
    clear FN
    go_wp2
    (try go_ret2)
    exact unhide F2 _ _ _ rfl (IfV.of (by first | exact .inl rfl | exact .inr ⟨_, _, rfl⟩) (fun h => by cases h)) (unhide BB)
  | true =>
    obtain ⟨t1, x1, e1⟩ := tv_if a
    have hve := (unhide HV).2 rfl
    rw [e1] at hve TV
    subst hve
    clear HV e1
    go_wp2_with fail
    refine (unhide J2).mono ?_
    rintro r w2 ⟨v2, rfl, hv2, hb2⟩
    have HB2 := hide ((unhide HB1).trans (hb2.mono (unhide HB1).size))
    have B2 := hide ((unhide BB).trans (hb2.mono (unhide BB).size))
    have t0 := unhide Y0 w2 (unhide HB2)
    have HV2 := hide hv2
    generalize okF d false a2 = q2 at *
    clear hv2 hb2 u0 u1 u2 u3 z0 z3 Y0 Y3 J2
    cases q2 with
    | false =>
      have F2 := hide (fun r w' v => unhide FN r w' v false (Bool.and_false _))
      clear FN
      go_wp2
      (try go_ret2)
      exact unhide F2 _ _ _ rfl (IfV.of (by first | exact .inl rfl | exact .inr ⟨_, _, rfl⟩) (fun h => by cases h)) (unhide B2)
    | true =>
      obtain ⟨t2, x2, e2⟩ := tv_if a2
      have hve := (unhide HV2).2 rfl
      rw [e2] at hve TV
      subst hve
      clear HV2 e2
      have F2 := hide (fun r w' v q (h : inB k 5 10 = q) => unhide FN r w' v q ((Bool.and_true _).trans h))
      have P2 := hide (pair_any k (.iface t1 x1) (.iface t2 x2) w2)
      clear FN
      go_wp2_with fail
      refine (unhide P2).mono ?_
      rintro r w3 ⟨x, rfl, hx, hb3⟩
      have F3 := hide (unhide F2 (.returned (.tuple #[x, .bool (inB k 5 10)])) w3 x _ rfl rfl ⟨hx.1, fun h => by rw [hx.2 h, unhide TV h]⟩ ((unhide B2).trans (hb3.mono (unhide B2).size)))
      generalize inB k 5 10 = qq at *
      clear F2 hx hb3 P2
      go_wp2
      (try go_ret2)
      exact unhide F3
theorem term_all : ∀ d : Nat, d ≤ 6 → TermP d := by
  intro d
  induction d with
  | zero => intro _; exact term_zero
  | succ d ih =>
    intro hd e b cap w hr hz ht
    obtain ⟨k, n, s, l⟩ := e
    have hsz := sz_is ⟨k, n, s, l⟩
    simp only at hsz
    unfold Ex.cs
    simp only
    by_cases hbad : 1 ≤ l.length ∧ (3 ≤ l.length ∨ n ≠ 0 ∨ s ≠ E0)
    · exact term_bad d (by omega) k n s l b cap w (by omega) hbad.1 hbad.2
    · match l, hr, hz, hsz, hbad with
      | [], hr, hz, hsz, hbad => exact term_nil d (by omega) k n s b cap w (by omega) ht
      | [a], hr, hz, hsz, hbad =>
        have hn : n = 0 := Classical.byContradiction fun h => hbad ⟨by simp, .inr (.inl h)⟩
        have hs : s = E0 := Classical.byContradiction fun h => hbad ⟨by simp, .inr (.inr h)⟩
        subst hn hs
        exact term_one d (by omega) (ih (by omega)) k a b cap w hr (by simp [szX] at hsz; omega) ht
      | [a, a2], hr, hz, hsz, hbad =>
        have hn : n = 0 := Classical.byContradiction fun h => hbad ⟨by simp, .inr (.inl h)⟩
        have hs : s = E0 := Classical.byContradiction fun h => hbad ⟨by simp, .inr (.inr h)⟩
        subst hn hs
        exact term_two d (by omega) (ih (by omega)) k a a2 b cap w hr (by simp [szX] at hsz; omega) (by simp [szX] at hsz; omega) ht
      | a :: a2 :: a3 :: r, hr, hz, hsz, hbad => exact absurd ⟨by simp, .inl (by simp)⟩ hbad
/-- What termOf answers, without what its value is where it is not right. -/
def TermO (d : Nat) (e : Ex) (w : World) (r : Ending) (w' : World) : Prop := ∃ v, r = .returned (.tuple #[v, .bool (okF d false e)]) ∧ (okF d false e = true → v = tv e) ∧ Below w.heap.size w w'
theorem term_old (d : Nat) (h6 : d ≤ 6) (e : Ex) (b : Option Addr) (cap : Nat) (w : World) (hr : RdX w 0 e b) (hz : e.sz ≤ 1048576) (ht : TabK w) : Calls Tryd.prog 64 #[.agg (e.cs b cap), .int .i64 d] w (TermO d e w) := (term_all d h6 e b cap w hr hz ht).mono fun _ _ ⟨v, h1, h2, h3⟩ => ⟨v, h1, h2.2, h3⟩
end Go.Proofs.YtmhcbehplhfgfaaDoor

namespace Go.Proofs.YtmhcbehplhfgfaaDoor
open Go.ChangeShapes Go.WideShapes Go.ChangeAt Go.RowKit
set_option linter.unusedVariables false
set_option maxRecDepth 8000
set_option linter.unusedSimpArgs false

/-- The forms of a right term. -/
theorem ok_cases {d : Nat} {e : Ex} (h : okF (d + 1) false e = true) : (∃ n : Int, (0 ≤ n ∧ n ≤ 65535) ∧ e = ⟨1, n, E0, []⟩) ∨ (∃ s, nameB s = true ∧ e = ⟨2, 0, s, []⟩) ∨ e = ⟨3, 0, E0, []⟩ ∨ (∃ a, okF d false a = true ∧ e = ⟨4, 0, E0, [a]⟩) ∨ (∃ k a b, (5 ≤ k ∧ k ≤ 10) ∧ okF d false a = true ∧ okF d false b = true ∧ e = ⟨k, 0, E0, [a, b]⟩) ∨ (∃ n : Int, (0 ≤ n ∧ n ≤ 9) ∧ e = ⟨11, n, E0, []⟩) ∨ (∃ s, nameB s = true ∧ e = ⟨12, 0, s, []⟩) := by
  obtain ⟨k, n, s, l⟩ := e
  rw [okf_v, Bool.and_eq_true] at h
  obtain ⟨h1, h2⟩ := h
  match l, h1, h2 with
  | [], h1, _ =>
    have hn : k ≠ 1 → k ≠ 11 → n = 0 := fun g1 g2 => Classical.byContradiction fun hn => by
      unfold hereV Ex.here at h1
      rw [if_pos (by simp [g1, g2, hn])] at h1
      cases h1
    have hs : k ≠ 2 → k ≠ 12 → s = E0 := fun g1 g2 => Classical.byContradiction fun hn => by
      have es := (emp_E s hn).2
      unfold hereV Ex.here at h1
      rw [if_pos (by simp [g1, g2, es])] at h1
      cases h1
    by_cases k1 : k = 1
    · subst k1
      obtain rfl := hs (by decide) (by decide)
      rw [show hereV 1 n E0 ([] : List Ex).length = inB n 0 65535 by simp [hereV, Ex.here, eqE]] at h1
      exact .inl ⟨n, (inB_iff _ _ _).1 h1, rfl⟩
    by_cases k2 : k = 2
    · subst k2
      obtain rfl := hn (by decide) (by decide)
      rw [show hereV 2 0 s ([] : List Ex).length = nameB s by simp [hereV, Ex.here]] at h1
      exact .inr (.inl ⟨s, h1, rfl⟩)
    by_cases k11 : k = 11
    · subst k11
      obtain rfl := hs (by decide) (by decide)
      rw [show hereV 11 n E0 ([] : List Ex).length = inB n 0 9 by simp [hereV, Ex.here, eqE]] at h1
      exact .inr (.inr (.inr (.inr (.inr (.inl ⟨n, (inB_iff _ _ _).1 h1, rfl⟩)))))
    by_cases k12 : k = 12
    · subst k12
      obtain rfl := hn (by decide) (by decide)
      rw [show hereV 12 0 s ([] : List Ex).length = nameB s by simp [hereV, Ex.here]] at h1
      exact .inr (.inr (.inr (.inr (.inr (.inr ⟨s, h1, rfl⟩)))))
    obtain rfl := hn k1 k11
    obtain rfl := hs k2 k12
    by_cases k3 : k = 3
    · subst k3; exact .inr (.inr (.inl rfl))
    exfalso
    unfold hereV Ex.here at h1
    simp only [List.length_replicate, List.length_nil] at h1
    rw [if_neg (by simp [eqE]), if_neg k1, if_neg (by omega), if_neg k3] at h1
    repeat' (split at h1)
    all_goals first | cases h1 | exact absurd h1 (by decide) | omega
  | [a], h1, h2 =>
    have hn : n = 0 := Classical.byContradiction fun hn => by rw [hereV_n k n s _ (by simp) hn] at h1; cases h1
    have hs : s = E0 := Classical.byContradiction fun hn => by rw [hereV_s k n s _ (by simp) hn] at h1; cases h1
    subst hn hs
    have h3 : hereV k 0 ⟨#[]⟩ 1 = true := h1
    rw [here_one, beq_iff_eq] at h3
    subst h3
    exact .inr (.inr (.inr (.inl ⟨a, by simpa using h2, rfl⟩)))
  | [a, b], h1, h2 =>
    have hn : n = 0 := Classical.byContradiction fun hn => by rw [hereV_n k n s _ (by simp) hn] at h1; cases h1
    have hs : s = E0 := Classical.byContradiction fun hn => by rw [hereV_s k n s _ (by simp) hn] at h1; cases h1
    subst hn hs
    have h3 : hereV k 0 ⟨#[]⟩ 2 = true := h1
    rw [here_two] at h3
    have h4 : okF d false a = true ∧ okF d false b = true := by simpa using h2
    exact .inr (.inr (.inr (.inr (.inl ⟨k, a, b, (inB_iff _ _ _).1 h3, h4.1, h4.2, rfl⟩))))
  | a :: b :: c :: r, h1, _ => rw [here_more k n s _ (by simp)] at h1; cases h1
theorem plain_one (d : Nat) (a : Ex) : okF (d + 1) true ⟨4, 0, E0, [a]⟩ = okF d true a := by simp [okF, Ex.here, eqE]
theorem plain_pair (d : Nat) {k : Int} (hk : 5 ≤ k ∧ k ≤ 10) (a b : Ex) : okF (d + 1) true ⟨k, 0, E0, [a, b]⟩ = (okF d true a && okF d true b) := by
  have : k = 5 ∨ k = 6 ∨ k = 7 ∨ k = 8 ∨ k = 9 ∨ k = 10 := by omega
  rcases this with rfl | rfl | rfl | rfl | rfl | rfl <;> simp [okF, Ex.here, eqE]
def IsP (d : Nat) : Prop := ∀ (e : Ex) (w : World), okF d false e = true → Calls Tryd.prog 65 #[tv e] w fun r w' => r = .returned (.bool (okF d true e)) ∧ Below w.heap.size w w'
end Go.Proofs.YtmhcbehplhfgfaaDoor

namespace Go.Proofs.YtmhcbehplhfgfaaDoor
open Go.ChangeShapes Go.WideShapes Go.ChangeAt Go.RowKit
set_option linter.unusedVariables false
set_option maxRecDepth 8000
set_option linter.unusedSimpArgs false

theorem ta_no {P : Program} {T u it : TypeId} {x z : Value} {fs : Array Field} (w : World) (hu : P.underlying u = some (.struct fs)) (hz : (zeroValue u).run P w = .ok z w) (h : T ≠ u) : (Instr.typeAssert (.iface T x) it u true).run P w = .ok (.tuple #[z, .bool false]) w := by
  simp [Instr.typeAssert, run_underlying hu, h, hz]
theorem taN_num (T : TypeId) (x : Value) (h : T ≠ 123) (w : World) : (Instr.typeAssert (.iface T x) 52 123 true).run Tryd.prog w = .ok (.tuple #[.agg #[.int .i64 0], .bool false]) w := ta_no w Tryd.underlying123 (by kernel_rfl) h
theorem taY_num (x : Value) (w : World) : (Instr.typeAssert (.iface 123 x) 52 123 true).run Tryd.prog w = .ok (.tuple #[x, .bool true]) w := by kernel_rfl
theorem taN_sym (T : TypeId) (x : Value) (h : T ≠ 125) (w : World) : (Instr.typeAssert (.iface T x) 52 125 true).run Tryd.prog w = .ok (.tuple #[.agg #[.string ⟨#[]⟩], .bool false]) w := ta_no w Tryd.underlying125 (by kernel_rfl) h
theorem taY_sym (x : Value) (w : World) : (Instr.typeAssert (.iface 125 x) 52 125 true).run Tryd.prog w = .ok (.tuple #[x, .bool true]) w := by kernel_rfl
theorem taN_here (T : TypeId) (x : Value) (h : T ≠ 127) (w : World) : (Instr.typeAssert (.iface T x) 52 127 true).run Tryd.prog w = .ok (.tuple #[.agg #[], .bool false]) w := ta_no w Tryd.underlying127 (by kernel_rfl) h
theorem taY_here (x : Value) (w : World) : (Instr.typeAssert (.iface 127 x) 52 127 true).run Tryd.prog w = .ok (.tuple #[x, .bool true]) w := by kernel_rfl
theorem taN_neg (T : TypeId) (x : Value) (h : T ≠ 129) (w : World) : (Instr.typeAssert (.iface T x) 52 129 true).run Tryd.prog w = .ok (.tuple #[.agg #[.nilIface], .bool false]) w := ta_no w Tryd.underlying129 (by kernel_rfl) h
theorem taY_neg (x : Value) (w : World) : (Instr.typeAssert (.iface 129 x) 52 129 true).run Tryd.prog w = .ok (.tuple #[x, .bool true]) w := by kernel_rfl
theorem taN_add (T : TypeId) (x : Value) (h : T ≠ 138) (w : World) : (Instr.typeAssert (.iface T x) 52 138 true).run Tryd.prog w = .ok (.tuple #[.agg #[.nilIface, .nilIface], .bool false]) w := ta_no w Tryd.underlying138 (by kernel_rfl) h
theorem taY_add (x : Value) (w : World) : (Instr.typeAssert (.iface 138 x) 52 138 true).run Tryd.prog w = .ok (.tuple #[x, .bool true]) w := by kernel_rfl
theorem taN_sub (T : TypeId) (x : Value) (h : T ≠ 139) (w : World) : (Instr.typeAssert (.iface T x) 52 139 true).run Tryd.prog w = .ok (.tuple #[.agg #[.nilIface, .nilIface], .bool false]) w := ta_no w Tryd.underlying139 (by kernel_rfl) h
theorem taY_sub (x : Value) (w : World) : (Instr.typeAssert (.iface 139 x) 52 139 true).run Tryd.prog w = .ok (.tuple #[x, .bool true]) w := by kernel_rfl
theorem taN_mul (T : TypeId) (x : Value) (h : T ≠ 140) (w : World) : (Instr.typeAssert (.iface T x) 52 140 true).run Tryd.prog w = .ok (.tuple #[.agg #[.nilIface, .nilIface], .bool false]) w := ta_no w Tryd.underlying140 (by kernel_rfl) h
theorem taY_mul (x : Value) (w : World) : (Instr.typeAssert (.iface 140 x) 52 140 true).run Tryd.prog w = .ok (.tuple #[x, .bool true]) w := by kernel_rfl
theorem taN_div (T : TypeId) (x : Value) (h : T ≠ 141) (w : World) : (Instr.typeAssert (.iface T x) 52 141 true).run Tryd.prog w = .ok (.tuple #[.agg #[.nilIface, .nilIface], .bool false]) w := ta_no w Tryd.underlying141 (by kernel_rfl) h
theorem taY_div (x : Value) (w : World) : (Instr.typeAssert (.iface 141 x) 52 141 true).run Tryd.prog w = .ok (.tuple #[x, .bool true]) w := by kernel_rfl
theorem taN_and (T : TypeId) (x : Value) (h : T ≠ 142) (w : World) : (Instr.typeAssert (.iface T x) 52 142 true).run Tryd.prog w = .ok (.tuple #[.agg #[.nilIface, .nilIface], .bool false]) w := ta_no w Tryd.underlying142 (by kernel_rfl) h
theorem taY_and (x : Value) (w : World) : (Instr.typeAssert (.iface 142 x) 52 142 true).run Tryd.prog w = .ok (.tuple #[x, .bool true]) w := by kernel_rfl
theorem taN_or (T : TypeId) (x : Value) (h : T ≠ 143) (w : World) : (Instr.typeAssert (.iface T x) 52 143 true).run Tryd.prog w = .ok (.tuple #[.agg #[.nilIface, .nilIface], .bool false]) w := ta_no w Tryd.underlying143 (by kernel_rfl) h
theorem taY_or (x : Value) (w : World) : (Instr.typeAssert (.iface 143 x) 52 143 true).run Tryd.prog w = .ok (.tuple #[x, .bool true]) w := by kernel_rfl
theorem taN_sect (T : TypeId) (x : Value) (h : T ≠ 135) (w : World) : (Instr.typeAssert (.iface T x) 52 135 true).run Tryd.prog w = .ok (.tuple #[.agg #[.int .i64 0], .bool false]) w := ta_no w Tryd.underlying135 (by kernel_rfl) h
theorem taY_sect (x : Value) (w : World) : (Instr.typeAssert (.iface 135 x) 52 135 true).run Tryd.prog w = .ok (.tuple #[x, .bool true]) w := by kernel_rfl
theorem taN_glob (T : TypeId) (x : Value) (h : T ≠ 136) (w : World) : (Instr.typeAssert (.iface T x) 52 136 true).run Tryd.prog w = .ok (.tuple #[.agg #[.string ⟨#[]⟩], .bool false]) w := ta_no w Tryd.underlying136 (by kernel_rfl) h
theorem taY_glob (x : Value) (w : World) : (Instr.typeAssert (.iface 136 x) 52 136 true).run Tryd.prog w = .ok (.tuple #[x, .bool true]) w := by kernel_rfl
theorem me_num (c : Value) (w : World) : (method 279 123 (.agg #[c]) "loop.example/g00329/impl.parts").run Tryd.prog w = .ok (130, .agg #[]) w := by kernel_rfl
theorem me_sym (c : Value) (w : World) : (method 279 125 (.agg #[c]) "loop.example/g00329/impl.parts").run Tryd.prog w = .ok (130, .agg #[]) w := by kernel_rfl
theorem me_sect (c : Value) (w : World) : (method 279 135 (.agg #[c]) "loop.example/g00329/impl.parts").run Tryd.prog w = .ok (130, .agg #[]) w := by kernel_rfl
theorem me_glob (c : Value) (w : World) : (method 279 136 (.agg #[c]) "loop.example/g00329/impl.parts").run Tryd.prog w = .ok (130, .agg #[]) w := by kernel_rfl
theorem me_here (w : World) : (method 279 127 (.agg #[]) "loop.example/g00329/impl.parts").run Tryd.prog w = .ok (130, .agg #[]) w := by kernel_rfl
theorem me_neg (c : Value) (w : World) : (method 279 129 (.agg #[c]) "loop.example/g00329/impl.parts").run Tryd.prog w = .ok (131, .agg #[c]) w := by kernel_rfl
theorem me_add (c d : Value) (w : World) : (method 279 138 (.agg #[c, d]) "loop.example/g00329/impl.parts").run Tryd.prog w = .ok (132, .agg #[c, d]) w := by kernel_rfl
theorem me_sub (c d : Value) (w : World) : (method 279 139 (.agg #[c, d]) "loop.example/g00329/impl.parts").run Tryd.prog w = .ok (132, .agg #[c, d]) w := by kernel_rfl
theorem me_mul (c d : Value) (w : World) : (method 279 140 (.agg #[c, d]) "loop.example/g00329/impl.parts").run Tryd.prog w = .ok (132, .agg #[c, d]) w := by kernel_rfl
theorem me_div (c d : Value) (w : World) : (method 279 141 (.agg #[c, d]) "loop.example/g00329/impl.parts").run Tryd.prog w = .ok (132, .agg #[c, d]) w := by kernel_rfl
theorem me_and (c d : Value) (w : World) : (method 279 142 (.agg #[c, d]) "loop.example/g00329/impl.parts").run Tryd.prog w = .ok (132, .agg #[c, d]) w := by kernel_rfl
theorem me_or (c d : Value) (w : World) : (method 279 143 (.agg #[c, d]) "loop.example/g00329/impl.parts").run Tryd.prog w = .ok (132, .agg #[c, d]) w := by kernel_rfl
set_option maxHeartbeats 1000000 in
theorem parts0 (w : World) : Calls Tryd.prog 130 #[.agg #[]] w fun r w' => r = .returned (.slice none 0 0) ∧ Below w.heap.size w w' := by
  go_enter Tryd.func130, Tryd.ntmps130
  go_wp2
  go_ret
  exact ⟨rfl, by first | exact Below.refl _ _ | exact below_new w _⟩
theorem two_new (w : World) (o1 o2 : Obj) : ((w.alloc o1).alloc o2).heap[w.heap.size + 1]? = some o2 ∧ Below w.heap.size w ((w.alloc o1).alloc o2) := by
  have h1 : (w.alloc o1).heap.size = w.heap.size + 1 := by simp
  refine ⟨?_, ((Below.refl _ _).alloc (Nat.le_refl _) _).alloc (by simp) _⟩
  rw [← h1]
  exact Array.getElem?_push_size
set_option maxHeartbeats 1000000 in
theorem parts1 (t : TypeId) (x : Value) (w : World) : Calls Tryd.prog 131 #[.agg #[.iface t x]] w fun r w' => ∃ g, r = .returned (.slice (some ⟨g, 0, none⟩) 1 1) ∧ w'.heap[g]? = some (.cells #[.iface t x] 52 (0, 0)) ∧ Below w.heap.size w w' := by
  have T := hide (two_new w (.cells #[.iface t x] 129) (.cells #[.iface t x] 52))
  go_enter Tryd.func131, Tryd.ntmps131
  go_wp2
  go_ret
  exact ⟨_, rfl, (unhide T).1, (unhide T).2⟩
set_option maxHeartbeats 1000000 in
theorem parts2 (t u : TypeId) (x y : Value) (w : World) : Calls Tryd.prog 132 #[.agg #[.iface t x, .iface u y]] w fun r w' => ∃ g, r = .returned (.slice (some ⟨g, 0, none⟩) 2 2) ∧ w'.heap[g]? = some (.cells #[.iface t x, .iface u y] 52 (0, 0)) ∧ Below w.heap.size w w' := by
  have T := hide (two_new w (.cells #[.iface t x, .iface u y] 134) (.cells #[.iface t x, .iface u y] 52))
  go_enter Tryd.func132, Tryd.ntmps132
  go_wp2
  go_ret
  exact ⟨_, rfl, (unhide T).1, (unhide T).2⟩
end Go.Proofs.YtmhcbehplhfgfaaDoor
