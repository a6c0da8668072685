/- Contracts over this seat's translation, laid together; conditions stand as hypotheses of each. -/
import Derived.Test.YtmhcbehplhfgfaaGreatDoorTxC

namespace Go.Proofs.YtmhcbehplhfgfaaGreatDoor
open Go.ChangeShapes Go.WideShapes Go.ChangeAt Go.RowKit
set_option linter.unusedVariables false
set_option maxRecDepth 8000
set_option linter.unusedSimpArgs false
/-- What a line's lists hold, and how much. -/
structure RdL (w : World) (x : Ln) (p : La) : Prop where
  a : RdX w 0 x.src.e p.b1
  b : RdX w 0 x.dst.e p.b2
  l : RdX w 0 ⟨0, 0, E0, x.l⟩ p.b3
theorem RdL.later {w w' : World} {x : Ln} {p : La} (h : RdL w x p) (hb : Below w.heap.size w w') : RdL w' x p := ⟨h.a.later hb, h.b.later hb, h.l.later hb⟩
structure SzL (x : Ln) : Prop where
  s : x.s.size ≤ 1048576
  a : x.src.e.sz ≤ 1048576
  b : x.dst.e.sz ≤ 1048576
  l : x.l.length ≤ 1048576
  p : ∀ i, i < x.l.length → (xAt x.l i).sz ≤ 1048576
theorem box17 (w : World) (cs : Array Value) (ty : TypeId) (i : Nat) (v : Value) (h : cs[i]? = some v) : (w.alloc (.cells cs ty)).cell? ⟨w.heap.size, i, none⟩ = some v := by
  have h0 : (w.alloc (.cells cs ty)).heap[w.heap.size]? = some (.cells cs ty (0, 0)) := Array.getElem?_push_size
  rw [Lib.cell_of_heap h0]
  exact h
def insV (op : Int) (n1 n2 a1 a2 : Bool) (n : Int) (ll : Nat) (pl : Bool) : Bool :=
  if inB op 1 6 = true then a1 && (a2 && (n == 0 && ll == 0))
  else if inB op 7 14 = true then n1 && (a2 && (n == 0 && ll == 0))
  else if op == 15 then n1 && (a2 && (inB n 0 7 && ll == 0))
  else if !n1 || !n2 then false
  else if op == 16 then inB n 0 7 && ll == 0
  else if op == 22 then n == 0 && ll == 0
  else if inB op 17 21 || op == 23 then n == 0 && (ll == 1 && pl)
  else false
/-- An instruction's line that is right. -/
def insX (x : Ln) : Bool := insV x.op (nonX x.src) (nonX x.dst) (agX x.src) (agX x.dst) x.n x.l.length (x.l.all (okF 6 true))
set_option maxHeartbeats 16000000 in
theorem insS_any (x : Ln) (p : La) (w : World) (hr : RdL w x p) (hz : SzL x) : Calls Tryz.prog 24 #[.agg (x.cs p)] w fun r w' => r = .returned (.bool (insX x)) ∧ Below w.heap.size w w' := by
  obtain ⟨hza, hzb, hzc, hzd, hze⟩ := hz
  have s1 := sz_is x.src.e
  have s2 := sz_is x.dst.e
  have hbW := below_new w (.cells (x.cs p) 37)
  obtain ⟨W, hW⟩ : ∃ W, w.alloc (.cells (x.cs p) 37) = W := ⟨_, rfl⟩
  have hrW := hr.later hbW
  have xl : w.heap.size < W.heap.size := by rw [← hW]; simp
  have xc : ∀ (i : Nat) (v : Value), (x.cs p)[i]? = some v → ∀ y : Sub W.heap.size W, y.w.cell? ⟨w.heap.size, i, none⟩ = some v := fun i v h y => (y.h.cell (p := ⟨w.heap.size, i, none⟩) xl).trans (by rw [← hW]; exact box17 w _ _ i v h)
  rw [hW] at hbW hrW
  obtain ⟨z, hz0⟩ : ∃ z : Sub W.heap.size W, w.alloc (.cells (x.cs p) 37) = z.w := ⟨⟨W, Below.refl _ _⟩, hW⟩
  have ne := Sub.ne W.heap.size W
  have HZ := hide (Nat.le_refl W.heap.size)
  have HB := hide (fun y : Sub W.heap.size W => hbW.trans (y.h.mono hbW.size))
  have N1 := hide (fun y : Sub W.heap.size W => nonS_any x.src (by omega) (by omega) p.b1 p.c1 y.w)
  have N2 := hide (fun y : Sub W.heap.size W => nonS_any x.dst (by omega) (by omega) p.b2 p.c2 y.w)
  have PL := hide (fun y : Sub W.heap.size W => plnS_any x.l p.b3 p.c3 y.w (hrW.l.later y.h) hzd hze)
  have A1 := hide (fun y : Sub W.heap.size W => agS_any x.src p.b1 p.c1 y.w (hrW.a.later y.h) hzb)
  have A2 := hide (fun y : Sub W.heap.size W => agS_any x.dst p.b2 p.c2 y.w (hrW.b.later y.h) hzc)
  rw [show insX x = insV x.op (nonX x.src) (nonX x.dst) (agX x.src) (agX x.dst) x.n x.l.length (x.l.all (okF 6 true)) from rfl]
  unfold Ln.cs at hz0 xc ⊢
  unfold Ag.cs at N1 N2 A1 A2
  generalize nonX x.src = n1 at *
  generalize nonX x.dst = n2 at *
  generalize agX x.src = a1 at *
  generalize agX x.dst = a2 at *
  generalize x.l.all (okF 6 true) = pl at *
  clear hr hrW hza hzb hzc hzd hze s1 s2 xl hW
  generalize x.src.f = sf at *
  generalize x.src.r = sr at *
  generalize x.src.e.k = sk at *
  generalize x.src.e.n = sn at *
  generalize x.src.e.s = ss at *
  generalize x.src.e.l.length = sl at *
  generalize x.dst.f = df at *
  generalize x.dst.r = dr at *
  generalize x.dst.e.k = dk at *
  generalize x.dst.e.n = dn at *
  generalize x.dst.e.s = ds at *
  generalize x.dst.e.l.length = dl at *
  generalize x.k = k at *
  generalize x.s = s at *
  generalize x.op = op at *
  generalize x.n = n at *
  generalize x.l.length = ll at *
  generalize p.b1 = b1 at *
  generalize p.c1 = c1 at *
  generalize p.b2 = b2 at *
  generalize p.c2 = c2 at *
  generalize p.b3 = b3 at *
  generalize p.c3 = c3 at *
  cases h1 : inB op 1 6 with
  | true =>
    cases a1 with
    | true =>
      cases a2 with
      | true =>
        by_cases h4 : n = 0
        · subst h4
          by_cases h5 : ll = 0
          · subst h5
            have V : insV op n1 n2 true true 0 0 pl = true := by simp [insV, *]
            rw [V]
            clear V
            have E0 := xc 0 (.int .i64 k) rfl
            have E1 := xc 1 (.string s) rfl
            have E2 := xc 2 (.int .i64 op) rfl
            have E3 := xc 3 (.int .i64 sf) rfl
            have E4 := xc 4 (.int .i64 sr) rfl
            have E5 := xc 5 (.int .i64 sk) rfl
            have E6 := xc 6 (.int .i64 sn) rfl
            have E7 := xc 7 (.string ss) rfl
            have E8 := xc 8 (.slice b1 sl c1) rfl
            have E9 := xc 9 (.int .i64 df) rfl
            have E10 := xc 10 (.int .i64 dr) rfl
            have E11 := xc 11 (.int .i64 dk) rfl
            have E12 := xc 12 (.int .i64 dn) rfl
            have E13 := xc 13 (.string ds) rfl
            have E14 := xc 14 (.slice b2 dl c2) rfl
            have E15 := xc 15 (.int .i64 0) rfl
            have E16 := xc 16 (.slice b3 0 c3) rfl
            clear xc
            go_enter Tryz.func24, Tryz.ntmps24
            go_wp2_with (first | (go_at_call 28; refine (in_any _ _ _ _).mono ?_; rintro e w' ⟨rfl, hw'⟩; rw [hw']; clear hw' w') | (go_at_call_of 25 sf; refine (Sub.call (unhide HZ) (unhide N1 _)).mono ?_; rintro r _ ⟨rfl, z2, rfl⟩) | (go_at_call_of 25 df; refine (Sub.call (unhide HZ) (unhide N2 _)).mono ?_; rintro r _ ⟨rfl, z2, rfl⟩) | (go_at_call_of 51 sf; refine (Sub.call (unhide HZ) (unhide A1 _)).mono ?_; rintro r _ ⟨rfl, z2, rfl⟩) | (go_at_call_of 51 df; refine (Sub.call (unhide HZ) (unhide A2 _)).mono ?_; rintro r _ ⟨rfl, z2, rfl⟩) | (go_at_call 27; refine (Sub.call (unhide HZ) (unhide PL _)).mono ?_; rintro r _ ⟨rfl, z2, rfl⟩))
            go_ret
            exact ⟨rfl, unhide HB _⟩
          have h5f : (ll == 0) = false := beq_eq_false_iff_ne.2 h5
          have h5g : ((ll : Int) == 0) = false := beq_eq_false_iff_ne.2 (by omega)
          have V : insV op n1 n2 true true 0 ll pl = false := by simp [insV, *]
          rw [V]
          clear V
          have E0 := xc 0 (.int .i64 k) rfl
          have E1 := xc 1 (.string s) rfl
          have E2 := xc 2 (.int .i64 op) rfl
          have E3 := xc 3 (.int .i64 sf) rfl
          have E4 := xc 4 (.int .i64 sr) rfl
          have E5 := xc 5 (.int .i64 sk) rfl
          have E6 := xc 6 (.int .i64 sn) rfl
          have E7 := xc 7 (.string ss) rfl
          have E8 := xc 8 (.slice b1 sl c1) rfl
          have E9 := xc 9 (.int .i64 df) rfl
          have E10 := xc 10 (.int .i64 dr) rfl
          have E11 := xc 11 (.int .i64 dk) rfl
          have E12 := xc 12 (.int .i64 dn) rfl
          have E13 := xc 13 (.string ds) rfl
          have E14 := xc 14 (.slice b2 dl c2) rfl
          have E15 := xc 15 (.int .i64 0) rfl
          have E16 := xc 16 (.slice b3 ll c3) rfl
          clear xc
          go_enter Tryz.func24, Tryz.ntmps24
          go_wp2_with (first | (go_at_call 28; refine (in_any _ _ _ _).mono ?_; rintro e w' ⟨rfl, hw'⟩; rw [hw']; clear hw' w') | (go_at_call_of 25 sf; refine (Sub.call (unhide HZ) (unhide N1 _)).mono ?_; rintro r _ ⟨rfl, z2, rfl⟩) | (go_at_call_of 25 df; refine (Sub.call (unhide HZ) (unhide N2 _)).mono ?_; rintro r _ ⟨rfl, z2, rfl⟩) | (go_at_call_of 51 sf; refine (Sub.call (unhide HZ) (unhide A1 _)).mono ?_; rintro r _ ⟨rfl, z2, rfl⟩) | (go_at_call_of 51 df; refine (Sub.call (unhide HZ) (unhide A2 _)).mono ?_; rintro r _ ⟨rfl, z2, rfl⟩) | (go_at_call 27; refine (Sub.call (unhide HZ) (unhide PL _)).mono ?_; rintro r _ ⟨rfl, z2, rfl⟩))
          go_ret
          exact ⟨rfl, unhide HB _⟩
        have h4f : (n == 0) = false := beq_eq_false_iff_ne.2 h4
        have V : insV op n1 n2 true true n ll pl = false := by simp [insV, *]
        rw [V]
        clear V
        have E0 := xc 0 (.int .i64 k) rfl
        have E1 := xc 1 (.string s) rfl
        have E2 := xc 2 (.int .i64 op) rfl
        have E3 := xc 3 (.int .i64 sf) rfl
        have E4 := xc 4 (.int .i64 sr) rfl
        have E5 := xc 5 (.int .i64 sk) rfl
        have E6 := xc 6 (.int .i64 sn) rfl
        have E7 := xc 7 (.string ss) rfl
        have E8 := xc 8 (.slice b1 sl c1) rfl
        have E9 := xc 9 (.int .i64 df) rfl
        have E10 := xc 10 (.int .i64 dr) rfl
        have E11 := xc 11 (.int .i64 dk) rfl
        have E12 := xc 12 (.int .i64 dn) rfl
        have E13 := xc 13 (.string ds) rfl
        have E14 := xc 14 (.slice b2 dl c2) rfl
        have E15 := xc 15 (.int .i64 n) rfl
        have E16 := xc 16 (.slice b3 ll c3) rfl
        clear xc
        go_enter Tryz.func24, Tryz.ntmps24
        go_wp2_with (first | (go_at_call 28; refine (in_any _ _ _ _).mono ?_; rintro e w' ⟨rfl, hw'⟩; rw [hw']; clear hw' w') | (go_at_call_of 25 sf; refine (Sub.call (unhide HZ) (unhide N1 _)).mono ?_; rintro r _ ⟨rfl, z2, rfl⟩) | (go_at_call_of 25 df; refine (Sub.call (unhide HZ) (unhide N2 _)).mono ?_; rintro r _ ⟨rfl, z2, rfl⟩) | (go_at_call_of 51 sf; refine (Sub.call (unhide HZ) (unhide A1 _)).mono ?_; rintro r _ ⟨rfl, z2, rfl⟩) | (go_at_call_of 51 df; refine (Sub.call (unhide HZ) (unhide A2 _)).mono ?_; rintro r _ ⟨rfl, z2, rfl⟩) | (go_at_call 27; refine (Sub.call (unhide HZ) (unhide PL _)).mono ?_; rintro r _ ⟨rfl, z2, rfl⟩))
        go_ret
        exact ⟨rfl, unhide HB _⟩
      | false =>
        have V : insV op n1 n2 true false n ll pl = false := by simp [insV, *]
        rw [V]
        clear V
        have E0 := xc 0 (.int .i64 k) rfl
        have E1 := xc 1 (.string s) rfl
        have E2 := xc 2 (.int .i64 op) rfl
        have E3 := xc 3 (.int .i64 sf) rfl
        have E4 := xc 4 (.int .i64 sr) rfl
        have E5 := xc 5 (.int .i64 sk) rfl
        have E6 := xc 6 (.int .i64 sn) rfl
        have E7 := xc 7 (.string ss) rfl
        have E8 := xc 8 (.slice b1 sl c1) rfl
        have E9 := xc 9 (.int .i64 df) rfl
        have E10 := xc 10 (.int .i64 dr) rfl
        have E11 := xc 11 (.int .i64 dk) rfl
        have E12 := xc 12 (.int .i64 dn) rfl
        have E13 := xc 13 (.string ds) rfl
        have E14 := xc 14 (.slice b2 dl c2) rfl
        have E15 := xc 15 (.int .i64 n) rfl
        have E16 := xc 16 (.slice b3 ll c3) rfl
        clear xc
        go_enter Tryz.func24, Tryz.ntmps24
        go_wp2_with (first | (go_at_call 28; refine (in_any _ _ _ _).mono ?_; rintro e w' ⟨rfl, hw'⟩; rw [hw']; clear hw' w') | (go_at_call_of 25 sf; refine (Sub.call (unhide HZ) (unhide N1 _)).mono ?_; rintro r _ ⟨rfl, z2, rfl⟩) | (go_at_call_of 25 df; refine (Sub.call (unhide HZ) (unhide N2 _)).mono ?_; rintro r _ ⟨rfl, z2, rfl⟩) | (go_at_call_of 51 sf; refine (Sub.call (unhide HZ) (unhide A1 _)).mono ?_; rintro r _ ⟨rfl, z2, rfl⟩) | (go_at_call_of 51 df; refine (Sub.call (unhide HZ) (unhide A2 _)).mono ?_; rintro r _ ⟨rfl, z2, rfl⟩) | (go_at_call 27; refine (Sub.call (unhide HZ) (unhide PL _)).mono ?_; rintro r _ ⟨rfl, z2, rfl⟩))
        go_ret
        exact ⟨rfl, unhide HB _⟩
    | false =>
      have V : insV op n1 n2 false a2 n ll pl = false := by simp [insV, *]
      rw [V]
      clear V
      have E0 := xc 0 (.int .i64 k) rfl
      have E1 := xc 1 (.string s) rfl
      have E2 := xc 2 (.int .i64 op) rfl
      have E3 := xc 3 (.int .i64 sf) rfl
      have E4 := xc 4 (.int .i64 sr) rfl
      have E5 := xc 5 (.int .i64 sk) rfl
      have E6 := xc 6 (.int .i64 sn) rfl
      have E7 := xc 7 (.string ss) rfl
      have E8 := xc 8 (.slice b1 sl c1) rfl
      have E9 := xc 9 (.int .i64 df) rfl
      have E10 := xc 10 (.int .i64 dr) rfl
      have E11 := xc 11 (.int .i64 dk) rfl
      have E12 := xc 12 (.int .i64 dn) rfl
      have E13 := xc 13 (.string ds) rfl
      have E14 := xc 14 (.slice b2 dl c2) rfl
      have E15 := xc 15 (.int .i64 n) rfl
      have E16 := xc 16 (.slice b3 ll c3) rfl
      clear xc
      go_enter Tryz.func24, Tryz.ntmps24
      go_wp2_with (first | (go_at_call 28; refine (in_any _ _ _ _).mono ?_; rintro e w' ⟨rfl, hw'⟩; rw [hw']; clear hw' w') | (go_at_call_of 25 sf; refine (Sub.call (unhide HZ) (unhide N1 _)).mono ?_; rintro r _ ⟨rfl, z2, rfl⟩) | (go_at_call_of 25 df; refine (Sub.call (unhide HZ) (unhide N2 _)).mono ?_; rintro r _ ⟨rfl, z2, rfl⟩) | (go_at_call_of 51 sf; refine (Sub.call (unhide HZ) (unhide A1 _)).mono ?_; rintro r _ ⟨rfl, z2, rfl⟩) | (go_at_call_of 51 df; refine (Sub.call (unhide HZ) (unhide A2 _)).mono ?_; rintro r _ ⟨rfl, z2, rfl⟩) | (go_at_call 27; refine (Sub.call (unhide HZ) (unhide PL _)).mono ?_; rintro r _ ⟨rfl, z2, rfl⟩))
      go_ret
      exact ⟨rfl, unhide HB _⟩
  | false =>
    cases h16 : inB op 7 14 with
    | true =>
      cases n1 with
      | true =>
        cases a2 with
        | true =>
          by_cases h19 : n = 0
          · subst h19
            by_cases h20 : ll = 0
            · subst h20
              have V : insV op true n2 a1 true 0 0 pl = true := by simp [insV, *]
              rw [V]
              clear V
              have E0 := xc 0 (.int .i64 k) rfl
              have E1 := xc 1 (.string s) rfl
              have E2 := xc 2 (.int .i64 op) rfl
              have E3 := xc 3 (.int .i64 sf) rfl
              have E4 := xc 4 (.int .i64 sr) rfl
              have E5 := xc 5 (.int .i64 sk) rfl
              have E6 := xc 6 (.int .i64 sn) rfl
              have E7 := xc 7 (.string ss) rfl
              have E8 := xc 8 (.slice b1 sl c1) rfl
              have E9 := xc 9 (.int .i64 df) rfl
              have E10 := xc 10 (.int .i64 dr) rfl
              have E11 := xc 11 (.int .i64 dk) rfl
              have E12 := xc 12 (.int .i64 dn) rfl
              have E13 := xc 13 (.string ds) rfl
              have E14 := xc 14 (.slice b2 dl c2) rfl
              have E15 := xc 15 (.int .i64 0) rfl
              have E16 := xc 16 (.slice b3 0 c3) rfl
              clear xc
              go_enter Tryz.func24, Tryz.ntmps24
              go_wp2_with (first | (go_at_call 28; refine (in_any _ _ _ _).mono ?_; rintro e w' ⟨rfl, hw'⟩; rw [hw']; clear hw' w') | (go_at_call_of 25 sf; refine (Sub.call (unhide HZ) (unhide N1 _)).mono ?_; rintro r _ ⟨rfl, z2, rfl⟩) | (go_at_call_of 25 df; refine (Sub.call (unhide HZ) (unhide N2 _)).mono ?_; rintro r _ ⟨rfl, z2, rfl⟩) | (go_at_call_of 51 sf; refine (Sub.call (unhide HZ) (unhide A1 _)).mono ?_; rintro r _ ⟨rfl, z2, rfl⟩) | (go_at_call_of 51 df; refine (Sub.call (unhide HZ) (unhide A2 _)).mono ?_; rintro r _ ⟨rfl, z2, rfl⟩) | (go_at_call 27; refine (Sub.call (unhide HZ) (unhide PL _)).mono ?_; rintro r _ ⟨rfl, z2, rfl⟩))
              go_ret
              exact ⟨rfl, unhide HB _⟩
            have h20f : (ll == 0) = false := beq_eq_false_iff_ne.2 h20
            have h20g : ((ll : Int) == 0) = false := beq_eq_false_iff_ne.2 (by omega)
            have V : insV op true n2 a1 true 0 ll pl = false := by simp [insV, *]
            rw [V]
            clear V
            have E0 := xc 0 (.int .i64 k) rfl
            have E1 := xc 1 (.string s) rfl
            have E2 := xc 2 (.int .i64 op) rfl
            have E3 := xc 3 (.int .i64 sf) rfl
            have E4 := xc 4 (.int .i64 sr) rfl
            have E5 := xc 5 (.int .i64 sk) rfl
            have E6 := xc 6 (.int .i64 sn) rfl
            have E7 := xc 7 (.string ss) rfl
            have E8 := xc 8 (.slice b1 sl c1) rfl
            have E9 := xc 9 (.int .i64 df) rfl
            have E10 := xc 10 (.int .i64 dr) rfl
            have E11 := xc 11 (.int .i64 dk) rfl
            have E12 := xc 12 (.int .i64 dn) rfl
            have E13 := xc 13 (.string ds) rfl
            have E14 := xc 14 (.slice b2 dl c2) rfl
            have E15 := xc 15 (.int .i64 0) rfl
            have E16 := xc 16 (.slice b3 ll c3) rfl
            clear xc
            go_enter Tryz.func24, Tryz.ntmps24
            go_wp2_with (first | (go_at_call 28; refine (in_any _ _ _ _).mono ?_; rintro e w' ⟨rfl, hw'⟩; rw [hw']; clear hw' w') | (go_at_call_of 25 sf; refine (Sub.call (unhide HZ) (unhide N1 _)).mono ?_; rintro r _ ⟨rfl, z2, rfl⟩) | (go_at_call_of 25 df; refine (Sub.call (unhide HZ) (unhide N2 _)).mono ?_; rintro r _ ⟨rfl, z2, rfl⟩) | (go_at_call_of 51 sf; refine (Sub.call (unhide HZ) (unhide A1 _)).mono ?_; rintro r _ ⟨rfl, z2, rfl⟩) | (go_at_call_of 51 df; refine (Sub.call (unhide HZ) (unhide A2 _)).mono ?_; rintro r _ ⟨rfl, z2, rfl⟩) | (go_at_call 27; refine (Sub.call (unhide HZ) (unhide PL _)).mono ?_; rintro r _ ⟨rfl, z2, rfl⟩))
            go_ret
            exact ⟨rfl, unhide HB _⟩
          have h19f : (n == 0) = false := beq_eq_false_iff_ne.2 h19
          have V : insV op true n2 a1 true n ll pl = false := by simp [insV, *]
          rw [V]
          clear V
          have E0 := xc 0 (.int .i64 k) rfl
          have E1 := xc 1 (.string s) rfl
          have E2 := xc 2 (.int .i64 op) rfl
          have E3 := xc 3 (.int .i64 sf) rfl
          have E4 := xc 4 (.int .i64 sr) rfl
          have E5 := xc 5 (.int .i64 sk) rfl
          have E6 := xc 6 (.int .i64 sn) rfl
          have E7 := xc 7 (.string ss) rfl
          have E8 := xc 8 (.slice b1 sl c1) rfl
          have E9 := xc 9 (.int .i64 df) rfl
          have E10 := xc 10 (.int .i64 dr) rfl
          have E11 := xc 11 (.int .i64 dk) rfl
          have E12 := xc 12 (.int .i64 dn) rfl
          have E13 := xc 13 (.string ds) rfl
          have E14 := xc 14 (.slice b2 dl c2) rfl
          have E15 := xc 15 (.int .i64 n) rfl
          have E16 := xc 16 (.slice b3 ll c3) rfl
          clear xc
          go_enter Tryz.func24, Tryz.ntmps24
          go_wp2_with (first | (go_at_call 28; refine (in_any _ _ _ _).mono ?_; rintro e w' ⟨rfl, hw'⟩; rw [hw']; clear hw' w') | (go_at_call_of 25 sf; refine (Sub.call (unhide HZ) (unhide N1 _)).mono ?_; rintro r _ ⟨rfl, z2, rfl⟩) | (go_at_call_of 25 df; refine (Sub.call (unhide HZ) (unhide N2 _)).mono ?_; rintro r _ ⟨rfl, z2, rfl⟩) | (go_at_call_of 51 sf; refine (Sub.call (unhide HZ) (unhide A1 _)).mono ?_; rintro r _ ⟨rfl, z2, rfl⟩) | (go_at_call_of 51 df; refine (Sub.call (unhide HZ) (unhide A2 _)).mono ?_; rintro r _ ⟨rfl, z2, rfl⟩) | (go_at_call 27; refine (Sub.call (unhide HZ) (unhide PL _)).mono ?_; rintro r _ ⟨rfl, z2, rfl⟩))
          go_ret
          exact ⟨rfl, unhide HB _⟩
        | false =>
          have V : insV op true n2 a1 false n ll pl = false := by simp [insV, *]
          rw [V]
          clear V
          have E0 := xc 0 (.int .i64 k) rfl
          have E1 := xc 1 (.string s) rfl
          have E2 := xc 2 (.int .i64 op) rfl
          have E3 := xc 3 (.int .i64 sf) rfl
          have E4 := xc 4 (.int .i64 sr) rfl
          have E5 := xc 5 (.int .i64 sk) rfl
          have E6 := xc 6 (.int .i64 sn) rfl
          have E7 := xc 7 (.string ss) rfl
          have E8 := xc 8 (.slice b1 sl c1) rfl
          have E9 := xc 9 (.int .i64 df) rfl
          have E10 := xc 10 (.int .i64 dr) rfl
          have E11 := xc 11 (.int .i64 dk) rfl
          have E12 := xc 12 (.int .i64 dn) rfl
          have E13 := xc 13 (.string ds) rfl
          have E14 := xc 14 (.slice b2 dl c2) rfl
          have E15 := xc 15 (.int .i64 n) rfl
          have E16 := xc 16 (.slice b3 ll c3) rfl
          clear xc
          go_enter Tryz.func24, Tryz.ntmps24
          go_wp2_with (first | (go_at_call 28; refine (in_any _ _ _ _).mono ?_; rintro e w' ⟨rfl, hw'⟩; rw [hw']; clear hw' w') | (go_at_call_of 25 sf; refine (Sub.call (unhide HZ) (unhide N1 _)).mono ?_; rintro r _ ⟨rfl, z2, rfl⟩) | (go_at_call_of 25 df; refine (Sub.call (unhide HZ) (unhide N2 _)).mono ?_; rintro r _ ⟨rfl, z2, rfl⟩) | (go_at_call_of 51 sf; refine (Sub.call (unhide HZ) (unhide A1 _)).mono ?_; rintro r _ ⟨rfl, z2, rfl⟩) | (go_at_call_of 51 df; refine (Sub.call (unhide HZ) (unhide A2 _)).mono ?_; rintro r _ ⟨rfl, z2, rfl⟩) | (go_at_call 27; refine (Sub.call (unhide HZ) (unhide PL _)).mono ?_; rintro r _ ⟨rfl, z2, rfl⟩))
          go_ret
          exact ⟨rfl, unhide HB _⟩
      | false =>
        have V : insV op false n2 a1 a2 n ll pl = false := by simp [insV, *]
        rw [V]
        clear V
        have E0 := xc 0 (.int .i64 k) rfl
        have E1 := xc 1 (.string s) rfl
        have E2 := xc 2 (.int .i64 op) rfl
        have E3 := xc 3 (.int .i64 sf) rfl
        have E4 := xc 4 (.int .i64 sr) rfl
        have E5 := xc 5 (.int .i64 sk) rfl
        have E6 := xc 6 (.int .i64 sn) rfl
        have E7 := xc 7 (.string ss) rfl
        have E8 := xc 8 (.slice b1 sl c1) rfl
        have E9 := xc 9 (.int .i64 df) rfl
        have E10 := xc 10 (.int .i64 dr) rfl
        have E11 := xc 11 (.int .i64 dk) rfl
        have E12 := xc 12 (.int .i64 dn) rfl
        have E13 := xc 13 (.string ds) rfl
        have E14 := xc 14 (.slice b2 dl c2) rfl
        have E15 := xc 15 (.int .i64 n) rfl
        have E16 := xc 16 (.slice b3 ll c3) rfl
        clear xc
        go_enter Tryz.func24, Tryz.ntmps24
        go_wp2_with (first | (go_at_call 28; refine (in_any _ _ _ _).mono ?_; rintro e w' ⟨rfl, hw'⟩; rw [hw']; clear hw' w') | (go_at_call_of 25 sf; refine (Sub.call (unhide HZ) (unhide N1 _)).mono ?_; rintro r _ ⟨rfl, z2, rfl⟩) | (go_at_call_of 25 df; refine (Sub.call (unhide HZ) (unhide N2 _)).mono ?_; rintro r _ ⟨rfl, z2, rfl⟩) | (go_at_call_of 51 sf; refine (Sub.call (unhide HZ) (unhide A1 _)).mono ?_; rintro r _ ⟨rfl, z2, rfl⟩) | (go_at_call_of 51 df; refine (Sub.call (unhide HZ) (unhide A2 _)).mono ?_; rintro r _ ⟨rfl, z2, rfl⟩) | (go_at_call 27; refine (Sub.call (unhide HZ) (unhide PL _)).mono ?_; rintro r _ ⟨rfl, z2, rfl⟩))
        go_ret
        exact ⟨rfl, unhide HB _⟩
    | false =>
      by_cases h31 : op = 15
      · subst h31
        cases n1 with
        | true =>
          cases a2 with
          | true =>
            cases h34 : inB n 0 7 with
            | true =>
              by_cases h35 : ll = 0
              · subst h35
                have V : insV 15 true n2 a1 true n 0 pl = true := by simp [insV, *]
                rw [V]
                clear V
                have E0 := xc 0 (.int .i64 k) rfl
                have E1 := xc 1 (.string s) rfl
                have E2 := xc 2 (.int .i64 15) rfl
                have E3 := xc 3 (.int .i64 sf) rfl
                have E4 := xc 4 (.int .i64 sr) rfl
                have E5 := xc 5 (.int .i64 sk) rfl
                have E6 := xc 6 (.int .i64 sn) rfl
                have E7 := xc 7 (.string ss) rfl
                have E8 := xc 8 (.slice b1 sl c1) rfl
                have E9 := xc 9 (.int .i64 df) rfl
                have E10 := xc 10 (.int .i64 dr) rfl
                have E11 := xc 11 (.int .i64 dk) rfl
                have E12 := xc 12 (.int .i64 dn) rfl
                have E13 := xc 13 (.string ds) rfl
                have E14 := xc 14 (.slice b2 dl c2) rfl
                have E15 := xc 15 (.int .i64 n) rfl
                have E16 := xc 16 (.slice b3 0 c3) rfl
                clear xc
                go_enter Tryz.func24, Tryz.ntmps24
                go_wp2_with (first | (go_at_call 28; refine (in_any _ _ _ _).mono ?_; rintro e w' ⟨rfl, hw'⟩; rw [hw']; clear hw' w') | (go_at_call_of 25 sf; refine (Sub.call (unhide HZ) (unhide N1 _)).mono ?_; rintro r _ ⟨rfl, z2, rfl⟩) | (go_at_call_of 25 df; refine (Sub.call (unhide HZ) (unhide N2 _)).mono ?_; rintro r _ ⟨rfl, z2, rfl⟩) | (go_at_call_of 51 sf; refine (Sub.call (unhide HZ) (unhide A1 _)).mono ?_; rintro r _ ⟨rfl, z2, rfl⟩) | (go_at_call_of 51 df; refine (Sub.call (unhide HZ) (unhide A2 _)).mono ?_; rintro r _ ⟨rfl, z2, rfl⟩) | (go_at_call 27; refine (Sub.call (unhide HZ) (unhide PL _)).mono ?_; rintro r _ ⟨rfl, z2, rfl⟩))
                go_ret
                exact ⟨rfl, unhide HB _⟩
              have h35f : (ll == 0) = false := beq_eq_false_iff_ne.2 h35
              have h35g : ((ll : Int) == 0) = false := beq_eq_false_iff_ne.2 (by omega)
              have V : insV 15 true n2 a1 true n ll pl = false := by simp [insV, *]
              rw [V]
              clear V
              have E0 := xc 0 (.int .i64 k) rfl
              have E1 := xc 1 (.string s) rfl
              have E2 := xc 2 (.int .i64 15) rfl
              have E3 := xc 3 (.int .i64 sf) rfl
              have E4 := xc 4 (.int .i64 sr) rfl
              have E5 := xc 5 (.int .i64 sk) rfl
              have E6 := xc 6 (.int .i64 sn) rfl
              have E7 := xc 7 (.string ss) rfl
              have E8 := xc 8 (.slice b1 sl c1) rfl
              have E9 := xc 9 (.int .i64 df) rfl
              have E10 := xc 10 (.int .i64 dr) rfl
              have E11 := xc 11 (.int .i64 dk) rfl
              have E12 := xc 12 (.int .i64 dn) rfl
              have E13 := xc 13 (.string ds) rfl
              have E14 := xc 14 (.slice b2 dl c2) rfl
              have E15 := xc 15 (.int .i64 n) rfl
              have E16 := xc 16 (.slice b3 ll c3) rfl
              clear xc
              go_enter Tryz.func24, Tryz.ntmps24
              go_wp2_with (first | (go_at_call 28; refine (in_any _ _ _ _).mono ?_; rintro e w' ⟨rfl, hw'⟩; rw [hw']; clear hw' w') | (go_at_call_of 25 sf; refine (Sub.call (unhide HZ) (unhide N1 _)).mono ?_; rintro r _ ⟨rfl, z2, rfl⟩) | (go_at_call_of 25 df; refine (Sub.call (unhide HZ) (unhide N2 _)).mono ?_; rintro r _ ⟨rfl, z2, rfl⟩) | (go_at_call_of 51 sf; refine (Sub.call (unhide HZ) (unhide A1 _)).mono ?_; rintro r _ ⟨rfl, z2, rfl⟩) | (go_at_call_of 51 df; refine (Sub.call (unhide HZ) (unhide A2 _)).mono ?_; rintro r _ ⟨rfl, z2, rfl⟩) | (go_at_call 27; refine (Sub.call (unhide HZ) (unhide PL _)).mono ?_; rintro r _ ⟨rfl, z2, rfl⟩))
              go_ret
              exact ⟨rfl, unhide HB _⟩
            | false =>
              have V : insV 15 true n2 a1 true n ll pl = false := by simp [insV, *]
              rw [V]
              clear V
              have E0 := xc 0 (.int .i64 k) rfl
              have E1 := xc 1 (.string s) rfl
              have E2 := xc 2 (.int .i64 15) rfl
              have E3 := xc 3 (.int .i64 sf) rfl
              have E4 := xc 4 (.int .i64 sr) rfl
              have E5 := xc 5 (.int .i64 sk) rfl
              have E6 := xc 6 (.int .i64 sn) rfl
              have E7 := xc 7 (.string ss) rfl
              have E8 := xc 8 (.slice b1 sl c1) rfl
              have E9 := xc 9 (.int .i64 df) rfl
              have E10 := xc 10 (.int .i64 dr) rfl
              have E11 := xc 11 (.int .i64 dk) rfl
              have E12 := xc 12 (.int .i64 dn) rfl
              have E13 := xc 13 (.string ds) rfl
              have E14 := xc 14 (.slice b2 dl c2) rfl
              have E15 := xc 15 (.int .i64 n) rfl
              have E16 := xc 16 (.slice b3 ll c3) rfl
              clear xc
              go_enter Tryz.func24, Tryz.ntmps24
              go_wp2_with (first | (go_at_call 28; refine (in_any _ _ _ _).mono ?_; rintro e w' ⟨rfl, hw'⟩; rw [hw']; clear hw' w') | (go_at_call_of 25 sf; refine (Sub.call (unhide HZ) (unhide N1 _)).mono ?_; rintro r _ ⟨rfl, z2, rfl⟩) | (go_at_call_of 25 df; refine (Sub.call (unhide HZ) (unhide N2 _)).mono ?_; rintro r _ ⟨rfl, z2, rfl⟩) | (go_at_call_of 51 sf; refine (Sub.call (unhide HZ) (unhide A1 _)).mono ?_; rintro r _ ⟨rfl, z2, rfl⟩) | (go_at_call_of 51 df; refine (Sub.call (unhide HZ) (unhide A2 _)).mono ?_; rintro r _ ⟨rfl, z2, rfl⟩) | (go_at_call 27; refine (Sub.call (unhide HZ) (unhide PL _)).mono ?_; rintro r _ ⟨rfl, z2, rfl⟩))
              go_ret
              exact ⟨rfl, unhide HB _⟩
          | false =>
            have V : insV 15 true n2 a1 false n ll pl = false := by simp [insV, *]
            rw [V]
            clear V
            have E0 := xc 0 (.int .i64 k) rfl
            have E1 := xc 1 (.string s) rfl
            have E2 := xc 2 (.int .i64 15) rfl
            have E3 := xc 3 (.int .i64 sf) rfl
            have E4 := xc 4 (.int .i64 sr) rfl
            have E5 := xc 5 (.int .i64 sk) rfl
            have E6 := xc 6 (.int .i64 sn) rfl
            have E7 := xc 7 (.string ss) rfl
            have E8 := xc 8 (.slice b1 sl c1) rfl
            have E9 := xc 9 (.int .i64 df) rfl
            have E10 := xc 10 (.int .i64 dr) rfl
            have E11 := xc 11 (.int .i64 dk) rfl
            have E12 := xc 12 (.int .i64 dn) rfl
            have E13 := xc 13 (.string ds) rfl
            have E14 := xc 14 (.slice b2 dl c2) rfl
            have E15 := xc 15 (.int .i64 n) rfl
            have E16 := xc 16 (.slice b3 ll c3) rfl
            clear xc
            go_enter Tryz.func24, Tryz.ntmps24
            go_wp2_with (first | (go_at_call 28; refine (in_any _ _ _ _).mono ?_; rintro e w' ⟨rfl, hw'⟩; rw [hw']; clear hw' w') | (go_at_call_of 25 sf; refine (Sub.call (unhide HZ) (unhide N1 _)).mono ?_; rintro r _ ⟨rfl, z2, rfl⟩) | (go_at_call_of 25 df; refine (Sub.call (unhide HZ) (unhide N2 _)).mono ?_; rintro r _ ⟨rfl, z2, rfl⟩) | (go_at_call_of 51 sf; refine (Sub.call (unhide HZ) (unhide A1 _)).mono ?_; rintro r _ ⟨rfl, z2, rfl⟩) | (go_at_call_of 51 df; refine (Sub.call (unhide HZ) (unhide A2 _)).mono ?_; rintro r _ ⟨rfl, z2, rfl⟩) | (go_at_call 27; refine (Sub.call (unhide HZ) (unhide PL _)).mono ?_; rintro r _ ⟨rfl, z2, rfl⟩))
            go_ret
            exact ⟨rfl, unhide HB _⟩
        | false =>
          have V : insV 15 false n2 a1 a2 n ll pl = false := by simp [insV, *]
          rw [V]
          clear V
          have E0 := xc 0 (.int .i64 k) rfl
          have E1 := xc 1 (.string s) rfl
          have E2 := xc 2 (.int .i64 15) rfl
          have E3 := xc 3 (.int .i64 sf) rfl
          have E4 := xc 4 (.int .i64 sr) rfl
          have E5 := xc 5 (.int .i64 sk) rfl
          have E6 := xc 6 (.int .i64 sn) rfl
          have E7 := xc 7 (.string ss) rfl
          have E8 := xc 8 (.slice b1 sl c1) rfl
          have E9 := xc 9 (.int .i64 df) rfl
          have E10 := xc 10 (.int .i64 dr) rfl
          have E11 := xc 11 (.int .i64 dk) rfl
          have E12 := xc 12 (.int .i64 dn) rfl
          have E13 := xc 13 (.string ds) rfl
          have E14 := xc 14 (.slice b2 dl c2) rfl
          have E15 := xc 15 (.int .i64 n) rfl
          have E16 := xc 16 (.slice b3 ll c3) rfl
          clear xc
          go_enter Tryz.func24, Tryz.ntmps24
          go_wp2_with (first | (go_at_call 28; refine (in_any _ _ _ _).mono ?_; rintro e w' ⟨rfl, hw'⟩; rw [hw']; clear hw' w') | (go_at_call_of 25 sf; refine (Sub.call (unhide HZ) (unhide N1 _)).mono ?_; rintro r _ ⟨rfl, z2, rfl⟩) | (go_at_call_of 25 df; refine (Sub.call (unhide HZ) (unhide N2 _)).mono ?_; rintro r _ ⟨rfl, z2, rfl⟩) | (go_at_call_of 51 sf; refine (Sub.call (unhide HZ) (unhide A1 _)).mono ?_; rintro r _ ⟨rfl, z2, rfl⟩) | (go_at_call_of 51 df; refine (Sub.call (unhide HZ) (unhide A2 _)).mono ?_; rintro r _ ⟨rfl, z2, rfl⟩) | (go_at_call 27; refine (Sub.call (unhide HZ) (unhide PL _)).mono ?_; rintro r _ ⟨rfl, z2, rfl⟩))
          go_ret
          exact ⟨rfl, unhide HB _⟩
      have h31f : (op == 15) = false := beq_eq_false_iff_ne.2 h31
      cases n1 with
      | true =>
        cases n2 with
        | true =>
          by_cases h48 : op = 16
          · subst h48
            cases h49 : inB n 0 7 with
            | true =>
              by_cases h50 : ll = 0
              · subst h50
                have V : insV 16 true true a1 a2 n 0 pl = true := by simp [insV, *]
                rw [V]
                clear V
                have E0 := xc 0 (.int .i64 k) rfl
                have E1 := xc 1 (.string s) rfl
                have E2 := xc 2 (.int .i64 16) rfl
                have E3 := xc 3 (.int .i64 sf) rfl
                have E4 := xc 4 (.int .i64 sr) rfl
                have E5 := xc 5 (.int .i64 sk) rfl
                have E6 := xc 6 (.int .i64 sn) rfl
                have E7 := xc 7 (.string ss) rfl
                have E8 := xc 8 (.slice b1 sl c1) rfl
                have E9 := xc 9 (.int .i64 df) rfl
                have E10 := xc 10 (.int .i64 dr) rfl
                have E11 := xc 11 (.int .i64 dk) rfl
                have E12 := xc 12 (.int .i64 dn) rfl
                have E13 := xc 13 (.string ds) rfl
                have E14 := xc 14 (.slice b2 dl c2) rfl
                have E15 := xc 15 (.int .i64 n) rfl
                have E16 := xc 16 (.slice b3 0 c3) rfl
                clear xc
                go_enter Tryz.func24, Tryz.ntmps24
                go_wp2_with (first | (go_at_call 28; refine (in_any _ _ _ _).mono ?_; rintro e w' ⟨rfl, hw'⟩; rw [hw']; clear hw' w') | (go_at_call_of 25 sf; refine (Sub.call (unhide HZ) (unhide N1 _)).mono ?_; rintro r _ ⟨rfl, z2, rfl⟩) | (go_at_call_of 25 df; refine (Sub.call (unhide HZ) (unhide N2 _)).mono ?_; rintro r _ ⟨rfl, z2, rfl⟩) | (go_at_call_of 51 sf; refine (Sub.call (unhide HZ) (unhide A1 _)).mono ?_; rintro r _ ⟨rfl, z2, rfl⟩) | (go_at_call_of 51 df; refine (Sub.call (unhide HZ) (unhide A2 _)).mono ?_; rintro r _ ⟨rfl, z2, rfl⟩) | (go_at_call 27; refine (Sub.call (unhide HZ) (unhide PL _)).mono ?_; rintro r _ ⟨rfl, z2, rfl⟩))
                go_ret
                exact ⟨rfl, unhide HB _⟩
              have h50f : (ll == 0) = false := beq_eq_false_iff_ne.2 h50
              have h50g : ((ll : Int) == 0) = false := beq_eq_false_iff_ne.2 (by omega)
              have V : insV 16 true true a1 a2 n ll pl = false := by simp [insV, *]
              rw [V]
              clear V
              have E0 := xc 0 (.int .i64 k) rfl
              have E1 := xc 1 (.string s) rfl
              have E2 := xc 2 (.int .i64 16) rfl
              have E3 := xc 3 (.int .i64 sf) rfl
              have E4 := xc 4 (.int .i64 sr) rfl
              have E5 := xc 5 (.int .i64 sk) rfl
              have E6 := xc 6 (.int .i64 sn) rfl
              have E7 := xc 7 (.string ss) rfl
              have E8 := xc 8 (.slice b1 sl c1) rfl
              have E9 := xc 9 (.int .i64 df) rfl
              have E10 := xc 10 (.int .i64 dr) rfl
              have E11 := xc 11 (.int .i64 dk) rfl
              have E12 := xc 12 (.int .i64 dn) rfl
              have E13 := xc 13 (.string ds) rfl
              have E14 := xc 14 (.slice b2 dl c2) rfl
              have E15 := xc 15 (.int .i64 n) rfl
              have E16 := xc 16 (.slice b3 ll c3) rfl
              clear xc
              go_enter Tryz.func24, Tryz.ntmps24
              go_wp2_with (first | (go_at_call 28; refine (in_any _ _ _ _).mono ?_; rintro e w' ⟨rfl, hw'⟩; rw [hw']; clear hw' w') | (go_at_call_of 25 sf; refine (Sub.call (unhide HZ) (unhide N1 _)).mono ?_; rintro r _ ⟨rfl, z2, rfl⟩) | (go_at_call_of 25 df; refine (Sub.call (unhide HZ) (unhide N2 _)).mono ?_; rintro r _ ⟨rfl, z2, rfl⟩) | (go_at_call_of 51 sf; refine (Sub.call (unhide HZ) (unhide A1 _)).mono ?_; rintro r _ ⟨rfl, z2, rfl⟩) | (go_at_call_of 51 df; refine (Sub.call (unhide HZ) (unhide A2 _)).mono ?_; rintro r _ ⟨rfl, z2, rfl⟩) | (go_at_call 27; refine (Sub.call (unhide HZ) (unhide PL _)).mono ?_; rintro r _ ⟨rfl, z2, rfl⟩))
              go_ret
              exact ⟨rfl, unhide HB _⟩
            | false =>
              have V : insV 16 true true a1 a2 n ll pl = false := by simp [insV, *]
              rw [V]
              clear V
              have E0 := xc 0 (.int .i64 k) rfl
              have E1 := xc 1 (.string s) rfl
              have E2 := xc 2 (.int .i64 16) rfl
              have E3 := xc 3 (.int .i64 sf) rfl
              have E4 := xc 4 (.int .i64 sr) rfl
              have E5 := xc 5 (.int .i64 sk) rfl
              have E6 := xc 6 (.int .i64 sn) rfl
              have E7 := xc 7 (.string ss) rfl
              have E8 := xc 8 (.slice b1 sl c1) rfl
              have E9 := xc 9 (.int .i64 df) rfl
              have E10 := xc 10 (.int .i64 dr) rfl
              have E11 := xc 11 (.int .i64 dk) rfl
              have E12 := xc 12 (.int .i64 dn) rfl
              have E13 := xc 13 (.string ds) rfl
              have E14 := xc 14 (.slice b2 dl c2) rfl
              have E15 := xc 15 (.int .i64 n) rfl
              have E16 := xc 16 (.slice b3 ll c3) rfl
              clear xc
              go_enter Tryz.func24, Tryz.ntmps24
              go_wp2_with (first | (go_at_call 28; refine (in_any _ _ _ _).mono ?_; rintro e w' ⟨rfl, hw'⟩; rw [hw']; clear hw' w') | (go_at_call_of 25 sf; refine (Sub.call (unhide HZ) (unhide N1 _)).mono ?_; rintro r _ ⟨rfl, z2, rfl⟩) | (go_at_call_of 25 df; refine (Sub.call (unhide HZ) (unhide N2 _)).mono ?_; rintro r _ ⟨rfl, z2, rfl⟩) | (go_at_call_of 51 sf; refine (Sub.call (unhide HZ) (unhide A1 _)).mono ?_; rintro r _ ⟨rfl, z2, rfl⟩) | (go_at_call_of 51 df; refine (Sub.call (unhide HZ) (unhide A2 _)).mono ?_; rintro r _ ⟨rfl, z2, rfl⟩) | (go_at_call 27; refine (Sub.call (unhide HZ) (unhide PL _)).mono ?_; rintro r _ ⟨rfl, z2, rfl⟩))
              go_ret
              exact ⟨rfl, unhide HB _⟩
          have h48f : (op == 16) = false := beq_eq_false_iff_ne.2 h48
          by_cases h57 : op = 22
          · subst h57
            by_cases h58 : n = 0
            · subst h58
              by_cases h59 : ll = 0
              · subst h59
                have V : insV 22 true true a1 a2 0 0 pl = true := by simp [insV, *]
                rw [V]
                clear V
                have E0 := xc 0 (.int .i64 k) rfl
                have E1 := xc 1 (.string s) rfl
                have E2 := xc 2 (.int .i64 22) rfl
                have E3 := xc 3 (.int .i64 sf) rfl
                have E4 := xc 4 (.int .i64 sr) rfl
                have E5 := xc 5 (.int .i64 sk) rfl
                have E6 := xc 6 (.int .i64 sn) rfl
                have E7 := xc 7 (.string ss) rfl
                have E8 := xc 8 (.slice b1 sl c1) rfl
                have E9 := xc 9 (.int .i64 df) rfl
                have E10 := xc 10 (.int .i64 dr) rfl
                have E11 := xc 11 (.int .i64 dk) rfl
                have E12 := xc 12 (.int .i64 dn) rfl
                have E13 := xc 13 (.string ds) rfl
                have E14 := xc 14 (.slice b2 dl c2) rfl
                have E15 := xc 15 (.int .i64 0) rfl
                have E16 := xc 16 (.slice b3 0 c3) rfl
                clear xc
                go_enter Tryz.func24, Tryz.ntmps24
                go_wp2_with (first | (go_at_call 28; refine (in_any _ _ _ _).mono ?_; rintro e w' ⟨rfl, hw'⟩; rw [hw']; clear hw' w') | (go_at_call_of 25 sf; refine (Sub.call (unhide HZ) (unhide N1 _)).mono ?_; rintro r _ ⟨rfl, z2, rfl⟩) | (go_at_call_of 25 df; refine (Sub.call (unhide HZ) (unhide N2 _)).mono ?_; rintro r _ ⟨rfl, z2, rfl⟩) | (go_at_call_of 51 sf; refine (Sub.call (unhide HZ) (unhide A1 _)).mono ?_; rintro r _ ⟨rfl, z2, rfl⟩) | (go_at_call_of 51 df; refine (Sub.call (unhide HZ) (unhide A2 _)).mono ?_; rintro r _ ⟨rfl, z2, rfl⟩) | (go_at_call 27; refine (Sub.call (unhide HZ) (unhide PL _)).mono ?_; rintro r _ ⟨rfl, z2, rfl⟩))
                go_ret
                exact ⟨rfl, unhide HB _⟩
              have h59f : (ll == 0) = false := beq_eq_false_iff_ne.2 h59
              have h59g : ((ll : Int) == 0) = false := beq_eq_false_iff_ne.2 (by omega)
              have V : insV 22 true true a1 a2 0 ll pl = false := by simp [insV, *]
              rw [V]
              clear V
              have E0 := xc 0 (.int .i64 k) rfl
              have E1 := xc 1 (.string s) rfl
              have E2 := xc 2 (.int .i64 22) rfl
              have E3 := xc 3 (.int .i64 sf) rfl
              have E4 := xc 4 (.int .i64 sr) rfl
              have E5 := xc 5 (.int .i64 sk) rfl
              have E6 := xc 6 (.int .i64 sn) rfl
              have E7 := xc 7 (.string ss) rfl
              have E8 := xc 8 (.slice b1 sl c1) rfl
              have E9 := xc 9 (.int .i64 df) rfl
              have E10 := xc 10 (.int .i64 dr) rfl
              have E11 := xc 11 (.int .i64 dk) rfl
              have E12 := xc 12 (.int .i64 dn) rfl
              have E13 := xc 13 (.string ds) rfl
              have E14 := xc 14 (.slice b2 dl c2) rfl
              have E15 := xc 15 (.int .i64 0) rfl
              have E16 := xc 16 (.slice b3 ll c3) rfl
              clear xc
              go_enter Tryz.func24, Tryz.ntmps24
              go_wp2_with (first | (go_at_call 28; refine (in_any _ _ _ _).mono ?_; rintro e w' ⟨rfl, hw'⟩; rw [hw']; clear hw' w') | (go_at_call_of 25 sf; refine (Sub.call (unhide HZ) (unhide N1 _)).mono ?_; rintro r _ ⟨rfl, z2, rfl⟩) | (go_at_call_of 25 df; refine (Sub.call (unhide HZ) (unhide N2 _)).mono ?_; rintro r _ ⟨rfl, z2, rfl⟩) | (go_at_call_of 51 sf; refine (Sub.call (unhide HZ) (unhide A1 _)).mono ?_; rintro r _ ⟨rfl, z2, rfl⟩) | (go_at_call_of 51 df; refine (Sub.call (unhide HZ) (unhide A2 _)).mono ?_; rintro r _ ⟨rfl, z2, rfl⟩) | (go_at_call 27; refine (Sub.call (unhide HZ) (unhide PL _)).mono ?_; rintro r _ ⟨rfl, z2, rfl⟩))
              go_ret
              exact ⟨rfl, unhide HB _⟩
            have h58f : (n == 0) = false := beq_eq_false_iff_ne.2 h58
            have V : insV 22 true true a1 a2 n ll pl = false := by simp [insV, *]
            rw [V]
            clear V
            have E0 := xc 0 (.int .i64 k) rfl
            have E1 := xc 1 (.string s) rfl
            have E2 := xc 2 (.int .i64 22) rfl
            have E3 := xc 3 (.int .i64 sf) rfl
            have E4 := xc 4 (.int .i64 sr) rfl
            have E5 := xc 5 (.int .i64 sk) rfl
            have E6 := xc 6 (.int .i64 sn) rfl
            have E7 := xc 7 (.string ss) rfl
            have E8 := xc 8 (.slice b1 sl c1) rfl
            have E9 := xc 9 (.int .i64 df) rfl
            have E10 := xc 10 (.int .i64 dr) rfl
            have E11 := xc 11 (.int .i64 dk) rfl
            have E12 := xc 12 (.int .i64 dn) rfl
            have E13 := xc 13 (.string ds) rfl
            have E14 := xc 14 (.slice b2 dl c2) rfl
            have E15 := xc 15 (.int .i64 n) rfl
            have E16 := xc 16 (.slice b3 ll c3) rfl
            clear xc
            go_enter Tryz.func24, Tryz.ntmps24
            go_wp2_with (first | (go_at_call 28; refine (in_any _ _ _ _).mono ?_; rintro e w' ⟨rfl, hw'⟩; rw [hw']; clear hw' w') | (go_at_call_of 25 sf; refine (Sub.call (unhide HZ) (unhide N1 _)).mono ?_; rintro r _ ⟨rfl, z2, rfl⟩) | (go_at_call_of 25 df; refine (Sub.call (unhide HZ) (unhide N2 _)).mono ?_; rintro r _ ⟨rfl, z2, rfl⟩) | (go_at_call_of 51 sf; refine (Sub.call (unhide HZ) (unhide A1 _)).mono ?_; rintro r _ ⟨rfl, z2, rfl⟩) | (go_at_call_of 51 df; refine (Sub.call (unhide HZ) (unhide A2 _)).mono ?_; rintro r _ ⟨rfl, z2, rfl⟩) | (go_at_call 27; refine (Sub.call (unhide HZ) (unhide PL _)).mono ?_; rintro r _ ⟨rfl, z2, rfl⟩))
            go_ret
            exact ⟨rfl, unhide HB _⟩
          have h57f : (op == 22) = false := beq_eq_false_iff_ne.2 h57
          cases h66 : inB op 17 21 with
          | true =>
            by_cases h67 : n = 0
            · subst h67
              by_cases h68 : ll = 1
              · subst h68
                have V : insV op true true a1 a2 0 1 pl = pl := by simp [insV, *]
                rw [V]
                clear V
                have E0 := xc 0 (.int .i64 k) rfl
                have E1 := xc 1 (.string s) rfl
                have E2 := xc 2 (.int .i64 op) rfl
                have E3 := xc 3 (.int .i64 sf) rfl
                have E4 := xc 4 (.int .i64 sr) rfl
                have E5 := xc 5 (.int .i64 sk) rfl
                have E6 := xc 6 (.int .i64 sn) rfl
                have E7 := xc 7 (.string ss) rfl
                have E8 := xc 8 (.slice b1 sl c1) rfl
                have E9 := xc 9 (.int .i64 df) rfl
                have E10 := xc 10 (.int .i64 dr) rfl
                have E11 := xc 11 (.int .i64 dk) rfl
                have E12 := xc 12 (.int .i64 dn) rfl
                have E13 := xc 13 (.string ds) rfl
                have E14 := xc 14 (.slice b2 dl c2) rfl
                have E15 := xc 15 (.int .i64 0) rfl
                have E16 := xc 16 (.slice b3 1 c3) rfl
                clear xc
                go_enter Tryz.func24, Tryz.ntmps24
                go_wp2_with (first | (go_at_call 28; refine (in_any _ _ _ _).mono ?_; rintro e w' ⟨rfl, hw'⟩; rw [hw']; clear hw' w') | (go_at_call_of 25 sf; refine (Sub.call (unhide HZ) (unhide N1 _)).mono ?_; rintro r _ ⟨rfl, z2, rfl⟩) | (go_at_call_of 25 df; refine (Sub.call (unhide HZ) (unhide N2 _)).mono ?_; rintro r _ ⟨rfl, z2, rfl⟩) | (go_at_call_of 51 sf; refine (Sub.call (unhide HZ) (unhide A1 _)).mono ?_; rintro r _ ⟨rfl, z2, rfl⟩) | (go_at_call_of 51 df; refine (Sub.call (unhide HZ) (unhide A2 _)).mono ?_; rintro r _ ⟨rfl, z2, rfl⟩) | (go_at_call 27; refine (Sub.call (unhide HZ) (unhide PL _)).mono ?_; rintro r _ ⟨rfl, z2, rfl⟩))
                go_ret
                exact ⟨rfl, unhide HB _⟩
              have h68f : (ll == 1) = false := beq_eq_false_iff_ne.2 h68
              have h68g : ((ll : Int) == 1) = false := beq_eq_false_iff_ne.2 (by omega)
              have V : insV op true true a1 a2 0 ll pl = false := by simp [insV, *]
              rw [V]
              clear V
              have E0 := xc 0 (.int .i64 k) rfl
              have E1 := xc 1 (.string s) rfl
              have E2 := xc 2 (.int .i64 op) rfl
              have E3 := xc 3 (.int .i64 sf) rfl
              have E4 := xc 4 (.int .i64 sr) rfl
              have E5 := xc 5 (.int .i64 sk) rfl
              have E6 := xc 6 (.int .i64 sn) rfl
              have E7 := xc 7 (.string ss) rfl
              have E8 := xc 8 (.slice b1 sl c1) rfl
              have E9 := xc 9 (.int .i64 df) rfl
              have E10 := xc 10 (.int .i64 dr) rfl
              have E11 := xc 11 (.int .i64 dk) rfl
              have E12 := xc 12 (.int .i64 dn) rfl
              have E13 := xc 13 (.string ds) rfl
              have E14 := xc 14 (.slice b2 dl c2) rfl
              have E15 := xc 15 (.int .i64 0) rfl
              have E16 := xc 16 (.slice b3 ll c3) rfl
              clear xc
              go_enter Tryz.func24, Tryz.ntmps24
              go_wp2_with (first | (go_at_call 28; refine (in_any _ _ _ _).mono ?_; rintro e w' ⟨rfl, hw'⟩; rw [hw']; clear hw' w') | (go_at_call_of 25 sf; refine (Sub.call (unhide HZ) (unhide N1 _)).mono ?_; rintro r _ ⟨rfl, z2, rfl⟩) | (go_at_call_of 25 df; refine (Sub.call (unhide HZ) (unhide N2 _)).mono ?_; rintro r _ ⟨rfl, z2, rfl⟩) | (go_at_call_of 51 sf; refine (Sub.call (unhide HZ) (unhide A1 _)).mono ?_; rintro r _ ⟨rfl, z2, rfl⟩) | (go_at_call_of 51 df; refine (Sub.call (unhide HZ) (unhide A2 _)).mono ?_; rintro r _ ⟨rfl, z2, rfl⟩) | (go_at_call 27; refine (Sub.call (unhide HZ) (unhide PL _)).mono ?_; rintro r _ ⟨rfl, z2, rfl⟩))
              go_ret
              exact ⟨rfl, unhide HB _⟩
            have h67f : (n == 0) = false := beq_eq_false_iff_ne.2 h67
            have V : insV op true true a1 a2 n ll pl = false := by simp [insV, *]
            rw [V]
            clear V
            have E0 := xc 0 (.int .i64 k) rfl
            have E1 := xc 1 (.string s) rfl
            have E2 := xc 2 (.int .i64 op) rfl
            have E3 := xc 3 (.int .i64 sf) rfl
            have E4 := xc 4 (.int .i64 sr) rfl
            have E5 := xc 5 (.int .i64 sk) rfl
            have E6 := xc 6 (.int .i64 sn) rfl
            have E7 := xc 7 (.string ss) rfl
            have E8 := xc 8 (.slice b1 sl c1) rfl
            have E9 := xc 9 (.int .i64 df) rfl
            have E10 := xc 10 (.int .i64 dr) rfl
            have E11 := xc 11 (.int .i64 dk) rfl
            have E12 := xc 12 (.int .i64 dn) rfl
            have E13 := xc 13 (.string ds) rfl
            have E14 := xc 14 (.slice b2 dl c2) rfl
            have E15 := xc 15 (.int .i64 n) rfl
            have E16 := xc 16 (.slice b3 ll c3) rfl
            clear xc
            go_enter Tryz.func24, Tryz.ntmps24
            go_wp2_with (first | (go_at_call 28; refine (in_any _ _ _ _).mono ?_; rintro e w' ⟨rfl, hw'⟩; rw [hw']; clear hw' w') | (go_at_call_of 25 sf; refine (Sub.call (unhide HZ) (unhide N1 _)).mono ?_; rintro r _ ⟨rfl, z2, rfl⟩) | (go_at_call_of 25 df; refine (Sub.call (unhide HZ) (unhide N2 _)).mono ?_; rintro r _ ⟨rfl, z2, rfl⟩) | (go_at_call_of 51 sf; refine (Sub.call (unhide HZ) (unhide A1 _)).mono ?_; rintro r _ ⟨rfl, z2, rfl⟩) | (go_at_call_of 51 df; refine (Sub.call (unhide HZ) (unhide A2 _)).mono ?_; rintro r _ ⟨rfl, z2, rfl⟩) | (go_at_call 27; refine (Sub.call (unhide HZ) (unhide PL _)).mono ?_; rintro r _ ⟨rfl, z2, rfl⟩))
            go_ret
            exact ⟨rfl, unhide HB _⟩
          | false =>
            by_cases h75 : op = 23
            · subst h75
              by_cases h76 : n = 0
              · subst h76
                by_cases h77 : ll = 1
                · subst h77
                  have V : insV 23 true true a1 a2 0 1 pl = pl := by simp [insV, *]
                  rw [V]
                  clear V
                  have E0 := xc 0 (.int .i64 k) rfl
                  have E1 := xc 1 (.string s) rfl
                  have E2 := xc 2 (.int .i64 23) rfl
                  have E3 := xc 3 (.int .i64 sf) rfl
                  have E4 := xc 4 (.int .i64 sr) rfl
                  have E5 := xc 5 (.int .i64 sk) rfl
                  have E6 := xc 6 (.int .i64 sn) rfl
                  have E7 := xc 7 (.string ss) rfl
                  have E8 := xc 8 (.slice b1 sl c1) rfl
                  have E9 := xc 9 (.int .i64 df) rfl
                  have E10 := xc 10 (.int .i64 dr) rfl
                  have E11 := xc 11 (.int .i64 dk) rfl
                  have E12 := xc 12 (.int .i64 dn) rfl
                  have E13 := xc 13 (.string ds) rfl
                  have E14 := xc 14 (.slice b2 dl c2) rfl
                  have E15 := xc 15 (.int .i64 0) rfl
                  have E16 := xc 16 (.slice b3 1 c3) rfl
                  clear xc
                  go_enter Tryz.func24, Tryz.ntmps24
                  go_wp2_with (first | (go_at_call 28; refine (in_any _ _ _ _).mono ?_; rintro e w' ⟨rfl, hw'⟩; rw [hw']; clear hw' w') | (go_at_call_of 25 sf; refine (Sub.call (unhide HZ) (unhide N1 _)).mono ?_; rintro r _ ⟨rfl, z2, rfl⟩) | (go_at_call_of 25 df; refine (Sub.call (unhide HZ) (unhide N2 _)).mono ?_; rintro r _ ⟨rfl, z2, rfl⟩) | (go_at_call_of 51 sf; refine (Sub.call (unhide HZ) (unhide A1 _)).mono ?_; rintro r _ ⟨rfl, z2, rfl⟩) | (go_at_call_of 51 df; refine (Sub.call (unhide HZ) (unhide A2 _)).mono ?_; rintro r _ ⟨rfl, z2, rfl⟩) | (go_at_call 27; refine (Sub.call (unhide HZ) (unhide PL _)).mono ?_; rintro r _ ⟨rfl, z2, rfl⟩))
                  go_ret
                  exact ⟨rfl, unhide HB _⟩
                have h77f : (ll == 1) = false := beq_eq_false_iff_ne.2 h77
                have h77g : ((ll : Int) == 1) = false := beq_eq_false_iff_ne.2 (by omega)
                have V : insV 23 true true a1 a2 0 ll pl = false := by simp [insV, *]
                rw [V]
                clear V
                have E0 := xc 0 (.int .i64 k) rfl
                have E1 := xc 1 (.string s) rfl
                have E2 := xc 2 (.int .i64 23) rfl
                have E3 := xc 3 (.int .i64 sf) rfl
                have E4 := xc 4 (.int .i64 sr) rfl
                have E5 := xc 5 (.int .i64 sk) rfl
                have E6 := xc 6 (.int .i64 sn) rfl
                have E7 := xc 7 (.string ss) rfl
                have E8 := xc 8 (.slice b1 sl c1) rfl
                have E9 := xc 9 (.int .i64 df) rfl
                have E10 := xc 10 (.int .i64 dr) rfl
                have E11 := xc 11 (.int .i64 dk) rfl
                have E12 := xc 12 (.int .i64 dn) rfl
                have E13 := xc 13 (.string ds) rfl
                have E14 := xc 14 (.slice b2 dl c2) rfl
                have E15 := xc 15 (.int .i64 0) rfl
                have E16 := xc 16 (.slice b3 ll c3) rfl
                clear xc
                go_enter Tryz.func24, Tryz.ntmps24
                go_wp2_with (first | (go_at_call 28; refine (in_any _ _ _ _).mono ?_; rintro e w' ⟨rfl, hw'⟩; rw [hw']; clear hw' w') | (go_at_call_of 25 sf; refine (Sub.call (unhide HZ) (unhide N1 _)).mono ?_; rintro r _ ⟨rfl, z2, rfl⟩) | (go_at_call_of 25 df; refine (Sub.call (unhide HZ) (unhide N2 _)).mono ?_; rintro r _ ⟨rfl, z2, rfl⟩) | (go_at_call_of 51 sf; refine (Sub.call (unhide HZ) (unhide A1 _)).mono ?_; rintro r _ ⟨rfl, z2, rfl⟩) | (go_at_call_of 51 df; refine (Sub.call (unhide HZ) (unhide A2 _)).mono ?_; rintro r _ ⟨rfl, z2, rfl⟩) | (go_at_call 27; refine (Sub.call (unhide HZ) (unhide PL _)).mono ?_; rintro r _ ⟨rfl, z2, rfl⟩))
                go_ret
                exact ⟨rfl, unhide HB _⟩
              have h76f : (n == 0) = false := beq_eq_false_iff_ne.2 h76
              have V : insV 23 true true a1 a2 n ll pl = false := by simp [insV, *]
              rw [V]
              clear V
              have E0 := xc 0 (.int .i64 k) rfl
              have E1 := xc 1 (.string s) rfl
              have E2 := xc 2 (.int .i64 23) rfl
              have E3 := xc 3 (.int .i64 sf) rfl
              have E4 := xc 4 (.int .i64 sr) rfl
              have E5 := xc 5 (.int .i64 sk) rfl
              have E6 := xc 6 (.int .i64 sn) rfl
              have E7 := xc 7 (.string ss) rfl
              have E8 := xc 8 (.slice b1 sl c1) rfl
              have E9 := xc 9 (.int .i64 df) rfl
              have E10 := xc 10 (.int .i64 dr) rfl
              have E11 := xc 11 (.int .i64 dk) rfl
              have E12 := xc 12 (.int .i64 dn) rfl
              have E13 := xc 13 (.string ds) rfl
              have E14 := xc 14 (.slice b2 dl c2) rfl
              have E15 := xc 15 (.int .i64 n) rfl
              have E16 := xc 16 (.slice b3 ll c3) rfl
              clear xc
              go_enter Tryz.func24, Tryz.ntmps24
              go_wp2_with (first | (go_at_call 28; refine (in_any _ _ _ _).mono ?_; rintro e w' ⟨rfl, hw'⟩; rw [hw']; clear hw' w') | (go_at_call_of 25 sf; refine (Sub.call (unhide HZ) (unhide N1 _)).mono ?_; rintro r _ ⟨rfl, z2, rfl⟩) | (go_at_call_of 25 df; refine (Sub.call (unhide HZ) (unhide N2 _)).mono ?_; rintro r _ ⟨rfl, z2, rfl⟩) | (go_at_call_of 51 sf; refine (Sub.call (unhide HZ) (unhide A1 _)).mono ?_; rintro r _ ⟨rfl, z2, rfl⟩) | (go_at_call_of 51 df; refine (Sub.call (unhide HZ) (unhide A2 _)).mono ?_; rintro r _ ⟨rfl, z2, rfl⟩) | (go_at_call 27; refine (Sub.call (unhide HZ) (unhide PL _)).mono ?_; rintro r _ ⟨rfl, z2, rfl⟩))
              go_ret
              exact ⟨rfl, unhide HB _⟩
            have h75f : (op == 23) = false := beq_eq_false_iff_ne.2 h75
            have V : insV op true true a1 a2 n ll pl = false := by simp [insV, *]
            rw [V]
            clear V
            have E0 := xc 0 (.int .i64 k) rfl
            have E1 := xc 1 (.string s) rfl
            have E2 := xc 2 (.int .i64 op) rfl
            have E3 := xc 3 (.int .i64 sf) rfl
            have E4 := xc 4 (.int .i64 sr) rfl
            have E5 := xc 5 (.int .i64 sk) rfl
            have E6 := xc 6 (.int .i64 sn) rfl
            have E7 := xc 7 (.string ss) rfl
            have E8 := xc 8 (.slice b1 sl c1) rfl
            have E9 := xc 9 (.int .i64 df) rfl
            have E10 := xc 10 (.int .i64 dr) rfl
            have E11 := xc 11 (.int .i64 dk) rfl
            have E12 := xc 12 (.int .i64 dn) rfl
            have E13 := xc 13 (.string ds) rfl
            have E14 := xc 14 (.slice b2 dl c2) rfl
            have E15 := xc 15 (.int .i64 n) rfl
            have E16 := xc 16 (.slice b3 ll c3) rfl
            clear xc
            go_enter Tryz.func24, Tryz.ntmps24
            go_wp2_with (first | (go_at_call 28; refine (in_any _ _ _ _).mono ?_; rintro e w' ⟨rfl, hw'⟩; rw [hw']; clear hw' w') | (go_at_call_of 25 sf; refine (Sub.call (unhide HZ) (unhide N1 _)).mono ?_; rintro r _ ⟨rfl, z2, rfl⟩) | (go_at_call_of 25 df; refine (Sub.call (unhide HZ) (unhide N2 _)).mono ?_; rintro r _ ⟨rfl, z2, rfl⟩) | (go_at_call_of 51 sf; refine (Sub.call (unhide HZ) (unhide A1 _)).mono ?_; rintro r _ ⟨rfl, z2, rfl⟩) | (go_at_call_of 51 df; refine (Sub.call (unhide HZ) (unhide A2 _)).mono ?_; rintro r _ ⟨rfl, z2, rfl⟩) | (go_at_call 27; refine (Sub.call (unhide HZ) (unhide PL _)).mono ?_; rintro r _ ⟨rfl, z2, rfl⟩))
            go_ret
            exact ⟨rfl, unhide HB _⟩
        | false =>
          have V : insV op true false a1 a2 n ll pl = false := by simp [insV, *]
          rw [V]
          clear V
          have E0 := xc 0 (.int .i64 k) rfl
          have E1 := xc 1 (.string s) rfl
          have E2 := xc 2 (.int .i64 op) rfl
          have E3 := xc 3 (.int .i64 sf) rfl
          have E4 := xc 4 (.int .i64 sr) rfl
          have E5 := xc 5 (.int .i64 sk) rfl
          have E6 := xc 6 (.int .i64 sn) rfl
          have E7 := xc 7 (.string ss) rfl
          have E8 := xc 8 (.slice b1 sl c1) rfl
          have E9 := xc 9 (.int .i64 df) rfl
          have E10 := xc 10 (.int .i64 dr) rfl
          have E11 := xc 11 (.int .i64 dk) rfl
          have E12 := xc 12 (.int .i64 dn) rfl
          have E13 := xc 13 (.string ds) rfl
          have E14 := xc 14 (.slice b2 dl c2) rfl
          have E15 := xc 15 (.int .i64 n) rfl
          have E16 := xc 16 (.slice b3 ll c3) rfl
          clear xc
          go_enter Tryz.func24, Tryz.ntmps24
          go_wp2_with (first | (go_at_call 28; refine (in_any _ _ _ _).mono ?_; rintro e w' ⟨rfl, hw'⟩; rw [hw']; clear hw' w') | (go_at_call_of 25 sf; refine (Sub.call (unhide HZ) (unhide N1 _)).mono ?_; rintro r _ ⟨rfl, z2, rfl⟩) | (go_at_call_of 25 df; refine (Sub.call (unhide HZ) (unhide N2 _)).mono ?_; rintro r _ ⟨rfl, z2, rfl⟩) | (go_at_call_of 51 sf; refine (Sub.call (unhide HZ) (unhide A1 _)).mono ?_; rintro r _ ⟨rfl, z2, rfl⟩) | (go_at_call_of 51 df; refine (Sub.call (unhide HZ) (unhide A2 _)).mono ?_; rintro r _ ⟨rfl, z2, rfl⟩) | (go_at_call 27; refine (Sub.call (unhide HZ) (unhide PL _)).mono ?_; rintro r _ ⟨rfl, z2, rfl⟩))
          go_ret
          exact ⟨rfl, unhide HB _⟩
      | false =>
        have V : insV op false n2 a1 a2 n ll pl = false := by simp [insV, *]
        rw [V]
        clear V
        have E0 := xc 0 (.int .i64 k) rfl
        have E1 := xc 1 (.string s) rfl
        have E2 := xc 2 (.int .i64 op) rfl
        have E3 := xc 3 (.int .i64 sf) rfl
        have E4 := xc 4 (.int .i64 sr) rfl
        have E5 := xc 5 (.int .i64 sk) rfl
        have E6 := xc 6 (.int .i64 sn) rfl
        have E7 := xc 7 (.string ss) rfl
        have E8 := xc 8 (.slice b1 sl c1) rfl
        have E9 := xc 9 (.int .i64 df) rfl
        have E10 := xc 10 (.int .i64 dr) rfl
        have E11 := xc 11 (.int .i64 dk) rfl
        have E12 := xc 12 (.int .i64 dn) rfl
        have E13 := xc 13 (.string ds) rfl
        have E14 := xc 14 (.slice b2 dl c2) rfl
        have E15 := xc 15 (.int .i64 n) rfl
        have E16 := xc 16 (.slice b3 ll c3) rfl
        clear xc
        go_enter Tryz.func24, Tryz.ntmps24
        go_wp2_with (first | (go_at_call 28; refine (in_any _ _ _ _).mono ?_; rintro e w' ⟨rfl, hw'⟩; rw [hw']; clear hw' w') | (go_at_call_of 25 sf; refine (Sub.call (unhide HZ) (unhide N1 _)).mono ?_; rintro r _ ⟨rfl, z2, rfl⟩) | (go_at_call_of 25 df; refine (Sub.call (unhide HZ) (unhide N2 _)).mono ?_; rintro r _ ⟨rfl, z2, rfl⟩) | (go_at_call_of 51 sf; refine (Sub.call (unhide HZ) (unhide A1 _)).mono ?_; rintro r _ ⟨rfl, z2, rfl⟩) | (go_at_call_of 51 df; refine (Sub.call (unhide HZ) (unhide A2 _)).mono ?_; rintro r _ ⟨rfl, z2, rfl⟩) | (go_at_call 27; refine (Sub.call (unhide HZ) (unhide PL _)).mono ?_; rintro r _ ⟨rfl, z2, rfl⟩))
        go_ret
        exact ⟨rfl, unhide HB _⟩
end Go.Proofs.YtmhcbehplhfgfaaGreatDoor
