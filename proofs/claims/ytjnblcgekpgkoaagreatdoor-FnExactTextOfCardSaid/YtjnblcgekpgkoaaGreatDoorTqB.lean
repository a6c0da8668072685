/- Contracts over this seat's translation, laid together; conditions stand as hypotheses of each. -/
import Derived.Test.YtjnblcgekpgkoaaGreatDoorTqA
namespace Go.Proofs.YtjnblcgekpgkoaaGreatDoor
open Go.ChangeShapes Go.WideShapes Go.ChangeAt Go.RowKit
set_option maxHeartbeats 16000000
set_option linter.unusedVariables false
set_option maxRecDepth 8000
set_option linter.unusedSimpArgs false
structure RdL (w : World) (x : Ln) (p : La) : Prop where
 a : RdX w 0 x.src.e p.b1
 b : RdX w 0 x.dst.e p.b2
 l : RdX w 0 ⟨0, 0, E0, x.l⟩ p.b3
theorem RdL.later {w w' : World} {x : Ln} {p : La} (h : RdL w x p) (hb : Below w.heap.size w w') : RdL w' x p := ⟨h.a.later hb, h.b.later hb, h.l.later hb⟩
structure SzL (x : Ln) : Prop where
 s : x.s.size ≤ 1048576
 a : x.src.e.sz ≤ 1048576
 b : x.dst.e.sz ≤ 1048576
 l : x.l.length ≤ 1048576
 p : ∀ i, i < x.l.length → (xAt x.l i).sz ≤ 1048576
theorem box17 (w : World) (cs : Array Value) (ty : TypeId) (i : Nat) (v : Value) (h : cs[i]? = some v) : (w.alloc (.cells cs ty)).cell? ⟨w.heap.size, i, none⟩ = some v := by
 have h0 : (w.alloc (.cells cs ty)).heap[w.heap.size]? = some (.cells cs ty (0, 0)) := Array.getElem?_push_size
 rw [Lib.cell_of_heap h0]
 exact h
def insV (op : Int) (n1 n2 a1 a2 : Bool) (n : Int) (ll : Nat) (pl : Bool) : Bool :=
 if inB op 1 6 = true then a1 && (a2 && (n == 0 && ll == 0))
 else if inB op 7 14 = true then n1 && (a2 && (n == 0 && ll == 0))
 else if op == 15 then n1 && (a2 && (inB n 0 7 && ll == 0))
 else if !n1 || !n2 then false
 else if op == 16 then inB n 0 7 && ll == 0
 else if op == 22 then n == 0 && ll == 0
 else if inB op 17 21 || op == 23 then n == 0 && (ll == 1 && pl)
 else false
def insX (x : Ln) : Bool := insV x.op (nonX x.src) (nonX x.dst) (agX x.src) (agX x.dst) x.n x.l.length (x.l.all (okF 6 true))
theorem insS_any (x : Ln) (p : La) (w : World) (hr : RdL w x p) (hz : SzL x) : Calls Tryz.prog 72 #[.agg (x.cs p)] w fun r w' => r = .returned (.bool (insX x)) ∧ Below w.heap.size w w' := by
 obtain ⟨hza, hzb, hzc, hzd, hze⟩ := hz
 have s1 := sz_is x.src.e
 have s2 := sz_is x.dst.e
 have hbW := below_new w (.cells (x.cs p) 30)
 obtain ⟨W, hW⟩ : ∃ W, w.alloc (.cells (x.cs p) 30) = W := ⟨_, rfl⟩
 have hrW := hr.later hbW
 have xl : w.heap.size < W.heap.size := by rw [← hW]; simp
 have xc : ∀ (i : Nat) (v : Value), (x.cs p)[i]? = some v → ∀ y : Sub W.heap.size W, y.w.cell? ⟨w.heap.size, i, none⟩ = some v := fun i v h y => (y.h.cell (p := ⟨w.heap.size, i, none⟩) xl).trans (by rw [← hW]; exact box17 w _ _ i v h)
 rw [hW] at hbW hrW
 obtain ⟨z, hz0⟩ : ∃ z : Sub W.heap.size W, w.alloc (.cells (x.cs p) 30) = z.w := ⟨⟨W, Below.refl _ _⟩, hW⟩
 have ne := Sub.ne W.heap.size W
 have HZ := hide (Nat.le_refl W.heap.size)
 have HB := hide (fun y : Sub W.heap.size W => hbW.trans (y.h.mono hbW.size))
 have N1 := hide (fun y : Sub W.heap.size W => nonS_any x.src (by omega) (by omega) p.b1 p.c1 y.w)
 have N2 := hide (fun y : Sub W.heap.size W => nonS_any x.dst (by omega) (by omega) p.b2 p.c2 y.w)
 have PL := hide (fun y : Sub W.heap.size W => plnS_any x.l p.b3 p.c3 y.w (hrW.l.later y.h) hzd hze)
 have A1 := hide (fun y : Sub W.heap.size W => agS_any x.src p.b1 p.c1 y.w (hrW.a.later y.h) hzb)
 have A2 := hide (fun y : Sub W.heap.size W => agS_any x.dst p.b2 p.c2 y.w (hrW.b.later y.h) hzc)
 rw [show insX x = insV x.op (nonX x.src) (nonX x.dst) (agX x.src) (agX x.dst) x.n x.l.length (x.l.all (okF 6 true)) from rfl]
 unfold Ln.cs at hz0 xc ⊢
 unfold Ag.cs at N1 N2 A1 A2
 generalize nonX x.src = n1 at *
 generalize nonX x.dst = n2 at *
 generalize agX x.src = a1 at *
 generalize agX x.dst = a2 at *
 generalize x.l.all (okF 6 true) = pl at *
 clear hr hrW hza hzb hzc hzd hze s1 s2 xl hW
 generalize x.src.f = sf at *
 generalize x.src.r = sr at *
 generalize x.src.e.k = sk at *
 generalize x.src.e.n = sn at *
 generalize x.src.e.s = ss at *
 generalize x.src.e.l.length = sl at *
 generalize x.dst.f = df at *
 generalize x.dst.r = dr at *
 generalize x.dst.e.k = dk at *
 generalize x.dst.e.n = dn at *
 generalize x.dst.e.s = ds at *
 generalize x.dst.e.l.length = dl at *
 generalize x.k = k at *
 generalize x.s = s at *
 generalize x.op = op at *
 generalize x.n = n at *
 generalize x.l.length = ll at *
 generalize p.b1 = b1 at *
 generalize p.c1 = c1 at *
 generalize p.b2 = b2 at *
 generalize p.c2 = c2 at *
 generalize p.b3 = b3 at *
 generalize p.c3 = c3 at *
 cases h1 : inB op 1 6 with
 | true =>
  cases a1 with
  | true =>
   cases a2 with
   | true =>
    by_cases h4 : n = 0
    ·
     subst h4
     by_cases h5 : ll = 0
     ·
      subst h5
      have V : insV op n1 n2 true true 0 0 pl = true := by simp [insV, *]
      rw [V]
      clear V
      have E0 := xc 0 (.int .i64 k) rfl
      have E1 := xc 1 (.string s) rfl
      have E2 := xc 2 (.int .i64 op) rfl
      have E3 := xc 3 (.int .i64 sf) rfl
      have E4 := xc 4 (.int .i64 sr) rfl
      have E5 := xc 5 (.int .i64 sk) rfl
      have E6 := xc 6 (.int .i64 sn) rfl
      have E7 := xc 7 (.string ss) rfl
      have E8 := xc 8 (.slice b1 sl c1) rfl
      have E9 := xc 9 (.int .i64 df) rfl
      have E10 := xc 10 (.int .i64 dr) rfl
      have E11 := xc 11 (.int .i64 dk) rfl
      have E12 := xc 12 (.int .i64 dn) rfl
      have E13 := xc 13 (.string ds) rfl
      have E14 := xc 14 (.slice b2 dl c2) rfl
      have E15 := xc 15 (.int .i64 0) rfl
      have E16 := xc 16 (.slice b3 0 c3) rfl
      clear xc
      go_enter Tryz.func72, Tryz.ntmps72
      go_wp2_with (first | (go_at_call 61; refine (in_any _ _ _ _).mono ?_; rintro e w' ⟨rfl, hw'⟩; rw [hw']; clear hw' w') | (go_at_call_of 73 sf; refine (Sub.call (uh HZ) (uh N1 _)).mono ?_; rintro r _ ⟨rfl, z2, rfl⟩) | (go_at_call_of 73 df; refine (Sub.call (uh HZ) (uh N2 _)).mono ?_; rintro r _ ⟨rfl, z2, rfl⟩) | (go_at_call_of 18 sf; refine (Sub.call (uh HZ) (uh A1 _)).mono ?_; rintro r _ ⟨rfl, z2, rfl⟩) | (go_at_call_of 18 df; refine (Sub.call (uh HZ) (uh A2 _)).mono ?_; rintro r _ ⟨rfl, z2, rfl⟩) | (go_at_call 75; refine (Sub.call (uh HZ) (uh PL _)).mono ?_; rintro r _ ⟨rfl, z2, rfl⟩))
      go_ret
      exact ⟨rfl, uh HB _⟩
     have h5f : (ll == 0) = false := beq_eq_false_iff_ne.2 h5
     have h5g : ((ll : Int) == 0) = false := beq_eq_false_iff_ne.2 (by omega)
     have V : insV op n1 n2 true true 0 ll pl = false := by simp [insV, *]
     rw [V]
     clear V
     have E0 := xc 0 (.int .i64 k) rfl
     have E1 := xc 1 (.string s) rfl
     have E2 := xc 2 (.int .i64 op) rfl
     have E3 := xc 3 (.int .i64 sf) rfl
     have E4 := xc 4 (.int .i64 sr) rfl
     have E5 := xc 5 (.int .i64 sk) rfl
     have E6 := xc 6 (.int .i64 sn) rfl
     have E7 := xc 7 (.string ss) rfl
     have E8 := xc 8 (.slice b1 sl c1) rfl
     have E9 := xc 9 (.int .i64 df) rfl
     have E10 := xc 10 (.int .i64 dr) rfl
     have E11 := xc 11 (.int .i64 dk) rfl
     have E12 := xc 12 (.int .i64 dn) rfl
     have E13 := xc 13 (.string ds) rfl
     have E14 := xc 14 (.slice b2 dl c2) rfl
     have E15 := xc 15 (.int .i64 0) rfl
     have E16 := xc 16 (.slice b3 ll c3) rfl
     clear xc
     go_enter Tryz.func72, Tryz.ntmps72
     go_wp2_with (first | (go_at_call 61; refine (in_any _ _ _ _).mono ?_; rintro e w' ⟨rfl, hw'⟩; rw [hw']; clear hw' w') | (go_at_call_of 73 sf; refine (Sub.call (uh HZ) (uh N1 _)).mono ?_; rintro r _ ⟨rfl, z2, rfl⟩) | (go_at_call_of 73 df; refine (Sub.call (uh HZ) (uh N2 _)).mono ?_; rintro r _ ⟨rfl, z2, rfl⟩) | (go_at_call_of 18 sf; refine (Sub.call (uh HZ) (uh A1 _)).mono ?_; rintro r _ ⟨rfl, z2, rfl⟩) | (go_at_call_of 18 df; refine (Sub.call (uh HZ) (uh A2 _)).mono ?_; rintro r _ ⟨rfl, z2, rfl⟩) | (go_at_call 75; refine (Sub.call (uh HZ) (uh PL _)).mono ?_; rintro r _ ⟨rfl, z2, rfl⟩))
     go_ret
     exact ⟨rfl, uh HB _⟩
    have h4f : (n == 0) = false := beq_eq_false_iff_ne.2 h4
    have V : insV op n1 n2 true true n ll pl = false := by simp [insV, *]
    rw [V]
    clear V
    have E0 := xc 0 (.int .i64 k) rfl
    have E1 := xc 1 (.string s) rfl
    have E2 := xc 2 (.int .i64 op) rfl
    have E3 := xc 3 (.int .i64 sf) rfl
    have E4 := xc 4 (.int .i64 sr) rfl
    have E5 := xc 5 (.int .i64 sk) rfl
    have E6 := xc 6 (.int .i64 sn) rfl
    have E7 := xc 7 (.string ss) rfl
    have E8 := xc 8 (.slice b1 sl c1) rfl
    have E9 := xc 9 (.int .i64 df) rfl
    have E10 := xc 10 (.int .i64 dr) rfl
    have E11 := xc 11 (.int .i64 dk) rfl
    have E12 := xc 12 (.int .i64 dn) rfl
    have E13 := xc 13 (.string ds) rfl
    have E14 := xc 14 (.slice b2 dl c2) rfl
    have E15 := xc 15 (.int .i64 n) rfl
    have E16 := xc 16 (.slice b3 ll c3) rfl
    clear xc
    go_enter Tryz.func72, Tryz.ntmps72
    go_wp2_with (first | (go_at_call 61; refine (in_any _ _ _ _).mono ?_; rintro e w' ⟨rfl, hw'⟩; rw [hw']; clear hw' w') | (go_at_call_of 73 sf; refine (Sub.call (uh HZ) (uh N1 _)).mono ?_; rintro r _ ⟨rfl, z2, rfl⟩) | (go_at_call_of 73 df; refine (Sub.call (uh HZ) (uh N2 _)).mono ?_; rintro r _ ⟨rfl, z2, rfl⟩) | (go_at_call_of 18 sf; refine (Sub.call (uh HZ) (uh A1 _)).mono ?_; rintro r _ ⟨rfl, z2, rfl⟩) | (go_at_call_of 18 df; refine (Sub.call (uh HZ) (uh A2 _)).mono ?_; rintro r _ ⟨rfl, z2, rfl⟩) | (go_at_call 75; refine (Sub.call (uh HZ) (uh PL _)).mono ?_; rintro r _ ⟨rfl, z2, rfl⟩))
    go_ret
    exact ⟨rfl, uh HB _⟩
   | false =>
    have V : insV op n1 n2 true false n ll pl = false := by simp [insV, *]
    rw [V]
    clear V
    have E0 := xc 0 (.int .i64 k) rfl
    have E1 := xc 1 (.string s) rfl
    have E2 := xc 2 (.int .i64 op) rfl
    have E3 := xc 3 (.int .i64 sf) rfl
    have E4 := xc 4 (.int .i64 sr) rfl
    have E5 := xc 5 (.int .i64 sk) rfl
    have E6 := xc 6 (.int .i64 sn) rfl
    have E7 := xc 7 (.string ss) rfl
    have E8 := xc 8 (.slice b1 sl c1) rfl
    have E9 := xc 9 (.int .i64 df) rfl
    have E10 := xc 10 (.int .i64 dr) rfl
    have E11 := xc 11 (.int .i64 dk) rfl
    have E12 := xc 12 (.int .i64 dn) rfl
    have E13 := xc 13 (.string ds) rfl
    have E14 := xc 14 (.slice b2 dl c2) rfl
    have E15 := xc 15 (.int .i64 n) rfl
    have E16 := xc 16 (.slice b3 ll c3) rfl
    clear xc
    go_enter Tryz.func72, Tryz.ntmps72
    go_wp2_with (first | (go_at_call 61; refine (in_any _ _ _ _).mono ?_; rintro e w' ⟨rfl, hw'⟩; rw [hw']; clear hw' w') | (go_at_call_of 73 sf; refine (Sub.call (uh HZ) (uh N1 _)).mono ?_; rintro r _ ⟨rfl, z2, rfl⟩) | (go_at_call_of 73 df; refine (Sub.call (uh HZ) (uh N2 _)).mono ?_; rintro r _ ⟨rfl, z2, rfl⟩) | (go_at_call_of 18 sf; refine (Sub.call (uh HZ) (uh A1 _)).mono ?_; rintro r _ ⟨rfl, z2, rfl⟩) | (go_at_call_of 18 df; refine (Sub.call (uh HZ) (uh A2 _)).mono ?_; rintro r _ ⟨rfl, z2, rfl⟩) | (go_at_call 75; refine (Sub.call (uh HZ) (uh PL _)).mono ?_; rintro r _ ⟨rfl, z2, rfl⟩))
    go_ret
    exact ⟨rfl, uh HB _⟩
  | false =>
   have V : insV op n1 n2 false a2 n ll pl = false := by simp [insV, *]
   rw [V]
   clear V
   have E0 := xc 0 (.int .i64 k) rfl
   have E1 := xc 1 (.string s) rfl
   have E2 := xc 2 (.int .i64 op) rfl
   have E3 := xc 3 (.int .i64 sf) rfl
   have E4 := xc 4 (.int .i64 sr) rfl
   have E5 := xc 5 (.int .i64 sk) rfl
   have E6 := xc 6 (.int .i64 sn) rfl
   have E7 := xc 7 (.string ss) rfl
   have E8 := xc 8 (.slice b1 sl c1) rfl
   have E9 := xc 9 (.int .i64 df) rfl
   have E10 := xc 10 (.int .i64 dr) rfl
   have E11 := xc 11 (.int .i64 dk) rfl
   have E12 := xc 12 (.int .i64 dn) rfl
   have E13 := xc 13 (.string ds) rfl
   have E14 := xc 14 (.slice b2 dl c2) rfl
   have E15 := xc 15 (.int .i64 n) rfl
   have E16 := xc 16 (.slice b3 ll c3) rfl
   clear xc
   go_enter Tryz.func72, Tryz.ntmps72
   go_wp2_with (first | (go_at_call 61; refine (in_any _ _ _ _).mono ?_; rintro e w' ⟨rfl, hw'⟩; rw [hw']; clear hw' w') | (go_at_call_of 73 sf; refine (Sub.call (uh HZ) (uh N1 _)).mono ?_; rintro r _ ⟨rfl, z2, rfl⟩) | (go_at_call_of 73 df; refine (Sub.call (uh HZ) (uh N2 _)).mono ?_; rintro r _ ⟨rfl, z2, rfl⟩) | (go_at_call_of 18 sf; refine (Sub.call (uh HZ) (uh A1 _)).mono ?_; rintro r _ ⟨rfl, z2, rfl⟩) | (go_at_call_of 18 df; refine (Sub.call (uh HZ) (uh A2 _)).mono ?_; rintro r _ ⟨rfl, z2, rfl⟩) | (go_at_call 75; refine (Sub.call (uh HZ) (uh PL _)).mono ?_; rintro r _ ⟨rfl, z2, rfl⟩))
   go_ret
   exact ⟨rfl, uh HB _⟩
 | false =>
  cases h16 : inB op 7 14 with
  | true =>
   cases n1 with
   | true =>
    cases a2 with
    | true =>
     by_cases h19 : n = 0
     ·
      subst h19
      by_cases h20 : ll = 0
      ·
       subst h20
       have V : insV op true n2 a1 true 0 0 pl = true := by simp [insV, *]
       rw [V]
       clear V
       have E0 := xc 0 (.int .i64 k) rfl
       have E1 := xc 1 (.string s) rfl
       have E2 := xc 2 (.int .i64 op) rfl
       have E3 := xc 3 (.int .i64 sf) rfl
       have E4 := xc 4 (.int .i64 sr) rfl
       have E5 := xc 5 (.int .i64 sk) rfl
       have E6 := xc 6 (.int .i64 sn) rfl
       have E7 := xc 7 (.string ss) rfl
       have E8 := xc 8 (.slice b1 sl c1) rfl
       have E9 := xc 9 (.int .i64 df) rfl
       have E10 := xc 10 (.int .i64 dr) rfl
       have E11 := xc 11 (.int .i64 dk) rfl
       have E12 := xc 12 (.int .i64 dn) rfl
       have E13 := xc 13 (.string ds) rfl
       have E14 := xc 14 (.slice b2 dl c2) rfl
       have E15 := xc 15 (.int .i64 0) rfl
       have E16 := xc 16 (.slice b3 0 c3) rfl
       clear xc
       go_enter Tryz.func72, Tryz.ntmps72
       go_wp2_with (first | (go_at_call 61; refine (in_any _ _ _ _).mono ?_; rintro e w' ⟨rfl, hw'⟩; rw [hw']; clear hw' w') | (go_at_call_of 73 sf; refine (Sub.call (uh HZ) (uh N1 _)).mono ?_; rintro r _ ⟨rfl, z2, rfl⟩) | (go_at_call_of 73 df; refine (Sub.call (uh HZ) (uh N2 _)).mono ?_; rintro r _ ⟨rfl, z2, rfl⟩) | (go_at_call_of 18 sf; refine (Sub.call (uh HZ) (uh A1 _)).mono ?_; rintro r _ ⟨rfl, z2, rfl⟩) | (go_at_call_of 18 df; refine (Sub.call (uh HZ) (uh A2 _)).mono ?_; rintro r _ ⟨rfl, z2, rfl⟩) | (go_at_call 75; refine (Sub.call (uh HZ) (uh PL _)).mono ?_; rintro r _ ⟨rfl, z2, rfl⟩))
       go_ret
       exact ⟨rfl, uh HB _⟩
      have h20f : (ll == 0) = false := beq_eq_false_iff_ne.2 h20
      have h20g : ((ll : Int) == 0) = false := beq_eq_false_iff_ne.2 (by omega)
      have V : insV op true n2 a1 true 0 ll pl = false := by simp [insV, *]
      rw [V]
      clear V
      have E0 := xc 0 (.int .i64 k) rfl
      have E1 := xc 1 (.string s) rfl
      have E2 := xc 2 (.int .i64 op) rfl
      have E3 := xc 3 (.int .i64 sf) rfl
      have E4 := xc 4 (.int .i64 sr) rfl
      have E5 := xc 5 (.int .i64 sk) rfl
      have E6 := xc 6 (.int .i64 sn) rfl
      have E7 := xc 7 (.string ss) rfl
      have E8 := xc 8 (.slice b1 sl c1) rfl
      have E9 := xc 9 (.int .i64 df) rfl
      have E10 := xc 10 (.int .i64 dr) rfl
      have E11 := xc 11 (.int .i64 dk) rfl
      have E12 := xc 12 (.int .i64 dn) rfl
      have E13 := xc 13 (.string ds) rfl
      have E14 := xc 14 (.slice b2 dl c2) rfl
      have E15 := xc 15 (.int .i64 0) rfl
      have E16 := xc 16 (.slice b3 ll c3) rfl
      clear xc
      go_enter Tryz.func72, Tryz.ntmps72
      go_wp2_with (first | (go_at_call 61; refine (in_any _ _ _ _).mono ?_; rintro e w' ⟨rfl, hw'⟩; rw [hw']; clear hw' w') | (go_at_call_of 73 sf; refine (Sub.call (uh HZ) (uh N1 _)).mono ?_; rintro r _ ⟨rfl, z2, rfl⟩) | (go_at_call_of 73 df; refine (Sub.call (uh HZ) (uh N2 _)).mono ?_; rintro r _ ⟨rfl, z2, rfl⟩) | (go_at_call_of 18 sf; refine (Sub.call (uh HZ) (uh A1 _)).mono ?_; rintro r _ ⟨rfl, z2, rfl⟩) | (go_at_call_of 18 df; refine (Sub.call (uh HZ) (uh A2 _)).mono ?_; rintro r _ ⟨rfl, z2, rfl⟩) | (go_at_call 75; refine (Sub.call (uh HZ) (uh PL _)).mono ?_; rintro r _ ⟨rfl, z2, rfl⟩))
      go_ret
      exact ⟨rfl, uh HB _⟩
     have h19f : (n == 0) = false := beq_eq_false_iff_ne.2 h19
     have V : insV op true n2 a1 true n ll pl = false := by simp [insV, *]
     rw [V]
     clear V
     have E0 := xc 0 (.int .i64 k) rfl
     have E1 := xc 1 (.string s) rfl
     have E2 := xc 2 (.int .i64 op) rfl
     have E3 := xc 3 (.int .i64 sf) rfl
     have E4 := xc 4 (.int .i64 sr) rfl
     have E5 := xc 5 (.int .i64 sk) rfl
     have E6 := xc 6 (.int .i64 sn) rfl
     have E7 := xc 7 (.string ss) rfl
     have E8 := xc 8 (.slice b1 sl c1) rfl
     have E9 := xc 9 (.int .i64 df) rfl
     have E10 := xc 10 (.int .i64 dr) rfl
     have E11 := xc 11 (.int .i64 dk) rfl
     have E12 := xc 12 (.int .i64 dn) rfl
     have E13 := xc 13 (.string ds) rfl
     have E14 := xc 14 (.slice b2 dl c2) rfl
     have E15 := xc 15 (.int .i64 n) rfl
     have E16 := xc 16 (.slice b3 ll c3) rfl
     clear xc
     go_enter Tryz.func72, Tryz.ntmps72
     go_wp2_with (first | (go_at_call 61; refine (in_any _ _ _ _).mono ?_; rintro e w' ⟨rfl, hw'⟩; rw [hw']; clear hw' w') | (go_at_call_of 73 sf; refine (Sub.call (uh HZ) (uh N1 _)).mono ?_; rintro r _ ⟨rfl, z2, rfl⟩) | (go_at_call_of 73 df; refine (Sub.call (uh HZ) (uh N2 _)).mono ?_; rintro r _ ⟨rfl, z2, rfl⟩) | (go_at_call_of 18 sf; refine (Sub.call (uh HZ) (uh A1 _)).mono ?_; rintro r _ ⟨rfl, z2, rfl⟩) | (go_at_call_of 18 df; refine (Sub.call (uh HZ) (uh A2 _)).mono ?_; rintro r _ ⟨rfl, z2, rfl⟩) | (go_at_call 75; refine (Sub.call (uh HZ) (uh PL _)).mono ?_; rintro r _ ⟨rfl, z2, rfl⟩))
     go_ret
     exact ⟨rfl, uh HB _⟩
    | false =>
     have V : insV op true n2 a1 false n ll pl = false := by simp [insV, *]
     rw [V]
     clear V
     have E0 := xc 0 (.int .i64 k) rfl
     have E1 := xc 1 (.string s) rfl
     have E2 := xc 2 (.int .i64 op) rfl
     have E3 := xc 3 (.int .i64 sf) rfl
     have E4 := xc 4 (.int .i64 sr) rfl
     have E5 := xc 5 (.int .i64 sk) rfl
     have E6 := xc 6 (.int .i64 sn) rfl
     have E7 := xc 7 (.string ss) rfl
     have E8 := xc 8 (.slice b1 sl c1) rfl
     have E9 := xc 9 (.int .i64 df) rfl
     have E10 := xc 10 (.int .i64 dr) rfl
     have E11 := xc 11 (.int .i64 dk) rfl
     have E12 := xc 12 (.int .i64 dn) rfl
     have E13 := xc 13 (.string ds) rfl
     have E14 := xc 14 (.slice b2 dl c2) rfl
     have E15 := xc 15 (.int .i64 n) rfl
     have E16 := xc 16 (.slice b3 ll c3) rfl
     clear xc
     go_enter Tryz.func72, Tryz.ntmps72
     go_wp2_with (first | (go_at_call 61; refine (in_any _ _ _ _).mono ?_; rintro e w' ⟨rfl, hw'⟩; rw [hw']; clear hw' w') | (go_at_call_of 73 sf; refine (Sub.call (uh HZ) (uh N1 _)).mono ?_; rintro r _ ⟨rfl, z2, rfl⟩) | (go_at_call_of 73 df; refine (Sub.call (uh HZ) (uh N2 _)).mono ?_; rintro r _ ⟨rfl, z2, rfl⟩) | (go_at_call_of 18 sf; refine (Sub.call (uh HZ) (uh A1 _)).mono ?_; rintro r _ ⟨rfl, z2, rfl⟩) | (go_at_call_of 18 df; refine (Sub.call (uh HZ) (uh A2 _)).mono ?_; rintro r _ ⟨rfl, z2, rfl⟩) | (go_at_call 75; refine (Sub.call (uh HZ) (uh PL _)).mono ?_; rintro r _ ⟨rfl, z2, rfl⟩))
     go_ret
     exact ⟨rfl, uh HB _⟩
   | false =>
    have V : insV op false n2 a1 a2 n ll pl = false := by simp [insV, *]
    rw [V]
    clear V
    have E0 := xc 0 (.int .i64 k) rfl
    have E1 := xc 1 (.string s) rfl
    have E2 := xc 2 (.int .i64 op) rfl
    have E3 := xc 3 (.int .i64 sf) rfl
    have E4 := xc 4 (.int .i64 sr) rfl
    have E5 := xc 5 (.int .i64 sk) rfl
    have E6 := xc 6 (.int .i64 sn) rfl
    have E7 := xc 7 (.string ss) rfl
    have E8 := xc 8 (.slice b1 sl c1) rfl
    have E9 := xc 9 (.int .i64 df) rfl
    have E10 := xc 10 (.int .i64 dr) rfl
    have E11 := xc 11 (.int .i64 dk) rfl
    have E12 := xc 12 (.int .i64 dn) rfl
    have E13 := xc 13 (.string ds) rfl
    have E14 := xc 14 (.slice b2 dl c2) rfl
    have E15 := xc 15 (.int .i64 n) rfl
    have E16 := xc 16 (.slice b3 ll c3) rfl
    clear xc
    go_enter Tryz.func72, Tryz.ntmps72
    go_wp2_with (first | (go_at_call 61; refine (in_any _ _ _ _).mono ?_; rintro e w' ⟨rfl, hw'⟩; rw [hw']; clear hw' w') | (go_at_call_of 73 sf; refine (Sub.call (uh HZ) (uh N1 _)).mono ?_; rintro r _ ⟨rfl, z2, rfl⟩) | (go_at_call_of 73 df; refine (Sub.call (uh HZ) (uh N2 _)).mono ?_; rintro r _ ⟨rfl, z2, rfl⟩) | (go_at_call_of 18 sf; refine (Sub.call (uh HZ) (uh A1 _)).mono ?_; rintro r _ ⟨rfl, z2, rfl⟩) | (go_at_call_of 18 df; refine (Sub.call (uh HZ) (uh A2 _)).mono ?_; rintro r _ ⟨rfl, z2, rfl⟩) | (go_at_call 75; refine (Sub.call (uh HZ) (uh PL _)).mono ?_; rintro r _ ⟨rfl, z2, rfl⟩))
    go_ret
    exact ⟨rfl, uh HB _⟩
  | false =>
   by_cases h31 : op = 15
   ·
    subst h31
    cases n1 with
    | true =>
     cases a2 with
     | true =>
      cases h34 : inB n 0 7 with
      | true =>
       by_cases h35 : ll = 0
       ·
        subst h35
        have V : insV 15 true n2 a1 true n 0 pl = true := by simp [insV, *]
        rw [V]
        clear V
        have E0 := xc 0 (.int .i64 k) rfl
        have E1 := xc 1 (.string s) rfl
        have E2 := xc 2 (.int .i64 15) rfl
        have E3 := xc 3 (.int .i64 sf) rfl
        have E4 := xc 4 (.int .i64 sr) rfl
        have E5 := xc 5 (.int .i64 sk) rfl
        have E6 := xc 6 (.int .i64 sn) rfl
        have E7 := xc 7 (.string ss) rfl
        have E8 := xc 8 (.slice b1 sl c1) rfl
        have E9 := xc 9 (.int .i64 df) rfl
        have E10 := xc 10 (.int .i64 dr) rfl
        have E11 := xc 11 (.int .i64 dk) rfl
        have E12 := xc 12 (.int .i64 dn) rfl
        have E13 := xc 13 (.string ds) rfl
        have E14 := xc 14 (.slice b2 dl c2) rfl
        have E15 := xc 15 (.int .i64 n) rfl
        have E16 := xc 16 (.slice b3 0 c3) rfl
        clear xc
        go_enter Tryz.func72, Tryz.ntmps72
        go_wp2_with (first | (go_at_call 61; refine (in_any _ _ _ _).mono ?_; rintro e w' ⟨rfl, hw'⟩; rw [hw']; clear hw' w') | (go_at_call_of 73 sf; refine (Sub.call (uh HZ) (uh N1 _)).mono ?_; rintro r _ ⟨rfl, z2, rfl⟩) | (go_at_call_of 73 df; refine (Sub.call (uh HZ) (uh N2 _)).mono ?_; rintro r _ ⟨rfl, z2, rfl⟩) | (go_at_call_of 18 sf; refine (Sub.call (uh HZ) (uh A1 _)).mono ?_; rintro r _ ⟨rfl, z2, rfl⟩) | (go_at_call_of 18 df; refine (Sub.call (uh HZ) (uh A2 _)).mono ?_; rintro r _ ⟨rfl, z2, rfl⟩) | (go_at_call 75; refine (Sub.call (uh HZ) (uh PL _)).mono ?_; rintro r _ ⟨rfl, z2, rfl⟩))
        go_ret
        exact ⟨rfl, uh HB _⟩
       have h35f : (ll == 0) = false := beq_eq_false_iff_ne.2 h35
       have h35g : ((ll : Int) == 0) = false := beq_eq_false_iff_ne.2 (by omega)
       have V : insV 15 true n2 a1 true n ll pl = false := by simp [insV, *]
       rw [V]
       clear V
       have E0 := xc 0 (.int .i64 k) rfl
       have E1 := xc 1 (.string s) rfl
       have E2 := xc 2 (.int .i64 15) rfl
       have E3 := xc 3 (.int .i64 sf) rfl
       have E4 := xc 4 (.int .i64 sr) rfl
       have E5 := xc 5 (.int .i64 sk) rfl
       have E6 := xc 6 (.int .i64 sn) rfl
       have E7 := xc 7 (.string ss) rfl
       have E8 := xc 8 (.slice b1 sl c1) rfl
       have E9 := xc 9 (.int .i64 df) rfl
       have E10 := xc 10 (.int .i64 dr) rfl
       have E11 := xc 11 (.int .i64 dk) rfl
       have E12 := xc 12 (.int .i64 dn) rfl
       have E13 := xc 13 (.string ds) rfl
       have E14 := xc 14 (.slice b2 dl c2) rfl
       have E15 := xc 15 (.int .i64 n) rfl
       have E16 := xc 16 (.slice b3 ll c3) rfl
       clear xc
       go_enter Tryz.func72, Tryz.ntmps72
       go_wp2_with (first | (go_at_call 61; refine (in_any _ _ _ _).mono ?_; rintro e w' ⟨rfl, hw'⟩; rw [hw']; clear hw' w') | (go_at_call_of 73 sf; refine (Sub.call (uh HZ) (uh N1 _)).mono ?_; rintro r _ ⟨rfl, z2, rfl⟩) | (go_at_call_of 73 df; refine (Sub.call (uh HZ) (uh N2 _)).mono ?_; rintro r _ ⟨rfl, z2, rfl⟩) | (go_at_call_of 18 sf; refine (Sub.call (uh HZ) (uh A1 _)).mono ?_; rintro r _ ⟨rfl, z2, rfl⟩) | (go_at_call_of 18 df; refine (Sub.call (uh HZ) (uh A2 _)).mono ?_; rintro r _ ⟨rfl, z2, rfl⟩) | (go_at_call 75; refine (Sub.call (uh HZ) (uh PL _)).mono ?_; rintro r _ ⟨rfl, z2, rfl⟩))
       go_ret
       exact ⟨rfl, uh HB _⟩
      | false =>
       have V : insV 15 true n2 a1 true n ll pl = false := by simp [insV, *]
       rw [V]
       clear V
       have E0 := xc 0 (.int .i64 k) rfl
       have E1 := xc 1 (.string s) rfl
       have E2 := xc 2 (.int .i64 15) rfl
       have E3 := xc 3 (.int .i64 sf) rfl
       have E4 := xc 4 (.int .i64 sr) rfl
       have E5 := xc 5 (.int .i64 sk) rfl
       have E6 := xc 6 (.int .i64 sn) rfl
       have E7 := xc 7 (.string ss) rfl
       have E8 := xc 8 (.slice b1 sl c1) rfl
       have E9 := xc 9 (.int .i64 df) rfl
       have E10 := xc 10 (.int .i64 dr) rfl
       have E11 := xc 11 (.int .i64 dk) rfl
       have E12 := xc 12 (.int .i64 dn) rfl
       have E13 := xc 13 (.string ds) rfl
       have E14 := xc 14 (.slice b2 dl c2) rfl
       have E15 := xc 15 (.int .i64 n) rfl
       have E16 := xc 16 (.slice b3 ll c3) rfl
       clear xc
       go_enter Tryz.func72, Tryz.ntmps72
       go_wp2_with (first | (go_at_call 61; refine (in_any _ _ _ _).mono ?_; rintro e w' ⟨rfl, hw'⟩; rw [hw']; clear hw' w') | (go_at_call_of 73 sf; refine (Sub.call (uh HZ) (uh N1 _)).mono ?_; rintro r _ ⟨rfl, z2, rfl⟩) | (go_at_call_of 73 df; refine (Sub.call (uh HZ) (uh N2 _)).mono ?_; rintro r _ ⟨rfl, z2, rfl⟩) | (go_at_call_of 18 sf; refine (Sub.call (uh HZ) (uh A1 _)).mono ?_; rintro r _ ⟨rfl, z2, rfl⟩) | (go_at_call_of 18 df; refine (Sub.call (uh HZ) (uh A2 _)).mono ?_; rintro r _ ⟨rfl, z2, rfl⟩) | (go_at_call 75; refine (Sub.call (uh HZ) (uh PL _)).mono ?_; rintro r _ ⟨rfl, z2, rfl⟩))
       go_ret
       exact ⟨rfl, uh HB _⟩
     | false =>
      have V : insV 15 true n2 a1 false n ll pl = false := by simp [insV, *]
      rw [V]
      clear V
      have E0 := xc 0 (.int .i64 k) rfl
      have E1 := xc 1 (.string s) rfl
      have E2 := xc 2 (.int .i64 15) rfl
      have E3 := xc 3 (.int .i64 sf) rfl
      have E4 := xc 4 (.int .i64 sr) rfl
      have E5 := xc 5 (.int .i64 sk) rfl
      have E6 := xc 6 (.int .i64 sn) rfl
      have E7 := xc 7 (.string ss) rfl
      have E8 := xc 8 (.slice b1 sl c1) rfl
      have E9 := xc 9 (.int .i64 df) rfl
      have E10 := xc 10 (.int .i64 dr) rfl
      have E11 := xc 11 (.int .i64 dk) rfl
      have E12 := xc 12 (.int .i64 dn) rfl
      have E13 := xc 13 (.string ds) rfl
      have E14 := xc 14 (.slice b2 dl c2) rfl
      have E15 := xc 15 (.int .i64 n) rfl
      have E16 := xc 16 (.slice b3 ll c3) rfl
      clear xc
      go_enter Tryz.func72, Tryz.ntmps72
      go_wp2_with (first | (go_at_call 61; refine (in_any _ _ _ _).mono ?_; rintro e w' ⟨rfl, hw'⟩; rw [hw']; clear hw' w') | (go_at_call_of 73 sf; refine (Sub.call (uh HZ) (uh N1 _)).mono ?_; rintro r _ ⟨rfl, z2, rfl⟩) | (go_at_call_of 73 df; refine (Sub.call (uh HZ) (uh N2 _)).mono ?_; rintro r _ ⟨rfl, z2, rfl⟩) | (go_at_call_of 18 sf; refine (Sub.call (uh HZ) (uh A1 _)).mono ?_; rintro r _ ⟨rfl, z2, rfl⟩) | (go_at_call_of 18 df; refine (Sub.call (uh HZ) (uh A2 _)).mono ?_; rintro r _ ⟨rfl, z2, rfl⟩) | (go_at_call 75; refine (Sub.call (uh HZ) (uh PL _)).mono ?_; rintro r _ ⟨rfl, z2, rfl⟩))
      go_ret
      exact ⟨rfl, uh HB _⟩
    | false =>
     have V : insV 15 false n2 a1 a2 n ll pl = false := by simp [insV, *]
     rw [V]
     clear V
     have E0 := xc 0 (.int .i64 k) rfl
     have E1 := xc 1 (.string s) rfl
     have E2 := xc 2 (.int .i64 15) rfl
     have E3 := xc 3 (.int .i64 sf) rfl
     have E4 := xc 4 (.int .i64 sr) rfl
     have E5 := xc 5 (.int .i64 sk) rfl
     have E6 := xc 6 (.int .i64 sn) rfl
     have E7 := xc 7 (.string ss) rfl
     have E8 := xc 8 (.slice b1 sl c1) rfl
     have E9 := xc 9 (.int .i64 df) rfl
     have E10 := xc 10 (.int .i64 dr) rfl
     have E11 := xc 11 (.int .i64 dk) rfl
     have E12 := xc 12 (.int .i64 dn) rfl
     have E13 := xc 13 (.string ds) rfl
     have E14 := xc 14 (.slice b2 dl c2) rfl
     have E15 := xc 15 (.int .i64 n) rfl
     have E16 := xc 16 (.slice b3 ll c3) rfl
     clear xc
     go_enter Tryz.func72, Tryz.ntmps72
     go_wp2_with (first | (go_at_call 61; refine (in_any _ _ _ _).mono ?_; rintro e w' ⟨rfl, hw'⟩; rw [hw']; clear hw' w') | (go_at_call_of 73 sf; refine (Sub.call (uh HZ) (uh N1 _)).mono ?_; rintro r _ ⟨rfl, z2, rfl⟩) | (go_at_call_of 73 df; refine (Sub.call (uh HZ) (uh N2 _)).mono ?_; rintro r _ ⟨rfl, z2, rfl⟩) | (go_at_call_of 18 sf; refine (Sub.call (uh HZ) (uh A1 _)).mono ?_; rintro r _ ⟨rfl, z2, rfl⟩) | (go_at_call_of 18 df; refine (Sub.call (uh HZ) (uh A2 _)).mono ?_; rintro r _ ⟨rfl, z2, rfl⟩) | (go_at_call 75; refine (Sub.call (uh HZ) (uh PL _)).mono ?_; rintro r _ ⟨rfl, z2, rfl⟩))
     go_ret
     exact ⟨rfl, uh HB _⟩
   have h31f : (op == 15) = false := beq_eq_false_iff_ne.2 h31
   cases n1 with
   | true =>
    cases n2 with
    | true =>
     by_cases h48 : op = 16
     ·
      subst h48
      cases h49 : inB n 0 7 with
      | true =>
       by_cases h50 : ll = 0
       ·
        subst h50
        have V : insV 16 true true a1 a2 n 0 pl = true := by simp [insV, *]
        rw [V]
        clear V
        have E0 := xc 0 (.int .i64 k) rfl
        have E1 := xc 1 (.string s) rfl
        have E2 := xc 2 (.int .i64 16) rfl
        have E3 := xc 3 (.int .i64 sf) rfl
        have E4 := xc 4 (.int .i64 sr) rfl
        have E5 := xc 5 (.int .i64 sk) rfl
        have E6 := xc 6 (.int .i64 sn) rfl
        have E7 := xc 7 (.string ss) rfl
        have E8 := xc 8 (.slice b1 sl c1) rfl
        have E9 := xc 9 (.int .i64 df) rfl
        have E10 := xc 10 (.int .i64 dr) rfl
        have E11 := xc 11 (.int .i64 dk) rfl
        have E12 := xc 12 (.int .i64 dn) rfl
        have E13 := xc 13 (.string ds) rfl
        have E14 := xc 14 (.slice b2 dl c2) rfl
        have E15 := xc 15 (.int .i64 n) rfl
        have E16 := xc 16 (.slice b3 0 c3) rfl
        clear xc
        go_enter Tryz.func72, Tryz.ntmps72
        go_wp2_with (first | (go_at_call 61; refine (in_any _ _ _ _).mono ?_; rintro e w' ⟨rfl, hw'⟩; rw [hw']; clear hw' w') | (go_at_call_of 73 sf; refine (Sub.call (uh HZ) (uh N1 _)).mono ?_; rintro r _ ⟨rfl, z2, rfl⟩) | (go_at_call_of 73 df; refine (Sub.call (uh HZ) (uh N2 _)).mono ?_; rintro r _ ⟨rfl, z2, rfl⟩) | (go_at_call_of 18 sf; refine (Sub.call (uh HZ) (uh A1 _)).mono ?_; rintro r _ ⟨rfl, z2, rfl⟩) | (go_at_call_of 18 df; refine (Sub.call (uh HZ) (uh A2 _)).mono ?_; rintro r _ ⟨rfl, z2, rfl⟩) | (go_at_call 75; refine (Sub.call (uh HZ) (uh PL _)).mono ?_; rintro r _ ⟨rfl, z2, rfl⟩))
        go_ret
        exact ⟨rfl, uh HB _⟩
       have h50f : (ll == 0) = false := beq_eq_false_iff_ne.2 h50
       have h50g : ((ll : Int) == 0) = false := beq_eq_false_iff_ne.2 (by omega)
       have V : insV 16 true true a1 a2 n ll pl = false := by simp [insV, *]
       rw [V]
       clear V
       have E0 := xc 0 (.int .i64 k) rfl
       have E1 := xc 1 (.string s) rfl
       have E2 := xc 2 (.int .i64 16) rfl
       have E3 := xc 3 (.int .i64 sf) rfl
       have E4 := xc 4 (.int .i64 sr) rfl
       have E5 := xc 5 (.int .i64 sk) rfl
       have E6 := xc 6 (.int .i64 sn) rfl
       have E7 := xc 7 (.string ss) rfl
       have E8 := xc 8 (.slice b1 sl c1) rfl
       have E9 := xc 9 (.int .i64 df) rfl
       have E10 := xc 10 (.int .i64 dr) rfl
       have E11 := xc 11 (.int .i64 dk) rfl
       have E12 := xc 12 (.int .i64 dn) rfl
       have E13 := xc 13 (.string ds) rfl
       have E14 := xc 14 (.slice b2 dl c2) rfl
       have E15 := xc 15 (.int .i64 n) rfl
       have E16 := xc 16 (.slice b3 ll c3) rfl
       clear xc
       go_enter Tryz.func72, Tryz.ntmps72
       go_wp2_with (first | (go_at_call 61; refine (in_any _ _ _ _).mono ?_; rintro e w' ⟨rfl, hw'⟩; rw [hw']; clear hw' w') | (go_at_call_of 73 sf; refine (Sub.call (uh HZ) (uh N1 _)).mono ?_; rintro r _ ⟨rfl, z2, rfl⟩) | (go_at_call_of 73 df; refine (Sub.call (uh HZ) (uh N2 _)).mono ?_; rintro r _ ⟨rfl, z2, rfl⟩) | (go_at_call_of 18 sf; refine (Sub.call (uh HZ) (uh A1 _)).mono ?_; rintro r _ ⟨rfl, z2, rfl⟩) | (go_at_call_of 18 df; refine (Sub.call (uh HZ) (uh A2 _)).mono ?_; rintro r _ ⟨rfl, z2, rfl⟩) | (go_at_call 75; refine (Sub.call (uh HZ) (uh PL _)).mono ?_; rintro r _ ⟨rfl, z2, rfl⟩))
       go_ret
       exact ⟨rfl, uh HB _⟩
      | false =>
       have V : insV 16 true true a1 a2 n ll pl = false := by simp [insV, *]
       rw [V]
       clear V
       have E0 := xc 0 (.int .i64 k) rfl
       have E1 := xc 1 (.string s) rfl
       have E2 := xc 2 (.int .i64 16) rfl
       have E3 := xc 3 (.int .i64 sf) rfl
       have E4 := xc 4 (.int .i64 sr) rfl
       have E5 := xc 5 (.int .i64 sk) rfl
       have E6 := xc 6 (.int .i64 sn) rfl
       have E7 := xc 7 (.string ss) rfl
       have E8 := xc 8 (.slice b1 sl c1) rfl
       have E9 := xc 9 (.int .i64 df) rfl
       have E10 := xc 10 (.int .i64 dr) rfl
       have E11 := xc 11 (.int .i64 dk) rfl
       have E12 := xc 12 (.int .i64 dn) rfl
       have E13 := xc 13 (.string ds) rfl
       have E14 := xc 14 (.slice b2 dl c2) rfl
       have E15 := xc 15 (.int .i64 n) rfl
       have E16 := xc 16 (.slice b3 ll c3) rfl
       clear xc
       go_enter Tryz.func72, Tryz.ntmps72
       go_wp2_with (first | (go_at_call 61; refine (in_any _ _ _ _).mono ?_; rintro e w' ⟨rfl, hw'⟩; rw [hw']; clear hw' w') | (go_at_call_of 73 sf; refine (Sub.call (uh HZ) (uh N1 _)).mono ?_; rintro r _ ⟨rfl, z2, rfl⟩) | (go_at_call_of 73 df; refine (Sub.call (uh HZ) (uh N2 _)).mono ?_; rintro r _ ⟨rfl, z2, rfl⟩) | (go_at_call_of 18 sf; refine (Sub.call (uh HZ) (uh A1 _)).mono ?_; rintro r _ ⟨rfl, z2, rfl⟩) | (go_at_call_of 18 df; refine (Sub.call (uh HZ) (uh A2 _)).mono ?_; rintro r _ ⟨rfl, z2, rfl⟩) | (go_at_call 75; refine (Sub.call (uh HZ) (uh PL _)).mono ?_; rintro r _ ⟨rfl, z2, rfl⟩))
       go_ret
       exact ⟨rfl, uh HB _⟩
     have h48f : (op == 16) = false := beq_eq_false_iff_ne.2 h48
     by_cases h57 : op = 22
     ·
      subst h57
      by_cases h58 : n = 0
      ·
       subst h58
       by_cases h59 : ll = 0
       ·
        subst h59
        have V : insV 22 true true a1 a2 0 0 pl = true := by simp [insV, *]
        rw [V]
        clear V
        have E0 := xc 0 (.int .i64 k) rfl
        have E1 := xc 1 (.string s) rfl
        have E2 := xc 2 (.int .i64 22) rfl
        have E3 := xc 3 (.int .i64 sf) rfl
        have E4 := xc 4 (.int .i64 sr) rfl
        have E5 := xc 5 (.int .i64 sk) rfl
        have E6 := xc 6 (.int .i64 sn) rfl
        have E7 := xc 7 (.string ss) rfl
        have E8 := xc 8 (.slice b1 sl c1) rfl
        have E9 := xc 9 (.int .i64 df) rfl
        have E10 := xc 10 (.int .i64 dr) rfl
        have E11 := xc 11 (.int .i64 dk) rfl
        have E12 := xc 12 (.int .i64 dn) rfl
        have E13 := xc 13 (.string ds) rfl
        have E14 := xc 14 (.slice b2 dl c2) rfl
        have E15 := xc 15 (.int .i64 0) rfl
        have E16 := xc 16 (.slice b3 0 c3) rfl
        clear xc
        go_enter Tryz.func72, Tryz.ntmps72
        go_wp2_with (first | (go_at_call 61; refine (in_any _ _ _ _).mono ?_; rintro e w' ⟨rfl, hw'⟩; rw [hw']; clear hw' w') | (go_at_call_of 73 sf; refine (Sub.call (uh HZ) (uh N1 _)).mono ?_; rintro r _ ⟨rfl, z2, rfl⟩) | (go_at_call_of 73 df; refine (Sub.call (uh HZ) (uh N2 _)).mono ?_; rintro r _ ⟨rfl, z2, rfl⟩) | (go_at_call_of 18 sf; refine (Sub.call (uh HZ) (uh A1 _)).mono ?_; rintro r _ ⟨rfl, z2, rfl⟩) | (go_at_call_of 18 df; refine (Sub.call (uh HZ) (uh A2 _)).mono ?_; rintro r _ ⟨rfl, z2, rfl⟩) | (go_at_call 75; refine (Sub.call (uh HZ) (uh PL _)).mono ?_; rintro r _ ⟨rfl, z2, rfl⟩))
        go_ret
        exact ⟨rfl, uh HB _⟩
       have h59f : (ll == 0) = false := beq_eq_false_iff_ne.2 h59
       have h59g : ((ll : Int) == 0) = false := beq_eq_false_iff_ne.2 (by omega)
       have V : insV 22 true true a1 a2 0 ll pl = false := by simp [insV, *]
       rw [V]
       clear V
       have E0 := xc 0 (.int .i64 k) rfl
       have E1 := xc 1 (.string s) rfl
       have E2 := xc 2 (.int .i64 22) rfl
       have E3 := xc 3 (.int .i64 sf) rfl
       have E4 := xc 4 (.int .i64 sr) rfl
       have E5 := xc 5 (.int .i64 sk) rfl
       have E6 := xc 6 (.int .i64 sn) rfl
       have E7 := xc 7 (.string ss) rfl
       have E8 := xc 8 (.slice b1 sl c1) rfl
       have E9 := xc 9 (.int .i64 df) rfl
       have E10 := xc 10 (.int .i64 dr) rfl
       have E11 := xc 11 (.int .i64 dk) rfl
       have E12 := xc 12 (.int .i64 dn) rfl
       have E13 := xc 13 (.string ds) rfl
       have E14 := xc 14 (.slice b2 dl c2) rfl
       have E15 := xc 15 (.int .i64 0) rfl
       have E16 := xc 16 (.slice b3 ll c3) rfl
       clear xc
       go_enter Tryz.func72, Tryz.ntmps72
       go_wp2_with (first | (go_at_call 61; refine (in_any _ _ _ _).mono ?_; rintro e w' ⟨rfl, hw'⟩; rw [hw']; clear hw' w') | (go_at_call_of 73 sf; refine (Sub.call (uh HZ) (uh N1 _)).mono ?_; rintro r _ ⟨rfl, z2, rfl⟩) | (go_at_call_of 73 df; refine (Sub.call (uh HZ) (uh N2 _)).mono ?_; rintro r _ ⟨rfl, z2, rfl⟩) | (go_at_call_of 18 sf; refine (Sub.call (uh HZ) (uh A1 _)).mono ?_; rintro r _ ⟨rfl, z2, rfl⟩) | (go_at_call_of 18 df; refine (Sub.call (uh HZ) (uh A2 _)).mono ?_; rintro r _ ⟨rfl, z2, rfl⟩) | (go_at_call 75; refine (Sub.call (uh HZ) (uh PL _)).mono ?_; rintro r _ ⟨rfl, z2, rfl⟩))
       go_ret
       exact ⟨rfl, uh HB _⟩
      have h58f : (n == 0) = false := beq_eq_false_iff_ne.2 h58
      have V : insV 22 true true a1 a2 n ll pl = false := by simp [insV, *]
      rw [V]
      clear V
      have E0 := xc 0 (.int .i64 k) rfl
      have E1 := xc 1 (.string s) rfl
      have E2 := xc 2 (.int .i64 22) rfl
      have E3 := xc 3 (.int .i64 sf) rfl
      have E4 := xc 4 (.int .i64 sr) rfl
      have E5 := xc 5 (.int .i64 sk) rfl
      have E6 := xc 6 (.int .i64 sn) rfl
      have E7 := xc 7 (.string ss) rfl
      have E8 := xc 8 (.slice b1 sl c1) rfl
      have E9 := xc 9 (.int .i64 df) rfl
      have E10 := xc 10 (.int .i64 dr) rfl
      have E11 := xc 11 (.int .i64 dk) rfl
      have E12 := xc 12 (.int .i64 dn) rfl
      have E13 := xc 13 (.string ds) rfl
      have E14 := xc 14 (.slice b2 dl c2) rfl
      have E15 := xc 15 (.int .i64 n) rfl
      have E16 := xc 16 (.slice b3 ll c3) rfl
      clear xc
      go_enter Tryz.func72, Tryz.ntmps72
      go_wp2_with (first | (go_at_call 61; refine (in_any _ _ _ _).mono ?_; rintro e w' ⟨rfl, hw'⟩; rw [hw']; clear hw' w') | (go_at_call_of 73 sf; refine (Sub.call (uh HZ) (uh N1 _)).mono ?_; rintro r _ ⟨rfl, z2, rfl⟩) | (go_at_call_of 73 df; refine (Sub.call (uh HZ) (uh N2 _)).mono ?_; rintro r _ ⟨rfl, z2, rfl⟩) | (go_at_call_of 18 sf; refine (Sub.call (uh HZ) (uh A1 _)).mono ?_; rintro r _ ⟨rfl, z2, rfl⟩) | (go_at_call_of 18 df; refine (Sub.call (uh HZ) (uh A2 _)).mono ?_; rintro r _ ⟨rfl, z2, rfl⟩) | (go_at_call 75; refine (Sub.call (uh HZ) (uh PL _)).mono ?_; rintro r _ ⟨rfl, z2, rfl⟩))
      go_ret
      exact ⟨rfl, uh HB _⟩
     have h57f : (op == 22) = false := beq_eq_false_iff_ne.2 h57
     cases h66 : inB op 17 21 with
     | true =>
      by_cases h67 : n = 0
      ·
       subst h67
       by_cases h68 : ll = 1
       ·
        subst h68
        have V : insV op true true a1 a2 0 1 pl = pl := by simp [insV, *]
        rw [V]
        clear V
        have E0 := xc 0 (.int .i64 k) rfl
        have E1 := xc 1 (.string s) rfl
        have E2 := xc 2 (.int .i64 op) rfl
        have E3 := xc 3 (.int .i64 sf) rfl
        have E4 := xc 4 (.int .i64 sr) rfl
        have E5 := xc 5 (.int .i64 sk) rfl
        have E6 := xc 6 (.int .i64 sn) rfl
        have E7 := xc 7 (.string ss) rfl
        have E8 := xc 8 (.slice b1 sl c1) rfl
        have E9 := xc 9 (.int .i64 df) rfl
        have E10 := xc 10 (.int .i64 dr) rfl
        have E11 := xc 11 (.int .i64 dk) rfl
        have E12 := xc 12 (.int .i64 dn) rfl
        have E13 := xc 13 (.string ds) rfl
        have E14 := xc 14 (.slice b2 dl c2) rfl
        have E15 := xc 15 (.int .i64 0) rfl
        have E16 := xc 16 (.slice b3 1 c3) rfl
        clear xc
        go_enter Tryz.func72, Tryz.ntmps72
        go_wp2_with (first | (go_at_call 61; refine (in_any _ _ _ _).mono ?_; rintro e w' ⟨rfl, hw'⟩; rw [hw']; clear hw' w') | (go_at_call_of 73 sf; refine (Sub.call (uh HZ) (uh N1 _)).mono ?_; rintro r _ ⟨rfl, z2, rfl⟩) | (go_at_call_of 73 df; refine (Sub.call (uh HZ) (uh N2 _)).mono ?_; rintro r _ ⟨rfl, z2, rfl⟩) | (go_at_call_of 18 sf; refine (Sub.call (uh HZ) (uh A1 _)).mono ?_; rintro r _ ⟨rfl, z2, rfl⟩) | (go_at_call_of 18 df; refine (Sub.call (uh HZ) (uh A2 _)).mono ?_; rintro r _ ⟨rfl, z2, rfl⟩) | (go_at_call 75; refine (Sub.call (uh HZ) (uh PL _)).mono ?_; rintro r _ ⟨rfl, z2, rfl⟩))
        go_ret
        exact ⟨rfl, uh HB _⟩
       have h68f : (ll == 1) = false := beq_eq_false_iff_ne.2 h68
       have h68g : ((ll : Int) == 1) = false := beq_eq_false_iff_ne.2 (by omega)
       have V : insV op true true a1 a2 0 ll pl = false := by simp [insV, *]
       rw [V]
       clear V
       have E0 := xc 0 (.int .i64 k) rfl
       have E1 := xc 1 (.string s) rfl
       have E2 := xc 2 (.int .i64 op) rfl
       have E3 := xc 3 (.int .i64 sf) rfl
       have E4 := xc 4 (.int .i64 sr) rfl
       have E5 := xc 5 (.int .i64 sk) rfl
       have E6 := xc 6 (.int .i64 sn) rfl
       have E7 := xc 7 (.string ss) rfl
       have E8 := xc 8 (.slice b1 sl c1) rfl
       have E9 := xc 9 (.int .i64 df) rfl
       have E10 := xc 10 (.int .i64 dr) rfl
       have E11 := xc 11 (.int .i64 dk) rfl
       have E12 := xc 12 (.int .i64 dn) rfl
       have E13 := xc 13 (.string ds) rfl
       have E14 := xc 14 (.slice b2 dl c2) rfl
       have E15 := xc 15 (.int .i64 0) rfl
       have E16 := xc 16 (.slice b3 ll c3) rfl
       clear xc
       go_enter Tryz.func72, Tryz.ntmps72
       go_wp2_with (first | (go_at_call 61; refine (in_any _ _ _ _).mono ?_; rintro e w' ⟨rfl, hw'⟩; rw [hw']; clear hw' w') | (go_at_call_of 73 sf; refine (Sub.call (uh HZ) (uh N1 _)).mono ?_; rintro r _ ⟨rfl, z2, rfl⟩) | (go_at_call_of 73 df; refine (Sub.call (uh HZ) (uh N2 _)).mono ?_; rintro r _ ⟨rfl, z2, rfl⟩) | (go_at_call_of 18 sf; refine (Sub.call (uh HZ) (uh A1 _)).mono ?_; rintro r _ ⟨rfl, z2, rfl⟩) | (go_at_call_of 18 df; refine (Sub.call (uh HZ) (uh A2 _)).mono ?_; rintro r _ ⟨rfl, z2, rfl⟩) | (go_at_call 75; refine (Sub.call (uh HZ) (uh PL _)).mono ?_; rintro r _ ⟨rfl, z2, rfl⟩))
       go_ret
       exact ⟨rfl, uh HB _⟩
      have h67f : (n == 0) = false := beq_eq_false_iff_ne.2 h67
      have V : insV op true true a1 a2 n ll pl = false := by simp [insV, *]
      rw [V]
      clear V
      have E0 := xc 0 (.int .i64 k) rfl
      have E1 := xc 1 (.string s) rfl
      have E2 := xc 2 (.int .i64 op) rfl
      have E3 := xc 3 (.int .i64 sf) rfl
      have E4 := xc 4 (.int .i64 sr) rfl
      have E5 := xc 5 (.int .i64 sk) rfl
      have E6 := xc 6 (.int .i64 sn) rfl
      have E7 := xc 7 (.string ss) rfl
      have E8 := xc 8 (.slice b1 sl c1) rfl
      have E9 := xc 9 (.int .i64 df) rfl
      have E10 := xc 10 (.int .i64 dr) rfl
      have E11 := xc 11 (.int .i64 dk) rfl
      have E12 := xc 12 (.int .i64 dn) rfl
      have E13 := xc 13 (.string ds) rfl
      have E14 := xc 14 (.slice b2 dl c2) rfl
      have E15 := xc 15 (.int .i64 n) rfl
      have E16 := xc 16 (.slice b3 ll c3) rfl
      clear xc
      go_enter Tryz.func72, Tryz.ntmps72
      go_wp2_with (first | (go_at_call 61; refine (in_any _ _ _ _).mono ?_; rintro e w' ⟨rfl, hw'⟩; rw [hw']; clear hw' w') | (go_at_call_of 73 sf; refine (Sub.call (uh HZ) (uh N1 _)).mono ?_; rintro r _ ⟨rfl, z2, rfl⟩) | (go_at_call_of 73 df; refine (Sub.call (uh HZ) (uh N2 _)).mono ?_; rintro r _ ⟨rfl, z2, rfl⟩) | (go_at_call_of 18 sf; refine (Sub.call (uh HZ) (uh A1 _)).mono ?_; rintro r _ ⟨rfl, z2, rfl⟩) | (go_at_call_of 18 df; refine (Sub.call (uh HZ) (uh A2 _)).mono ?_; rintro r _ ⟨rfl, z2, rfl⟩) | (go_at_call 75; refine (Sub.call (uh HZ) (uh PL _)).mono ?_; rintro r _ ⟨rfl, z2, rfl⟩))
      go_ret
      exact ⟨rfl, uh HB _⟩
     | false =>
      by_cases h75 : op = 23
      ·
       subst h75
       by_cases h76 : n = 0
       ·
        subst h76
        by_cases h77 : ll = 1
        ·
         subst h77
         have V : insV 23 true true a1 a2 0 1 pl = pl := by simp [insV, *]
         rw [V]
         clear V
         have E0 := xc 0 (.int .i64 k) rfl
         have E1 := xc 1 (.string s) rfl
         have E2 := xc 2 (.int .i64 23) rfl
         have E3 := xc 3 (.int .i64 sf) rfl
         have E4 := xc 4 (.int .i64 sr) rfl
         have E5 := xc 5 (.int .i64 sk) rfl
         have E6 := xc 6 (.int .i64 sn) rfl
         have E7 := xc 7 (.string ss) rfl
         have E8 := xc 8 (.slice b1 sl c1) rfl
         have E9 := xc 9 (.int .i64 df) rfl
         have E10 := xc 10 (.int .i64 dr) rfl
         have E11 := xc 11 (.int .i64 dk) rfl
         have E12 := xc 12 (.int .i64 dn) rfl
         have E13 := xc 13 (.string ds) rfl
         have E14 := xc 14 (.slice b2 dl c2) rfl
         have E15 := xc 15 (.int .i64 0) rfl
         have E16 := xc 16 (.slice b3 1 c3) rfl
         clear xc
         go_enter Tryz.func72, Tryz.ntmps72
         go_wp2_with (first | (go_at_call 61; refine (in_any _ _ _ _).mono ?_; rintro e w' ⟨rfl, hw'⟩; rw [hw']; clear hw' w') | (go_at_call_of 73 sf; refine (Sub.call (uh HZ) (uh N1 _)).mono ?_; rintro r _ ⟨rfl, z2, rfl⟩) | (go_at_call_of 73 df; refine (Sub.call (uh HZ) (uh N2 _)).mono ?_; rintro r _ ⟨rfl, z2, rfl⟩) | (go_at_call_of 18 sf; refine (Sub.call (uh HZ) (uh A1 _)).mono ?_; rintro r _ ⟨rfl, z2, rfl⟩) | (go_at_call_of 18 df; refine (Sub.call (uh HZ) (uh A2 _)).mono ?_; rintro r _ ⟨rfl, z2, rfl⟩) | (go_at_call 75; refine (Sub.call (uh HZ) (uh PL _)).mono ?_; rintro r _ ⟨rfl, z2, rfl⟩))
         go_ret
         exact ⟨rfl, uh HB _⟩
        have h77f : (ll == 1) = false := beq_eq_false_iff_ne.2 h77
        have h77g : ((ll : Int) == 1) = false := beq_eq_false_iff_ne.2 (by omega)
        have V : insV 23 true true a1 a2 0 ll pl = false := by simp [insV, *]
        rw [V]
        clear V
        have E0 := xc 0 (.int .i64 k) rfl
        have E1 := xc 1 (.string s) rfl
        have E2 := xc 2 (.int .i64 23) rfl
        have E3 := xc 3 (.int .i64 sf) rfl
        have E4 := xc 4 (.int .i64 sr) rfl
        have E5 := xc 5 (.int .i64 sk) rfl
        have E6 := xc 6 (.int .i64 sn) rfl
        have E7 := xc 7 (.string ss) rfl
        have E8 := xc 8 (.slice b1 sl c1) rfl
        have E9 := xc 9 (.int .i64 df) rfl
        have E10 := xc 10 (.int .i64 dr) rfl
        have E11 := xc 11 (.int .i64 dk) rfl
        have E12 := xc 12 (.int .i64 dn) rfl
        have E13 := xc 13 (.string ds) rfl
        have E14 := xc 14 (.slice b2 dl c2) rfl
        have E15 := xc 15 (.int .i64 0) rfl
        have E16 := xc 16 (.slice b3 ll c3) rfl
        clear xc
        go_enter Tryz.func72, Tryz.ntmps72
        go_wp2_with (first | (go_at_call 61; refine (in_any _ _ _ _).mono ?_; rintro e w' ⟨rfl, hw'⟩; rw [hw']; clear hw' w') | (go_at_call_of 73 sf; refine (Sub.call (uh HZ) (uh N1 _)).mono ?_; rintro r _ ⟨rfl, z2, rfl⟩) | (go_at_call_of 73 df; refine (Sub.call (uh HZ) (uh N2 _)).mono ?_; rintro r _ ⟨rfl, z2, rfl⟩) | (go_at_call_of 18 sf; refine (Sub.call (uh HZ) (uh A1 _)).mono ?_; rintro r _ ⟨rfl, z2, rfl⟩) | (go_at_call_of 18 df; refine (Sub.call (uh HZ) (uh A2 _)).mono ?_; rintro r _ ⟨rfl, z2, rfl⟩) | (go_at_call 75; refine (Sub.call (uh HZ) (uh PL _)).mono ?_; rintro r _ ⟨rfl, z2, rfl⟩))
        go_ret
        exact ⟨rfl, uh HB _⟩
       have h76f : (n == 0) = false := beq_eq_false_iff_ne.2 h76
       have V : insV 23 true true a1 a2 n ll pl = false := by simp [insV, *]
       rw [V]
       clear V
       have E0 := xc 0 (.int .i64 k) rfl
       have E1 := xc 1 (.string s) rfl
       have E2 := xc 2 (.int .i64 23) rfl
       have E3 := xc 3 (.int .i64 sf) rfl
       have E4 := xc 4 (.int .i64 sr) rfl
       have E5 := xc 5 (.int .i64 sk) rfl
       have E6 := xc 6 (.int .i64 sn) rfl
       have E7 := xc 7 (.string ss) rfl
       have E8 := xc 8 (.slice b1 sl c1) rfl
       have E9 := xc 9 (.int .i64 df) rfl
       have E10 := xc 10 (.int .i64 dr) rfl
       have E11 := xc 11 (.int .i64 dk) rfl
       have E12 := xc 12 (.int .i64 dn) rfl
       have E13 := xc 13 (.string ds) rfl
       have E14 := xc 14 (.slice b2 dl c2) rfl
       have E15 := xc 15 (.int .i64 n) rfl
       have E16 := xc 16 (.slice b3 ll c3) rfl
       clear xc
       go_enter Tryz.func72, Tryz.ntmps72
       go_wp2_with (first | (go_at_call 61; refine (in_any _ _ _ _).mono ?_; rintro e w' ⟨rfl, hw'⟩; rw [hw']; clear hw' w') | (go_at_call_of 73 sf; refine (Sub.call (uh HZ) (uh N1 _)).mono ?_; rintro r _ ⟨rfl, z2, rfl⟩) | (go_at_call_of 73 df; refine (Sub.call (uh HZ) (uh N2 _)).mono ?_; rintro r _ ⟨rfl, z2, rfl⟩) | (go_at_call_of 18 sf; refine (Sub.call (uh HZ) (uh A1 _)).mono ?_; rintro r _ ⟨rfl, z2, rfl⟩) | (go_at_call_of 18 df; refine (Sub.call (uh HZ) (uh A2 _)).mono ?_; rintro r _ ⟨rfl, z2, rfl⟩) | (go_at_call 75; refine (Sub.call (uh HZ) (uh PL _)).mono ?_; rintro r _ ⟨rfl, z2, rfl⟩))
       go_ret
       exact ⟨rfl, uh HB _⟩
      have h75f : (op == 23) = false := beq_eq_false_iff_ne.2 h75
      have V : insV op true true a1 a2 n ll pl = false := by simp [insV, *]
      rw [V]
      clear V
      have E0 := xc 0 (.int .i64 k) rfl
      have E1 := xc 1 (.string s) rfl
      have E2 := xc 2 (.int .i64 op) rfl
      have E3 := xc 3 (.int .i64 sf) rfl
      have E4 := xc 4 (.int .i64 sr) rfl
      have E5 := xc 5 (.int .i64 sk) rfl
      have E6 := xc 6 (.int .i64 sn) rfl
      have E7 := xc 7 (.string ss) rfl
      have E8 := xc 8 (.slice b1 sl c1) rfl
      have E9 := xc 9 (.int .i64 df) rfl
      have E10 := xc 10 (.int .i64 dr) rfl
      have E11 := xc 11 (.int .i64 dk) rfl
      have E12 := xc 12 (.int .i64 dn) rfl
      have E13 := xc 13 (.string ds) rfl
      have E14 := xc 14 (.slice b2 dl c2) rfl
      have E15 := xc 15 (.int .i64 n) rfl
      have E16 := xc 16 (.slice b3 ll c3) rfl
      clear xc
      go_enter Tryz.func72, Tryz.ntmps72
      go_wp2_with (first | (go_at_call 61; refine (in_any _ _ _ _).mono ?_; rintro e w' ⟨rfl, hw'⟩; rw [hw']; clear hw' w') | (go_at_call_of 73 sf; refine (Sub.call (uh HZ) (uh N1 _)).mono ?_; rintro r _ ⟨rfl, z2, rfl⟩) | (go_at_call_of 73 df; refine (Sub.call (uh HZ) (uh N2 _)).mono ?_; rintro r _ ⟨rfl, z2, rfl⟩) | (go_at_call_of 18 sf; refine (Sub.call (uh HZ) (uh A1 _)).mono ?_; rintro r _ ⟨rfl, z2, rfl⟩) | (go_at_call_of 18 df; refine (Sub.call (uh HZ) (uh A2 _)).mono ?_; rintro r _ ⟨rfl, z2, rfl⟩) | (go_at_call 75; refine (Sub.call (uh HZ) (uh PL _)).mono ?_; rintro r _ ⟨rfl, z2, rfl⟩))
      go_ret
      exact ⟨rfl, uh HB _⟩
    | false =>
     have V : insV op true false a1 a2 n ll pl = false := by simp [insV, *]
     rw [V]
     clear V
     have E0 := xc 0 (.int .i64 k) rfl
     have E1 := xc 1 (.string s) rfl
     have E2 := xc 2 (.int .i64 op) rfl
     have E3 := xc 3 (.int .i64 sf) rfl
     have E4 := xc 4 (.int .i64 sr) rfl
     have E5 := xc 5 (.int .i64 sk) rfl
     have E6 := xc 6 (.int .i64 sn) rfl
     have E7 := xc 7 (.string ss) rfl
     have E8 := xc 8 (.slice b1 sl c1) rfl
     have E9 := xc 9 (.int .i64 df) rfl
     have E10 := xc 10 (.int .i64 dr) rfl
     have E11 := xc 11 (.int .i64 dk) rfl
     have E12 := xc 12 (.int .i64 dn) rfl
     have E13 := xc 13 (.string ds) rfl
     have E14 := xc 14 (.slice b2 dl c2) rfl
     have E15 := xc 15 (.int .i64 n) rfl
     have E16 := xc 16 (.slice b3 ll c3) rfl
     clear xc
     go_enter Tryz.func72, Tryz.ntmps72
     go_wp2_with (first | (go_at_call 61; refine (in_any _ _ _ _).mono ?_; rintro e w' ⟨rfl, hw'⟩; rw [hw']; clear hw' w') | (go_at_call_of 73 sf; refine (Sub.call (uh HZ) (uh N1 _)).mono ?_; rintro r _ ⟨rfl, z2, rfl⟩) | (go_at_call_of 73 df; refine (Sub.call (uh HZ) (uh N2 _)).mono ?_; rintro r _ ⟨rfl, z2, rfl⟩) | (go_at_call_of 18 sf; refine (Sub.call (uh HZ) (uh A1 _)).mono ?_; rintro r _ ⟨rfl, z2, rfl⟩) | (go_at_call_of 18 df; refine (Sub.call (uh HZ) (uh A2 _)).mono ?_; rintro r _ ⟨rfl, z2, rfl⟩) | (go_at_call 75; refine (Sub.call (uh HZ) (uh PL _)).mono ?_; rintro r _ ⟨rfl, z2, rfl⟩))
     go_ret
     exact ⟨rfl, uh HB _⟩
   | false =>
    have V : insV op false n2 a1 a2 n ll pl = false := by simp [insV, *]
    rw [V]
    clear V
    have E0 := xc 0 (.int .i64 k) rfl
    have E1 := xc 1 (.string s) rfl
    have E2 := xc 2 (.int .i64 op) rfl
    have E3 := xc 3 (.int .i64 sf) rfl
    have E4 := xc 4 (.int .i64 sr) rfl
    have E5 := xc 5 (.int .i64 sk) rfl
    have E6 := xc 6 (.int .i64 sn) rfl
    have E7 := xc 7 (.string ss) rfl
    have E8 := xc 8 (.slice b1 sl c1) rfl
    have E9 := xc 9 (.int .i64 df) rfl
    have E10 := xc 10 (.int .i64 dr) rfl
    have E11 := xc 11 (.int .i64 dk) rfl
    have E12 := xc 12 (.int .i64 dn) rfl
    have E13 := xc 13 (.string ds) rfl
    have E14 := xc 14 (.slice b2 dl c2) rfl
    have E15 := xc 15 (.int .i64 n) rfl
    have E16 := xc 16 (.slice b3 ll c3) rfl
    clear xc
    go_enter Tryz.func72, Tryz.ntmps72
    go_wp2_with (first | (go_at_call 61; refine (in_any _ _ _ _).mono ?_; rintro e w' ⟨rfl, hw'⟩; rw [hw']; clear hw' w') | (go_at_call_of 73 sf; refine (Sub.call (uh HZ) (uh N1 _)).mono ?_; rintro r _ ⟨rfl, z2, rfl⟩) | (go_at_call_of 73 df; refine (Sub.call (uh HZ) (uh N2 _)).mono ?_; rintro r _ ⟨rfl, z2, rfl⟩) | (go_at_call_of 18 sf; refine (Sub.call (uh HZ) (uh A1 _)).mono ?_; rintro r _ ⟨rfl, z2, rfl⟩) | (go_at_call_of 18 df; refine (Sub.call (uh HZ) (uh A2 _)).mono ?_; rintro r _ ⟨rfl, z2, rfl⟩) | (go_at_call 75; refine (Sub.call (uh HZ) (uh PL _)).mono ?_; rintro r _ ⟨rfl, z2, rfl⟩))
    go_ret
    exact ⟨rfl, uh HB _⟩
def lnV (k : Int) (s : ByteArray) (op : Int) (n1 n2 : Bool) (n : Int) (ll : Nat) (nm pl nms ins : Bool) : Bool :=
 if k == 3 then eqS s E0 && ins
 else if !(op == 0) || (!n1 || !n2) then false
 else if k == 0 || k == 8 then eqS s E0 && (n == 0 && ll == 0)
 else if k == 1 then nm && (n == 0 && ll == 0)
 else if k == 2 then nm && (n == 0 && (ll == 1 && pl))
 else if k == 4 then eqS s E0 && (n == 0 && (inB ll 1 6 && pl))
 else if k == 5 then eqS s E0 && (n == 0 && (ll == 1 && pl))
 else if k == 6 then nm && (inB n 0 1 && ll == 0)
 else if k == 7 then eqS s E0 && (n == 0 && nms)
 else false
def lnX (x : Ln) : Bool := lnV x.k x.s x.op (nonX x.src) (nonX x.dst) x.n x.l.length (nameB x.s) (x.l.all (okF 6 true)) (nmsX x.l) (insX x)
theorem lnS_any (x : Ln) (p : La) (w : World) (hr : RdL w x p) (hz : SzL x) : Calls Tryz.prog 22 #[.agg (x.cs p)] w fun r w' => r = .returned (.bool (lnX x)) ∧ Below w.heap.size w w' := by
 obtain ⟨hza, hzb, hzc, hzd, hze⟩ := hz
 have s1 := sz_is x.src.e
 have s2 := sz_is x.dst.e
 have hbW := below_new w (.cells (x.cs p) 30)
 obtain ⟨W, hW⟩ : ∃ W, w.alloc (.cells (x.cs p) 30) = W := ⟨_, rfl⟩
 have hrW := hr.later hbW
 have xl : w.heap.size < W.heap.size := by rw [← hW]; simp
 have xc : ∀ (i : Nat) (v : Value), (x.cs p)[i]? = some v → ∀ y : Sub W.heap.size W, y.w.cell? ⟨w.heap.size, i, none⟩ = some v := fun i v h y => (y.h.cell (p := ⟨w.heap.size, i, none⟩) xl).trans (by rw [← hW]; exact box17 w _ _ i v h)
 rw [hW] at hbW hrW
 obtain ⟨z, hz0⟩ : ∃ z : Sub W.heap.size W, w.alloc (.cells (x.cs p) 30) = z.w := ⟨⟨W, Below.refl _ _⟩, hW⟩
 have ne := Sub.ne W.heap.size W
 have HZ := hide (Nat.le_refl W.heap.size)
 have HB := hide (fun y : Sub W.heap.size W => hbW.trans (y.h.mono hbW.size))
 have N1 := hide (fun y : Sub W.heap.size W => nonS_any x.src (by omega) (by omega) p.b1 p.c1 y.w)
 have N2 := hide (fun y : Sub W.heap.size W => nonS_any x.dst (by omega) (by omega) p.b2 p.c2 y.w)
 have PL := hide (fun y : Sub W.heap.size W => plnS_any x.l p.b3 p.c3 y.w (hrW.l.later y.h) hzd hze)
 have NM := hide (fun y : Sub W.heap.size W => nameS_any x.s y.w (by omega))
 have NS := hide (fun y : Sub W.heap.size W => nmsS_any x.l p.b3 p.c3 y.w (hrW.l.later y.h) hzd hze)
 have IN := hide (fun y : Sub W.heap.size W => insS_any x p y.w (hrW.later y.h) ⟨hza, hzb, hzc, hzd, hze⟩)
 rw [show lnX x = lnV x.k x.s x.op (nonX x.src) (nonX x.dst) x.n x.l.length (nameB x.s) (x.l.all (okF 6 true)) (nmsX x.l) (insX x) from rfl]
 unfold Ln.cs at hz0 xc ⊢
 unfold Ag.cs at N1 N2
 unfold Ln.cs at IN
 generalize nonX x.src = n1 at *
 generalize nonX x.dst = n2 at *
 generalize x.l.all (okF 6 true) = pl at *
 generalize nmsX x.l = nms at *
 generalize insX x = ins at *
 generalize nameB x.s = nm at *
 clear hr hrW hza hzb hzc hzd hze s1 s2 xl hW
 generalize x.src.f = sf at *
 generalize x.src.r = sr at *
 generalize x.src.e.k = sk at *
 generalize x.src.e.n = sn at *
 generalize x.src.e.s = ss at *
 generalize x.src.e.l.length = sl at *
 generalize x.dst.f = df at *
 generalize x.dst.r = dr at *
 generalize x.dst.e.k = dk at *
 generalize x.dst.e.n = dn at *
 generalize x.dst.e.s = ds at *
 generalize x.dst.e.l.length = dl at *
 generalize x.k = k at *
 generalize x.s = s at *
 generalize x.op = op at *
 generalize x.n = n at *
 generalize x.l.length = ll at *
 generalize p.b1 = b1 at *
 generalize p.c1 = c1 at *
 generalize p.b2 = b2 at *
 generalize p.c2 = c2 at *
 generalize p.b3 = b3 at *
 generalize p.c3 = c3 at *
 by_cases h90 : k = 3
 ·
  subst h90
  by_cases h91 : s = ⟨#[]⟩
  ·
   subst h91
   have V : lnV 3 ⟨#[]⟩ op n1 n2 n ll nm pl nms ins = ins := by simp [lnV, eqE, eqE1, *]
   rw [V]
   clear V
   have E0 := xc 0 (.int .i64 3) rfl
   have E1 := xc 1 (.string ⟨#[]⟩) rfl
   have E2 := xc 2 (.int .i64 op) rfl
   have E3 := xc 3 (.int .i64 sf) rfl
   have E4 := xc 4 (.int .i64 sr) rfl
   have E5 := xc 5 (.int .i64 sk) rfl
   have E6 := xc 6 (.int .i64 sn) rfl
   have E7 := xc 7 (.string ss) rfl
   have E8 := xc 8 (.slice b1 sl c1) rfl
   have E9 := xc 9 (.int .i64 df) rfl
   have E10 := xc 10 (.int .i64 dr) rfl
   have E11 := xc 11 (.int .i64 dk) rfl
   have E12 := xc 12 (.int .i64 dn) rfl
   have E13 := xc 13 (.string ds) rfl
   have E14 := xc 14 (.slice b2 dl c2) rfl
   have E15 := xc 15 (.int .i64 n) rfl
   have E16 := xc 16 (.slice b3 ll c3) rfl
   clear xc
   go_enter Tryz.func22, Tryz.ntmps22
   go_wp2_with (first | (go_at_call 61; refine (in_any _ _ _ _).mono ?_; rintro e w' ⟨rfl, hw'⟩; rw [hw']; clear hw' w') | (go_at_call_of 73 sf; refine (Sub.call (uh HZ) (uh N1 _)).mono ?_; rintro r _ ⟨rfl, z2, rfl⟩) | (go_at_call_of 73 df; refine (Sub.call (uh HZ) (uh N2 _)).mono ?_; rintro r _ ⟨rfl, z2, rfl⟩) | (go_at_call 75; refine (Sub.call (uh HZ) (uh PL _)).mono ?_; rintro r _ ⟨rfl, z2, rfl⟩) | (go_at_call 74; refine (Sub.call (uh HZ) (uh NM _)).mono ?_; rintro r _ ⟨rfl, z2, rfl⟩) | (go_at_call 76; refine (Sub.call (uh HZ) (uh NS _)).mono ?_; rintro r _ ⟨rfl, z2, rfl⟩) | (go_at_call 72; refine (Sub.call (uh HZ) (uh IN _)).mono ?_; rintro r _ ⟨rfl, z2, rfl⟩))
   go_ret
   exact ⟨rfl, uh HB _⟩
  obtain ⟨h91a, h91b⟩ := emp_E s h91
  have V : lnV 3 s op n1 n2 n ll nm pl nms ins = false := by simp [lnV, eqE, eqE1, *]
  rw [V]
  clear V
  have E0 := xc 0 (.int .i64 3) rfl
  have E1 := xc 1 (.string s) rfl
  have E2 := xc 2 (.int .i64 op) rfl
  have E3 := xc 3 (.int .i64 sf) rfl
  have E4 := xc 4 (.int .i64 sr) rfl
  have E5 := xc 5 (.int .i64 sk) rfl
  have E6 := xc 6 (.int .i64 sn) rfl
  have E7 := xc 7 (.string ss) rfl
  have E8 := xc 8 (.slice b1 sl c1) rfl
  have E9 := xc 9 (.int .i64 df) rfl
  have E10 := xc 10 (.int .i64 dr) rfl
  have E11 := xc 11 (.int .i64 dk) rfl
  have E12 := xc 12 (.int .i64 dn) rfl
  have E13 := xc 13 (.string ds) rfl
  have E14 := xc 14 (.slice b2 dl c2) rfl
  have E15 := xc 15 (.int .i64 n) rfl
  have E16 := xc 16 (.slice b3 ll c3) rfl
  clear xc
  go_enter Tryz.func22, Tryz.ntmps22
  go_wp2_with (first | (go_at_call 61; refine (in_any _ _ _ _).mono ?_; rintro e w' ⟨rfl, hw'⟩; rw [hw']; clear hw' w') | (go_at_call_of 73 sf; refine (Sub.call (uh HZ) (uh N1 _)).mono ?_; rintro r _ ⟨rfl, z2, rfl⟩) | (go_at_call_of 73 df; refine (Sub.call (uh HZ) (uh N2 _)).mono ?_; rintro r _ ⟨rfl, z2, rfl⟩) | (go_at_call 75; refine (Sub.call (uh HZ) (uh PL _)).mono ?_; rintro r _ ⟨rfl, z2, rfl⟩) | (go_at_call 74; refine (Sub.call (uh HZ) (uh NM _)).mono ?_; rintro r _ ⟨rfl, z2, rfl⟩) | (go_at_call 76; refine (Sub.call (uh HZ) (uh NS _)).mono ?_; rintro r _ ⟨rfl, z2, rfl⟩) | (go_at_call 72; refine (Sub.call (uh HZ) (uh IN _)).mono ?_; rintro r _ ⟨rfl, z2, rfl⟩))
  go_ret
  exact ⟨rfl, uh HB _⟩
 have h90f : (k == 3) = false := beq_eq_false_iff_ne.2 h90
 by_cases h96 : op = 0
 ·
  subst h96
  cases n1 with
  | true =>
   cases n2 with
   | true =>
    by_cases h99 : k = 0
    ·
     subst h99
     by_cases h100 : s = ⟨#[]⟩
     ·
      subst h100
      by_cases h101 : n = 0
      ·
       subst h101
       by_cases h102 : ll = 0
       ·
        subst h102
        have V : lnV 0 ⟨#[]⟩ 0 true true 0 0 nm pl nms ins = true := by simp [lnV, eqE, eqE1, *]
        rw [V]
        clear V
        have E0 := xc 0 (.int .i64 0) rfl
        have E1 := xc 1 (.string ⟨#[]⟩) rfl
        have E2 := xc 2 (.int .i64 0) rfl
        have E3 := xc 3 (.int .i64 sf) rfl
        have E4 := xc 4 (.int .i64 sr) rfl
        have E5 := xc 5 (.int .i64 sk) rfl
        have E6 := xc 6 (.int .i64 sn) rfl
        have E7 := xc 7 (.string ss) rfl
        have E8 := xc 8 (.slice b1 sl c1) rfl
        have E9 := xc 9 (.int .i64 df) rfl
        have E10 := xc 10 (.int .i64 dr) rfl
        have E11 := xc 11 (.int .i64 dk) rfl
        have E12 := xc 12 (.int .i64 dn) rfl
        have E13 := xc 13 (.string ds) rfl
        have E14 := xc 14 (.slice b2 dl c2) rfl
        have E15 := xc 15 (.int .i64 0) rfl
        have E16 := xc 16 (.slice b3 0 c3) rfl
        clear xc
        go_enter Tryz.func22, Tryz.ntmps22
        go_wp2_with (first | (go_at_call 61; refine (in_any _ _ _ _).mono ?_; rintro e w' ⟨rfl, hw'⟩; rw [hw']; clear hw' w') | (go_at_call_of 73 sf; refine (Sub.call (uh HZ) (uh N1 _)).mono ?_; rintro r _ ⟨rfl, z2, rfl⟩) | (go_at_call_of 73 df; refine (Sub.call (uh HZ) (uh N2 _)).mono ?_; rintro r _ ⟨rfl, z2, rfl⟩) | (go_at_call 75; refine (Sub.call (uh HZ) (uh PL _)).mono ?_; rintro r _ ⟨rfl, z2, rfl⟩) | (go_at_call 74; refine (Sub.call (uh HZ) (uh NM _)).mono ?_; rintro r _ ⟨rfl, z2, rfl⟩) | (go_at_call 76; refine (Sub.call (uh HZ) (uh NS _)).mono ?_; rintro r _ ⟨rfl, z2, rfl⟩) | (go_at_call 72; refine (Sub.call (uh HZ) (uh IN _)).mono ?_; rintro r _ ⟨rfl, z2, rfl⟩))
        go_ret
        exact ⟨rfl, uh HB _⟩
       have h102f : (ll == 0) = false := beq_eq_false_iff_ne.2 h102
       have h102g : ((ll : Int) == 0) = false := beq_eq_false_iff_ne.2 (by omega)
       have V : lnV 0 ⟨#[]⟩ 0 true true 0 ll nm pl nms ins = false := by simp [lnV, eqE, eqE1, *]
       rw [V]
       clear V
       have E0 := xc 0 (.int .i64 0) rfl
       have E1 := xc 1 (.string ⟨#[]⟩) rfl
       have E2 := xc 2 (.int .i64 0) rfl
       have E3 := xc 3 (.int .i64 sf) rfl
       have E4 := xc 4 (.int .i64 sr) rfl
       have E5 := xc 5 (.int .i64 sk) rfl
       have E6 := xc 6 (.int .i64 sn) rfl
       have E7 := xc 7 (.string ss) rfl
       have E8 := xc 8 (.slice b1 sl c1) rfl
       have E9 := xc 9 (.int .i64 df) rfl
       have E10 := xc 10 (.int .i64 dr) rfl
       have E11 := xc 11 (.int .i64 dk) rfl
       have E12 := xc 12 (.int .i64 dn) rfl
       have E13 := xc 13 (.string ds) rfl
       have E14 := xc 14 (.slice b2 dl c2) rfl
       have E15 := xc 15 (.int .i64 0) rfl
       have E16 := xc 16 (.slice b3 ll c3) rfl
       clear xc
       go_enter Tryz.func22, Tryz.ntmps22
       go_wp2_with (first | (go_at_call 61; refine (in_any _ _ _ _).mono ?_; rintro e w' ⟨rfl, hw'⟩; rw [hw']; clear hw' w') | (go_at_call_of 73 sf; refine (Sub.call (uh HZ) (uh N1 _)).mono ?_; rintro r _ ⟨rfl, z2, rfl⟩) | (go_at_call_of 73 df; refine (Sub.call (uh HZ) (uh N2 _)).mono ?_; rintro r _ ⟨rfl, z2, rfl⟩) | (go_at_call 75; refine (Sub.call (uh HZ) (uh PL _)).mono ?_; rintro r _ ⟨rfl, z2, rfl⟩) | (go_at_call 74; refine (Sub.call (uh HZ) (uh NM _)).mono ?_; rintro r _ ⟨rfl, z2, rfl⟩) | (go_at_call 76; refine (Sub.call (uh HZ) (uh NS _)).mono ?_; rintro r _ ⟨rfl, z2, rfl⟩) | (go_at_call 72; refine (Sub.call (uh HZ) (uh IN _)).mono ?_; rintro r _ ⟨rfl, z2, rfl⟩))
       go_ret
       exact ⟨rfl, uh HB _⟩
      have h101f : (n == 0) = false := beq_eq_false_iff_ne.2 h101
      have V : lnV 0 ⟨#[]⟩ 0 true true n ll nm pl nms ins = false := by simp [lnV, eqE, eqE1, *]
      rw [V]
      clear V
      have E0 := xc 0 (.int .i64 0) rfl
      have E1 := xc 1 (.string ⟨#[]⟩) rfl
      have E2 := xc 2 (.int .i64 0) rfl
      have E3 := xc 3 (.int .i64 sf) rfl
      have E4 := xc 4 (.int .i64 sr) rfl
      have E5 := xc 5 (.int .i64 sk) rfl
      have E6 := xc 6 (.int .i64 sn) rfl
      have E7 := xc 7 (.string ss) rfl
      have E8 := xc 8 (.slice b1 sl c1) rfl
      have E9 := xc 9 (.int .i64 df) rfl
      have E10 := xc 10 (.int .i64 dr) rfl
      have E11 := xc 11 (.int .i64 dk) rfl
      have E12 := xc 12 (.int .i64 dn) rfl
      have E13 := xc 13 (.string ds) rfl
      have E14 := xc 14 (.slice b2 dl c2) rfl
      have E15 := xc 15 (.int .i64 n) rfl
      have E16 := xc 16 (.slice b3 ll c3) rfl
      clear xc
      go_enter Tryz.func22, Tryz.ntmps22
      go_wp2_with (first | (go_at_call 61; refine (in_any _ _ _ _).mono ?_; rintro e w' ⟨rfl, hw'⟩; rw [hw']; clear hw' w') | (go_at_call_of 73 sf; refine (Sub.call (uh HZ) (uh N1 _)).mono ?_; rintro r _ ⟨rfl, z2, rfl⟩) | (go_at_call_of 73 df; refine (Sub.call (uh HZ) (uh N2 _)).mono ?_; rintro r _ ⟨rfl, z2, rfl⟩) | (go_at_call 75; refine (Sub.call (uh HZ) (uh PL _)).mono ?_; rintro r _ ⟨rfl, z2, rfl⟩) | (go_at_call 74; refine (Sub.call (uh HZ) (uh NM _)).mono ?_; rintro r _ ⟨rfl, z2, rfl⟩) | (go_at_call 76; refine (Sub.call (uh HZ) (uh NS _)).mono ?_; rintro r _ ⟨rfl, z2, rfl⟩) | (go_at_call 72; refine (Sub.call (uh HZ) (uh IN _)).mono ?_; rintro r _ ⟨rfl, z2, rfl⟩))
      go_ret
      exact ⟨rfl, uh HB _⟩
     obtain ⟨h100a, h100b⟩ := emp_E s h100
     have V : lnV 0 s 0 true true n ll nm pl nms ins = false := by simp [lnV, eqE, eqE1, *]
     rw [V]
     clear V
     have E0 := xc 0 (.int .i64 0) rfl
     have E1 := xc 1 (.string s) rfl
     have E2 := xc 2 (.int .i64 0) rfl
     have E3 := xc 3 (.int .i64 sf) rfl
     have E4 := xc 4 (.int .i64 sr) rfl
     have E5 := xc 5 (.int .i64 sk) rfl
     have E6 := xc 6 (.int .i64 sn) rfl
     have E7 := xc 7 (.string ss) rfl
     have E8 := xc 8 (.slice b1 sl c1) rfl
     have E9 := xc 9 (.int .i64 df) rfl
     have E10 := xc 10 (.int .i64 dr) rfl
     have E11 := xc 11 (.int .i64 dk) rfl
     have E12 := xc 12 (.int .i64 dn) rfl
     have E13 := xc 13 (.string ds) rfl
     have E14 := xc 14 (.slice b2 dl c2) rfl
     have E15 := xc 15 (.int .i64 n) rfl
     have E16 := xc 16 (.slice b3 ll c3) rfl
     clear xc
     go_enter Tryz.func22, Tryz.ntmps22
     go_wp2_with (first | (go_at_call 61; refine (in_any _ _ _ _).mono ?_; rintro e w' ⟨rfl, hw'⟩; rw [hw']; clear hw' w') | (go_at_call_of 73 sf; refine (Sub.call (uh HZ) (uh N1 _)).mono ?_; rintro r _ ⟨rfl, z2, rfl⟩) | (go_at_call_of 73 df; refine (Sub.call (uh HZ) (uh N2 _)).mono ?_; rintro r _ ⟨rfl, z2, rfl⟩) | (go_at_call 75; refine (Sub.call (uh HZ) (uh PL _)).mono ?_; rintro r _ ⟨rfl, z2, rfl⟩) | (go_at_call 74; refine (Sub.call (uh HZ) (uh NM _)).mono ?_; rintro r _ ⟨rfl, z2, rfl⟩) | (go_at_call 76; refine (Sub.call (uh HZ) (uh NS _)).mono ?_; rintro r _ ⟨rfl, z2, rfl⟩) | (go_at_call 72; refine (Sub.call (uh HZ) (uh IN _)).mono ?_; rintro r _ ⟨rfl, z2, rfl⟩))
     go_ret
     exact ⟨rfl, uh HB _⟩
    have h99f : (k == 0) = false := beq_eq_false_iff_ne.2 h99
    by_cases h111 : k = 8
    ·
     subst h111
     by_cases h112 : s = ⟨#[]⟩
     ·
      subst h112
      by_cases h113 : n = 0
      ·
       subst h113
       by_cases h114 : ll = 0
       ·
        subst h114
        have V : lnV 8 ⟨#[]⟩ 0 true true 0 0 nm pl nms ins = true := by simp [lnV, eqE, eqE1, *]
        rw [V]
        clear V
        have E0 := xc 0 (.int .i64 8) rfl
        have E1 := xc 1 (.string ⟨#[]⟩) rfl
        have E2 := xc 2 (.int .i64 0) rfl
        have E3 := xc 3 (.int .i64 sf) rfl
        have E4 := xc 4 (.int .i64 sr) rfl
        have E5 := xc 5 (.int .i64 sk) rfl
        have E6 := xc 6 (.int .i64 sn) rfl
        have E7 := xc 7 (.string ss) rfl
        have E8 := xc 8 (.slice b1 sl c1) rfl
        have E9 := xc 9 (.int .i64 df) rfl
        have E10 := xc 10 (.int .i64 dr) rfl
        have E11 := xc 11 (.int .i64 dk) rfl
        have E12 := xc 12 (.int .i64 dn) rfl
        have E13 := xc 13 (.string ds) rfl
        have E14 := xc 14 (.slice b2 dl c2) rfl
        have E15 := xc 15 (.int .i64 0) rfl
        have E16 := xc 16 (.slice b3 0 c3) rfl
        clear xc
        go_enter Tryz.func22, Tryz.ntmps22
        go_wp2_with (first | (go_at_call 61; refine (in_any _ _ _ _).mono ?_; rintro e w' ⟨rfl, hw'⟩; rw [hw']; clear hw' w') | (go_at_call_of 73 sf; refine (Sub.call (uh HZ) (uh N1 _)).mono ?_; rintro r _ ⟨rfl, z2, rfl⟩) | (go_at_call_of 73 df; refine (Sub.call (uh HZ) (uh N2 _)).mono ?_; rintro r _ ⟨rfl, z2, rfl⟩) | (go_at_call 75; refine (Sub.call (uh HZ) (uh PL _)).mono ?_; rintro r _ ⟨rfl, z2, rfl⟩) | (go_at_call 74; refine (Sub.call (uh HZ) (uh NM _)).mono ?_; rintro r _ ⟨rfl, z2, rfl⟩) | (go_at_call 76; refine (Sub.call (uh HZ) (uh NS _)).mono ?_; rintro r _ ⟨rfl, z2, rfl⟩) | (go_at_call 72; refine (Sub.call (uh HZ) (uh IN _)).mono ?_; rintro r _ ⟨rfl, z2, rfl⟩))
        go_ret
        exact ⟨rfl, uh HB _⟩
       have h114f : (ll == 0) = false := beq_eq_false_iff_ne.2 h114
       have h114g : ((ll : Int) == 0) = false := beq_eq_false_iff_ne.2 (by omega)
       have V : lnV 8 ⟨#[]⟩ 0 true true 0 ll nm pl nms ins = false := by simp [lnV, eqE, eqE1, *]
       rw [V]
       clear V
       have E0 := xc 0 (.int .i64 8) rfl
       have E1 := xc 1 (.string ⟨#[]⟩) rfl
       have E2 := xc 2 (.int .i64 0) rfl
       have E3 := xc 3 (.int .i64 sf) rfl
       have E4 := xc 4 (.int .i64 sr) rfl
       have E5 := xc 5 (.int .i64 sk) rfl
       have E6 := xc 6 (.int .i64 sn) rfl
       have E7 := xc 7 (.string ss) rfl
       have E8 := xc 8 (.slice b1 sl c1) rfl
       have E9 := xc 9 (.int .i64 df) rfl
       have E10 := xc 10 (.int .i64 dr) rfl
       have E11 := xc 11 (.int .i64 dk) rfl
       have E12 := xc 12 (.int .i64 dn) rfl
       have E13 := xc 13 (.string ds) rfl
       have E14 := xc 14 (.slice b2 dl c2) rfl
       have E15 := xc 15 (.int .i64 0) rfl
       have E16 := xc 16 (.slice b3 ll c3) rfl
       clear xc
       go_enter Tryz.func22, Tryz.ntmps22
       go_wp2_with (first | (go_at_call 61; refine (in_any _ _ _ _).mono ?_; rintro e w' ⟨rfl, hw'⟩; rw [hw']; clear hw' w') | (go_at_call_of 73 sf; refine (Sub.call (uh HZ) (uh N1 _)).mono ?_; rintro r _ ⟨rfl, z2, rfl⟩) | (go_at_call_of 73 df; refine (Sub.call (uh HZ) (uh N2 _)).mono ?_; rintro r _ ⟨rfl, z2, rfl⟩) | (go_at_call 75; refine (Sub.call (uh HZ) (uh PL _)).mono ?_; rintro r _ ⟨rfl, z2, rfl⟩) | (go_at_call 74; refine (Sub.call (uh HZ) (uh NM _)).mono ?_; rintro r _ ⟨rfl, z2, rfl⟩) | (go_at_call 76; refine (Sub.call (uh HZ) (uh NS _)).mono ?_; rintro r _ ⟨rfl, z2, rfl⟩) | (go_at_call 72; refine (Sub.call (uh HZ) (uh IN _)).mono ?_; rintro r _ ⟨rfl, z2, rfl⟩))
       go_ret
       exact ⟨rfl, uh HB _⟩
      have h113f : (n == 0) = false := beq_eq_false_iff_ne.2 h113
      have V : lnV 8 ⟨#[]⟩ 0 true true n ll nm pl nms ins = false := by simp [lnV, eqE, eqE1, *]
      rw [V]
      clear V
      have E0 := xc 0 (.int .i64 8) rfl
      have E1 := xc 1 (.string ⟨#[]⟩) rfl
      have E2 := xc 2 (.int .i64 0) rfl
      have E3 := xc 3 (.int .i64 sf) rfl
      have E4 := xc 4 (.int .i64 sr) rfl
      have E5 := xc 5 (.int .i64 sk) rfl
      have E6 := xc 6 (.int .i64 sn) rfl
      have E7 := xc 7 (.string ss) rfl
      have E8 := xc 8 (.slice b1 sl c1) rfl
      have E9 := xc 9 (.int .i64 df) rfl
      have E10 := xc 10 (.int .i64 dr) rfl
      have E11 := xc 11 (.int .i64 dk) rfl
      have E12 := xc 12 (.int .i64 dn) rfl
      have E13 := xc 13 (.string ds) rfl
      have E14 := xc 14 (.slice b2 dl c2) rfl
      have E15 := xc 15 (.int .i64 n) rfl
      have E16 := xc 16 (.slice b3 ll c3) rfl
      clear xc
      go_enter Tryz.func22, Tryz.ntmps22
      go_wp2_with (first | (go_at_call 61; refine (in_any _ _ _ _).mono ?_; rintro e w' ⟨rfl, hw'⟩; rw [hw']; clear hw' w') | (go_at_call_of 73 sf; refine (Sub.call (uh HZ) (uh N1 _)).mono ?_; rintro r _ ⟨rfl, z2, rfl⟩) | (go_at_call_of 73 df; refine (Sub.call (uh HZ) (uh N2 _)).mono ?_; rintro r _ ⟨rfl, z2, rfl⟩) | (go_at_call 75; refine (Sub.call (uh HZ) (uh PL _)).mono ?_; rintro r _ ⟨rfl, z2, rfl⟩) | (go_at_call 74; refine (Sub.call (uh HZ) (uh NM _)).mono ?_; rintro r _ ⟨rfl, z2, rfl⟩) | (go_at_call 76; refine (Sub.call (uh HZ) (uh NS _)).mono ?_; rintro r _ ⟨rfl, z2, rfl⟩) | (go_at_call 72; refine (Sub.call (uh HZ) (uh IN _)).mono ?_; rintro r _ ⟨rfl, z2, rfl⟩))
      go_ret
      exact ⟨rfl, uh HB _⟩
     obtain ⟨h112a, h112b⟩ := emp_E s h112
     have V : lnV 8 s 0 true true n ll nm pl nms ins = false := by simp [lnV, eqE, eqE1, *]
     rw [V]
     clear V
     have E0 := xc 0 (.int .i64 8) rfl
     have E1 := xc 1 (.string s) rfl
     have E2 := xc 2 (.int .i64 0) rfl
     have E3 := xc 3 (.int .i64 sf) rfl
     have E4 := xc 4 (.int .i64 sr) rfl
     have E5 := xc 5 (.int .i64 sk) rfl
     have E6 := xc 6 (.int .i64 sn) rfl
     have E7 := xc 7 (.string ss) rfl
     have E8 := xc 8 (.slice b1 sl c1) rfl
     have E9 := xc 9 (.int .i64 df) rfl
     have E10 := xc 10 (.int .i64 dr) rfl
     have E11 := xc 11 (.int .i64 dk) rfl
     have E12 := xc 12 (.int .i64 dn) rfl
     have E13 := xc 13 (.string ds) rfl
     have E14 := xc 14 (.slice b2 dl c2) rfl
     have E15 := xc 15 (.int .i64 n) rfl
     have E16 := xc 16 (.slice b3 ll c3) rfl
     clear xc
     go_enter Tryz.func22, Tryz.ntmps22
     go_wp2_with (first | (go_at_call 61; refine (in_any _ _ _ _).mono ?_; rintro e w' ⟨rfl, hw'⟩; rw [hw']; clear hw' w') | (go_at_call_of 73 sf; refine (Sub.call (uh HZ) (uh N1 _)).mono ?_; rintro r _ ⟨rfl, z2, rfl⟩) | (go_at_call_of 73 df; refine (Sub.call (uh HZ) (uh N2 _)).mono ?_; rintro r _ ⟨rfl, z2, rfl⟩) | (go_at_call 75; refine (Sub.call (uh HZ) (uh PL _)).mono ?_; rintro r _ ⟨rfl, z2, rfl⟩) | (go_at_call 74; refine (Sub.call (uh HZ) (uh NM _)).mono ?_; rintro r _ ⟨rfl, z2, rfl⟩) | (go_at_call 76; refine (Sub.call (uh HZ) (uh NS _)).mono ?_; rintro r _ ⟨rfl, z2, rfl⟩) | (go_at_call 72; refine (Sub.call (uh HZ) (uh IN _)).mono ?_; rintro r _ ⟨rfl, z2, rfl⟩))
     go_ret
     exact ⟨rfl, uh HB _⟩
    have h111f : (k == 8) = false := beq_eq_false_iff_ne.2 h111
    by_cases h123 : k = 1
    ·
     subst h123
     cases nm with
     | true =>
      by_cases h125 : n = 0
      ·
       subst h125
       by_cases h126 : ll = 0
       ·
        subst h126
        have V : lnV 1 s 0 true true 0 0 true pl nms ins = true := by simp [lnV, eqE, eqE1, *]
        rw [V]
        clear V
        have E0 := xc 0 (.int .i64 1) rfl
        have E1 := xc 1 (.string s) rfl
        have E2 := xc 2 (.int .i64 0) rfl
        have E3 := xc 3 (.int .i64 sf) rfl
        have E4 := xc 4 (.int .i64 sr) rfl
        have E5 := xc 5 (.int .i64 sk) rfl
        have E6 := xc 6 (.int .i64 sn) rfl
        have E7 := xc 7 (.string ss) rfl
        have E8 := xc 8 (.slice b1 sl c1) rfl
        have E9 := xc 9 (.int .i64 df) rfl
        have E10 := xc 10 (.int .i64 dr) rfl
        have E11 := xc 11 (.int .i64 dk) rfl
        have E12 := xc 12 (.int .i64 dn) rfl
        have E13 := xc 13 (.string ds) rfl
        have E14 := xc 14 (.slice b2 dl c2) rfl
        have E15 := xc 15 (.int .i64 0) rfl
        have E16 := xc 16 (.slice b3 0 c3) rfl
        clear xc
        go_enter Tryz.func22, Tryz.ntmps22
        go_wp2_with (first | (go_at_call 61; refine (in_any _ _ _ _).mono ?_; rintro e w' ⟨rfl, hw'⟩; rw [hw']; clear hw' w') | (go_at_call_of 73 sf; refine (Sub.call (uh HZ) (uh N1 _)).mono ?_; rintro r _ ⟨rfl, z2, rfl⟩) | (go_at_call_of 73 df; refine (Sub.call (uh HZ) (uh N2 _)).mono ?_; rintro r _ ⟨rfl, z2, rfl⟩) | (go_at_call 75; refine (Sub.call (uh HZ) (uh PL _)).mono ?_; rintro r _ ⟨rfl, z2, rfl⟩) | (go_at_call 74; refine (Sub.call (uh HZ) (uh NM _)).mono ?_; rintro r _ ⟨rfl, z2, rfl⟩) | (go_at_call 76; refine (Sub.call (uh HZ) (uh NS _)).mono ?_; rintro r _ ⟨rfl, z2, rfl⟩) | (go_at_call 72; refine (Sub.call (uh HZ) (uh IN _)).mono ?_; rintro r _ ⟨rfl, z2, rfl⟩))
        go_ret
        exact ⟨rfl, uh HB _⟩
       have h126f : (ll == 0) = false := beq_eq_false_iff_ne.2 h126
       have h126g : ((ll : Int) == 0) = false := beq_eq_false_iff_ne.2 (by omega)
       have V : lnV 1 s 0 true true 0 ll true pl nms ins = false := by simp [lnV, eqE, eqE1, *]
       rw [V]
       clear V
       have E0 := xc 0 (.int .i64 1) rfl
       have E1 := xc 1 (.string s) rfl
       have E2 := xc 2 (.int .i64 0) rfl
       have E3 := xc 3 (.int .i64 sf) rfl
       have E4 := xc 4 (.int .i64 sr) rfl
       have E5 := xc 5 (.int .i64 sk) rfl
       have E6 := xc 6 (.int .i64 sn) rfl
       have E7 := xc 7 (.string ss) rfl
       have E8 := xc 8 (.slice b1 sl c1) rfl
       have E9 := xc 9 (.int .i64 df) rfl
       have E10 := xc 10 (.int .i64 dr) rfl
       have E11 := xc 11 (.int .i64 dk) rfl
       have E12 := xc 12 (.int .i64 dn) rfl
       have E13 := xc 13 (.string ds) rfl
       have E14 := xc 14 (.slice b2 dl c2) rfl
       have E15 := xc 15 (.int .i64 0) rfl
       have E16 := xc 16 (.slice b3 ll c3) rfl
       clear xc
       go_enter Tryz.func22, Tryz.ntmps22
       go_wp2_with (first | (go_at_call 61; refine (in_any _ _ _ _).mono ?_; rintro e w' ⟨rfl, hw'⟩; rw [hw']; clear hw' w') | (go_at_call_of 73 sf; refine (Sub.call (uh HZ) (uh N1 _)).mono ?_; rintro r _ ⟨rfl, z2, rfl⟩) | (go_at_call_of 73 df; refine (Sub.call (uh HZ) (uh N2 _)).mono ?_; rintro r _ ⟨rfl, z2, rfl⟩) | (go_at_call 75; refine (Sub.call (uh HZ) (uh PL _)).mono ?_; rintro r _ ⟨rfl, z2, rfl⟩) | (go_at_call 74; refine (Sub.call (uh HZ) (uh NM _)).mono ?_; rintro r _ ⟨rfl, z2, rfl⟩) | (go_at_call 76; refine (Sub.call (uh HZ) (uh NS _)).mono ?_; rintro r _ ⟨rfl, z2, rfl⟩) | (go_at_call 72; refine (Sub.call (uh HZ) (uh IN _)).mono ?_; rintro r _ ⟨rfl, z2, rfl⟩))
       go_ret
       exact ⟨rfl, uh HB _⟩
      have h125f : (n == 0) = false := beq_eq_false_iff_ne.2 h125
      have V : lnV 1 s 0 true true n ll true pl nms ins = false := by simp [lnV, eqE, eqE1, *]
      rw [V]
      clear V
      have E0 := xc 0 (.int .i64 1) rfl
      have E1 := xc 1 (.string s) rfl
      have E2 := xc 2 (.int .i64 0) rfl
      have E3 := xc 3 (.int .i64 sf) rfl
      have E4 := xc 4 (.int .i64 sr) rfl
      have E5 := xc 5 (.int .i64 sk) rfl
      have E6 := xc 6 (.int .i64 sn) rfl
      have E7 := xc 7 (.string ss) rfl
      have E8 := xc 8 (.slice b1 sl c1) rfl
      have E9 := xc 9 (.int .i64 df) rfl
      have E10 := xc 10 (.int .i64 dr) rfl
      have E11 := xc 11 (.int .i64 dk) rfl
      have E12 := xc 12 (.int .i64 dn) rfl
      have E13 := xc 13 (.string ds) rfl
      have E14 := xc 14 (.slice b2 dl c2) rfl
      have E15 := xc 15 (.int .i64 n) rfl
      have E16 := xc 16 (.slice b3 ll c3) rfl
      clear xc
      go_enter Tryz.func22, Tryz.ntmps22
      go_wp2_with (first | (go_at_call 61; refine (in_any _ _ _ _).mono ?_; rintro e w' ⟨rfl, hw'⟩; rw [hw']; clear hw' w') | (go_at_call_of 73 sf; refine (Sub.call (uh HZ) (uh N1 _)).mono ?_; rintro r _ ⟨rfl, z2, rfl⟩) | (go_at_call_of 73 df; refine (Sub.call (uh HZ) (uh N2 _)).mono ?_; rintro r _ ⟨rfl, z2, rfl⟩) | (go_at_call 75; refine (Sub.call (uh HZ) (uh PL _)).mono ?_; rintro r _ ⟨rfl, z2, rfl⟩) | (go_at_call 74; refine (Sub.call (uh HZ) (uh NM _)).mono ?_; rintro r _ ⟨rfl, z2, rfl⟩) | (go_at_call 76; refine (Sub.call (uh HZ) (uh NS _)).mono ?_; rintro r _ ⟨rfl, z2, rfl⟩) | (go_at_call 72; refine (Sub.call (uh HZ) (uh IN _)).mono ?_; rintro r _ ⟨rfl, z2, rfl⟩))
      go_ret
      exact ⟨rfl, uh HB _⟩
     | false =>
      have V : lnV 1 s 0 true true n ll false pl nms ins = false := by simp [lnV, eqE, eqE1, *]
      rw [V]
      clear V
      have E0 := xc 0 (.int .i64 1) rfl
      have E1 := xc 1 (.string s) rfl
      have E2 := xc 2 (.int .i64 0) rfl
      have E3 := xc 3 (.int .i64 sf) rfl
      have E4 := xc 4 (.int .i64 sr) rfl
      have E5 := xc 5 (.int .i64 sk) rfl
      have E6 := xc 6 (.int .i64 sn) rfl
      have E7 := xc 7 (.string ss) rfl
      have E8 := xc 8 (.slice b1 sl c1) rfl
      have E9 := xc 9 (.int .i64 df) rfl
      have E10 := xc 10 (.int .i64 dr) rfl
      have E11 := xc 11 (.int .i64 dk) rfl
      have E12 := xc 12 (.int .i64 dn) rfl
      have E13 := xc 13 (.string ds) rfl
      have E14 := xc 14 (.slice b2 dl c2) rfl
      have E15 := xc 15 (.int .i64 n) rfl
      have E16 := xc 16 (.slice b3 ll c3) rfl
      clear xc
      go_enter Tryz.func22, Tryz.ntmps22
      go_wp2_with (first | (go_at_call 61; refine (in_any _ _ _ _).mono ?_; rintro e w' ⟨rfl, hw'⟩; rw [hw']; clear hw' w') | (go_at_call_of 73 sf; refine (Sub.call (uh HZ) (uh N1 _)).mono ?_; rintro r _ ⟨rfl, z2, rfl⟩) | (go_at_call_of 73 df; refine (Sub.call (uh HZ) (uh N2 _)).mono ?_; rintro r _ ⟨rfl, z2, rfl⟩) | (go_at_call 75; refine (Sub.call (uh HZ) (uh PL _)).mono ?_; rintro r _ ⟨rfl, z2, rfl⟩) | (go_at_call 74; refine (Sub.call (uh HZ) (uh NM _)).mono ?_; rintro r _ ⟨rfl, z2, rfl⟩) | (go_at_call 76; refine (Sub.call (uh HZ) (uh NS _)).mono ?_; rintro r _ ⟨rfl, z2, rfl⟩) | (go_at_call 72; refine (Sub.call (uh HZ) (uh IN _)).mono ?_; rintro r _ ⟨rfl, z2, rfl⟩))
      go_ret
      exact ⟨rfl, uh HB _⟩
    have h123f : (k == 1) = false := beq_eq_false_iff_ne.2 h123
    by_cases h135 : k = 2
    ·
     subst h135
     cases nm with
     | true =>
      by_cases h137 : n = 0
      ·
       subst h137
       by_cases h138 : ll = 1
       ·
        subst h138
        have V : lnV 2 s 0 true true 0 1 true pl nms ins = pl := by simp [lnV, eqE, eqE1, *]
        rw [V]
        clear V
        have E0 := xc 0 (.int .i64 2) rfl
        have E1 := xc 1 (.string s) rfl
        have E2 := xc 2 (.int .i64 0) rfl
        have E3 := xc 3 (.int .i64 sf) rfl
        have E4 := xc 4 (.int .i64 sr) rfl
        have E5 := xc 5 (.int .i64 sk) rfl
        have E6 := xc 6 (.int .i64 sn) rfl
        have E7 := xc 7 (.string ss) rfl
        have E8 := xc 8 (.slice b1 sl c1) rfl
        have E9 := xc 9 (.int .i64 df) rfl
        have E10 := xc 10 (.int .i64 dr) rfl
        have E11 := xc 11 (.int .i64 dk) rfl
        have E12 := xc 12 (.int .i64 dn) rfl
        have E13 := xc 13 (.string ds) rfl
        have E14 := xc 14 (.slice b2 dl c2) rfl
        have E15 := xc 15 (.int .i64 0) rfl
        have E16 := xc 16 (.slice b3 1 c3) rfl
        clear xc
        go_enter Tryz.func22, Tryz.ntmps22
        go_wp2_with (first | (go_at_call 61; refine (in_any _ _ _ _).mono ?_; rintro e w' ⟨rfl, hw'⟩; rw [hw']; clear hw' w') | (go_at_call_of 73 sf; refine (Sub.call (uh HZ) (uh N1 _)).mono ?_; rintro r _ ⟨rfl, z2, rfl⟩) | (go_at_call_of 73 df; refine (Sub.call (uh HZ) (uh N2 _)).mono ?_; rintro r _ ⟨rfl, z2, rfl⟩) | (go_at_call 75; refine (Sub.call (uh HZ) (uh PL _)).mono ?_; rintro r _ ⟨rfl, z2, rfl⟩) | (go_at_call 74; refine (Sub.call (uh HZ) (uh NM _)).mono ?_; rintro r _ ⟨rfl, z2, rfl⟩) | (go_at_call 76; refine (Sub.call (uh HZ) (uh NS _)).mono ?_; rintro r _ ⟨rfl, z2, rfl⟩) | (go_at_call 72; refine (Sub.call (uh HZ) (uh IN _)).mono ?_; rintro r _ ⟨rfl, z2, rfl⟩))
        go_ret
        exact ⟨rfl, uh HB _⟩
       have h138f : (ll == 1) = false := beq_eq_false_iff_ne.2 h138
       have h138g : ((ll : Int) == 1) = false := beq_eq_false_iff_ne.2 (by omega)
       have V : lnV 2 s 0 true true 0 ll true pl nms ins = false := by simp [lnV, eqE, eqE1, *]
       rw [V]
       clear V
       have E0 := xc 0 (.int .i64 2) rfl
       have E1 := xc 1 (.string s) rfl
       have E2 := xc 2 (.int .i64 0) rfl
       have E3 := xc 3 (.int .i64 sf) rfl
       have E4 := xc 4 (.int .i64 sr) rfl
       have E5 := xc 5 (.int .i64 sk) rfl
       have E6 := xc 6 (.int .i64 sn) rfl
       have E7 := xc 7 (.string ss) rfl
       have E8 := xc 8 (.slice b1 sl c1) rfl
       have E9 := xc 9 (.int .i64 df) rfl
       have E10 := xc 10 (.int .i64 dr) rfl
       have E11 := xc 11 (.int .i64 dk) rfl
       have E12 := xc 12 (.int .i64 dn) rfl
       have E13 := xc 13 (.string ds) rfl
       have E14 := xc 14 (.slice b2 dl c2) rfl
       have E15 := xc 15 (.int .i64 0) rfl
       have E16 := xc 16 (.slice b3 ll c3) rfl
       clear xc
       go_enter Tryz.func22, Tryz.ntmps22
       go_wp2_with (first | (go_at_call 61; refine (in_any _ _ _ _).mono ?_; rintro e w' ⟨rfl, hw'⟩; rw [hw']; clear hw' w') | (go_at_call_of 73 sf; refine (Sub.call (uh HZ) (uh N1 _)).mono ?_; rintro r _ ⟨rfl, z2, rfl⟩) | (go_at_call_of 73 df; refine (Sub.call (uh HZ) (uh N2 _)).mono ?_; rintro r _ ⟨rfl, z2, rfl⟩) | (go_at_call 75; refine (Sub.call (uh HZ) (uh PL _)).mono ?_; rintro r _ ⟨rfl, z2, rfl⟩) | (go_at_call 74; refine (Sub.call (uh HZ) (uh NM _)).mono ?_; rintro r _ ⟨rfl, z2, rfl⟩) | (go_at_call 76; refine (Sub.call (uh HZ) (uh NS _)).mono ?_; rintro r _ ⟨rfl, z2, rfl⟩) | (go_at_call 72; refine (Sub.call (uh HZ) (uh IN _)).mono ?_; rintro r _ ⟨rfl, z2, rfl⟩))
       go_ret
       exact ⟨rfl, uh HB _⟩
      have h137f : (n == 0) = false := beq_eq_false_iff_ne.2 h137
      have V : lnV 2 s 0 true true n ll true pl nms ins = false := by simp [lnV, eqE, eqE1, *]
      rw [V]
      clear V
      have E0 := xc 0 (.int .i64 2) rfl
      have E1 := xc 1 (.string s) rfl
      have E2 := xc 2 (.int .i64 0) rfl
      have E3 := xc 3 (.int .i64 sf) rfl
      have E4 := xc 4 (.int .i64 sr) rfl
      have E5 := xc 5 (.int .i64 sk) rfl
      have E6 := xc 6 (.int .i64 sn) rfl
      have E7 := xc 7 (.string ss) rfl
      have E8 := xc 8 (.slice b1 sl c1) rfl
      have E9 := xc 9 (.int .i64 df) rfl
      have E10 := xc 10 (.int .i64 dr) rfl
      have E11 := xc 11 (.int .i64 dk) rfl
      have E12 := xc 12 (.int .i64 dn) rfl
      have E13 := xc 13 (.string ds) rfl
      have E14 := xc 14 (.slice b2 dl c2) rfl
      have E15 := xc 15 (.int .i64 n) rfl
      have E16 := xc 16 (.slice b3 ll c3) rfl
      clear xc
      go_enter Tryz.func22, Tryz.ntmps22
      go_wp2_with (first | (go_at_call 61; refine (in_any _ _ _ _).mono ?_; rintro e w' ⟨rfl, hw'⟩; rw [hw']; clear hw' w') | (go_at_call_of 73 sf; refine (Sub.call (uh HZ) (uh N1 _)).mono ?_; rintro r _ ⟨rfl, z2, rfl⟩) | (go_at_call_of 73 df; refine (Sub.call (uh HZ) (uh N2 _)).mono ?_; rintro r _ ⟨rfl, z2, rfl⟩) | (go_at_call 75; refine (Sub.call (uh HZ) (uh PL _)).mono ?_; rintro r _ ⟨rfl, z2, rfl⟩) | (go_at_call 74; refine (Sub.call (uh HZ) (uh NM _)).mono ?_; rintro r _ ⟨rfl, z2, rfl⟩) | (go_at_call 76; refine (Sub.call (uh HZ) (uh NS _)).mono ?_; rintro r _ ⟨rfl, z2, rfl⟩) | (go_at_call 72; refine (Sub.call (uh HZ) (uh IN _)).mono ?_; rintro r _ ⟨rfl, z2, rfl⟩))
      go_ret
      exact ⟨rfl, uh HB _⟩
     | false =>
      have V : lnV 2 s 0 true true n ll false pl nms ins = false := by simp [lnV, eqE, eqE1, *]
      rw [V]
      clear V
      have E0 := xc 0 (.int .i64 2) rfl
      have E1 := xc 1 (.string s) rfl
      have E2 := xc 2 (.int .i64 0) rfl
      have E3 := xc 3 (.int .i64 sf) rfl
      have E4 := xc 4 (.int .i64 sr) rfl
      have E5 := xc 5 (.int .i64 sk) rfl
      have E6 := xc 6 (.int .i64 sn) rfl
      have E7 := xc 7 (.string ss) rfl
      have E8 := xc 8 (.slice b1 sl c1) rfl
      have E9 := xc 9 (.int .i64 df) rfl
      have E10 := xc 10 (.int .i64 dr) rfl
      have E11 := xc 11 (.int .i64 dk) rfl
      have E12 := xc 12 (.int .i64 dn) rfl
      have E13 := xc 13 (.string ds) rfl
      have E14 := xc 14 (.slice b2 dl c2) rfl
      have E15 := xc 15 (.int .i64 n) rfl
      have E16 := xc 16 (.slice b3 ll c3) rfl
      clear xc
      go_enter Tryz.func22, Tryz.ntmps22
      go_wp2_with (first | (go_at_call 61; refine (in_any _ _ _ _).mono ?_; rintro e w' ⟨rfl, hw'⟩; rw [hw']; clear hw' w') | (go_at_call_of 73 sf; refine (Sub.call (uh HZ) (uh N1 _)).mono ?_; rintro r _ ⟨rfl, z2, rfl⟩) | (go_at_call_of 73 df; refine (Sub.call (uh HZ) (uh N2 _)).mono ?_; rintro r _ ⟨rfl, z2, rfl⟩) | (go_at_call 75; refine (Sub.call (uh HZ) (uh PL _)).mono ?_; rintro r _ ⟨rfl, z2, rfl⟩) | (go_at_call 74; refine (Sub.call (uh HZ) (uh NM _)).mono ?_; rintro r _ ⟨rfl, z2, rfl⟩) | (go_at_call 76; refine (Sub.call (uh HZ) (uh NS _)).mono ?_; rintro r _ ⟨rfl, z2, rfl⟩) | (go_at_call 72; refine (Sub.call (uh HZ) (uh IN _)).mono ?_; rintro r _ ⟨rfl, z2, rfl⟩))
      go_ret
      exact ⟨rfl, uh HB _⟩
    have h135f : (k == 2) = false := beq_eq_false_iff_ne.2 h135
    by_cases h147 : k = 4
    ·
     subst h147
     by_cases h148 : s = ⟨#[]⟩
     ·
      subst h148
      by_cases h149 : n = 0
      ·
       subst h149
       cases h150 : inB ll 1 6 with
       | true =>
        have V : lnV 4 ⟨#[]⟩ 0 true true 0 ll nm pl nms ins = pl := by simp [lnV, eqE, eqE1, *]
        rw [V]
        clear V
        have E0 := xc 0 (.int .i64 4) rfl
        have E1 := xc 1 (.string ⟨#[]⟩) rfl
        have E2 := xc 2 (.int .i64 0) rfl
        have E3 := xc 3 (.int .i64 sf) rfl
        have E4 := xc 4 (.int .i64 sr) rfl
        have E5 := xc 5 (.int .i64 sk) rfl
        have E6 := xc 6 (.int .i64 sn) rfl
        have E7 := xc 7 (.string ss) rfl
        have E8 := xc 8 (.slice b1 sl c1) rfl
        have E9 := xc 9 (.int .i64 df) rfl
        have E10 := xc 10 (.int .i64 dr) rfl
        have E11 := xc 11 (.int .i64 dk) rfl
        have E12 := xc 12 (.int .i64 dn) rfl
        have E13 := xc 13 (.string ds) rfl
        have E14 := xc 14 (.slice b2 dl c2) rfl
        have E15 := xc 15 (.int .i64 0) rfl
        have E16 := xc 16 (.slice b3 ll c3) rfl
        clear xc
        go_enter Tryz.func22, Tryz.ntmps22
        go_wp2_with (first | (go_at_call 61; refine (in_any _ _ _ _).mono ?_; rintro e w' ⟨rfl, hw'⟩; rw [hw']; clear hw' w') | (go_at_call_of 73 sf; refine (Sub.call (uh HZ) (uh N1 _)).mono ?_; rintro r _ ⟨rfl, z2, rfl⟩) | (go_at_call_of 73 df; refine (Sub.call (uh HZ) (uh N2 _)).mono ?_; rintro r _ ⟨rfl, z2, rfl⟩) | (go_at_call 75; refine (Sub.call (uh HZ) (uh PL _)).mono ?_; rintro r _ ⟨rfl, z2, rfl⟩) | (go_at_call 74; refine (Sub.call (uh HZ) (uh NM _)).mono ?_; rintro r _ ⟨rfl, z2, rfl⟩) | (go_at_call 76; refine (Sub.call (uh HZ) (uh NS _)).mono ?_; rintro r _ ⟨rfl, z2, rfl⟩) | (go_at_call 72; refine (Sub.call (uh HZ) (uh IN _)).mono ?_; rintro r _ ⟨rfl, z2, rfl⟩))
        go_ret
        exact ⟨rfl, uh HB _⟩
       | false =>
        have V : lnV 4 ⟨#[]⟩ 0 true true 0 ll nm pl nms ins = false := by simp [lnV, eqE, eqE1, *]
        rw [V]
        clear V
        have E0 := xc 0 (.int .i64 4) rfl
        have E1 := xc 1 (.string ⟨#[]⟩) rfl
        have E2 := xc 2 (.int .i64 0) rfl
        have E3 := xc 3 (.int .i64 sf) rfl
        have E4 := xc 4 (.int .i64 sr) rfl
        have E5 := xc 5 (.int .i64 sk) rfl
        have E6 := xc 6 (.int .i64 sn) rfl
        have E7 := xc 7 (.string ss) rfl
        have E8 := xc 8 (.slice b1 sl c1) rfl
        have E9 := xc 9 (.int .i64 df) rfl
        have E10 := xc 10 (.int .i64 dr) rfl
        have E11 := xc 11 (.int .i64 dk) rfl
        have E12 := xc 12 (.int .i64 dn) rfl
        have E13 := xc 13 (.string ds) rfl
        have E14 := xc 14 (.slice b2 dl c2) rfl
        have E15 := xc 15 (.int .i64 0) rfl
        have E16 := xc 16 (.slice b3 ll c3) rfl
        clear xc
        go_enter Tryz.func22, Tryz.ntmps22
        go_wp2_with (first | (go_at_call 61; refine (in_any _ _ _ _).mono ?_; rintro e w' ⟨rfl, hw'⟩; rw [hw']; clear hw' w') | (go_at_call_of 73 sf; refine (Sub.call (uh HZ) (uh N1 _)).mono ?_; rintro r _ ⟨rfl, z2, rfl⟩) | (go_at_call_of 73 df; refine (Sub.call (uh HZ) (uh N2 _)).mono ?_; rintro r _ ⟨rfl, z2, rfl⟩) | (go_at_call 75; refine (Sub.call (uh HZ) (uh PL _)).mono ?_; rintro r _ ⟨rfl, z2, rfl⟩) | (go_at_call 74; refine (Sub.call (uh HZ) (uh NM _)).mono ?_; rintro r _ ⟨rfl, z2, rfl⟩) | (go_at_call 76; refine (Sub.call (uh HZ) (uh NS _)).mono ?_; rintro r _ ⟨rfl, z2, rfl⟩) | (go_at_call 72; refine (Sub.call (uh HZ) (uh IN _)).mono ?_; rintro r _ ⟨rfl, z2, rfl⟩))
        go_ret
        exact ⟨rfl, uh HB _⟩
      have h149f : (n == 0) = false := beq_eq_false_iff_ne.2 h149
      have V : lnV 4 ⟨#[]⟩ 0 true true n ll nm pl nms ins = false := by simp [lnV, eqE, eqE1, *]
      rw [V]
      clear V
      have E0 := xc 0 (.int .i64 4) rfl
      have E1 := xc 1 (.string ⟨#[]⟩) rfl
      have E2 := xc 2 (.int .i64 0) rfl
      have E3 := xc 3 (.int .i64 sf) rfl
      have E4 := xc 4 (.int .i64 sr) rfl
      have E5 := xc 5 (.int .i64 sk) rfl
      have E6 := xc 6 (.int .i64 sn) rfl
      have E7 := xc 7 (.string ss) rfl
      have E8 := xc 8 (.slice b1 sl c1) rfl
      have E9 := xc 9 (.int .i64 df) rfl
      have E10 := xc 10 (.int .i64 dr) rfl
      have E11 := xc 11 (.int .i64 dk) rfl
      have E12 := xc 12 (.int .i64 dn) rfl
      have E13 := xc 13 (.string ds) rfl
      have E14 := xc 14 (.slice b2 dl c2) rfl
      have E15 := xc 15 (.int .i64 n) rfl
      have E16 := xc 16 (.slice b3 ll c3) rfl
      clear xc
      go_enter Tryz.func22, Tryz.ntmps22
      go_wp2_with (first | (go_at_call 61; refine (in_any _ _ _ _).mono ?_; rintro e w' ⟨rfl, hw'⟩; rw [hw']; clear hw' w') | (go_at_call_of 73 sf; refine (Sub.call (uh HZ) (uh N1 _)).mono ?_; rintro r _ ⟨rfl, z2, rfl⟩) | (go_at_call_of 73 df; refine (Sub.call (uh HZ) (uh N2 _)).mono ?_; rintro r _ ⟨rfl, z2, rfl⟩) | (go_at_call 75; refine (Sub.call (uh HZ) (uh PL _)).mono ?_; rintro r _ ⟨rfl, z2, rfl⟩) | (go_at_call 74; refine (Sub.call (uh HZ) (uh NM _)).mono ?_; rintro r _ ⟨rfl, z2, rfl⟩) | (go_at_call 76; refine (Sub.call (uh HZ) (uh NS _)).mono ?_; rintro r _ ⟨rfl, z2, rfl⟩) | (go_at_call 72; refine (Sub.call (uh HZ) (uh IN _)).mono ?_; rintro r _ ⟨rfl, z2, rfl⟩))
      go_ret
      exact ⟨rfl, uh HB _⟩
     obtain ⟨h148a, h148b⟩ := emp_E s h148
     have V : lnV 4 s 0 true true n ll nm pl nms ins = false := by simp [lnV, eqE, eqE1, *]
     rw [V]
     clear V
     have E0 := xc 0 (.int .i64 4) rfl
     have E1 := xc 1 (.string s) rfl
     have E2 := xc 2 (.int .i64 0) rfl
     have E3 := xc 3 (.int .i64 sf) rfl
     have E4 := xc 4 (.int .i64 sr) rfl
     have E5 := xc 5 (.int .i64 sk) rfl
     have E6 := xc 6 (.int .i64 sn) rfl
     have E7 := xc 7 (.string ss) rfl
     have E8 := xc 8 (.slice b1 sl c1) rfl
     have E9 := xc 9 (.int .i64 df) rfl
     have E10 := xc 10 (.int .i64 dr) rfl
     have E11 := xc 11 (.int .i64 dk) rfl
     have E12 := xc 12 (.int .i64 dn) rfl
     have E13 := xc 13 (.string ds) rfl
     have E14 := xc 14 (.slice b2 dl c2) rfl
     have E15 := xc 15 (.int .i64 n) rfl
     have E16 := xc 16 (.slice b3 ll c3) rfl
     clear xc
     go_enter Tryz.func22, Tryz.ntmps22
     go_wp2_with (first | (go_at_call 61; refine (in_any _ _ _ _).mono ?_; rintro e w' ⟨rfl, hw'⟩; rw [hw']; clear hw' w') | (go_at_call_of 73 sf; refine (Sub.call (uh HZ) (uh N1 _)).mono ?_; rintro r _ ⟨rfl, z2, rfl⟩) | (go_at_call_of 73 df; refine (Sub.call (uh HZ) (uh N2 _)).mono ?_; rintro r _ ⟨rfl, z2, rfl⟩) | (go_at_call 75; refine (Sub.call (uh HZ) (uh PL _)).mono ?_; rintro r _ ⟨rfl, z2, rfl⟩) | (go_at_call 74; refine (Sub.call (uh HZ) (uh NM _)).mono ?_; rintro r _ ⟨rfl, z2, rfl⟩) | (go_at_call 76; refine (Sub.call (uh HZ) (uh NS _)).mono ?_; rintro r _ ⟨rfl, z2, rfl⟩) | (go_at_call 72; refine (Sub.call (uh HZ) (uh IN _)).mono ?_; rintro r _ ⟨rfl, z2, rfl⟩))
     go_ret
     exact ⟨rfl, uh HB _⟩
    have h147f : (k == 4) = false := beq_eq_false_iff_ne.2 h147
    by_cases h159 : k = 5
    ·
     subst h159
     by_cases h160 : s = ⟨#[]⟩
     ·
      subst h160
      by_cases h161 : n = 0
      ·
       subst h161
       by_cases h162 : ll = 1
       ·
        subst h162
        have V : lnV 5 ⟨#[]⟩ 0 true true 0 1 nm pl nms ins = pl := by simp [lnV, eqE, eqE1, *]
        rw [V]
        clear V
        have E0 := xc 0 (.int .i64 5) rfl
        have E1 := xc 1 (.string ⟨#[]⟩) rfl
        have E2 := xc 2 (.int .i64 0) rfl
        have E3 := xc 3 (.int .i64 sf) rfl
        have E4 := xc 4 (.int .i64 sr) rfl
        have E5 := xc 5 (.int .i64 sk) rfl
        have E6 := xc 6 (.int .i64 sn) rfl
        have E7 := xc 7 (.string ss) rfl
        have E8 := xc 8 (.slice b1 sl c1) rfl
        have E9 := xc 9 (.int .i64 df) rfl
        have E10 := xc 10 (.int .i64 dr) rfl
        have E11 := xc 11 (.int .i64 dk) rfl
        have E12 := xc 12 (.int .i64 dn) rfl
        have E13 := xc 13 (.string ds) rfl
        have E14 := xc 14 (.slice b2 dl c2) rfl
        have E15 := xc 15 (.int .i64 0) rfl
        have E16 := xc 16 (.slice b3 1 c3) rfl
        clear xc
        go_enter Tryz.func22, Tryz.ntmps22
        go_wp2_with (first | (go_at_call 61; refine (in_any _ _ _ _).mono ?_; rintro e w' ⟨rfl, hw'⟩; rw [hw']; clear hw' w') | (go_at_call_of 73 sf; refine (Sub.call (uh HZ) (uh N1 _)).mono ?_; rintro r _ ⟨rfl, z2, rfl⟩) | (go_at_call_of 73 df; refine (Sub.call (uh HZ) (uh N2 _)).mono ?_; rintro r _ ⟨rfl, z2, rfl⟩) | (go_at_call 75; refine (Sub.call (uh HZ) (uh PL _)).mono ?_; rintro r _ ⟨rfl, z2, rfl⟩) | (go_at_call 74; refine (Sub.call (uh HZ) (uh NM _)).mono ?_; rintro r _ ⟨rfl, z2, rfl⟩) | (go_at_call 76; refine (Sub.call (uh HZ) (uh NS _)).mono ?_; rintro r _ ⟨rfl, z2, rfl⟩) | (go_at_call 72; refine (Sub.call (uh HZ) (uh IN _)).mono ?_; rintro r _ ⟨rfl, z2, rfl⟩))
        go_ret
        exact ⟨rfl, uh HB _⟩
       have h162f : (ll == 1) = false := beq_eq_false_iff_ne.2 h162
       have h162g : ((ll : Int) == 1) = false := beq_eq_false_iff_ne.2 (by omega)
       have V : lnV 5 ⟨#[]⟩ 0 true true 0 ll nm pl nms ins = false := by simp [lnV, eqE, eqE1, *]
       rw [V]
       clear V
       have E0 := xc 0 (.int .i64 5) rfl
       have E1 := xc 1 (.string ⟨#[]⟩) rfl
       have E2 := xc 2 (.int .i64 0) rfl
       have E3 := xc 3 (.int .i64 sf) rfl
       have E4 := xc 4 (.int .i64 sr) rfl
       have E5 := xc 5 (.int .i64 sk) rfl
       have E6 := xc 6 (.int .i64 sn) rfl
       have E7 := xc 7 (.string ss) rfl
       have E8 := xc 8 (.slice b1 sl c1) rfl
       have E9 := xc 9 (.int .i64 df) rfl
       have E10 := xc 10 (.int .i64 dr) rfl
       have E11 := xc 11 (.int .i64 dk) rfl
       have E12 := xc 12 (.int .i64 dn) rfl
       have E13 := xc 13 (.string ds) rfl
       have E14 := xc 14 (.slice b2 dl c2) rfl
       have E15 := xc 15 (.int .i64 0) rfl
       have E16 := xc 16 (.slice b3 ll c3) rfl
       clear xc
       go_enter Tryz.func22, Tryz.ntmps22
       go_wp2_with (first | (go_at_call 61; refine (in_any _ _ _ _).mono ?_; rintro e w' ⟨rfl, hw'⟩; rw [hw']; clear hw' w') | (go_at_call_of 73 sf; refine (Sub.call (uh HZ) (uh N1 _)).mono ?_; rintro r _ ⟨rfl, z2, rfl⟩) | (go_at_call_of 73 df; refine (Sub.call (uh HZ) (uh N2 _)).mono ?_; rintro r _ ⟨rfl, z2, rfl⟩) | (go_at_call 75; refine (Sub.call (uh HZ) (uh PL _)).mono ?_; rintro r _ ⟨rfl, z2, rfl⟩) | (go_at_call 74; refine (Sub.call (uh HZ) (uh NM _)).mono ?_; rintro r _ ⟨rfl, z2, rfl⟩) | (go_at_call 76; refine (Sub.call (uh HZ) (uh NS _)).mono ?_; rintro r _ ⟨rfl, z2, rfl⟩) | (go_at_call 72; refine (Sub.call (uh HZ) (uh IN _)).mono ?_; rintro r _ ⟨rfl, z2, rfl⟩))
       go_ret
       exact ⟨rfl, uh HB _⟩
      have h161f : (n == 0) = false := beq_eq_false_iff_ne.2 h161
      have V : lnV 5 ⟨#[]⟩ 0 true true n ll nm pl nms ins = false := by simp [lnV, eqE, eqE1, *]
      rw [V]
      clear V
      have E0 := xc 0 (.int .i64 5) rfl
      have E1 := xc 1 (.string ⟨#[]⟩) rfl
      have E2 := xc 2 (.int .i64 0) rfl
      have E3 := xc 3 (.int .i64 sf) rfl
      have E4 := xc 4 (.int .i64 sr) rfl
      have E5 := xc 5 (.int .i64 sk) rfl
      have E6 := xc 6 (.int .i64 sn) rfl
      have E7 := xc 7 (.string ss) rfl
      have E8 := xc 8 (.slice b1 sl c1) rfl
      have E9 := xc 9 (.int .i64 df) rfl
      have E10 := xc 10 (.int .i64 dr) rfl
      have E11 := xc 11 (.int .i64 dk) rfl
      have E12 := xc 12 (.int .i64 dn) rfl
      have E13 := xc 13 (.string ds) rfl
      have E14 := xc 14 (.slice b2 dl c2) rfl
      have E15 := xc 15 (.int .i64 n) rfl
      have E16 := xc 16 (.slice b3 ll c3) rfl
      clear xc
      go_enter Tryz.func22, Tryz.ntmps22
      go_wp2_with (first | (go_at_call 61; refine (in_any _ _ _ _).mono ?_; rintro e w' ⟨rfl, hw'⟩; rw [hw']; clear hw' w') | (go_at_call_of 73 sf; refine (Sub.call (uh HZ) (uh N1 _)).mono ?_; rintro r _ ⟨rfl, z2, rfl⟩) | (go_at_call_of 73 df; refine (Sub.call (uh HZ) (uh N2 _)).mono ?_; rintro r _ ⟨rfl, z2, rfl⟩) | (go_at_call 75; refine (Sub.call (uh HZ) (uh PL _)).mono ?_; rintro r _ ⟨rfl, z2, rfl⟩) | (go_at_call 74; refine (Sub.call (uh HZ) (uh NM _)).mono ?_; rintro r _ ⟨rfl, z2, rfl⟩) | (go_at_call 76; refine (Sub.call (uh HZ) (uh NS _)).mono ?_; rintro r _ ⟨rfl, z2, rfl⟩) | (go_at_call 72; refine (Sub.call (uh HZ) (uh IN _)).mono ?_; rintro r _ ⟨rfl, z2, rfl⟩))
      go_ret
      exact ⟨rfl, uh HB _⟩
     obtain ⟨h160a, h160b⟩ := emp_E s h160
     have V : lnV 5 s 0 true true n ll nm pl nms ins = false := by simp [lnV, eqE, eqE1, *]
     rw [V]
     clear V
     have E0 := xc 0 (.int .i64 5) rfl
     have E1 := xc 1 (.string s) rfl
     have E2 := xc 2 (.int .i64 0) rfl
     have E3 := xc 3 (.int .i64 sf) rfl
     have E4 := xc 4 (.int .i64 sr) rfl
     have E5 := xc 5 (.int .i64 sk) rfl
     have E6 := xc 6 (.int .i64 sn) rfl
     have E7 := xc 7 (.string ss) rfl
     have E8 := xc 8 (.slice b1 sl c1) rfl
     have E9 := xc 9 (.int .i64 df) rfl
     have E10 := xc 10 (.int .i64 dr) rfl
     have E11 := xc 11 (.int .i64 dk) rfl
     have E12 := xc 12 (.int .i64 dn) rfl
     have E13 := xc 13 (.string ds) rfl
     have E14 := xc 14 (.slice b2 dl c2) rfl
     have E15 := xc 15 (.int .i64 n) rfl
     have E16 := xc 16 (.slice b3 ll c3) rfl
     clear xc
     go_enter Tryz.func22, Tryz.ntmps22
     go_wp2_with (first | (go_at_call 61; refine (in_any _ _ _ _).mono ?_; rintro e w' ⟨rfl, hw'⟩; rw [hw']; clear hw' w') | (go_at_call_of 73 sf; refine (Sub.call (uh HZ) (uh N1 _)).mono ?_; rintro r _ ⟨rfl, z2, rfl⟩) | (go_at_call_of 73 df; refine (Sub.call (uh HZ) (uh N2 _)).mono ?_; rintro r _ ⟨rfl, z2, rfl⟩) | (go_at_call 75; refine (Sub.call (uh HZ) (uh PL _)).mono ?_; rintro r _ ⟨rfl, z2, rfl⟩) | (go_at_call 74; refine (Sub.call (uh HZ) (uh NM _)).mono ?_; rintro r _ ⟨rfl, z2, rfl⟩) | (go_at_call 76; refine (Sub.call (uh HZ) (uh NS _)).mono ?_; rintro r _ ⟨rfl, z2, rfl⟩) | (go_at_call 72; refine (Sub.call (uh HZ) (uh IN _)).mono ?_; rintro r _ ⟨rfl, z2, rfl⟩))
     go_ret
     exact ⟨rfl, uh HB _⟩
    have h159f : (k == 5) = false := beq_eq_false_iff_ne.2 h159
    by_cases h171 : k = 6
    ·
     subst h171
     cases nm with
     | true =>
      cases h173 : inB n 0 1 with
      | true =>
       by_cases h174 : ll = 0
       ·
        subst h174
        have V : lnV 6 s 0 true true n 0 true pl nms ins = true := by simp [lnV, eqE, eqE1, *]
        rw [V]
        clear V
        have E0 := xc 0 (.int .i64 6) rfl
        have E1 := xc 1 (.string s) rfl
        have E2 := xc 2 (.int .i64 0) rfl
        have E3 := xc 3 (.int .i64 sf) rfl
        have E4 := xc 4 (.int .i64 sr) rfl
        have E5 := xc 5 (.int .i64 sk) rfl
        have E6 := xc 6 (.int .i64 sn) rfl
        have E7 := xc 7 (.string ss) rfl
        have E8 := xc 8 (.slice b1 sl c1) rfl
        have E9 := xc 9 (.int .i64 df) rfl
        have E10 := xc 10 (.int .i64 dr) rfl
        have E11 := xc 11 (.int .i64 dk) rfl
        have E12 := xc 12 (.int .i64 dn) rfl
        have E13 := xc 13 (.string ds) rfl
        have E14 := xc 14 (.slice b2 dl c2) rfl
        have E15 := xc 15 (.int .i64 n) rfl
        have E16 := xc 16 (.slice b3 0 c3) rfl
        clear xc
        go_enter Tryz.func22, Tryz.ntmps22
        go_wp2_with (first | (go_at_call 61; refine (in_any _ _ _ _).mono ?_; rintro e w' ⟨rfl, hw'⟩; rw [hw']; clear hw' w') | (go_at_call_of 73 sf; refine (Sub.call (uh HZ) (uh N1 _)).mono ?_; rintro r _ ⟨rfl, z2, rfl⟩) | (go_at_call_of 73 df; refine (Sub.call (uh HZ) (uh N2 _)).mono ?_; rintro r _ ⟨rfl, z2, rfl⟩) | (go_at_call 75; refine (Sub.call (uh HZ) (uh PL _)).mono ?_; rintro r _ ⟨rfl, z2, rfl⟩) | (go_at_call 74; refine (Sub.call (uh HZ) (uh NM _)).mono ?_; rintro r _ ⟨rfl, z2, rfl⟩) | (go_at_call 76; refine (Sub.call (uh HZ) (uh NS _)).mono ?_; rintro r _ ⟨rfl, z2, rfl⟩) | (go_at_call 72; refine (Sub.call (uh HZ) (uh IN _)).mono ?_; rintro r _ ⟨rfl, z2, rfl⟩))
        go_ret
        exact ⟨rfl, uh HB _⟩
       have h174f : (ll == 0) = false := beq_eq_false_iff_ne.2 h174
       have h174g : ((ll : Int) == 0) = false := beq_eq_false_iff_ne.2 (by omega)
       have V : lnV 6 s 0 true true n ll true pl nms ins = false := by simp [lnV, eqE, eqE1, *]
       rw [V]
       clear V
       have E0 := xc 0 (.int .i64 6) rfl
       have E1 := xc 1 (.string s) rfl
       have E2 := xc 2 (.int .i64 0) rfl
       have E3 := xc 3 (.int .i64 sf) rfl
       have E4 := xc 4 (.int .i64 sr) rfl
       have E5 := xc 5 (.int .i64 sk) rfl
       have E6 := xc 6 (.int .i64 sn) rfl
       have E7 := xc 7 (.string ss) rfl
       have E8 := xc 8 (.slice b1 sl c1) rfl
       have E9 := xc 9 (.int .i64 df) rfl
       have E10 := xc 10 (.int .i64 dr) rfl
       have E11 := xc 11 (.int .i64 dk) rfl
       have E12 := xc 12 (.int .i64 dn) rfl
       have E13 := xc 13 (.string ds) rfl
       have E14 := xc 14 (.slice b2 dl c2) rfl
       have E15 := xc 15 (.int .i64 n) rfl
       have E16 := xc 16 (.slice b3 ll c3) rfl
       clear xc
       go_enter Tryz.func22, Tryz.ntmps22
       go_wp2_with (first | (go_at_call 61; refine (in_any _ _ _ _).mono ?_; rintro e w' ⟨rfl, hw'⟩; rw [hw']; clear hw' w') | (go_at_call_of 73 sf; refine (Sub.call (uh HZ) (uh N1 _)).mono ?_; rintro r _ ⟨rfl, z2, rfl⟩) | (go_at_call_of 73 df; refine (Sub.call (uh HZ) (uh N2 _)).mono ?_; rintro r _ ⟨rfl, z2, rfl⟩) | (go_at_call 75; refine (Sub.call (uh HZ) (uh PL _)).mono ?_; rintro r _ ⟨rfl, z2, rfl⟩) | (go_at_call 74; refine (Sub.call (uh HZ) (uh NM _)).mono ?_; rintro r _ ⟨rfl, z2, rfl⟩) | (go_at_call 76; refine (Sub.call (uh HZ) (uh NS _)).mono ?_; rintro r _ ⟨rfl, z2, rfl⟩) | (go_at_call 72; refine (Sub.call (uh HZ) (uh IN _)).mono ?_; rintro r _ ⟨rfl, z2, rfl⟩))
       go_ret
       exact ⟨rfl, uh HB _⟩
      | false =>
       have V : lnV 6 s 0 true true n ll true pl nms ins = false := by simp [lnV, eqE, eqE1, *]
       rw [V]
       clear V
       have E0 := xc 0 (.int .i64 6) rfl
       have E1 := xc 1 (.string s) rfl
       have E2 := xc 2 (.int .i64 0) rfl
       have E3 := xc 3 (.int .i64 sf) rfl
       have E4 := xc 4 (.int .i64 sr) rfl
       have E5 := xc 5 (.int .i64 sk) rfl
       have E6 := xc 6 (.int .i64 sn) rfl
       have E7 := xc 7 (.string ss) rfl
       have E8 := xc 8 (.slice b1 sl c1) rfl
       have E9 := xc 9 (.int .i64 df) rfl
       have E10 := xc 10 (.int .i64 dr) rfl
       have E11 := xc 11 (.int .i64 dk) rfl
       have E12 := xc 12 (.int .i64 dn) rfl
       have E13 := xc 13 (.string ds) rfl
       have E14 := xc 14 (.slice b2 dl c2) rfl
       have E15 := xc 15 (.int .i64 n) rfl
       have E16 := xc 16 (.slice b3 ll c3) rfl
       clear xc
       go_enter Tryz.func22, Tryz.ntmps22
       go_wp2_with (first | (go_at_call 61; refine (in_any _ _ _ _).mono ?_; rintro e w' ⟨rfl, hw'⟩; rw [hw']; clear hw' w') | (go_at_call_of 73 sf; refine (Sub.call (uh HZ) (uh N1 _)).mono ?_; rintro r _ ⟨rfl, z2, rfl⟩) | (go_at_call_of 73 df; refine (Sub.call (uh HZ) (uh N2 _)).mono ?_; rintro r _ ⟨rfl, z2, rfl⟩) | (go_at_call 75; refine (Sub.call (uh HZ) (uh PL _)).mono ?_; rintro r _ ⟨rfl, z2, rfl⟩) | (go_at_call 74; refine (Sub.call (uh HZ) (uh NM _)).mono ?_; rintro r _ ⟨rfl, z2, rfl⟩) | (go_at_call 76; refine (Sub.call (uh HZ) (uh NS _)).mono ?_; rintro r _ ⟨rfl, z2, rfl⟩) | (go_at_call 72; refine (Sub.call (uh HZ) (uh IN _)).mono ?_; rintro r _ ⟨rfl, z2, rfl⟩))
       go_ret
       exact ⟨rfl, uh HB _⟩
     | false =>
      have V : lnV 6 s 0 true true n ll false pl nms ins = false := by simp [lnV, eqE, eqE1, *]
      rw [V]
      clear V
      have E0 := xc 0 (.int .i64 6) rfl
      have E1 := xc 1 (.string s) rfl
      have E2 := xc 2 (.int .i64 0) rfl
      have E3 := xc 3 (.int .i64 sf) rfl
      have E4 := xc 4 (.int .i64 sr) rfl
      have E5 := xc 5 (.int .i64 sk) rfl
      have E6 := xc 6 (.int .i64 sn) rfl
      have E7 := xc 7 (.string ss) rfl
      have E8 := xc 8 (.slice b1 sl c1) rfl
      have E9 := xc 9 (.int .i64 df) rfl
      have E10 := xc 10 (.int .i64 dr) rfl
      have E11 := xc 11 (.int .i64 dk) rfl
      have E12 := xc 12 (.int .i64 dn) rfl
      have E13 := xc 13 (.string ds) rfl
      have E14 := xc 14 (.slice b2 dl c2) rfl
      have E15 := xc 15 (.int .i64 n) rfl
      have E16 := xc 16 (.slice b3 ll c3) rfl
      clear xc
      go_enter Tryz.func22, Tryz.ntmps22
      go_wp2_with (first | (go_at_call 61; refine (in_any _ _ _ _).mono ?_; rintro e w' ⟨rfl, hw'⟩; rw [hw']; clear hw' w') | (go_at_call_of 73 sf; refine (Sub.call (uh HZ) (uh N1 _)).mono ?_; rintro r _ ⟨rfl, z2, rfl⟩) | (go_at_call_of 73 df; refine (Sub.call (uh HZ) (uh N2 _)).mono ?_; rintro r _ ⟨rfl, z2, rfl⟩) | (go_at_call 75; refine (Sub.call (uh HZ) (uh PL _)).mono ?_; rintro r _ ⟨rfl, z2, rfl⟩) | (go_at_call 74; refine (Sub.call (uh HZ) (uh NM _)).mono ?_; rintro r _ ⟨rfl, z2, rfl⟩) | (go_at_call 76; refine (Sub.call (uh HZ) (uh NS _)).mono ?_; rintro r _ ⟨rfl, z2, rfl⟩) | (go_at_call 72; refine (Sub.call (uh HZ) (uh IN _)).mono ?_; rintro r _ ⟨rfl, z2, rfl⟩))
      go_ret
      exact ⟨rfl, uh HB _⟩
    have h171f : (k == 6) = false := beq_eq_false_iff_ne.2 h171
    by_cases h183 : k = 7
    ·
     subst h183
     by_cases h184 : s = ⟨#[]⟩
     ·
      subst h184
      by_cases h185 : n = 0
      ·
       subst h185
       have V : lnV 7 ⟨#[]⟩ 0 true true 0 ll nm pl nms ins = nms := by simp [lnV, eqE, eqE1, *]
       rw [V]
       clear V
       have E0 := xc 0 (.int .i64 7) rfl
       have E1 := xc 1 (.string ⟨#[]⟩) rfl
       have E2 := xc 2 (.int .i64 0) rfl
       have E3 := xc 3 (.int .i64 sf) rfl
       have E4 := xc 4 (.int .i64 sr) rfl
       have E5 := xc 5 (.int .i64 sk) rfl
       have E6 := xc 6 (.int .i64 sn) rfl
       have E7 := xc 7 (.string ss) rfl
       have E8 := xc 8 (.slice b1 sl c1) rfl
       have E9 := xc 9 (.int .i64 df) rfl
       have E10 := xc 10 (.int .i64 dr) rfl
       have E11 := xc 11 (.int .i64 dk) rfl
       have E12 := xc 12 (.int .i64 dn) rfl
       have E13 := xc 13 (.string ds) rfl
       have E14 := xc 14 (.slice b2 dl c2) rfl
       have E15 := xc 15 (.int .i64 0) rfl
       have E16 := xc 16 (.slice b3 ll c3) rfl
       clear xc
       go_enter Tryz.func22, Tryz.ntmps22
       go_wp2_with (first | (go_at_call 61; refine (in_any _ _ _ _).mono ?_; rintro e w' ⟨rfl, hw'⟩; rw [hw']; clear hw' w') | (go_at_call_of 73 sf; refine (Sub.call (uh HZ) (uh N1 _)).mono ?_; rintro r _ ⟨rfl, z2, rfl⟩) | (go_at_call_of 73 df; refine (Sub.call (uh HZ) (uh N2 _)).mono ?_; rintro r _ ⟨rfl, z2, rfl⟩) | (go_at_call 75; refine (Sub.call (uh HZ) (uh PL _)).mono ?_; rintro r _ ⟨rfl, z2, rfl⟩) | (go_at_call 74; refine (Sub.call (uh HZ) (uh NM _)).mono ?_; rintro r _ ⟨rfl, z2, rfl⟩) | (go_at_call 76; refine (Sub.call (uh HZ) (uh NS _)).mono ?_; rintro r _ ⟨rfl, z2, rfl⟩) | (go_at_call 72; refine (Sub.call (uh HZ) (uh IN _)).mono ?_; rintro r _ ⟨rfl, z2, rfl⟩))
       go_ret
       exact ⟨rfl, uh HB _⟩
      have h185f : (n == 0) = false := beq_eq_false_iff_ne.2 h185
      have V : lnV 7 ⟨#[]⟩ 0 true true n ll nm pl nms ins = false := by simp [lnV, eqE, eqE1, *]
      rw [V]
      clear V
      have E0 := xc 0 (.int .i64 7) rfl
      have E1 := xc 1 (.string ⟨#[]⟩) rfl
      have E2 := xc 2 (.int .i64 0) rfl
      have E3 := xc 3 (.int .i64 sf) rfl
      have E4 := xc 4 (.int .i64 sr) rfl
      have E5 := xc 5 (.int .i64 sk) rfl
      have E6 := xc 6 (.int .i64 sn) rfl
      have E7 := xc 7 (.string ss) rfl
      have E8 := xc 8 (.slice b1 sl c1) rfl
      have E9 := xc 9 (.int .i64 df) rfl
      have E10 := xc 10 (.int .i64 dr) rfl
      have E11 := xc 11 (.int .i64 dk) rfl
      have E12 := xc 12 (.int .i64 dn) rfl
      have E13 := xc 13 (.string ds) rfl
      have E14 := xc 14 (.slice b2 dl c2) rfl
      have E15 := xc 15 (.int .i64 n) rfl
      have E16 := xc 16 (.slice b3 ll c3) rfl
      clear xc
      go_enter Tryz.func22, Tryz.ntmps22
      go_wp2_with (first | (go_at_call 61; refine (in_any _ _ _ _).mono ?_; rintro e w' ⟨rfl, hw'⟩; rw [hw']; clear hw' w') | (go_at_call_of 73 sf; refine (Sub.call (uh HZ) (uh N1 _)).mono ?_; rintro r _ ⟨rfl, z2, rfl⟩) | (go_at_call_of 73 df; refine (Sub.call (uh HZ) (uh N2 _)).mono ?_; rintro r _ ⟨rfl, z2, rfl⟩) | (go_at_call 75; refine (Sub.call (uh HZ) (uh PL _)).mono ?_; rintro r _ ⟨rfl, z2, rfl⟩) | (go_at_call 74; refine (Sub.call (uh HZ) (uh NM _)).mono ?_; rintro r _ ⟨rfl, z2, rfl⟩) | (go_at_call 76; refine (Sub.call (uh HZ) (uh NS _)).mono ?_; rintro r _ ⟨rfl, z2, rfl⟩) | (go_at_call 72; refine (Sub.call (uh HZ) (uh IN _)).mono ?_; rintro r _ ⟨rfl, z2, rfl⟩))
      go_ret
      exact ⟨rfl, uh HB _⟩
     obtain ⟨h184a, h184b⟩ := emp_E s h184
     have V : lnV 7 s 0 true true n ll nm pl nms ins = false := by simp [lnV, eqE, eqE1, *]
     rw [V]
     clear V
     have E0 := xc 0 (.int .i64 7) rfl
     have E1 := xc 1 (.string s) rfl
     have E2 := xc 2 (.int .i64 0) rfl
     have E3 := xc 3 (.int .i64 sf) rfl
     have E4 := xc 4 (.int .i64 sr) rfl
     have E5 := xc 5 (.int .i64 sk) rfl
     have E6 := xc 6 (.int .i64 sn) rfl
     have E7 := xc 7 (.string ss) rfl
     have E8 := xc 8 (.slice b1 sl c1) rfl
     have E9 := xc 9 (.int .i64 df) rfl
     have E10 := xc 10 (.int .i64 dr) rfl
     have E11 := xc 11 (.int .i64 dk) rfl
     have E12 := xc 12 (.int .i64 dn) rfl
     have E13 := xc 13 (.string ds) rfl
     have E14 := xc 14 (.slice b2 dl c2) rfl
     have E15 := xc 15 (.int .i64 n) rfl
     have E16 := xc 16 (.slice b3 ll c3) rfl
     clear xc
     go_enter Tryz.func22, Tryz.ntmps22
     go_wp2_with (first | (go_at_call 61; refine (in_any _ _ _ _).mono ?_; rintro e w' ⟨rfl, hw'⟩; rw [hw']; clear hw' w') | (go_at_call_of 73 sf; refine (Sub.call (uh HZ) (uh N1 _)).mono ?_; rintro r _ ⟨rfl, z2, rfl⟩) | (go_at_call_of 73 df; refine (Sub.call (uh HZ) (uh N2 _)).mono ?_; rintro r _ ⟨rfl, z2, rfl⟩) | (go_at_call 75; refine (Sub.call (uh HZ) (uh PL _)).mono ?_; rintro r _ ⟨rfl, z2, rfl⟩) | (go_at_call 74; refine (Sub.call (uh HZ) (uh NM _)).mono ?_; rintro r _ ⟨rfl, z2, rfl⟩) | (go_at_call 76; refine (Sub.call (uh HZ) (uh NS _)).mono ?_; rintro r _ ⟨rfl, z2, rfl⟩) | (go_at_call 72; refine (Sub.call (uh HZ) (uh IN _)).mono ?_; rintro r _ ⟨rfl, z2, rfl⟩))
     go_ret
     exact ⟨rfl, uh HB _⟩
    have h183f : (k == 7) = false := beq_eq_false_iff_ne.2 h183
    have V : lnV k s 0 true true n ll nm pl nms ins = false := by simp [lnV, eqE, eqE1, *]
    rw [V]
    clear V
    have E0 := xc 0 (.int .i64 k) rfl
    have E1 := xc 1 (.string s) rfl
    have E2 := xc 2 (.int .i64 0) rfl
    have E3 := xc 3 (.int .i64 sf) rfl
    have E4 := xc 4 (.int .i64 sr) rfl
    have E5 := xc 5 (.int .i64 sk) rfl
    have E6 := xc 6 (.int .i64 sn) rfl
    have E7 := xc 7 (.string ss) rfl
    have E8 := xc 8 (.slice b1 sl c1) rfl
    have E9 := xc 9 (.int .i64 df) rfl
    have E10 := xc 10 (.int .i64 dr) rfl
    have E11 := xc 11 (.int .i64 dk) rfl
    have E12 := xc 12 (.int .i64 dn) rfl
    have E13 := xc 13 (.string ds) rfl
    have E14 := xc 14 (.slice b2 dl c2) rfl
    have E15 := xc 15 (.int .i64 n) rfl
    have E16 := xc 16 (.slice b3 ll c3) rfl
    clear xc
    go_enter Tryz.func22, Tryz.ntmps22
    go_wp2_with (first | (go_at_call 61; refine (in_any _ _ _ _).mono ?_; rintro e w' ⟨rfl, hw'⟩; rw [hw']; clear hw' w') | (go_at_call_of 73 sf; refine (Sub.call (uh HZ) (uh N1 _)).mono ?_; rintro r _ ⟨rfl, z2, rfl⟩) | (go_at_call_of 73 df; refine (Sub.call (uh HZ) (uh N2 _)).mono ?_; rintro r _ ⟨rfl, z2, rfl⟩) | (go_at_call 75; refine (Sub.call (uh HZ) (uh PL _)).mono ?_; rintro r _ ⟨rfl, z2, rfl⟩) | (go_at_call 74; refine (Sub.call (uh HZ) (uh NM _)).mono ?_; rintro r _ ⟨rfl, z2, rfl⟩) | (go_at_call 76; refine (Sub.call (uh HZ) (uh NS _)).mono ?_; rintro r _ ⟨rfl, z2, rfl⟩) | (go_at_call 72; refine (Sub.call (uh HZ) (uh IN _)).mono ?_; rintro r _ ⟨rfl, z2, rfl⟩))
    go_ret
    exact ⟨rfl, uh HB _⟩
   | false =>
    have V : lnV k s 0 true false n ll nm pl nms ins = false := by simp [lnV, eqE, eqE1, *]
    rw [V]
    clear V
    have E0 := xc 0 (.int .i64 k) rfl
    have E1 := xc 1 (.string s) rfl
    have E2 := xc 2 (.int .i64 0) rfl
    have E3 := xc 3 (.int .i64 sf) rfl
    have E4 := xc 4 (.int .i64 sr) rfl
    have E5 := xc 5 (.int .i64 sk) rfl
    have E6 := xc 6 (.int .i64 sn) rfl
    have E7 := xc 7 (.string ss) rfl
    have E8 := xc 8 (.slice b1 sl c1) rfl
    have E9 := xc 9 (.int .i64 df) rfl
    have E10 := xc 10 (.int .i64 dr) rfl
    have E11 := xc 11 (.int .i64 dk) rfl
    have E12 := xc 12 (.int .i64 dn) rfl
    have E13 := xc 13 (.string ds) rfl
    have E14 := xc 14 (.slice b2 dl c2) rfl
    have E15 := xc 15 (.int .i64 n) rfl
    have E16 := xc 16 (.slice b3 ll c3) rfl
    clear xc
    go_enter Tryz.func22, Tryz.ntmps22
    go_wp2_with (first | (go_at_call 61; refine (in_any _ _ _ _).mono ?_; rintro e w' ⟨rfl, hw'⟩; rw [hw']; clear hw' w') | (go_at_call_of 73 sf; refine (Sub.call (uh HZ) (uh N1 _)).mono ?_; rintro r _ ⟨rfl, z2, rfl⟩) | (go_at_call_of 73 df; refine (Sub.call (uh HZ) (uh N2 _)).mono ?_; rintro r _ ⟨rfl, z2, rfl⟩) | (go_at_call 75; refine (Sub.call (uh HZ) (uh PL _)).mono ?_; rintro r _ ⟨rfl, z2, rfl⟩) | (go_at_call 74; refine (Sub.call (uh HZ) (uh NM _)).mono ?_; rintro r _ ⟨rfl, z2, rfl⟩) | (go_at_call 76; refine (Sub.call (uh HZ) (uh NS _)).mono ?_; rintro r _ ⟨rfl, z2, rfl⟩) | (go_at_call 72; refine (Sub.call (uh HZ) (uh IN _)).mono ?_; rintro r _ ⟨rfl, z2, rfl⟩))
    go_ret
    exact ⟨rfl, uh HB _⟩
  | false =>
   have V : lnV k s 0 false n2 n ll nm pl nms ins = false := by simp [lnV, eqE, eqE1, *]
   rw [V]
   clear V
   have E0 := xc 0 (.int .i64 k) rfl
   have E1 := xc 1 (.string s) rfl
   have E2 := xc 2 (.int .i64 0) rfl
   have E3 := xc 3 (.int .i64 sf) rfl
   have E4 := xc 4 (.int .i64 sr) rfl
   have E5 := xc 5 (.int .i64 sk) rfl
   have E6 := xc 6 (.int .i64 sn) rfl
   have E7 := xc 7 (.string ss) rfl
   have E8 := xc 8 (.slice b1 sl c1) rfl
   have E9 := xc 9 (.int .i64 df) rfl
   have E10 := xc 10 (.int .i64 dr) rfl
   have E11 := xc 11 (.int .i64 dk) rfl
   have E12 := xc 12 (.int .i64 dn) rfl
   have E13 := xc 13 (.string ds) rfl
   have E14 := xc 14 (.slice b2 dl c2) rfl
   have E15 := xc 15 (.int .i64 n) rfl
   have E16 := xc 16 (.slice b3 ll c3) rfl
   clear xc
   go_enter Tryz.func22, Tryz.ntmps22
   go_wp2_with (first | (go_at_call 61; refine (in_any _ _ _ _).mono ?_; rintro e w' ⟨rfl, hw'⟩; rw [hw']; clear hw' w') | (go_at_call_of 73 sf; refine (Sub.call (uh HZ) (uh N1 _)).mono ?_; rintro r _ ⟨rfl, z2, rfl⟩) | (go_at_call_of 73 df; refine (Sub.call (uh HZ) (uh N2 _)).mono ?_; rintro r _ ⟨rfl, z2, rfl⟩) | (go_at_call 75; refine (Sub.call (uh HZ) (uh PL _)).mono ?_; rintro r _ ⟨rfl, z2, rfl⟩) | (go_at_call 74; refine (Sub.call (uh HZ) (uh NM _)).mono ?_; rintro r _ ⟨rfl, z2, rfl⟩) | (go_at_call 76; refine (Sub.call (uh HZ) (uh NS _)).mono ?_; rintro r _ ⟨rfl, z2, rfl⟩) | (go_at_call 72; refine (Sub.call (uh HZ) (uh IN _)).mono ?_; rintro r _ ⟨rfl, z2, rfl⟩))
   go_ret
   exact ⟨rfl, uh HB _⟩
 have h96f : (op == 0) = false := beq_eq_false_iff_ne.2 h96
 have V : lnV k s op n1 n2 n ll nm pl nms ins = false := by simp [lnV, eqE, eqE1, *]
 rw [V]
 clear V
 have E0 := xc 0 (.int .i64 k) rfl
 have E1 := xc 1 (.string s) rfl
 have E2 := xc 2 (.int .i64 op) rfl
 have E3 := xc 3 (.int .i64 sf) rfl
 have E4 := xc 4 (.int .i64 sr) rfl
 have E5 := xc 5 (.int .i64 sk) rfl
 have E6 := xc 6 (.int .i64 sn) rfl
 have E7 := xc 7 (.string ss) rfl
 have E8 := xc 8 (.slice b1 sl c1) rfl
 have E9 := xc 9 (.int .i64 df) rfl
 have E10 := xc 10 (.int .i64 dr) rfl
 have E11 := xc 11 (.int .i64 dk) rfl
 have E12 := xc 12 (.int .i64 dn) rfl
 have E13 := xc 13 (.string ds) rfl
 have E14 := xc 14 (.slice b2 dl c2) rfl
 have E15 := xc 15 (.int .i64 n) rfl
 have E16 := xc 16 (.slice b3 ll c3) rfl
 clear xc
 go_enter Tryz.func22, Tryz.ntmps22
 go_wp2_with (first | (go_at_call 61; refine (in_any _ _ _ _).mono ?_; rintro e w' ⟨rfl, hw'⟩; rw [hw']; clear hw' w') | (go_at_call_of 73 sf; refine (Sub.call (uh HZ) (uh N1 _)).mono ?_; rintro r _ ⟨rfl, z2, rfl⟩) | (go_at_call_of 73 df; refine (Sub.call (uh HZ) (uh N2 _)).mono ?_; rintro r _ ⟨rfl, z2, rfl⟩) | (go_at_call 75; refine (Sub.call (uh HZ) (uh PL _)).mono ?_; rintro r _ ⟨rfl, z2, rfl⟩) | (go_at_call 74; refine (Sub.call (uh HZ) (uh NM _)).mono ?_; rintro r _ ⟨rfl, z2, rfl⟩) | (go_at_call 76; refine (Sub.call (uh HZ) (uh NS _)).mono ?_; rintro r _ ⟨rfl, z2, rfl⟩) | (go_at_call 72; refine (Sub.call (uh HZ) (uh IN _)).mono ?_; rintro r _ ⟨rfl, z2, rfl⟩))
 go_ret
 exact ⟨rfl, uh HB _⟩
def twoT (ts0 : List Tk) (s : ByteArray) (ts1 : List Tk) : List Tk := Tk.mk 4 0 ⟨#[60]⟩ :: (ts0 ++ (Tk.mk 4 0 s :: (ts1 ++ [Tk.mk 4 0 ⟨#[62]⟩])))
theorem toksS_two (k : Int) (hk : 5 ≤ k ∧ k ≤ 10) (c0 c1 : Option Addr) (cp0 cp1 p po cap : Nat) (a b : Ex) (ts0 ts1 : List Tk) (w : World) (hts0 : ts0 ≠ []) (hts1 : ts1 ≠ []) (h80 : ts0.length ≤ 200) (h81 : ts1.length ≤ 200) (hp : p < w.heap.size) (e00 : w.cell? ⟨p, po, none⟩ = some (.int .i64 a.k)) (e01 : w.cell? ⟨p, po + 1, none⟩ = some (.int .i64 a.n)) (e02 : w.cell? ⟨p, po + 2, none⟩ = some (.string a.s)) (e03 : w.cell? ⟨p, po + 3, none⟩ = some (.slice c0 a.l.length cp0)) (ih0 : ∀ w1, Below w.heap.size w w1 → Calls Tryz.prog 126 #[.agg (a.cs c0 cp0)] w1 fun r w' => ∃ v, r = .returned v ∧ OwnT w' w1.heap.size v ts0 ∧ Below w1.heap.size w1 w') (e10 : w.cell? ⟨p, po + 4, none⟩ = some (.int .i64 b.k)) (e11 : w.cell? ⟨p, po + 4 + 1, none⟩ = some (.int .i64 b.n)) (e12 : w.cell? ⟨p, po + 4 + 2, none⟩ = some (.string b.s)) (e13 : w.cell? ⟨p, po + 4 + 3, none⟩ = some (.slice c1 b.l.length cp1)) (ih1 : ∀ w1, Below w.heap.size w w1 → Calls Tryz.prog 126 #[.agg (b.cs c1 cp1)] w1 fun r w' => ∃ v, r = .returned v ∧ OwnT w' w1.heap.size v ts1 ∧ Below w1.heap.size w1 w') : Calls Tryz.prog 126 #[.agg #[.int .i64 k, .int .i64 0, .string ⟨#[]⟩, .slice (some ⟨p, po, none⟩) 2 cap]] w fun r w' => ∃ v, r = .returned v ∧ OwnT w' w.heap.size v (twoT ts0 (mkS (sgnC k)) ts1) ∧ Below w.heap.size w w' := by
 obtain ⟨W, hW⟩ : ∃ W, w.alloc (.cells #[.int .i64 k, .int .i64 0, .string ⟨#[]⟩, .slice (some ⟨p, po, none⟩) 2 cap] 26) = W := ⟨_, rfl⟩
 have B0 := hide (below_new w (.cells #[.int .i64 k, .int .i64 0, .string ⟨#[]⟩, .slice (some ⟨p, po, none⟩) 2 cap] 26))
 have hg : W.heap[w.heap.size]? = some (.cells #[.int .i64 k, .int .i64 0, .string ⟨#[]⟩, .slice (some ⟨p, po, none⟩) 2 cap] 26 (0, 0)) := by rw [← hW]; exact Array.getElem?_push_size
 rw [hW] at B0
 have x0 := Lib.cell_of_heap hg 0
 have xl : w.heap.size < W.heap.size := (Array.getElem?_eq_some_iff.1 hg).1
 have Y0 := hide (fun w1 (hb : Below W.heap.size W w1) => (hb.cell (p := ⟨w.heap.size, 0, none⟩) xl).trans (Lib.cell_of_heap hg 0))
 have Y3 := hide (fun w1 (hb : Below W.heap.size W w1) => (hb.cell (p := ⟨w.heap.size, 3, none⟩) xl).trans (Lib.cell_of_heap hg 3))
 have U00 := hide (fun w1 (hb : Below W.heap.size W w1) => (hb.cell (p := ⟨p, po, none⟩) (Nat.lt_trans hp xl)).trans (((uh B0).cell (p := ⟨p, po, none⟩) hp).trans e00))
 have U01 := hide (fun w1 (hb : Below W.heap.size W w1) => (hb.cell (p := ⟨p, po + 1, none⟩) (Nat.lt_trans hp xl)).trans (((uh B0).cell (p := ⟨p, po + 1, none⟩) hp).trans e01))
 have U02 := hide (fun w1 (hb : Below W.heap.size W w1) => (hb.cell (p := ⟨p, po + 2, none⟩) (Nat.lt_trans hp xl)).trans (((uh B0).cell (p := ⟨p, po + 2, none⟩) hp).trans e02))
 have U03 := hide (fun w1 (hb : Below W.heap.size W w1) => (hb.cell (p := ⟨p, po + 3, none⟩) (Nat.lt_trans hp xl)).trans (((uh B0).cell (p := ⟨p, po + 3, none⟩) hp).trans e03))
 have I0 := hide (fun w1 (hb : Below W.heap.size W w1) => ih0 w1 ((uh B0).trans (hb.mono (uh B0).size)))
 have U10 := hide (fun w1 (hb : Below W.heap.size W w1) => (hb.cell (p := ⟨p, po + 4, none⟩) (Nat.lt_trans hp xl)).trans (((uh B0).cell (p := ⟨p, po + 4, none⟩) hp).trans e10))
 have U11 := hide (fun w1 (hb : Below W.heap.size W w1) => (hb.cell (p := ⟨p, po + 4 + 1, none⟩) (Nat.lt_trans hp xl)).trans (((uh B0).cell (p := ⟨p, po + 4 + 1, none⟩) hp).trans e11))
 have U12 := hide (fun w1 (hb : Below W.heap.size W w1) => (hb.cell (p := ⟨p, po + 4 + 2, none⟩) (Nat.lt_trans hp xl)).trans (((uh B0).cell (p := ⟨p, po + 4 + 2, none⟩) hp).trans e12))
 have U13 := hide (fun w1 (hb : Below W.heap.size W w1) => (hb.cell (p := ⟨p, po + 4 + 3, none⟩) (Nat.lt_trans hp xl)).trans (((uh B0).cell (p := ⟨p, po + 4 + 3, none⟩) hp).trans e13))
 have I1 := hide (fun w1 (hb : Below W.heap.size W w1) => ih1 w1 ((uh B0).trans (hb.mono (uh B0).size)))
 have MK := hide (fun x w1 => markS_ex x w1)
 have SG := hide (fun w1 => signS_any k hk w1)
 obtain ⟨i0, hi, hz0, hz1, hz2⟩ := info_parts infoT
 have g1 : (k == 1) = false := beq_eq_false_iff_ne.2 (by omega)
 have g2 : (k == 2) = false := beq_eq_false_iff_ne.2 (by omega)
 have g3 : (k == 3) = false := beq_eq_false_iff_ne.2 (by omega)
 have g4 : (k == 4) = false := beq_eq_false_iff_ne.2 (by omega)
 clear hg xl ih0 ih1 e00 e01 e02 e03 e10 e11 e12 e13 hp hk
 unfold Ex.cs at I0 I1
 unfold Tk.v Tk.cs at MK
 simp only at MK
 generalize a.k = ak at *
 generalize a.n = an at *
 generalize a.s = asv at *
 generalize a.l.length = al at *
 generalize b.k = bk at *
 generalize b.n = bn at *
 generalize b.s = bsv at *
 generalize b.l.length = bl at *
 generalize mkS (sgnC k) = sg at *
 go_enter Tryz.func126, Tryz.ntmps126
 go_wp2_with fail
 have D0 := hide (show Below W.heap.size W W.drew from below_drew)
 refine wp_region_held_drew (S := fun w' => Below W.heap.size W w') (by kernel_rfl) (uh D0) (fun hS => ?_)
 have HS := hide hS
 clear hS
 refine tkB 2 (.pointer (some ⟨w.heap.size, 3, none⟩)) rfl (uh HS) ?_
 go_simp
 refine tkA 3 (.slice (some ⟨p, po, none⟩) 2 cap) rfl (.inl ⟨by rfl, fun w hc => ?_⟩) (uh HS) ?_
 · have q := uh Y3 _ hc; clear hc; go_simp
 go_simp
 refine tkB 4 (.pointer (some ⟨p, po, none⟩)) rfl (uh HS) ?_
 go_simp
 refine tkA 5 (.agg #[.int .i64 ak, .int .i64 an, .string asv, .slice c0 al cp0]) rfl (.inl ⟨by rfl, fun w hc => ?_⟩) (uh HS) ?_
 · have q0 := uh U00 _ hc; have q1 := uh U01 _ hc; have q2 := uh U02 _ hc; have q3 := uh U03 _ hc; clear hc; go_simp
 go_simp
 refine wpAnyH_ready (rs := [0]) (by kernel_rfl) (by simp) ?_
 refine AllReadyH.cons rfl (fun K2 hK => ?_) AllReadyH.nil
 go_simp
 refine (uh MK _ _).mono ?_
 rintro r w1 ⟨rfl, hb1⟩
 have D1 := hide ((uh D0).trans (hb1.mono (uh D0).size))
 refine hK.out _ _ (uh D1) (fun hS => ?_)
 clear HS
 have HS := hide hS
 clear hS hK K2
 clear hb1 D0
 refine wpAnyH_ready (rs := [1, 6]) (by kernel_rfl) (by simp) ?_
 refine AllReadyH.cons rfl (fun K2 hK => ?_) (AllReadyH.cons rfl (fun K2 hK => ?_) AllReadyH.nil)
 ·
  go_simp
  have D2 := hide ((uh D1).alloc (uh D1).size (.cells #[.int .i64 4, .int .i64 0, .string ⟨#[60]⟩] 71))
  have N2 := hide (ownT_new w1 (Tk.mk 4 0 ⟨#[60]⟩) W.heap.size (uh D1).size)
  unfold Tk.cs at N2
  simp only at N2
  generalize w1.heap.size = g1 at *
  generalize w1.alloc (.cells #[.int .i64 4, .int .i64 0, .string ⟨#[60]⟩] 71) = w2 at *
  refine hK.out _ _ (uh D2) (fun hS => ?_)
  clear HS
  have HS := hide hS
  clear hS hK K2
  refine wpAnyH_ready (rs := [6]) (by kernel_rfl) (by simp) ?_
  refine AllReadyH.cons rfl (fun K2 hK => ?_) AllReadyH.nil
  go_simp
  refine (uh I0 _ (uh D2)).mono ?_
  rintro r w3 ⟨v3, rfl, o3, hb3⟩
  have D3 := hide ((uh D2).trans (hb3.mono (uh D2).size))
  have O1 := hide ((uh N2).later hb3)
  obtain ⟨g2, c2, rfl, sr⟩ := (o3.base (uh D2).size).src hts0
  have SR := hide sr
  refine hK.out _ _ (uh D3) (fun hS => ?_)
  clear HS
  have HS := hide hS
  clear hS hK K2
  clear hb3 o3 sr N2 D2 D1
  refine wpAnyH_ready (rs := [7]) (by kernel_rfl) (by simp) ?_
  refine AllReadyH.cons rfl (fun K2 hK => ?_) AllReadyH.nil
  rw [if_pos (by rfl)]
  refine wp_append_own _ (.tmp 33) (.tmp 38) 39 rfl W.heap.size 71 i0 (.agg #[.int .i64 0, .int .i64 0, .string ⟨#[]⟩]) 3 32 Tryz.underlying39 hi hz0 hz1 hz2 rfl (by decide) (.slice (some ⟨g1, 0, none⟩) 1 1) 1 (cellsT [Tk.mk 4 0 ⟨#[60]⟩]) rfl (uh O1) ⟨g2, 0, none⟩ ts0.length c2 (cellsT ts0) rfl (cellsT_len ts0) (uh SR) (cellsT_one ts0) (by unfold maxLen; (try simp only [List.length_append, List.length_cons, List.length_nil]); omega) (by (try simp only [List.length_append, List.length_cons, List.length_nil]); omega) (uh D3).size ?_
  intro v5 w5 hown5 hgrow5 _
  have O5 := hide (ownT_join (ts := [Tk.mk 4 0 ⟨#[60]⟩]) (us := ts0) hown5)
  have D5 := hide ((uh D3).grown hgrow5 (uh D3).size (fun g hg => ((uh O1).lt hg).1))
  refine hK.out _ _ (uh D5) (fun hS => ?_)
  clear HS
  have HS := hide hS
  clear hS hK K2
  refine tkB 8 (v5) rfl (uh HS) ?_
  go_simp
  refine wpAnyH_done (by kernel_rfl) ?_ _
  clear hown5 hgrow5 O1 D3 SR
  clear HS
  have l5 : (([Tk.mk 4 0 ⟨#[60]⟩] ++ ts0).length : Nat) = ts0.length + 1 := by simp only [List.length_append, List.length_cons, List.length_nil]; omega
  generalize hus : [Tk.mk 4 0 ⟨#[60]⟩] ++ ts0 = us at *
  have H1 := hide hus
  clear hus
  go_wp2_with fail
  have D6 := hide ((uh D5).trans ((below_drew (w := w5)).mono (uh D5).size))
  have O6 := hide ((uh O5).later (below_drew (w := w5)))
  refine wp_region_held_drew (S := fun w' => Below W.heap.size W w') (by kernel_rfl) (uh D6) (fun hS => ?_)
  have HS := hide hS
  clear hS O5 D5
  refine tkB 0 (v5) rfl (uh HS) ?_
  go_simp
  refine tkB 1 (.pointer (some ⟨w.heap.size, 0, none⟩)) rfl (uh HS) ?_
  go_simp
  refine tkA 2 (.int .i64 k) rfl (.inl ⟨by rfl, fun w hc => ?_⟩) (uh HS) ?_
  · have q := uh Y0 _ hc; clear hc; go_simp
  go_simp
  refine tkB 7 (.pointer (some ⟨w.heap.size, 3, none⟩)) rfl (uh HS) ?_
  go_simp
  refine tkA 8 (.slice (some ⟨p, po, none⟩) 2 cap) rfl (.inl ⟨by rfl, fun w hc => ?_⟩) (uh HS) ?_
  · have q := uh Y3 _ hc; clear hc; go_simp
  go_simp
  refine tkB 9 (.pointer (some ⟨p, po + 4, none⟩)) rfl (uh HS) ?_
  go_simp
  refine tkA 10 (.agg #[.int .i64 bk, .int .i64 bn, .string bsv, .slice c1 bl cp1]) rfl (.inl ⟨by rfl, fun w hc => ?_⟩) (uh HS) ?_
  · have q0 := uh U10 _ hc; have q1 := uh U11 _ hc; have q2 := uh U12 _ hc; have q3 := uh U13 _ hc; clear hc; go_simp
  go_simp
  refine wpAnyH_ready (rs := [3]) (by kernel_rfl) (by simp) ?_
  refine AllReadyH.cons rfl (fun K2 hK => ?_) AllReadyH.nil
  go_simp
  refine (uh SG _).mono ?_
  rintro r w' ⟨rfl, hw'⟩
  rw [hw']
  clear hw' w'
  refine hK.out _ _ (uh D6) (fun hS => ?_)
  clear HS
  have HS := hide hS
  clear hS hK K2
  refine wpAnyH_ready (rs := [4]) (by kernel_rfl) (by simp) ?_
  refine AllReadyH.cons rfl (fun K2 hK => ?_) AllReadyH.nil
  go_simp
  refine (uh MK _ _).mono ?_
  rintro r w6 ⟨rfl, hb6⟩
  have D7 := hide ((uh D6).trans (hb6.mono (uh D6).size))
  have O7 := hide ((uh O6).later hb6)
  refine hK.out _ _ (uh D7) (fun hS => ?_)
  clear HS
  have HS := hide hS
  clear hS hK K2
  clear hb6 D6 O6
  refine wpAnyH_ready (rs := [5]) (by kernel_rfl) (by simp) ?_
  refine AllReadyH.cons rfl (fun K2 hK => ?_) AllReadyH.nil
  go_simp
  have D8 := hide ((uh D7).alloc (uh D7).size (.cells #[.int .i64 4, .int .i64 0, .string sg] 71))
  have O8 := hide ((uh O7).later (below_new w6 (.cells #[.int .i64 4, .int .i64 0, .string sg] 71)))
  have C8 := hide (cell_new w6 #[.int .i64 4, .int .i64 0, .string sg] 71)
  generalize w6.heap.size = g8 at *
  generalize w6.alloc (.cells #[.int .i64 4, .int .i64 0, .string sg] 71) = w8 at *
  refine hK.out _ _ (uh D8) (fun hS => ?_)
  clear HS
  have HS := hide hS
  clear hS hK K2
  clear D7 O7
  refine wpAnyH_ready (rs := [6]) (by kernel_rfl) (by simp) ?_
  refine AllReadyH.cons rfl (fun K2 hK => ?_) AllReadyH.nil
  rw [if_pos (by rfl)]
  refine wp_append_own _ (.tmp 40) (.tmp 45) 39 rfl W.heap.size 71 i0 (.agg #[.int .i64 0, .int .i64 0, .string ⟨#[]⟩]) 3 32 Tryz.underlying39 hi hz0 hz1 hz2 rfl (by decide) v5 us.length (cellsT us) rfl (uh O8) ⟨g8, 0, none⟩ 1 1 [.int .i64 4, .int .i64 0, .string sg] rfl rfl (uh C8) (newT_one _ _ _) (by unfold maxLen; (try simp only [List.length_append, List.length_cons, List.length_nil]); omega) (by (try simp only [List.length_append, List.length_cons, List.length_nil]); omega) (uh D8).size ?_
  intro v9 w9 hown9 hgrow9 _
  have O9 := hide (ownT_app (t := ⟨4, 0, sg⟩) hown9)
  have D9 := hide ((uh D8).grown hgrow9 (uh D8).size (fun g hg => ((uh O8).lt hg).1))
  refine hK.out _ _ (uh D9) (fun hS => ?_)
  clear HS
  have HS := hide hS
  clear hS hK K2
  clear hown9 hgrow9 O8 C8 D8
  refine wpAnyH_ready (rs := [11]) (by kernel_rfl) (by simp) ?_
  refine AllReadyH.cons rfl (fun K2 hK => ?_) AllReadyH.nil
  go_simp
  refine (uh I1 _ (uh D9)).mono ?_
  rintro r wa ⟨va, rfl, oa, hba⟩
  have DA := hide ((uh D9).trans (hba.mono (uh D9).size))
  have OA := hide ((uh O9).later hba)
  obtain ⟨ga, ca, rfl, sra⟩ := (oa.base (uh D9).size).src hts1
  have SRA := hide sra
  refine hK.out _ _ (uh DA) (fun hS => ?_)
  clear HS
  have HS := hide hS
  clear hS hK K2
  clear hba oa sra D9 O9
  have l9 : ((us ++ [Tk.mk 4 0 sg]).length : Nat) = us.length + 1 := by simp only [List.length_append, List.length_cons, List.length_nil]
  generalize hus : us ++ [Tk.mk 4 0 sg] = us1 at *
  have H2 := hide hus
  clear hus
  refine wpAnyH_ready (rs := [12]) (by kernel_rfl) (by simp) ?_
  refine AllReadyH.cons rfl (fun K2 hK => ?_) AllReadyH.nil
  rw [if_pos (by rfl)]
  refine wp_append_own _ (.tmp 46) (.tmp 51) 39 rfl W.heap.size 71 i0 (.agg #[.int .i64 0, .int .i64 0, .string ⟨#[]⟩]) 3 32 Tryz.underlying39 hi hz0 hz1 hz2 rfl (by decide) v9 us1.length (cellsT us1) rfl (uh OA) ⟨ga, 0, none⟩ ts1.length ca (cellsT ts1) rfl (cellsT_len ts1) (uh SRA) (cellsT_one ts1) (by unfold maxLen; (try simp only [List.length_append, List.length_cons, List.length_nil]); omega) (by (try simp only [List.length_append, List.length_cons, List.length_nil]); omega) (uh DA).size ?_
  intro vb wb hownb hgrowb _
  have OB := hide (ownT_join hownb)
  have DB := hide ((uh DA).grown hgrowb (uh DA).size (fun g hg => ((uh OA).lt hg).1))
  refine hK.out _ _ (uh DB) (fun hS => ?_)
  clear HS
  have HS := hide hS
  clear hS hK K2
  clear hownb hgrowb OA SRA DA
  refine tkB 13 (vb) rfl (uh HS) ?_
  go_simp
  refine wpAnyH_done (by kernel_rfl) ?_ _
  clear HS
  have lb : ((us1 ++ ts1).length : Nat) = us1.length + ts1.length := List.length_append
  generalize hus : us1 ++ ts1 = us2 at *
  have H3 := hide hus
  clear hus
  have MB := hide (uh MK ⟨#[62]⟩ wb)
  go_wp2_with fail
  refine (uh MB).mono ?_
  rintro r wc ⟨rfl, hbc⟩
  have DC := hide ((uh DB).trans (hbc.mono (uh DB).size))
  have OC := hide ((uh OB).later hbc)
  have CC := hide (cell_new wc #[.int .i64 4, .int .i64 0, .string ⟨#[62]⟩] 71)
  have hsz := (uh DC).size
  clear hbc MB DB OB
  go_wp2_with (at_builtin; go_must (refine wpList_append_own _ rfl (.tmp 53) (.tmp 55) 39 rfl W.heap.size 71 i0 (.agg #[.int .i64 0, .int .i64 0, .string ⟨#[]⟩]) 3 32 Tryz.underlying39 hi hz0 hz1 hz2 rfl (by decide) vb us2.length (cellsT us2) rfl (World.ownsRow.alloc (uh OC) _) ⟨wc.heap.size, 0, none⟩ 1 1 [.int .i64 4, .int .i64 0, .string ⟨#[62]⟩] rfl rfl (uh CC) (newT_one _ _ _) (by unfold maxLen; omega) (by omega) (by simp; omega) ?_; intro vd wd hownd hgrowd _; have OD := hide (ownT_app (t := ⟨4, 0, ⟨#[62]⟩⟩) hownd); have DD := hide (((uh DC).alloc (uh DC).size (.cells #[.int .i64 4, .int .i64 0, .string ⟨#[62]⟩] 71)).grown hgrowd (by simp; omega) (fun g hg => ((uh OC).lt hg).1)); clear hownd hgrowd OC CC))
  go_ret
  have E : us2 ++ [Tk.mk 4 0 ⟨#[62]⟩] = twoT ts0 sg ts1 := by rw [← uh H3, ← uh H2, ← uh H1]; simp [twoT]
  rw [E] at OD
  exact ⟨_, rfl, (uh OD).base (uh B0).size, (uh B0).trans ((uh DD).mono (uh B0).size)⟩
 ·
  go_simp
  refine (uh I0 _ (uh D1)).mono ?_
  rintro r w2 ⟨v3, rfl, o3, hb3⟩
  have D2 := hide ((uh D1).trans (hb3.mono (uh D1).size))
  have O3 := hide (o3.base (uh D1).size)
  refine hK.out _ _ (uh D2) (fun hS => ?_)
  clear HS
  have HS := hide hS
  clear hS hK K2
  clear hb3 o3
  refine wpAnyH_ready (rs := [1]) (by kernel_rfl) (by simp) ?_
  refine AllReadyH.cons rfl (fun K2 hK => ?_) AllReadyH.nil
  go_simp
  have D3 := hide ((uh D2).alloc (uh D2).size (.cells #[.int .i64 4, .int .i64 0, .string ⟨#[60]⟩] 71))
  have O1 := hide (ownT_new w2 (Tk.mk 4 0 ⟨#[60]⟩) W.heap.size (uh D2).size)
  obtain ⟨g2, c2, rfl, sr⟩ := ((uh O3).later (below_new w2 (.cells #[.int .i64 4, .int .i64 0, .string ⟨#[60]⟩] 71))).src hts0
  have SR := hide sr
  unfold Tk.cs at O1
  simp only at O1
  clear sr O3
  generalize w2.heap.size = g1 at *
  generalize w2.alloc (.cells #[.int .i64 4, .int .i64 0, .string ⟨#[60]⟩] 71) = w3 at *
  refine hK.out _ _ (uh D3) (fun hS => ?_)
  clear HS
  have HS := hide hS
  clear hS hK K2
  clear D2 D1
  refine wpAnyH_ready (rs := [7]) (by kernel_rfl) (by simp) ?_
  refine AllReadyH.cons rfl (fun K2 hK => ?_) AllReadyH.nil
  rw [if_pos (by rfl)]
  refine wp_append_own _ (.tmp 33) (.tmp 38) 39 rfl W.heap.size 71 i0 (.agg #[.int .i64 0, .int .i64 0, .string ⟨#[]⟩]) 3 32 Tryz.underlying39 hi hz0 hz1 hz2 rfl (by decide) (.slice (some ⟨g1, 0, none⟩) 1 1) 1 (cellsT [Tk.mk 4 0 ⟨#[60]⟩]) rfl (uh O1) ⟨g2, 0, none⟩ ts0.length c2 (cellsT ts0) rfl (cellsT_len ts0) (uh SR) (cellsT_one ts0) (by unfold maxLen; (try simp only [List.length_append, List.length_cons, List.length_nil]); omega) (by (try simp only [List.length_append, List.length_cons, List.length_nil]); omega) (uh D3).size ?_
  intro v5 w5 hown5 hgrow5 _
  have O5 := hide (ownT_join (ts := [Tk.mk 4 0 ⟨#[60]⟩]) (us := ts0) hown5)
  have D5 := hide ((uh D3).grown hgrow5 (uh D3).size (fun g hg => ((uh O1).lt hg).1))
  refine hK.out _ _ (uh D5) (fun hS => ?_)
  clear HS
  have HS := hide hS
  clear hS hK K2
  refine tkB 8 (v5) rfl (uh HS) ?_
  go_simp
  refine wpAnyH_done (by kernel_rfl) ?_ _
  clear hown5 hgrow5 O1 D3 SR
  clear HS
  have l5 : (([Tk.mk 4 0 ⟨#[60]⟩] ++ ts0).length : Nat) = ts0.length + 1 := by simp only [List.length_append, List.length_cons, List.length_nil]; omega
  generalize hus : [Tk.mk 4 0 ⟨#[60]⟩] ++ ts0 = us at *
  have H1 := hide hus
  clear hus
  go_wp2_with fail
  have D6 := hide ((uh D5).trans ((below_drew (w := w5)).mono (uh D5).size))
  have O6 := hide ((uh O5).later (below_drew (w := w5)))
  refine wp_region_held_drew (S := fun w' => Below W.heap.size W w') (by kernel_rfl) (uh D6) (fun hS => ?_)
  have HS := hide hS
  clear hS O5 D5
  refine tkB 0 (v5) rfl (uh HS) ?_
  go_simp
  refine tkB 1 (.pointer (some ⟨w.heap.size, 0, none⟩)) rfl (uh HS) ?_
  go_simp
  refine tkA 2 (.int .i64 k) rfl (.inl ⟨by rfl, fun w hc => ?_⟩) (uh HS) ?_
  · have q := uh Y0 _ hc; clear hc; go_simp
  go_simp
  refine tkB 7 (.pointer (some ⟨w.heap.size, 3, none⟩)) rfl (uh HS) ?_
  go_simp
  refine tkA 8 (.slice (some ⟨p, po, none⟩) 2 cap) rfl (.inl ⟨by rfl, fun w hc => ?_⟩) (uh HS) ?_
  · have q := uh Y3 _ hc; clear hc; go_simp
  go_simp
  refine tkB 9 (.pointer (some ⟨p, po + 4, none⟩)) rfl (uh HS) ?_
  go_simp
  refine tkA 10 (.agg #[.int .i64 bk, .int .i64 bn, .string bsv, .slice c1 bl cp1]) rfl (.inl ⟨by rfl, fun w hc => ?_⟩) (uh HS) ?_
  · have q0 := uh U10 _ hc; have q1 := uh U11 _ hc; have q2 := uh U12 _ hc; have q3 := uh U13 _ hc; clear hc; go_simp
  go_simp
  refine wpAnyH_ready (rs := [3]) (by kernel_rfl) (by simp) ?_
  refine AllReadyH.cons rfl (fun K2 hK => ?_) AllReadyH.nil
  go_simp
  refine (uh SG _).mono ?_
  rintro r w' ⟨rfl, hw'⟩
  rw [hw']
  clear hw' w'
  refine hK.out _ _ (uh D6) (fun hS => ?_)
  clear HS
  have HS := hide hS
  clear hS hK K2
  refine wpAnyH_ready (rs := [4]) (by kernel_rfl) (by simp) ?_
  refine AllReadyH.cons rfl (fun K2 hK => ?_) AllReadyH.nil
  go_simp
  refine (uh MK _ _).mono ?_
  rintro r w6 ⟨rfl, hb6⟩
  have D7 := hide ((uh D6).trans (hb6.mono (uh D6).size))
  have O7 := hide ((uh O6).later hb6)
  refine hK.out _ _ (uh D7) (fun hS => ?_)
  clear HS
  have HS := hide hS
  clear hS hK K2
  clear hb6 D6 O6
  refine wpAnyH_ready (rs := [5]) (by kernel_rfl) (by simp) ?_
  refine AllReadyH.cons rfl (fun K2 hK => ?_) AllReadyH.nil
  go_simp
  have D8 := hide ((uh D7).alloc (uh D7).size (.cells #[.int .i64 4, .int .i64 0, .string sg] 71))
  have O8 := hide ((uh O7).later (below_new w6 (.cells #[.int .i64 4, .int .i64 0, .string sg] 71)))
  have C8 := hide (cell_new w6 #[.int .i64 4, .int .i64 0, .string sg] 71)
  generalize w6.heap.size = g8 at *
  generalize w6.alloc (.cells #[.int .i64 4, .int .i64 0, .string sg] 71) = w8 at *
  refine hK.out _ _ (uh D8) (fun hS => ?_)
  clear HS
  have HS := hide hS
  clear hS hK K2
  clear D7 O7
  refine wpAnyH_ready (rs := [6]) (by kernel_rfl) (by simp) ?_
  refine AllReadyH.cons rfl (fun K2 hK => ?_) AllReadyH.nil
  rw [if_pos (by rfl)]
  refine wp_append_own _ (.tmp 40) (.tmp 45) 39 rfl W.heap.size 71 i0 (.agg #[.int .i64 0, .int .i64 0, .string ⟨#[]⟩]) 3 32 Tryz.underlying39 hi hz0 hz1 hz2 rfl (by decide) v5 us.length (cellsT us) rfl (uh O8) ⟨g8, 0, none⟩ 1 1 [.int .i64 4, .int .i64 0, .string sg] rfl rfl (uh C8) (newT_one _ _ _) (by unfold maxLen; (try simp only [List.length_append, List.length_cons, List.length_nil]); omega) (by (try simp only [List.length_append, List.length_cons, List.length_nil]); omega) (uh D8).size ?_
  intro v9 w9 hown9 hgrow9 _
  have O9 := hide (ownT_app (t := ⟨4, 0, sg⟩) hown9)
  have D9 := hide ((uh D8).grown hgrow9 (uh D8).size (fun g hg => ((uh O8).lt hg).1))
  refine hK.out _ _ (uh D9) (fun hS => ?_)
  clear HS
  have HS := hide hS
  clear hS hK K2
  clear hown9 hgrow9 O8 C8 D8
  refine wpAnyH_ready (rs := [11]) (by kernel_rfl) (by simp) ?_
  refine AllReadyH.cons rfl (fun K2 hK => ?_) AllReadyH.nil
  go_simp
  refine (uh I1 _ (uh D9)).mono ?_
  rintro r wa ⟨va, rfl, oa, hba⟩
  have DA := hide ((uh D9).trans (hba.mono (uh D9).size))
  have OA := hide ((uh O9).later hba)
  obtain ⟨ga, ca, rfl, sra⟩ := (oa.base (uh D9).size).src hts1
  have SRA := hide sra
  refine hK.out _ _ (uh DA) (fun hS => ?_)
  clear HS
  have HS := hide hS
  clear hS hK K2
  clear hba oa sra D9 O9
  have l9 : ((us ++ [Tk.mk 4 0 sg]).length : Nat) = us.length + 1 := by simp only [List.length_append, List.length_cons, List.length_nil]
  generalize hus : us ++ [Tk.mk 4 0 sg] = us1 at *
  have H2 := hide hus
  clear hus
  refine wpAnyH_ready (rs := [12]) (by kernel_rfl) (by simp) ?_
  refine AllReadyH.cons rfl (fun K2 hK => ?_) AllReadyH.nil
  rw [if_pos (by rfl)]
  refine wp_append_own _ (.tmp 46) (.tmp 51) 39 rfl W.heap.size 71 i0 (.agg #[.int .i64 0, .int .i64 0, .string ⟨#[]⟩]) 3 32 Tryz.underlying39 hi hz0 hz1 hz2 rfl (by decide) v9 us1.length (cellsT us1) rfl (uh OA) ⟨ga, 0, none⟩ ts1.length ca (cellsT ts1) rfl (cellsT_len ts1) (uh SRA) (cellsT_one ts1) (by unfold maxLen; (try simp only [List.length_append, List.length_cons, List.length_nil]); omega) (by (try simp only [List.length_append, List.length_cons, List.length_nil]); omega) (uh DA).size ?_
  intro vb wb hownb hgrowb _
  have OB := hide (ownT_join hownb)
  have DB := hide ((uh DA).grown hgrowb (uh DA).size (fun g hg => ((uh OA).lt hg).1))
  refine hK.out _ _ (uh DB) (fun hS => ?_)
  clear HS
  have HS := hide hS
  clear hS hK K2
  clear hownb hgrowb OA SRA DA
  refine tkB 13 (vb) rfl (uh HS) ?_
  go_simp
  refine wpAnyH_done (by kernel_rfl) ?_ _
  clear HS
  have lb : ((us1 ++ ts1).length : Nat) = us1.length + ts1.length := List.length_append
  generalize hus : us1 ++ ts1 = us2 at *
  have H3 := hide hus
  clear hus
  have MB := hide (uh MK ⟨#[62]⟩ wb)
  go_wp2_with fail
  refine (uh MB).mono ?_
  rintro r wc ⟨rfl, hbc⟩
  have DC := hide ((uh DB).trans (hbc.mono (uh DB).size))
  have OC := hide ((uh OB).later hbc)
  have CC := hide (cell_new wc #[.int .i64 4, .int .i64 0, .string ⟨#[62]⟩] 71)
  have hsz := (uh DC).size
  clear hbc MB DB OB
  go_wp2_with (at_builtin; go_must (refine wpList_append_own _ rfl (.tmp 53) (.tmp 55) 39 rfl W.heap.size 71 i0 (.agg #[.int .i64 0, .int .i64 0, .string ⟨#[]⟩]) 3 32 Tryz.underlying39 hi hz0 hz1 hz2 rfl (by decide) vb us2.length (cellsT us2) rfl (World.ownsRow.alloc (uh OC) _) ⟨wc.heap.size, 0, none⟩ 1 1 [.int .i64 4, .int .i64 0, .string ⟨#[62]⟩] rfl rfl (uh CC) (newT_one _ _ _) (by unfold maxLen; omega) (by omega) (by simp; omega) ?_; intro vd wd hownd hgrowd _; have OD := hide (ownT_app (t := ⟨4, 0, ⟨#[62]⟩⟩) hownd); have DD := hide (((uh DC).alloc (uh DC).size (.cells #[.int .i64 4, .int .i64 0, .string ⟨#[62]⟩] 71)).grown hgrowd (by simp; omega) (fun g hg => ((uh OC).lt hg).1)); clear hownd hgrowd OC CC))
  go_ret
  have E : us2 ++ [Tk.mk 4 0 ⟨#[62]⟩] = twoT ts0 sg ts1 := by rw [← uh H3, ← uh H2, ← uh H1]; simp [twoT]
  rw [E] at OD
  exact ⟨_, rfl, (uh OD).base (uh B0).size, (uh B0).trans ((uh DD).mono (uh B0).size)⟩
theorem mxT_le : ∀ d, d ≤ 6 → mxT d ≤ 200 := by
 intro d h
 have : d = 0 ∨ d = 1 ∨ d = 2 ∨ d = 3 ∨ d = 4 ∨ d = 5 ∨ d = 6 := by omega
 rcases this with rfl | rfl | rfl | rfl | rfl | rfl | rfl <;> decide
theorem toks_ne {d : Nat} {e : Ex} (h : okF d true e = true) : toksF d e ≠ [] := by
 cases d with
 | zero => cases h
 | succ d =>
  rcases plain_cases h with ⟨n, hn, rfl⟩ | ⟨s, hs, rfl⟩ | rfl | ⟨a, ha, rfl⟩ | ⟨k, a, b, hk, ha, hb, rfl⟩
  · rw [toks_num]; simp
  · rw [toks_sym]; simp
  · rw [toks_here]; simp
  · rw [toks_neg]; simp
  · rw [toks_two d hk]; simp
theorem toksS_all : ∀ d : Nat, d ≤ 6 → ToksP d := by
 intro d
 induction d with
 | zero => intro _ e b cap w h; cases h
 | succ d ih =>
  intro hd e b cap w h hr
  have ihd := ih (by omega)
  have hm := mxT_le d (by omega)
  rcases plain_cases h with ⟨n, hn, rfl⟩ | ⟨s, hs, rfl⟩ | rfl | ⟨x, ha, rfl⟩ | ⟨k, x, y, hk, ha, hb, rfl⟩
  · rw [toks_num]; exact toksS_num n ⟨#[]⟩ b cap w
  · rw [toks_sym]; exact toksS_sym 0 s b cap w
  · rw [toks_here]; exact toksS_here b cap w
  ·
   rw [toks_neg]
   rw [RdX_eq] at hr
   rcases hr with h0 | ⟨p, po, rfl, _, hp, hc⟩
   · cases h0
   obtain ⟨e0, e1, e2, c0, cp0, e3, e4⟩ := hc 0 (by simp)
   simp only [Nat.zero_mul, Nat.add_zero] at e0 e1 e2 e3
   have hl := (toks_ok d x ha).2
   exact toksS_neg c0 cp0 p po cap x (toksF d x) w (toks_ne ha) (by omega) hp e0 e1 e2 e3 (fun w1 hb => ihd x c0 cp0 w1 ha (e4.later hb))
  ·
   rw [toks_two d hk]
   rw [RdX_eq] at hr
   rcases hr with h0 | ⟨p, po, rfl, _, hp, hc⟩
   · cases h0
   obtain ⟨e0, e1, e2, c0, cp0, e3, e4⟩ := hc 0 (by simp)
   obtain ⟨f0, f1, f2, c1, cp1, f3, f4⟩ := hc 1 (by simp)
   simp only [Nat.zero_mul, Nat.add_zero] at e0 e1 e2 e3
   simp only [Nat.one_mul] at f0 f1 f2 f3
   have hl := (toks_ok d x ha).2
   have hl2 := (toks_ok d y hb).2
   have T := toksS_two k hk c0 c1 cp0 cp1 p po cap x y (toksF d x) (toksF d y) w (toks_ne ha) (toks_ne hb) (by omega) (by omega) hp e0 e1 e2 e3 (fun w1 hb => ihd x c0 cp0 w1 ha (e4.later hb)) f0 f1 f2 f3 (fun w1 hb1 => ihd y c1 cp1 w1 hb (f4.later hb1))
   exact T
section
theorem Sub.step {B : Nat} {w0 : World} {x : Sub B w0} (hB : B ≤ w0.heap.size) {w' : World} (hb : Below x.w.heap.size x.w w') : ∃ y : Sub B w0, w' = y.w := ⟨⟨w', x.h.trans (hb.mono (Nat.le_trans hB x.h.size))⟩, rfl⟩
section
variable {ops : Array Oper} {rest : List Oper} {o : Oper} {a : Act} {Q : Exit → Act → World → Prop} {w w0 : World} {B B2 : Nat} {K : Act → World → Prop}
theorem wp_appT (s x : Operand) (ho : o.op = .call { callee := .builtin .append, args := #[s, x], argTypes := #[39, 39] }) (hB : B ≤ w0.heap.size) (hD : Below B w0 w) {v v2 : Value} {ts us : List Tk} (hs : a.eval s = v) (hown : OwnT w B v ts) (hx : a.eval x = v2) (ho2 : OwnT w B2 v2 us) (hne : us ≠ []) (hl : ts.length + us.length ≤ 1000000)
  (h : ∀ (v' : Value) (y : Sub B w0), OwnT y.w B v' (ts ++ us) → K (a.put o.dst v') y.w) : o.wp Tryz.prog a w K Q := by
 obtain ⟨i0, hi, hz0, hz1, hz2⟩ := info_parts infoT
 obtain ⟨g, c, e, sr⟩ := ho2.src hne
 have hsz := hD.size
 refine wp_append_own w s x 39 ho B 71 i0 (.agg #[.int .i64 0, .int .i64 0, .string ⟨#[]⟩]) 3 32 Tryz.underlying39 hi hz0 hz1 hz2 rfl (by decide) v ts.length (cellsT ts) hs hown ⟨g, 0, none⟩ us.length c (cellsT us) (hx.trans e) (cellsT_len us) sr (cellsT_one us) (by unfold maxLen; omega) (by omega) (by omega) ?_
 intro v' w' h1 h2 _
 exact h v' ⟨w', hD.grown h2 (Nat.le_trans hB hD.size) (fun g hg => (hown.lt hg).1)⟩ (ownT_join h1)
theorem appT (hgd : o.guard = none) (s x : Operand) (ho : o.op = .call { callee := .builtin .append, args := #[s, x], argTypes := #[39, 39] }) (hB : B ≤ w0.heap.size) (hD : Below B w0 w) {v v2 : Value} {ts us : List Tk} (hs : a.eval s = v) (hown : OwnT w B v ts) (hx : a.eval x = v2) (ho2 : OwnT w B2 v2 us) (hne : us ≠ []) (hl : ts.length + us.length ≤ 1000000)
  (h : ∀ (v' : Value) (y : Sub B w0), OwnT y.w B v' (ts ++ us) → wpList Tryz.prog ops Q rest (a.put o.dst v') y.w) : wpList Tryz.prog ops Q (o :: rest) a w :=
 wpList_plain hgd fun _ hK => wp_appT s x ho hB hD hs hown hx ho2 hne hl fun v' y h1 => hK _ _ (h v' y h1)
end
theorem ownT_two (w : World) (t u : Tk) (B : Nat) (hB : B ≤ w.heap.size) : OwnT (w.alloc (.cells #[.int .i64 t.k, .int .i64 t.n, .string t.s, .int .i64 u.k, .int .i64 u.n, .string u.s] 71)) B (.slice (some ⟨w.heap.size, 0, none⟩) 2 2) [t, u] :=
 World.ownsRow_lit w #[.int .i64 t.k, .int .i64 t.n, .string t.s, .int .i64 u.k, .int .i64 u.n, .string u.s] 2 hB (by decide) rfl
theorem ownT_three (w : World) (t u x : Tk) (B : Nat) (hB : B ≤ w.heap.size) : OwnT (w.alloc (.cells #[.int .i64 t.k, .int .i64 t.n, .string t.s, .int .i64 u.k, .int .i64 u.n, .string u.s, .int .i64 x.k, .int .i64 x.n, .string x.s] 71)) B (.slice (some ⟨w.heap.size, 0, none⟩) 3 3) [t, u, x] :=
 World.ownsRow_lit w #[.int .i64 t.k, .int .i64 t.n, .string t.s, .int .i64 u.k, .int .i64 u.n, .string u.s, .int .i64 x.k, .int .i64 x.n, .string x.s] 3 hB (by decide) rfl
def kpT (k : Nat) : Tk := ⟨5, 0, keptL.getD k E0⟩
def rgT (n : Nat) : Tk := kpT (23 + n)
def rnT (n : Nat) : List Tk := [mkT 40, rgT n, mkT 41]
theorem keptL_len : keptL.length = 31 := by decide
theorem keptS (k : Nat) (hk : k < 31) (w : World) : Calls Tryz.prog 182 #[.int .i64 (k : Int)] w fun e w' => e = .returned (Tk.v (kpT k)) ∧ Below w.heap.size w w' := by
 have B0 := hide (below_new w (.cells T0c 71))
 have R0 := hide (heap_alloc_new w (.cells T0c 71))
 have KA := hide (kept_any (w.alloc (.cells T0c 71)))
 unfold T0c at B0 R0 KA
 unfold Tk.v Tk.cs kpT
 simp only
 have h1 : (k : Int) < 31 := by omega
 have h0 : (0 : Int) ≤ (k : Int) := by omega
 have h2 : ¬ ((k : Int) < 0) := by omega
 have h3 : ¬ ((31 : Int) ≤ (k : Int)) := by omega
 obtain ⟨s, hs⟩ : ∃ s, keptL.getD k E0 = s := ⟨_, rfl⟩
 have HS := hide hs
 rw [hs]
 clear hs
 go_enter Tryz.func182, Tryz.ntmps182
 go_wp2_with fail
 generalize w.alloc (.cells #[.int .i64 0, .int .i64 0, .string ⟨#[]⟩] 71) = W at *
 refine (uh KA).mono ?_
 rintro e w1 ⟨rfl, hr1, hb1⟩
 have c1 := (hr1 k (by rw [keptL_len]; omega)).trans (by rw [uh HS])
 have R1 := hide (row_keep (uh R0) hb1)
 have B1 := hide ((uh B0).trans (hb1.mono (uh B0).size))
 clear hr1 hb1 KA R0 B0
 generalize W.heap.size = g at *
 go_wp2_with (first | (refine wpList_store_row rfl 71 _ _ rfl w.heap.size #[.int .i64 5, .int .i64 0, .string s] rfl rfl 71 _ (uh R1) szK rfl (tk_one _ _ _) ?_))
 refine bodyPost_ret (results_cell_row (P := Tryz.prog) rfl _ _ w.heap.size 71 #[.int .i64 5, .int .i64 0, .string s] (0, 0) _ rfl (setRow_heap _ _ _ _ _ _ (uh R1)) Tryz.underlying71 rfl szK) rfl ?_
 exact ⟨rfl, below_row (uh B1)⟩
theorem regS (n : Nat) (hn : n < 8) (w : World) : Calls Tryz.prog 124 #[.int .i64 (n : Int)] w fun e w' => e = .returned (Tk.v (rgT n)) ∧ Below w.heap.size w w' := by
 have B0 := hide (below_new w (.cells T0c 71))
 have R0 := hide (heap_alloc_new w (.cells T0c 71))
 have KA' := keptS (23 + n) (by omega) (w.alloc (.cells T0c 71))
 rw [show ((23 + n : Nat) : Int) = 23 + (n : Int) by omega] at KA'
 unfold Tk.v Tk.cs kpT at KA'
 simp only at KA'
 have KA := hide KA'
 clear KA'
 unfold T0c at B0 R0 KA
 unfold rgT Tk.v Tk.cs kpT
 simp only
 generalize keptL.getD (23 + n) E0 = s at *
 have h1 : IntKind.i64.wrap (23 + (n : Int)) = 23 + (n : Int) := by rw [IntKind.wrap_i64]; omega
 go_enter Tryz.func124, Tryz.ntmps124
 go_wp2_with fail
 generalize w.alloc (.cells #[.int .i64 0, .int .i64 0, .string ⟨#[]⟩] 71) = W at *
 refine (uh KA).mono ?_
 rintro e w1 ⟨rfl, hb1⟩
 have R1 := hide (row_keep (uh R0) hb1)
 have B1 := hide ((uh B0).trans (hb1.mono (uh B0).size))
 clear hb1 KA R0 B0
 go_wp2_with (first | (refine wpList_store_row rfl 71 _ _ rfl w.heap.size #[.int .i64 5, .int .i64 0, .string s] rfl rfl 71 _ (uh R1) szK rfl (tk_one _ _ _) ?_))
 refine bodyPost_ret (results_cell_row (P := Tryz.prog) rfl _ _ w.heap.size 71 #[.int .i64 5, .int .i64 0, .string s] (0, 0) _ rfl (setRow_heap _ _ _ _ _ _ (uh R1)) Tryz.underlying71 rfl szK) rfl ?_
 exact ⟨rfl, below_row (uh B1)⟩
theorem rndS (n : Nat) (hn : n < 8) (w : World) : Calls Tryz.prog 125 #[.int .i64 (n : Int)] w fun r w' => ∃ v, r = .returned v ∧ OwnT w' w.heap.size v (rnT n) ∧ Below w.heap.size w w' := by
 have M1 := hide (markS_ex (mkS 40) w)
 have M2 := hide (fun w1 => regS n hn w1)
 have M3 := hide (fun w1 => markS_ex (mkS 41) w1)
 have OW := hide (fun (w1 : World) (h : w.heap.size ≤ w1.heap.size) => ownT_three w1 (mkT 40) (rgT n) (mkT 41) w.heap.size h)
 rw [show rnT n = [mkT 40, rgT n, mkT 41] from rfl]
 generalize hL : [mkT 40, rgT n, mkT 41] = L at *
 clear hL
 unfold mkT mkS at OW
 unfold rgT kpT at OW M2
 unfold Tk.v Tk.cs mkS at M1 M3
 unfold Tk.v Tk.cs at M2
 simp only at M1 M2 M3 OW
 generalize keptL.getD (23 + n) E0 = s at *
 go_enter Tryz.func125, Tryz.ntmps125
 go_wp2_with fail
 refine (uh M1).mono ?_
 rintro r w1 ⟨rfl, hb1⟩
 have B1 := hide hb1
 clear hb1
 go_wp2_with fail
 refine (uh M2 _).mono ?_
 rintro r w2 ⟨rfl, hb2⟩
 have B2 := hide ((uh B1).trans (hb2.mono (uh B1).size))
 clear hb2 B1
 go_wp2_with fail
 refine (uh M3 _).mono ?_
 rintro r w3 ⟨rfl, hb3⟩
 have B3 := hide ((uh B2).trans (hb3.mono (uh B2).size))
 have OV := hide (uh OW w3 (uh B3).size)
 clear hb3 B2
 go_wp2
 go_ret
 exact ⟨_, rfl, uh OV, (uh B3).alloc (uh B3).size _⟩
end
theorem lapp {ts us u : List Tk} {a b : Nat} (h : ts ++ us = u) (h1 : ts.length ≤ a) (h2 : us.length ≤ b) : u.length ≤ a + b := by rw [← h, List.length_append]; omega
theorem lsum {ts us : List Tk} {a b : Nat} (h1 : ts.length ≤ a) (h2 : us.length ≤ b) (h : a + b ≤ 1000000) : ts.length + us.length ≤ 1000000 := by omega
def agT (a : Ag) : List Tk :=
 if a.f = 0 then [rgT a.r.toNat] else if a.f = 1 then rnT a.r.toNat else if a.f = 2 then rnT a.r.toNat ++ [mkT 43] else if a.f = 3 then mkT 64 :: (rnT a.r.toNat ++ [mkT 43])
 else if a.f = 4 then mkT 45 :: rnT a.r.toNat else if a.f = 5 then mkT 64 :: mkT 45 :: rnT a.r.toNat else if a.f = 6 then toksF 6 a.e ++ rnT a.r.toNat else if a.f = 7 then mkT 64 :: (toksF 6 a.e ++ rnT a.r.toNat)
 else if a.f = 8 then mkT 35 :: toksF 6 a.e else if a.f = 9 then mkT 64 :: mkT 35 :: toksF 6 a.e else if a.f = 10 then toksF 6 a.e else mkT 64 :: toksF 6 a.e
theorem rnT_ne (n : Nat) : rnT n ≠ [] := by unfold rnT; simp
theorem rnT_le (n : Nat) : (rnT n).length ≤ 3 := Nat.le_refl 3
theorem one_ne (t : Tk) : [t] ≠ [] := by simp
theorem one_le (t : Tk) : [t].length ≤ 1 := Nat.le_refl 1
theorem agt0 (rn : Nat) (hrn : rn < 8) (e : Ex) (ok : True) (b : Option Addr) (cap : Nat) (w : World) (hr : RdX w 0 e b) : Calls Tryz.prog 60 #[.agg #[.int .i64 0, .int .i64 (rn : Int), .int .i64 e.k, .int .i64 e.n, .string e.s, .slice b e.l.length cap]] w fun r w' => ∃ v, r = .returned v ∧ OwnT w' w.heap.size v (agT ⟨0, (rn : Int), e⟩) ∧ Below w.heap.size w w' := by
 have hbW := below_new w (.cells #[.int .i64 0, .int .i64 (rn : Int), .int .i64 e.k, .int .i64 e.n, .string e.s, .slice b e.l.length cap] 28)
 obtain ⟨W, hW⟩ : ∃ W, w.alloc (.cells #[.int .i64 0, .int .i64 (rn : Int), .int .i64 e.k, .int .i64 e.n, .string e.s, .slice b e.l.length cap] 28) = W := ⟨_, rfl⟩
 have xl : w.heap.size < W.heap.size := by rw [← hW]; simp
 have hrW := hr.later hbW
 have xc : ∀ (i : Nat) (v : Value), (#[.int .i64 0, .int .i64 (rn : Int), .int .i64 e.k, .int .i64 e.n, .string e.s, .slice b e.l.length cap] : Array Value)[i]? = some v → ∀ w1, Below W.heap.size W w1 → w1.cell? ⟨w.heap.size, i, none⟩ = some v := fun i v h w1 hb => (hb.cell (p := ⟨w.heap.size, i, none⟩) xl).trans (by rw [← hW]; exact box17 w _ _ i v h)
 rw [hW] at hbW hrW
 obtain ⟨y0, hy0⟩ : ∃ z : Sub W.heap.size W, w.alloc (.cells #[.int .i64 0, .int .i64 (rn : Int), .int .i64 e.k, .int .i64 e.n, .string e.s, .slice b e.l.length cap] 28) = z.w := ⟨⟨W, Below.refl _ _⟩, hW⟩
 have ne := Sub.ne W.heap.size W
 have HZ := hide (Nat.le_refl W.heap.size)
 have HB := hide (fun y : Sub W.heap.size W => hbW.trans (y.h.mono hbW.size))
 have HO := hide (fun (y : Sub W.heap.size W) v ts (h : OwnT y.w W.heap.size v ts) => h.base hbW.size)
 have E0 : ∀ y : Sub W.heap.size W, y.w.cell? ⟨w.heap.size, 0, none⟩ = some (.int .i64 0) := fun y => xc 0 _ rfl y.w y.h
 have E1 : ∀ y : Sub W.heap.size W, y.w.cell? ⟨w.heap.size, 1, none⟩ = some (.int .i64 (rn : Int)) := fun y => xc 1 _ rfl y.w y.h
 have E2 : ∀ y : Sub W.heap.size W, y.w.cell? ⟨w.heap.size, 2, none⟩ = some (.int .i64 e.k) := fun y => xc 2 _ rfl y.w y.h
 have E3 : ∀ y : Sub W.heap.size W, y.w.cell? ⟨w.heap.size, 3, none⟩ = some (.int .i64 e.n) := fun y => xc 3 _ rfl y.w y.h
 have E4 : ∀ y : Sub W.heap.size W, y.w.cell? ⟨w.heap.size, 4, none⟩ = some (.string e.s) := fun y => xc 4 _ rfl y.w y.h
 have E5 : ∀ y : Sub W.heap.size W, y.w.cell? ⟨w.heap.size, 5, none⟩ = some (.slice b e.l.length cap) := fun y => xc 5 _ rfl y.w y.h
 have Y1 := hide (xc 1 _ rfl)
 have Y2 := hide (xc 2 _ rfl)
 have Y3 := hide (xc 3 _ rfl)
 have Y4 := hide (xc 4 _ rfl)
 have Y5 := hide (xc 5 _ rfl)
 have MK := hide (fun x w1 => markS_ex x w1)
 have RG := hide (fun w1 => regS rn hrn w1)
 have RN := hide (fun w1 => rndS rn hrn w1)
 have AT : agT ⟨0, (rn : Int), e⟩ = [rgT rn] := rfl
 rw [AT]
 clear AT ok hr hrW hW xc xl hbW hrn
 generalize e.k = ek at *
 generalize e.n = en at *
 generalize e.s = es at *
 generalize e.l.length = el at *
 unfold Tk.v Tk.cs at MK RG
 simp only at MK RG
 have rl := rnT_le rn
 have rne := rnT_ne rn
 generalize rnT rn = rt at *
 obtain ⟨T, hT⟩ : ∃ T, [rgT rn] = T := ⟨_, rfl⟩
 have HT := hide hT
 rw [hT]
 clear hT
 have l0 : ([] : List Tk).length ≤ 0 := Nat.le_refl 0
 obtain ⟨y1, hy1⟩ := Sub.step (uh HZ) (below_new y0.w (.cells #[] 71))
 have O1 := hide (show OwnT y1.w W.heap.size (.slice (some ⟨y0.w.heap.size, 0, none⟩) 0 0) [] by rw [← hy1]; exact ownT_empty y0.w W.heap.size (Nat.le_trans (uh HZ) y0.h.size))
 go_enter Tryz.func60, Tryz.ntmps60
 go_wp2_with fail
 refine (uh RG y1.w).mono ?_
 rintro r w2 ⟨rfl, hb⟩
 have O2 := hide ((uh O1).later hb)
 clear O1
 obtain ⟨y2, rfl⟩ := Sub.step (uh HZ) hb
 clear hb
 obtain ⟨y3, hy3⟩ := Sub.step (uh HZ) (below_new y2.w (.cells #[.int .i64 (rgT rn).k, .int .i64 (rgT rn).n, .string (rgT rn).s] 71))
 have S3 := hide (show OwnT y3.w W.heap.size (.slice (some ⟨y2.w.heap.size, 0, none⟩) 1 1) [rgT rn] by rw [← hy3]; exact ownT_new y2.w (rgT rn) W.heap.size (Nat.le_trans (uh HZ) y2.h.size))
 have O3 := hide (show OwnT y3.w W.heap.size (.slice (some ⟨y0.w.heap.size, 0, none⟩) 0 0) [] by rw [← hy3]; exact (uh O2).later (below_new _ _))
 clear O2
 go_wp2_with (at_builtin; go_must (refine appT rfl (.tmp 21) (.tmp 25) rfl (uh HZ) y3.h rfl (uh O3) rfl (uh S3) (one_ne _) (lsum l0 (one_le _) (by decide)) ?_; intro v4 y4 hO; obtain ⟨u4, hu⟩ : ∃ u, ([] ++ [rgT rn]) = u := ⟨_, rfl⟩; rw [hu] at hO; have l4 := lapp hu l0 (one_le _); have O4 := hide hO; have H4 := hide hu; clear hO hu O3 S3))
 have EQ : u4 = T := by
  rw [← uh HT]
  rw [← uh H4]
  simp [mkT, mkS]
 rw [EQ] at O4
 go_ret
 exact ⟨_, rfl, uh HO y4 _ _ (uh O4), uh HB y4⟩
theorem agt1 (rn : Nat) (hrn : rn < 8) (e : Ex) (ok : True) (b : Option Addr) (cap : Nat) (w : World) (hr : RdX w 0 e b) : Calls Tryz.prog 60 #[.agg #[.int .i64 1, .int .i64 (rn : Int), .int .i64 e.k, .int .i64 e.n, .string e.s, .slice b e.l.length cap]] w fun r w' => ∃ v, r = .returned v ∧ OwnT w' w.heap.size v (agT ⟨1, (rn : Int), e⟩) ∧ Below w.heap.size w w' := by
 have hbW := below_new w (.cells #[.int .i64 1, .int .i64 (rn : Int), .int .i64 e.k, .int .i64 e.n, .string e.s, .slice b e.l.length cap] 28)
 obtain ⟨W, hW⟩ : ∃ W, w.alloc (.cells #[.int .i64 1, .int .i64 (rn : Int), .int .i64 e.k, .int .i64 e.n, .string e.s, .slice b e.l.length cap] 28) = W := ⟨_, rfl⟩
 have xl : w.heap.size < W.heap.size := by rw [← hW]; simp
 have hrW := hr.later hbW
 have xc : ∀ (i : Nat) (v : Value), (#[.int .i64 1, .int .i64 (rn : Int), .int .i64 e.k, .int .i64 e.n, .string e.s, .slice b e.l.length cap] : Array Value)[i]? = some v → ∀ w1, Below W.heap.size W w1 → w1.cell? ⟨w.heap.size, i, none⟩ = some v := fun i v h w1 hb => (hb.cell (p := ⟨w.heap.size, i, none⟩) xl).trans (by rw [← hW]; exact box17 w _ _ i v h)
 rw [hW] at hbW hrW
 obtain ⟨y0, hy0⟩ : ∃ z : Sub W.heap.size W, w.alloc (.cells #[.int .i64 1, .int .i64 (rn : Int), .int .i64 e.k, .int .i64 e.n, .string e.s, .slice b e.l.length cap] 28) = z.w := ⟨⟨W, Below.refl _ _⟩, hW⟩
 have ne := Sub.ne W.heap.size W
 have HZ := hide (Nat.le_refl W.heap.size)
 have HB := hide (fun y : Sub W.heap.size W => hbW.trans (y.h.mono hbW.size))
 have HO := hide (fun (y : Sub W.heap.size W) v ts (h : OwnT y.w W.heap.size v ts) => h.base hbW.size)
 have E0 : ∀ y : Sub W.heap.size W, y.w.cell? ⟨w.heap.size, 0, none⟩ = some (.int .i64 1) := fun y => xc 0 _ rfl y.w y.h
 have E1 : ∀ y : Sub W.heap.size W, y.w.cell? ⟨w.heap.size, 1, none⟩ = some (.int .i64 (rn : Int)) := fun y => xc 1 _ rfl y.w y.h
 have E2 : ∀ y : Sub W.heap.size W, y.w.cell? ⟨w.heap.size, 2, none⟩ = some (.int .i64 e.k) := fun y => xc 2 _ rfl y.w y.h
 have E3 : ∀ y : Sub W.heap.size W, y.w.cell? ⟨w.heap.size, 3, none⟩ = some (.int .i64 e.n) := fun y => xc 3 _ rfl y.w y.h
 have E4 : ∀ y : Sub W.heap.size W, y.w.cell? ⟨w.heap.size, 4, none⟩ = some (.string e.s) := fun y => xc 4 _ rfl y.w y.h
 have E5 : ∀ y : Sub W.heap.size W, y.w.cell? ⟨w.heap.size, 5, none⟩ = some (.slice b e.l.length cap) := fun y => xc 5 _ rfl y.w y.h
 have Y1 := hide (xc 1 _ rfl)
 have Y2 := hide (xc 2 _ rfl)
 have Y3 := hide (xc 3 _ rfl)
 have Y4 := hide (xc 4 _ rfl)
 have Y5 := hide (xc 5 _ rfl)
 have MK := hide (fun x w1 => markS_ex x w1)
 have RG := hide (fun w1 => regS rn hrn w1)
 have RN := hide (fun w1 => rndS rn hrn w1)
 have AT : agT ⟨1, (rn : Int), e⟩ = rnT rn := rfl
 rw [AT]
 clear AT ok hr hrW hW xc xl hbW hrn
 generalize e.k = ek at *
 generalize e.n = en at *
 generalize e.s = es at *
 generalize e.l.length = el at *
 unfold Tk.v Tk.cs at MK RG
 simp only at MK RG
 have rl := rnT_le rn
 have rne := rnT_ne rn
 generalize rnT rn = rt at *
 obtain ⟨T, hT⟩ : ∃ T, rt = T := ⟨_, rfl⟩
 have HT := hide hT
 rw [hT]
 clear hT
 have l0 : ([] : List Tk).length ≤ 0 := Nat.le_refl 0
 obtain ⟨y1, hy1⟩ := Sub.step (uh HZ) (below_new y0.w (.cells #[] 71))
 have O1 := hide (show OwnT y1.w W.heap.size (.slice (some ⟨y0.w.heap.size, 0, none⟩) 0 0) [] by rw [← hy1]; exact ownT_empty y0.w W.heap.size (Nat.le_trans (uh HZ) y0.h.size))
 go_enter Tryz.func60, Tryz.ntmps60
 go_wp2_with fail
 refine (uh RN y1.w).mono ?_
 rintro r w2 ⟨vs, rfl, hS, hb⟩
 have O2 := hide ((uh O1).later hb)
 clear O1
 obtain ⟨y2, rfl⟩ := Sub.step (uh HZ) hb
 clear hb
 have SR := hide hS
 clear hS
 go_wp2_with (at_builtin; go_must (refine appT rfl (.tmp 29) (.tmp 32) rfl (uh HZ) y2.h rfl (uh O2) rfl (uh SR) rne (lsum l0 rl (by decide)) ?_; intro v3 y3 hO; obtain ⟨u3, hu⟩ : ∃ u, ([] ++ rt) = u := ⟨_, rfl⟩; rw [hu] at hO; have l3 := lapp hu l0 rl; have O3 := hide hO; have H3 := hide hu; clear hO hu O2 SR))
 have EQ : u3 = T := by
  rw [← uh HT]
  rw [← uh H3]
  simp [mkT, mkS]
 rw [EQ] at O3
 go_ret
 exact ⟨_, rfl, uh HO y3 _ _ (uh O3), uh HB y3⟩
theorem agt2 (rn : Nat) (hrn : rn < 8) (e : Ex) (ok : True) (b : Option Addr) (cap : Nat) (w : World) (hr : RdX w 0 e b) : Calls Tryz.prog 60 #[.agg #[.int .i64 2, .int .i64 (rn : Int), .int .i64 e.k, .int .i64 e.n, .string e.s, .slice b e.l.length cap]] w fun r w' => ∃ v, r = .returned v ∧ OwnT w' w.heap.size v (agT ⟨2, (rn : Int), e⟩) ∧ Below w.heap.size w w' := by
 have hbW := below_new w (.cells #[.int .i64 2, .int .i64 (rn : Int), .int .i64 e.k, .int .i64 e.n, .string e.s, .slice b e.l.length cap] 28)
 obtain ⟨W, hW⟩ : ∃ W, w.alloc (.cells #[.int .i64 2, .int .i64 (rn : Int), .int .i64 e.k, .int .i64 e.n, .string e.s, .slice b e.l.length cap] 28) = W := ⟨_, rfl⟩
 have xl : w.heap.size < W.heap.size := by rw [← hW]; simp
 have hrW := hr.later hbW
 have xc : ∀ (i : Nat) (v : Value), (#[.int .i64 2, .int .i64 (rn : Int), .int .i64 e.k, .int .i64 e.n, .string e.s, .slice b e.l.length cap] : Array Value)[i]? = some v → ∀ w1, Below W.heap.size W w1 → w1.cell? ⟨w.heap.size, i, none⟩ = some v := fun i v h w1 hb => (hb.cell (p := ⟨w.heap.size, i, none⟩) xl).trans (by rw [← hW]; exact box17 w _ _ i v h)
 rw [hW] at hbW hrW
 obtain ⟨y0, hy0⟩ : ∃ z : Sub W.heap.size W, w.alloc (.cells #[.int .i64 2, .int .i64 (rn : Int), .int .i64 e.k, .int .i64 e.n, .string e.s, .slice b e.l.length cap] 28) = z.w := ⟨⟨W, Below.refl _ _⟩, hW⟩
 have ne := Sub.ne W.heap.size W
 have HZ := hide (Nat.le_refl W.heap.size)
 have HB := hide (fun y : Sub W.heap.size W => hbW.trans (y.h.mono hbW.size))
 have HO := hide (fun (y : Sub W.heap.size W) v ts (h : OwnT y.w W.heap.size v ts) => h.base hbW.size)
 have E0 : ∀ y : Sub W.heap.size W, y.w.cell? ⟨w.heap.size, 0, none⟩ = some (.int .i64 2) := fun y => xc 0 _ rfl y.w y.h
 have E1 : ∀ y : Sub W.heap.size W, y.w.cell? ⟨w.heap.size, 1, none⟩ = some (.int .i64 (rn : Int)) := fun y => xc 1 _ rfl y.w y.h
 have E2 : ∀ y : Sub W.heap.size W, y.w.cell? ⟨w.heap.size, 2, none⟩ = some (.int .i64 e.k) := fun y => xc 2 _ rfl y.w y.h
 have E3 : ∀ y : Sub W.heap.size W, y.w.cell? ⟨w.heap.size, 3, none⟩ = some (.int .i64 e.n) := fun y => xc 3 _ rfl y.w y.h
 have E4 : ∀ y : Sub W.heap.size W, y.w.cell? ⟨w.heap.size, 4, none⟩ = some (.string e.s) := fun y => xc 4 _ rfl y.w y.h
 have E5 : ∀ y : Sub W.heap.size W, y.w.cell? ⟨w.heap.size, 5, none⟩ = some (.slice b e.l.length cap) := fun y => xc 5 _ rfl y.w y.h
 have Y1 := hide (xc 1 _ rfl)
 have Y2 := hide (xc 2 _ rfl)
 have Y3 := hide (xc 3 _ rfl)
 have Y4 := hide (xc 4 _ rfl)
 have Y5 := hide (xc 5 _ rfl)
 have MK := hide (fun x w1 => markS_ex x w1)
 have RG := hide (fun w1 => regS rn hrn w1)
 have RN := hide (fun w1 => rndS rn hrn w1)
 have AT : agT ⟨2, (rn : Int), e⟩ = rnT rn ++ [mkT 43] := rfl
 rw [AT]
 clear AT ok hr hrW hW xc xl hbW hrn
 generalize e.k = ek at *
 generalize e.n = en at *
 generalize e.s = es at *
 generalize e.l.length = el at *
 unfold Tk.v Tk.cs at MK RG
 simp only at MK RG
 have rl := rnT_le rn
 have rne := rnT_ne rn
 generalize rnT rn = rt at *
 obtain ⟨T, hT⟩ : ∃ T, rt ++ [mkT 43] = T := ⟨_, rfl⟩
 have HT := hide hT
 rw [hT]
 clear hT
 have l0 : ([] : List Tk).length ≤ 0 := Nat.le_refl 0
 obtain ⟨y1, hy1⟩ := Sub.step (uh HZ) (below_new y0.w (.cells #[] 71))
 have O1 := hide (show OwnT y1.w W.heap.size (.slice (some ⟨y0.w.heap.size, 0, none⟩) 0 0) [] by rw [← hy1]; exact ownT_empty y0.w W.heap.size (Nat.le_trans (uh HZ) y0.h.size))
 go_enter Tryz.func60, Tryz.ntmps60
 go_wp2_with fail
 refine (uh RN y1.w).mono ?_
 rintro r w2 ⟨vs, rfl, hS, hb⟩
 have O2 := hide ((uh O1).later hb)
 clear O1
 obtain ⟨y2, rfl⟩ := Sub.step (uh HZ) hb
 clear hb
 have SR := hide hS
 clear hS
 go_wp2_with (at_builtin; go_must (refine appT rfl (.tmp 37) (.tmp 40) rfl (uh HZ) y2.h rfl (uh O2) rfl (uh SR) rne (lsum l0 rl (by decide)) ?_; intro v3 y3 hO; obtain ⟨u3, hu⟩ : ∃ u, ([] ++ rt) = u := ⟨_, rfl⟩; rw [hu] at hO; have l3 := lapp hu l0 rl; have O3 := hide hO; have H3 := hide hu; clear hO hu O2 SR))
 refine (uh MK ⟨#[43]⟩ y3.w).mono ?_
 rintro r w4 ⟨rfl, hb⟩
 have O4 := hide ((uh O3).later hb)
 clear O3
 obtain ⟨y4, rfl⟩ := Sub.step (uh HZ) hb
 clear hb
 obtain ⟨y5, hy5⟩ := Sub.step (uh HZ) (below_new y4.w (.cells #[.int .i64 4, .int .i64 0, .string ⟨#[43]⟩] 71))
 have S5 := hide (show OwnT y5.w W.heap.size (.slice (some ⟨y4.w.heap.size, 0, none⟩) 1 1) [(Tk.mk 4 0 ⟨#[43]⟩)] by rw [← hy5]; exact ownT_new y4.w (Tk.mk 4 0 ⟨#[43]⟩) W.heap.size (Nat.le_trans (uh HZ) y4.h.size))
 have O5 := hide (show OwnT y5.w W.heap.size (v3) u3 by rw [← hy5]; exact (uh O4).later (below_new _ _))
 clear O4
 go_wp2_with (at_builtin; go_must (refine appT rfl (.tmp 41) (.tmp 43) rfl (uh HZ) y5.h rfl (uh O5) rfl (uh S5) (one_ne _) (lsum l3 (one_le _) (by decide)) ?_; intro v6 y6 hO; obtain ⟨u6, hu⟩ : ∃ u, (u3 ++ [(Tk.mk 4 0 ⟨#[43]⟩)]) = u := ⟨_, rfl⟩; rw [hu] at hO; have l6 := lapp hu l3 (one_le _); have O6 := hide hO; have H6 := hide hu; clear hO hu O5 S5))
 have EQ : u6 = T := by
  rw [← uh HT]
  rw [← uh H6, ← uh H3]
  simp [mkT, mkS]
 rw [EQ] at O6
 go_ret
 exact ⟨_, rfl, uh HO y6 _ _ (uh O6), uh HB y6⟩
theorem agt3 (rn : Nat) (hrn : rn < 8) (e : Ex) (ok : True) (b : Option Addr) (cap : Nat) (w : World) (hr : RdX w 0 e b) : Calls Tryz.prog 60 #[.agg #[.int .i64 3, .int .i64 (rn : Int), .int .i64 e.k, .int .i64 e.n, .string e.s, .slice b e.l.length cap]] w fun r w' => ∃ v, r = .returned v ∧ OwnT w' w.heap.size v (agT ⟨3, (rn : Int), e⟩) ∧ Below w.heap.size w w' := by
 have hbW := below_new w (.cells #[.int .i64 3, .int .i64 (rn : Int), .int .i64 e.k, .int .i64 e.n, .string e.s, .slice b e.l.length cap] 28)
 obtain ⟨W, hW⟩ : ∃ W, w.alloc (.cells #[.int .i64 3, .int .i64 (rn : Int), .int .i64 e.k, .int .i64 e.n, .string e.s, .slice b e.l.length cap] 28) = W := ⟨_, rfl⟩
 have xl : w.heap.size < W.heap.size := by rw [← hW]; simp
 have hrW := hr.later hbW
 have xc : ∀ (i : Nat) (v : Value), (#[.int .i64 3, .int .i64 (rn : Int), .int .i64 e.k, .int .i64 e.n, .string e.s, .slice b e.l.length cap] : Array Value)[i]? = some v → ∀ w1, Below W.heap.size W w1 → w1.cell? ⟨w.heap.size, i, none⟩ = some v := fun i v h w1 hb => (hb.cell (p := ⟨w.heap.size, i, none⟩) xl).trans (by rw [← hW]; exact box17 w _ _ i v h)
 rw [hW] at hbW hrW
 obtain ⟨y0, hy0⟩ : ∃ z : Sub W.heap.size W, w.alloc (.cells #[.int .i64 3, .int .i64 (rn : Int), .int .i64 e.k, .int .i64 e.n, .string e.s, .slice b e.l.length cap] 28) = z.w := ⟨⟨W, Below.refl _ _⟩, hW⟩
 have ne := Sub.ne W.heap.size W
 have HZ := hide (Nat.le_refl W.heap.size)
 have HB := hide (fun y : Sub W.heap.size W => hbW.trans (y.h.mono hbW.size))
 have HO := hide (fun (y : Sub W.heap.size W) v ts (h : OwnT y.w W.heap.size v ts) => h.base hbW.size)
 have E0 : ∀ y : Sub W.heap.size W, y.w.cell? ⟨w.heap.size, 0, none⟩ = some (.int .i64 3) := fun y => xc 0 _ rfl y.w y.h
 have E1 : ∀ y : Sub W.heap.size W, y.w.cell? ⟨w.heap.size, 1, none⟩ = some (.int .i64 (rn : Int)) := fun y => xc 1 _ rfl y.w y.h
 have E2 : ∀ y : Sub W.heap.size W, y.w.cell? ⟨w.heap.size, 2, none⟩ = some (.int .i64 e.k) := fun y => xc 2 _ rfl y.w y.h
 have E3 : ∀ y : Sub W.heap.size W, y.w.cell? ⟨w.heap.size, 3, none⟩ = some (.int .i64 e.n) := fun y => xc 3 _ rfl y.w y.h
 have E4 : ∀ y : Sub W.heap.size W, y.w.cell? ⟨w.heap.size, 4, none⟩ = some (.string e.s) := fun y => xc 4 _ rfl y.w y.h
 have E5 : ∀ y : Sub W.heap.size W, y.w.cell? ⟨w.heap.size, 5, none⟩ = some (.slice b e.l.length cap) := fun y => xc 5 _ rfl y.w y.h
 have Y1 := hide (xc 1 _ rfl)
 have Y2 := hide (xc 2 _ rfl)
 have Y3 := hide (xc 3 _ rfl)
 have Y4 := hide (xc 4 _ rfl)
 have Y5 := hide (xc 5 _ rfl)
 have MK := hide (fun x w1 => markS_ex x w1)
 have RG := hide (fun w1 => regS rn hrn w1)
 have RN := hide (fun w1 => rndS rn hrn w1)
 have AT : agT ⟨3, (rn : Int), e⟩ = mkT 64 :: (rnT rn ++ [mkT 43]) := rfl
 rw [AT]
 clear AT ok hr hrW hW xc xl hbW hrn
 generalize e.k = ek at *
 generalize e.n = en at *
 generalize e.s = es at *
 generalize e.l.length = el at *
 unfold Tk.v Tk.cs at MK RG
 simp only at MK RG
 have rl := rnT_le rn
 have rne := rnT_ne rn
 generalize rnT rn = rt at *
 obtain ⟨T, hT⟩ : ∃ T, mkT 64 :: (rt ++ [mkT 43]) = T := ⟨_, rfl⟩
 have HT := hide hT
 rw [hT]
 clear hT
 have l0 : ([] : List Tk).length ≤ 0 := Nat.le_refl 0
 obtain ⟨y1, hy1⟩ := Sub.step (uh HZ) (below_new y0.w (.cells #[] 71))
 have O1 := hide (show OwnT y1.w W.heap.size (.slice (some ⟨y0.w.heap.size, 0, none⟩) 0 0) [] by rw [← hy1]; exact ownT_empty y0.w W.heap.size (Nat.le_trans (uh HZ) y0.h.size))
 go_enter Tryz.func60, Tryz.ntmps60
 go_wp2_with fail
 refine (uh MK ⟨#[64]⟩ y1.w).mono ?_
 rintro r w2 ⟨rfl, hb⟩
 have O2 := hide ((uh O1).later hb)
 clear O1
 obtain ⟨y2, rfl⟩ := Sub.step (uh HZ) hb
 clear hb
 obtain ⟨y3, hy3⟩ := Sub.step (uh HZ) (below_new y2.w (.cells #[.int .i64 4, .int .i64 0, .string ⟨#[64]⟩] 71))
 have S3 := hide (show OwnT y3.w W.heap.size (.slice (some ⟨y2.w.heap.size, 0, none⟩) 1 1) [(Tk.mk 4 0 ⟨#[64]⟩)] by rw [← hy3]; exact ownT_new y2.w (Tk.mk 4 0 ⟨#[64]⟩) W.heap.size (Nat.le_trans (uh HZ) y2.h.size))
 have O3 := hide (show OwnT y3.w W.heap.size (.slice (some ⟨y0.w.heap.size, 0, none⟩) 0 0) [] by rw [← hy3]; exact (uh O2).later (below_new _ _))
 clear O2
 go_wp2_with (at_builtin; go_must (refine appT rfl (.tmp 13) (.tmp 15) rfl (uh HZ) y3.h rfl (uh O3) rfl (uh S3) (one_ne _) (lsum l0 (one_le _) (by decide)) ?_; intro v4 y4 hO; obtain ⟨u4, hu⟩ : ∃ u, ([] ++ [(Tk.mk 4 0 ⟨#[64]⟩)]) = u := ⟨_, rfl⟩; rw [hu] at hO; have l4 := lapp hu l0 (one_le _); have O4 := hide hO; have H4 := hide hu; clear hO hu O3 S3))
 refine (uh RN y4.w).mono ?_
 rintro r w5 ⟨vs, rfl, hS, hb⟩
 have O5 := hide ((uh O4).later hb)
 clear O4
 obtain ⟨y5, rfl⟩ := Sub.step (uh HZ) hb
 clear hb
 have SR := hide hS
 clear hS
 go_wp2_with (at_builtin; go_must (refine appT rfl (.tmp 37) (.tmp 40) rfl (uh HZ) y5.h rfl (uh O5) rfl (uh SR) rne (lsum l4 rl (by decide)) ?_; intro v6 y6 hO; obtain ⟨u6, hu⟩ : ∃ u, (u4 ++ rt) = u := ⟨_, rfl⟩; rw [hu] at hO; have l6 := lapp hu l4 rl; have O6 := hide hO; have H6 := hide hu; clear hO hu O5 SR))
 refine (uh MK ⟨#[43]⟩ y6.w).mono ?_
 rintro r w7 ⟨rfl, hb⟩
 have O7 := hide ((uh O6).later hb)
 clear O6
 obtain ⟨y7, rfl⟩ := Sub.step (uh HZ) hb
 clear hb
 obtain ⟨y8, hy8⟩ := Sub.step (uh HZ) (below_new y7.w (.cells #[.int .i64 4, .int .i64 0, .string ⟨#[43]⟩] 71))
 have S8 := hide (show OwnT y8.w W.heap.size (.slice (some ⟨y7.w.heap.size, 0, none⟩) 1 1) [(Tk.mk 4 0 ⟨#[43]⟩)] by rw [← hy8]; exact ownT_new y7.w (Tk.mk 4 0 ⟨#[43]⟩) W.heap.size (Nat.le_trans (uh HZ) y7.h.size))
 have O8 := hide (show OwnT y8.w W.heap.size (v6) u6 by rw [← hy8]; exact (uh O7).later (below_new _ _))
 clear O7
 go_wp2_with (at_builtin; go_must (refine appT rfl (.tmp 41) (.tmp 43) rfl (uh HZ) y8.h rfl (uh O8) rfl (uh S8) (one_ne _) (lsum l6 (one_le _) (by decide)) ?_; intro v9 y9 hO; obtain ⟨u9, hu⟩ : ∃ u, (u6 ++ [(Tk.mk 4 0 ⟨#[43]⟩)]) = u := ⟨_, rfl⟩; rw [hu] at hO; have l9 := lapp hu l6 (one_le _); have O9 := hide hO; have H9 := hide hu; clear hO hu O8 S8))
 have EQ : u9 = T := by
  rw [← uh HT]
  rw [← uh H9, ← uh H6, ← uh H4]
  simp [mkT, mkS]
 rw [EQ] at O9
 go_ret
 exact ⟨_, rfl, uh HO y9 _ _ (uh O9), uh HB y9⟩
theorem agt4 (rn : Nat) (hrn : rn < 8) (e : Ex) (ok : True) (b : Option Addr) (cap : Nat) (w : World) (hr : RdX w 0 e b) : Calls Tryz.prog 60 #[.agg #[.int .i64 4, .int .i64 (rn : Int), .int .i64 e.k, .int .i64 e.n, .string e.s, .slice b e.l.length cap]] w fun r w' => ∃ v, r = .returned v ∧ OwnT w' w.heap.size v (agT ⟨4, (rn : Int), e⟩) ∧ Below w.heap.size w w' := by
 have hbW := below_new w (.cells #[.int .i64 4, .int .i64 (rn : Int), .int .i64 e.k, .int .i64 e.n, .string e.s, .slice b e.l.length cap] 28)
 obtain ⟨W, hW⟩ : ∃ W, w.alloc (.cells #[.int .i64 4, .int .i64 (rn : Int), .int .i64 e.k, .int .i64 e.n, .string e.s, .slice b e.l.length cap] 28) = W := ⟨_, rfl⟩
 have xl : w.heap.size < W.heap.size := by rw [← hW]; simp
 have hrW := hr.later hbW
 have xc : ∀ (i : Nat) (v : Value), (#[.int .i64 4, .int .i64 (rn : Int), .int .i64 e.k, .int .i64 e.n, .string e.s, .slice b e.l.length cap] : Array Value)[i]? = some v → ∀ w1, Below W.heap.size W w1 → w1.cell? ⟨w.heap.size, i, none⟩ = some v := fun i v h w1 hb => (hb.cell (p := ⟨w.heap.size, i, none⟩) xl).trans (by rw [← hW]; exact box17 w _ _ i v h)
 rw [hW] at hbW hrW
 obtain ⟨y0, hy0⟩ : ∃ z : Sub W.heap.size W, w.alloc (.cells #[.int .i64 4, .int .i64 (rn : Int), .int .i64 e.k, .int .i64 e.n, .string e.s, .slice b e.l.length cap] 28) = z.w := ⟨⟨W, Below.refl _ _⟩, hW⟩
 have ne := Sub.ne W.heap.size W
 have HZ := hide (Nat.le_refl W.heap.size)
 have HB := hide (fun y : Sub W.heap.size W => hbW.trans (y.h.mono hbW.size))
 have HO := hide (fun (y : Sub W.heap.size W) v ts (h : OwnT y.w W.heap.size v ts) => h.base hbW.size)
 have E0 : ∀ y : Sub W.heap.size W, y.w.cell? ⟨w.heap.size, 0, none⟩ = some (.int .i64 4) := fun y => xc 0 _ rfl y.w y.h
 have E1 : ∀ y : Sub W.heap.size W, y.w.cell? ⟨w.heap.size, 1, none⟩ = some (.int .i64 (rn : Int)) := fun y => xc 1 _ rfl y.w y.h
 have E2 : ∀ y : Sub W.heap.size W, y.w.cell? ⟨w.heap.size, 2, none⟩ = some (.int .i64 e.k) := fun y => xc 2 _ rfl y.w y.h
 have E3 : ∀ y : Sub W.heap.size W, y.w.cell? ⟨w.heap.size, 3, none⟩ = some (.int .i64 e.n) := fun y => xc 3 _ rfl y.w y.h
 have E4 : ∀ y : Sub W.heap.size W, y.w.cell? ⟨w.heap.size, 4, none⟩ = some (.string e.s) := fun y => xc 4 _ rfl y.w y.h
 have E5 : ∀ y : Sub W.heap.size W, y.w.cell? ⟨w.heap.size, 5, none⟩ = some (.slice b e.l.length cap) := fun y => xc 5 _ rfl y.w y.h
 have Y1 := hide (xc 1 _ rfl)
 have Y2 := hide (xc 2 _ rfl)
 have Y3 := hide (xc 3 _ rfl)
 have Y4 := hide (xc 4 _ rfl)
 have Y5 := hide (xc 5 _ rfl)
 have MK := hide (fun x w1 => markS_ex x w1)
 have RG := hide (fun w1 => regS rn hrn w1)
 have RN := hide (fun w1 => rndS rn hrn w1)
 have AT : agT ⟨4, (rn : Int), e⟩ = mkT 45 :: rnT rn := rfl
 rw [AT]
 clear AT ok hr hrW hW xc xl hbW hrn
 generalize e.k = ek at *
 generalize e.n = en at *
 generalize e.s = es at *
 generalize e.l.length = el at *
 unfold Tk.v Tk.cs at MK RG
 simp only at MK RG
 have rl := rnT_le rn
 have rne := rnT_ne rn
 generalize rnT rn = rt at *
 obtain ⟨T, hT⟩ : ∃ T, mkT 45 :: rt = T := ⟨_, rfl⟩
 have HT := hide hT
 rw [hT]
 clear hT
 have l0 : ([] : List Tk).length ≤ 0 := Nat.le_refl 0
 obtain ⟨y1, hy1⟩ := Sub.step (uh HZ) (below_new y0.w (.cells #[] 71))
 have O1 := hide (show OwnT y1.w W.heap.size (.slice (some ⟨y0.w.heap.size, 0, none⟩) 0 0) [] by rw [← hy1]; exact ownT_empty y0.w W.heap.size (Nat.le_trans (uh HZ) y0.h.size))
 go_enter Tryz.func60, Tryz.ntmps60
 go_wp2_with fail
 obtain ⟨y2, hy2⟩ := Sub.step (uh HZ) (below_drew (w := y1.w))
 have O2 := hide (show OwnT y2.w W.heap.size (.slice (some ⟨y0.w.heap.size, 0, none⟩) 0 0) [] by rw [← hy2]; exact (uh O1).later below_drew)
 have D0 := hide (show Below W.heap.size W y1.w.drew by rw [hy2]; exact y2.h)
 refine wp_region_held_drew (S := fun w' => Below W.heap.size W w') (by kernel_rfl) (uh D0) (fun hS => ?_)
 have HS := hide hS
 clear hS D0 O1
 rw [hy2] at HS ⊢
 refine tkB 0 (.slice (some ⟨y0.w.heap.size, 0, none⟩) 0 0) rfl (uh HS) ?_
 go_simp
 refine tkB 4 (.pointer (some ⟨w.heap.size, 1, none⟩)) rfl (uh HS) ?_
 go_simp
 refine tkA 5 (.int .i64 (rn : Int)) rfl (.inl ⟨by rfl, fun w hc => ?_⟩) (uh HS) ?_
 · have q := uh Y1 _ hc; clear hc; go_simp
 go_simp
 refine wpAnyH_ready (rs := [1]) (by kernel_rfl) (by simp) ?_
 refine AllReadyH.cons rfl (fun K2 hK => ?_) AllReadyH.nil
 go_simp
 refine (uh MK ⟨#[45]⟩ y2.w).mono ?_
 rintro r w3 ⟨rfl, hb⟩
 have O3 := hide ((uh O2).later hb)
 clear O2
 obtain ⟨y3, rfl⟩ := Sub.step (uh HZ) hb
 clear hb
 refine hK.out _ _ (y3.h) (fun hS => ?_)
 clear HS
 have HS := hide hS
 clear hS hK K2
 refine wpAnyH_ready (rs := [2]) (by kernel_rfl) (by simp) ?_
 refine AllReadyH.cons rfl (fun K2 hK => ?_) AllReadyH.nil
 obtain ⟨y4, hy4⟩ := Sub.step (uh HZ) (below_new y3.w (.cells #[.int .i64 4, .int .i64 0, .string ⟨#[45]⟩] 71))
 have S4 := hide (show OwnT y4.w W.heap.size (.slice (some ⟨y3.w.heap.size, 0, none⟩) 1 1) [(Tk.mk 4 0 ⟨#[45]⟩)] by rw [← hy4]; exact ownT_new y3.w (Tk.mk 4 0 ⟨#[45]⟩) W.heap.size (Nat.le_trans (uh HZ) y3.h.size))
 have O4 := hide (show OwnT y4.w W.heap.size (.slice (some ⟨y0.w.heap.size, 0, none⟩) 0 0) [] by rw [← hy4]; exact (uh O3).later (below_new _ _))
 clear O3
 go_simp
 refine hK.out _ _ (y4.h) (fun hS => ?_)
 clear HS
 have HS := hide hS
 clear hS hK K2
 refine wpAnyH_ready (rs := [3]) (by kernel_rfl) (by simp) ?_
 refine AllReadyH.cons rfl (fun K2 hK => ?_) AllReadyH.nil
 rw [if_pos (by rfl)]
 refine wp_appT (.tmp 48) (.tmp 50) rfl (uh HZ) y4.h rfl (uh O4) rfl (uh S4) (one_ne _) (lsum l0 (one_le _) (by decide)) ?_
 intro v5 y5 hO
 obtain ⟨u5, hu⟩ : ∃ u, ([] ++ [(Tk.mk 4 0 ⟨#[45]⟩)]) = u := ⟨_, rfl⟩
 rw [hu] at hO
 have l5 := lapp hu l0 (one_le _)
 have O5 := hide hO
 have H5 := hide hu
 clear hO hu O4 S4
 refine hK.out _ _ (y5.h) (fun hS => ?_)
 clear HS
 have HS := hide hS
 clear hS hK K2
 refine wpAnyH_ready (rs := [6]) (by kernel_rfl) (by simp) ?_
 refine AllReadyH.cons rfl (fun K2 hK => ?_) AllReadyH.nil
 go_simp
 refine (uh RN y5.w).mono ?_
 rintro r w6 ⟨vs, rfl, hS, hb⟩
 have O6 := hide ((uh O5).later hb)
 clear O5
 obtain ⟨y6, rfl⟩ := Sub.step (uh HZ) hb
 clear hb
 have SR := hide hS
 clear hS
 refine hK.out _ _ (y6.h) (fun hS => ?_)
 clear HS
 have HS := hide hS
 clear hS hK K2
 refine wpAnyH_ready (rs := [7]) (by kernel_rfl) (by simp) ?_
 refine AllReadyH.cons rfl (fun K2 hK => ?_) AllReadyH.nil
 rw [if_pos (by rfl)]
 refine wp_appT (.tmp 51) (.tmp 54) rfl (uh HZ) y6.h rfl (uh O6) rfl (uh SR) rne (lsum l5 rl (by decide)) ?_
 intro v7 y7 hO
 obtain ⟨u7, hu⟩ : ∃ u, (u5 ++ rt) = u := ⟨_, rfl⟩
 rw [hu] at hO
 have l7 := lapp hu l5 rl
 have O7 := hide hO
 have H7 := hide hu
 clear hO hu O6 SR
 refine hK.out _ _ (y7.h) (fun hS => ?_)
 clear HS
 have HS := hide hS
 clear hS hK K2
 refine tkB 8 (v7) rfl (uh HS) ?_
 go_simp
 refine wpAnyH_done (by kernel_rfl) ?_ _
 clear HS
 go_wp2_with fail
 have EQ : u7 = T := by
  rw [← uh HT]
  rw [← uh H7, ← uh H5]
  simp [mkT, mkS]
 rw [EQ] at O7
 go_ret
 exact ⟨_, rfl, uh HO y7 _ _ (uh O7), uh HB y7⟩
theorem agt5 (rn : Nat) (hrn : rn < 8) (e : Ex) (ok : True) (b : Option Addr) (cap : Nat) (w : World) (hr : RdX w 0 e b) : Calls Tryz.prog 60 #[.agg #[.int .i64 5, .int .i64 (rn : Int), .int .i64 e.k, .int .i64 e.n, .string e.s, .slice b e.l.length cap]] w fun r w' => ∃ v, r = .returned v ∧ OwnT w' w.heap.size v (agT ⟨5, (rn : Int), e⟩) ∧ Below w.heap.size w w' := by
 have hbW := below_new w (.cells #[.int .i64 5, .int .i64 (rn : Int), .int .i64 e.k, .int .i64 e.n, .string e.s, .slice b e.l.length cap] 28)
 obtain ⟨W, hW⟩ : ∃ W, w.alloc (.cells #[.int .i64 5, .int .i64 (rn : Int), .int .i64 e.k, .int .i64 e.n, .string e.s, .slice b e.l.length cap] 28) = W := ⟨_, rfl⟩
 have xl : w.heap.size < W.heap.size := by rw [← hW]; simp
 have hrW := hr.later hbW
 have xc : ∀ (i : Nat) (v : Value), (#[.int .i64 5, .int .i64 (rn : Int), .int .i64 e.k, .int .i64 e.n, .string e.s, .slice b e.l.length cap] : Array Value)[i]? = some v → ∀ w1, Below W.heap.size W w1 → w1.cell? ⟨w.heap.size, i, none⟩ = some v := fun i v h w1 hb => (hb.cell (p := ⟨w.heap.size, i, none⟩) xl).trans (by rw [← hW]; exact box17 w _ _ i v h)
 rw [hW] at hbW hrW
 obtain ⟨y0, hy0⟩ : ∃ z : Sub W.heap.size W, w.alloc (.cells #[.int .i64 5, .int .i64 (rn : Int), .int .i64 e.k, .int .i64 e.n, .string e.s, .slice b e.l.length cap] 28) = z.w := ⟨⟨W, Below.refl _ _⟩, hW⟩
 have ne := Sub.ne W.heap.size W
 have HZ := hide (Nat.le_refl W.heap.size)
 have HB := hide (fun y : Sub W.heap.size W => hbW.trans (y.h.mono hbW.size))
 have HO := hide (fun (y : Sub W.heap.size W) v ts (h : OwnT y.w W.heap.size v ts) => h.base hbW.size)
 have E0 : ∀ y : Sub W.heap.size W, y.w.cell? ⟨w.heap.size, 0, none⟩ = some (.int .i64 5) := fun y => xc 0 _ rfl y.w y.h
 have E1 : ∀ y : Sub W.heap.size W, y.w.cell? ⟨w.heap.size, 1, none⟩ = some (.int .i64 (rn : Int)) := fun y => xc 1 _ rfl y.w y.h
 have E2 : ∀ y : Sub W.heap.size W, y.w.cell? ⟨w.heap.size, 2, none⟩ = some (.int .i64 e.k) := fun y => xc 2 _ rfl y.w y.h
 have E3 : ∀ y : Sub W.heap.size W, y.w.cell? ⟨w.heap.size, 3, none⟩ = some (.int .i64 e.n) := fun y => xc 3 _ rfl y.w y.h
 have E4 : ∀ y : Sub W.heap.size W, y.w.cell? ⟨w.heap.size, 4, none⟩ = some (.string e.s) := fun y => xc 4 _ rfl y.w y.h
 have E5 : ∀ y : Sub W.heap.size W, y.w.cell? ⟨w.heap.size, 5, none⟩ = some (.slice b e.l.length cap) := fun y => xc 5 _ rfl y.w y.h
 have Y1 := hide (xc 1 _ rfl)
 have Y2 := hide (xc 2 _ rfl)
 have Y3 := hide (xc 3 _ rfl)
 have Y4 := hide (xc 4 _ rfl)
 have Y5 := hide (xc 5 _ rfl)
 have MK := hide (fun x w1 => markS_ex x w1)
 have RG := hide (fun w1 => regS rn hrn w1)
 have RN := hide (fun w1 => rndS rn hrn w1)
 have AT : agT ⟨5, (rn : Int), e⟩ = mkT 64 :: mkT 45 :: rnT rn := rfl
 rw [AT]
 clear AT ok hr hrW hW xc xl hbW hrn
 generalize e.k = ek at *
 generalize e.n = en at *
 generalize e.s = es at *
 generalize e.l.length = el at *
 unfold Tk.v Tk.cs at MK RG
 simp only at MK RG
 have rl := rnT_le rn
 have rne := rnT_ne rn
 generalize rnT rn = rt at *
 obtain ⟨T, hT⟩ : ∃ T, mkT 64 :: mkT 45 :: rt = T := ⟨_, rfl⟩
 have HT := hide hT
 rw [hT]
 clear hT
 have l0 : ([] : List Tk).length ≤ 0 := Nat.le_refl 0
 obtain ⟨y1, hy1⟩ := Sub.step (uh HZ) (below_new y0.w (.cells #[] 71))
 have O1 := hide (show OwnT y1.w W.heap.size (.slice (some ⟨y0.w.heap.size, 0, none⟩) 0 0) [] by rw [← hy1]; exact ownT_empty y0.w W.heap.size (Nat.le_trans (uh HZ) y0.h.size))
 go_enter Tryz.func60, Tryz.ntmps60
 go_wp2_with fail
 refine (uh MK ⟨#[64]⟩ y1.w).mono ?_
 rintro r w2 ⟨rfl, hb⟩
 have O2 := hide ((uh O1).later hb)
 clear O1
 obtain ⟨y2, rfl⟩ := Sub.step (uh HZ) hb
 clear hb
 obtain ⟨y3, hy3⟩ := Sub.step (uh HZ) (below_new y2.w (.cells #[.int .i64 4, .int .i64 0, .string ⟨#[64]⟩] 71))
 have S3 := hide (show OwnT y3.w W.heap.size (.slice (some ⟨y2.w.heap.size, 0, none⟩) 1 1) [(Tk.mk 4 0 ⟨#[64]⟩)] by rw [← hy3]; exact ownT_new y2.w (Tk.mk 4 0 ⟨#[64]⟩) W.heap.size (Nat.le_trans (uh HZ) y2.h.size))
 have O3 := hide (show OwnT y3.w W.heap.size (.slice (some ⟨y0.w.heap.size, 0, none⟩) 0 0) [] by rw [← hy3]; exact (uh O2).later (below_new _ _))
 clear O2
 go_wp2_with (at_builtin; go_must (refine appT rfl (.tmp 13) (.tmp 15) rfl (uh HZ) y3.h rfl (uh O3) rfl (uh S3) (one_ne _) (lsum l0 (one_le _) (by decide)) ?_; intro v4 y4 hO; obtain ⟨u4, hu⟩ : ∃ u, ([] ++ [(Tk.mk 4 0 ⟨#[64]⟩)]) = u := ⟨_, rfl⟩; rw [hu] at hO; have l4 := lapp hu l0 (one_le _); have O4 := hide hO; have H4 := hide hu; clear hO hu O3 S3))
 obtain ⟨y5, hy5⟩ := Sub.step (uh HZ) (below_drew (w := y4.w))
 have O5 := hide (show OwnT y5.w W.heap.size (v4) u4 by rw [← hy5]; exact (uh O4).later below_drew)
 have D0 := hide (show Below W.heap.size W y4.w.drew by rw [hy5]; exact y5.h)
 refine wp_region_held_drew (S := fun w' => Below W.heap.size W w') (by kernel_rfl) (uh D0) (fun hS => ?_)
 have HS := hide hS
 clear hS D0 O4
 rw [hy5] at HS ⊢
 refine tkB 0 (v4) rfl (uh HS) ?_
 go_simp
 refine tkB 4 (.pointer (some ⟨w.heap.size, 1, none⟩)) rfl (uh HS) ?_
 go_simp
 refine tkA 5 (.int .i64 (rn : Int)) rfl (.inl ⟨by rfl, fun w hc => ?_⟩) (uh HS) ?_
 · have q := uh Y1 _ hc; clear hc; go_simp
 go_simp
 refine wpAnyH_ready (rs := [1]) (by kernel_rfl) (by simp) ?_
 refine AllReadyH.cons rfl (fun K2 hK => ?_) AllReadyH.nil
 go_simp
 refine (uh MK ⟨#[45]⟩ y5.w).mono ?_
 rintro r w6 ⟨rfl, hb⟩
 have O6 := hide ((uh O5).later hb)
 clear O5
 obtain ⟨y6, rfl⟩ := Sub.step (uh HZ) hb
 clear hb
 refine hK.out _ _ (y6.h) (fun hS => ?_)
 clear HS
 have HS := hide hS
 clear hS hK K2
 refine wpAnyH_ready (rs := [2]) (by kernel_rfl) (by simp) ?_
 refine AllReadyH.cons rfl (fun K2 hK => ?_) AllReadyH.nil
 obtain ⟨y7, hy7⟩ := Sub.step (uh HZ) (below_new y6.w (.cells #[.int .i64 4, .int .i64 0, .string ⟨#[45]⟩] 71))
 have S7 := hide (show OwnT y7.w W.heap.size (.slice (some ⟨y6.w.heap.size, 0, none⟩) 1 1) [(Tk.mk 4 0 ⟨#[45]⟩)] by rw [← hy7]; exact ownT_new y6.w (Tk.mk 4 0 ⟨#[45]⟩) W.heap.size (Nat.le_trans (uh HZ) y6.h.size))
 have O7 := hide (show OwnT y7.w W.heap.size (v4) u4 by rw [← hy7]; exact (uh O6).later (below_new _ _))
 clear O6
 go_simp
 refine hK.out _ _ (y7.h) (fun hS => ?_)
 clear HS
 have HS := hide hS
 clear hS hK K2
 refine wpAnyH_ready (rs := [3]) (by kernel_rfl) (by simp) ?_
 refine AllReadyH.cons rfl (fun K2 hK => ?_) AllReadyH.nil
 rw [if_pos (by rfl)]
 refine wp_appT (.tmp 48) (.tmp 50) rfl (uh HZ) y7.h rfl (uh O7) rfl (uh S7) (one_ne _) (lsum l4 (one_le _) (by decide)) ?_
 intro v8 y8 hO
 obtain ⟨u8, hu⟩ : ∃ u, (u4 ++ [(Tk.mk 4 0 ⟨#[45]⟩)]) = u := ⟨_, rfl⟩
 rw [hu] at hO
 have l8 := lapp hu l4 (one_le _)
 have O8 := hide hO
 have H8 := hide hu
 clear hO hu O7 S7
 refine hK.out _ _ (y8.h) (fun hS => ?_)
 clear HS
 have HS := hide hS
 clear hS hK K2
 refine wpAnyH_ready (rs := [6]) (by kernel_rfl) (by simp) ?_
 refine AllReadyH.cons rfl (fun K2 hK => ?_) AllReadyH.nil
 go_simp
 refine (uh RN y8.w).mono ?_
 rintro r w9 ⟨vs, rfl, hS, hb⟩
 have O9 := hide ((uh O8).later hb)
 clear O8
 obtain ⟨y9, rfl⟩ := Sub.step (uh HZ) hb
 clear hb
 have SR := hide hS
 clear hS
 refine hK.out _ _ (y9.h) (fun hS => ?_)
 clear HS
 have HS := hide hS
 clear hS hK K2
 refine wpAnyH_ready (rs := [7]) (by kernel_rfl) (by simp) ?_
 refine AllReadyH.cons rfl (fun K2 hK => ?_) AllReadyH.nil
 rw [if_pos (by rfl)]
 refine wp_appT (.tmp 51) (.tmp 54) rfl (uh HZ) y9.h rfl (uh O9) rfl (uh SR) rne (lsum l8 rl (by decide)) ?_
 intro v10 y10 hO
 obtain ⟨u10, hu⟩ : ∃ u, (u8 ++ rt) = u := ⟨_, rfl⟩
 rw [hu] at hO
 have l10 := lapp hu l8 rl
 have O10 := hide hO
 have H10 := hide hu
 clear hO hu O9 SR
 refine hK.out _ _ (y10.h) (fun hS => ?_)
 clear HS
 have HS := hide hS
 clear hS hK K2
 refine tkB 8 (v10) rfl (uh HS) ?_
 go_simp
 refine wpAnyH_done (by kernel_rfl) ?_ _
 clear HS
 go_wp2_with fail
 have EQ : u10 = T := by
  rw [← uh HT]
  rw [← uh H10, ← uh H8, ← uh H4]
  simp [mkT, mkS]
 rw [EQ] at O10
 go_ret
 exact ⟨_, rfl, uh HO y10 _ _ (uh O10), uh HB y10⟩
theorem agt6 (rn : Nat) (hrn : rn < 8) (e : Ex) (ok : okF 6 true e = true) (b : Option Addr) (cap : Nat) (w : World) (hr : RdX w 0 e b) : Calls Tryz.prog 60 #[.agg #[.int .i64 6, .int .i64 (rn : Int), .int .i64 e.k, .int .i64 e.n, .string e.s, .slice b e.l.length cap]] w fun r w' => ∃ v, r = .returned v ∧ OwnT w' w.heap.size v (agT ⟨6, (rn : Int), e⟩) ∧ Below w.heap.size w w' := by
 have hbW := below_new w (.cells #[.int .i64 6, .int .i64 (rn : Int), .int .i64 e.k, .int .i64 e.n, .string e.s, .slice b e.l.length cap] 28)
 obtain ⟨W, hW⟩ : ∃ W, w.alloc (.cells #[.int .i64 6, .int .i64 (rn : Int), .int .i64 e.k, .int .i64 e.n, .string e.s, .slice b e.l.length cap] 28) = W := ⟨_, rfl⟩
 have xl : w.heap.size < W.heap.size := by rw [← hW]; simp
 have hrW := hr.later hbW
 have xc : ∀ (i : Nat) (v : Value), (#[.int .i64 6, .int .i64 (rn : Int), .int .i64 e.k, .int .i64 e.n, .string e.s, .slice b e.l.length cap] : Array Value)[i]? = some v → ∀ w1, Below W.heap.size W w1 → w1.cell? ⟨w.heap.size, i, none⟩ = some v := fun i v h w1 hb => (hb.cell (p := ⟨w.heap.size, i, none⟩) xl).trans (by rw [← hW]; exact box17 w _ _ i v h)
 rw [hW] at hbW hrW
 obtain ⟨y0, hy0⟩ : ∃ z : Sub W.heap.size W, w.alloc (.cells #[.int .i64 6, .int .i64 (rn : Int), .int .i64 e.k, .int .i64 e.n, .string e.s, .slice b e.l.length cap] 28) = z.w := ⟨⟨W, Below.refl _ _⟩, hW⟩
 have ne := Sub.ne W.heap.size W
 have HZ := hide (Nat.le_refl W.heap.size)
 have HB := hide (fun y : Sub W.heap.size W => hbW.trans (y.h.mono hbW.size))
 have HO := hide (fun (y : Sub W.heap.size W) v ts (h : OwnT y.w W.heap.size v ts) => h.base hbW.size)
 have E0 : ∀ y : Sub W.heap.size W, y.w.cell? ⟨w.heap.size, 0, none⟩ = some (.int .i64 6) := fun y => xc 0 _ rfl y.w y.h
 have E1 : ∀ y : Sub W.heap.size W, y.w.cell? ⟨w.heap.size, 1, none⟩ = some (.int .i64 (rn : Int)) := fun y => xc 1 _ rfl y.w y.h
 have E2 : ∀ y : Sub W.heap.size W, y.w.cell? ⟨w.heap.size, 2, none⟩ = some (.int .i64 e.k) := fun y => xc 2 _ rfl y.w y.h
 have E3 : ∀ y : Sub W.heap.size W, y.w.cell? ⟨w.heap.size, 3, none⟩ = some (.int .i64 e.n) := fun y => xc 3 _ rfl y.w y.h
 have E4 : ∀ y : Sub W.heap.size W, y.w.cell? ⟨w.heap.size, 4, none⟩ = some (.string e.s) := fun y => xc 4 _ rfl y.w y.h
 have E5 : ∀ y : Sub W.heap.size W, y.w.cell? ⟨w.heap.size, 5, none⟩ = some (.slice b e.l.length cap) := fun y => xc 5 _ rfl y.w y.h
 have Y1 := hide (xc 1 _ rfl)
 have Y2 := hide (xc 2 _ rfl)
 have Y3 := hide (xc 3 _ rfl)
 have Y4 := hide (xc 4 _ rfl)
 have Y5 := hide (xc 5 _ rfl)
 have MK := hide (fun x w1 => markS_ex x w1)
 have RG := hide (fun w1 => regS rn hrn w1)
 have RN := hide (fun w1 => rndS rn hrn w1)
 have TE := hide (fun y : Sub W.heap.size W => toksS_all 6 (by omega) e b cap y.w ok (hrW.later y.h))
 have tne := toks_ne ok
 have tle : (toksF 6 e).length ≤ 200 := Nat.le_trans (toks_ok 6 e ok).2 (mxT_le 6 (by omega))
 unfold Ex.cs at TE
 have AT : agT ⟨6, (rn : Int), e⟩ = toksF 6 e ++ rnT rn := rfl
 rw [AT]
 clear AT ok hr hrW hW xc xl hbW hrn
 generalize toksF 6 e = te at *
 generalize e.k = ek at *
 generalize e.n = en at *
 generalize e.s = es at *
 generalize e.l.length = el at *
 unfold Tk.v Tk.cs at MK RG
 simp only at MK RG
 have rl := rnT_le rn
 have rne := rnT_ne rn
 generalize rnT rn = rt at *
 obtain ⟨T, hT⟩ : ∃ T, te ++ rt = T := ⟨_, rfl⟩
 have HT := hide hT
 rw [hT]
 clear hT
 have l0 : ([] : List Tk).length ≤ 0 := Nat.le_refl 0
 obtain ⟨y1, hy1⟩ := Sub.step (uh HZ) (below_new y0.w (.cells #[] 71))
 have O1 := hide (show OwnT y1.w W.heap.size (.slice (some ⟨y0.w.heap.size, 0, none⟩) 0 0) [] by rw [← hy1]; exact ownT_empty y0.w W.heap.size (Nat.le_trans (uh HZ) y0.h.size))
 go_enter Tryz.func60, Tryz.ntmps60
 go_wp2_with fail
 obtain ⟨y2, hy2⟩ := Sub.step (uh HZ) (below_drew (w := y1.w))
 have O2 := hide (show OwnT y2.w W.heap.size (.slice (some ⟨y0.w.heap.size, 0, none⟩) 0 0) [] by rw [← hy2]; exact (uh O1).later below_drew)
 have D0 := hide (show Below W.heap.size W y1.w.drew by rw [hy2]; exact y2.h)
 refine wp_region_held_drew (S := fun w' => Below W.heap.size W w') (by kernel_rfl) (uh D0) (fun hS => ?_)
 have HS := hide hS
 clear hS D0 O1
 rw [hy2] at HS ⊢
 refine tkB 0 (.slice (some ⟨y0.w.heap.size, 0, none⟩) 0 0) rfl (uh HS) ?_
 go_simp
 refine tkB 1 (.pointer (some ⟨w.heap.size, 2, none⟩)) rfl (uh HS) ?_
 go_simp
 refine tkA 2 (.agg #[.int .i64 ek, .int .i64 en, .string es, .slice b el cap]) rfl (.inl ⟨by rfl, fun w hc => ?_⟩) (uh HS) ?_
 · have q2 := uh Y2 _ hc; have q3 := uh Y3 _ hc; have q4 := uh Y4 _ hc; have q5 := uh Y5 _ hc; clear hc; go_simp
 go_simp
 refine tkB 5 (.pointer (some ⟨w.heap.size, 1, none⟩)) rfl (uh HS) ?_
 go_simp
 refine tkA 6 (.int .i64 (rn : Int)) rfl (.inl ⟨by rfl, fun w hc => ?_⟩) (uh HS) ?_
 · have q := uh Y1 _ hc; clear hc; go_simp
 go_simp
 refine wpAnyH_ready (rs := [3]) (by kernel_rfl) (by simp) ?_
 refine AllReadyH.cons rfl (fun K2 hK => ?_) AllReadyH.nil
 go_simp
 refine (uh TE y2).mono ?_
 rintro r w3 ⟨vs, rfl, hS, hb⟩
 have O3 := hide ((uh O2).later hb)
 clear O2
 obtain ⟨y3, rfl⟩ := Sub.step (uh HZ) hb
 clear hb
 have SR := hide hS
 clear hS
 refine hK.out _ _ (y3.h) (fun hS => ?_)
 clear HS
 have HS := hide hS
 clear hS hK K2
 refine wpAnyH_ready (rs := [4]) (by kernel_rfl) (by simp) ?_
 refine AllReadyH.cons rfl (fun K2 hK => ?_) AllReadyH.nil
 rw [if_pos (by rfl)]
 refine wp_appT (.tmp 59) (.tmp 62) rfl (uh HZ) y3.h rfl (uh O3) rfl (uh SR) tne (lsum l0 tle (by decide)) ?_
 intro v4 y4 hO
 obtain ⟨u4, hu⟩ : ∃ u, ([] ++ te) = u := ⟨_, rfl⟩
 rw [hu] at hO
 have l4 := lapp hu l0 tle
 have O4 := hide hO
 have H4 := hide hu
 clear hO hu O3 SR
 refine hK.out _ _ (y4.h) (fun hS => ?_)
 clear HS
 have HS := hide hS
 clear hS hK K2
 refine wpAnyH_ready (rs := [7]) (by kernel_rfl) (by simp) ?_
 refine AllReadyH.cons rfl (fun K2 hK => ?_) AllReadyH.nil
 go_simp
 refine (uh RN y4.w).mono ?_
 rintro r w5 ⟨vs, rfl, hS, hb⟩
 have O5 := hide ((uh O4).later hb)
 clear O4
 obtain ⟨y5, rfl⟩ := Sub.step (uh HZ) hb
 clear hb
 have SR := hide hS
 clear hS
 refine hK.out _ _ (y5.h) (fun hS => ?_)
 clear HS
 have HS := hide hS
 clear hS hK K2
 refine wpAnyH_ready (rs := [8]) (by kernel_rfl) (by simp) ?_
 refine AllReadyH.cons rfl (fun K2 hK => ?_) AllReadyH.nil
 rw [if_pos (by rfl)]
 refine wp_appT (.tmp 63) (.tmp 66) rfl (uh HZ) y5.h rfl (uh O5) rfl (uh SR) rne (lsum l4 rl (by decide)) ?_
 intro v6 y6 hO
 obtain ⟨u6, hu⟩ : ∃ u, (u4 ++ rt) = u := ⟨_, rfl⟩
 rw [hu] at hO
 have l6 := lapp hu l4 rl
 have O6 := hide hO
 have H6 := hide hu
 clear hO hu O5 SR
 refine hK.out _ _ (y6.h) (fun hS => ?_)
 clear HS
 have HS := hide hS
 clear hS hK K2
 refine tkB 9 (v6) rfl (uh HS) ?_
 go_simp
 refine wpAnyH_done (by kernel_rfl) ?_ _
 clear HS
 go_wp2_with fail
 have EQ : u6 = T := by
  rw [← uh HT]
  rw [← uh H6, ← uh H4]
  simp [mkT, mkS]
 rw [EQ] at O6
 go_ret
 exact ⟨_, rfl, uh HO y6 _ _ (uh O6), uh HB y6⟩
theorem agt7 (rn : Nat) (hrn : rn < 8) (e : Ex) (ok : okF 6 true e = true) (b : Option Addr) (cap : Nat) (w : World) (hr : RdX w 0 e b) : Calls Tryz.prog 60 #[.agg #[.int .i64 7, .int .i64 (rn : Int), .int .i64 e.k, .int .i64 e.n, .string e.s, .slice b e.l.length cap]] w fun r w' => ∃ v, r = .returned v ∧ OwnT w' w.heap.size v (agT ⟨7, (rn : Int), e⟩) ∧ Below w.heap.size w w' := by
 have hbW := below_new w (.cells #[.int .i64 7, .int .i64 (rn : Int), .int .i64 e.k, .int .i64 e.n, .string e.s, .slice b e.l.length cap] 28)
 obtain ⟨W, hW⟩ : ∃ W, w.alloc (.cells #[.int .i64 7, .int .i64 (rn : Int), .int .i64 e.k, .int .i64 e.n, .string e.s, .slice b e.l.length cap] 28) = W := ⟨_, rfl⟩
 have xl : w.heap.size < W.heap.size := by rw [← hW]; simp
 have hrW := hr.later hbW
 have xc : ∀ (i : Nat) (v : Value), (#[.int .i64 7, .int .i64 (rn : Int), .int .i64 e.k, .int .i64 e.n, .string e.s, .slice b e.l.length cap] : Array Value)[i]? = some v → ∀ w1, Below W.heap.size W w1 → w1.cell? ⟨w.heap.size, i, none⟩ = some v := fun i v h w1 hb => (hb.cell (p := ⟨w.heap.size, i, none⟩) xl).trans (by rw [← hW]; exact box17 w _ _ i v h)
 rw [hW] at hbW hrW
 obtain ⟨y0, hy0⟩ : ∃ z : Sub W.heap.size W, w.alloc (.cells #[.int .i64 7, .int .i64 (rn : Int), .int .i64 e.k, .int .i64 e.n, .string e.s, .slice b e.l.length cap] 28) = z.w := ⟨⟨W, Below.refl _ _⟩, hW⟩
 have ne := Sub.ne W.heap.size W
 have HZ := hide (Nat.le_refl W.heap.size)
 have HB := hide (fun y : Sub W.heap.size W => hbW.trans (y.h.mono hbW.size))
 have HO := hide (fun (y : Sub W.heap.size W) v ts (h : OwnT y.w W.heap.size v ts) => h.base hbW.size)
 have E0 : ∀ y : Sub W.heap.size W, y.w.cell? ⟨w.heap.size, 0, none⟩ = some (.int .i64 7) := fun y => xc 0 _ rfl y.w y.h
 have E1 : ∀ y : Sub W.heap.size W, y.w.cell? ⟨w.heap.size, 1, none⟩ = some (.int .i64 (rn : Int)) := fun y => xc 1 _ rfl y.w y.h
 have E2 : ∀ y : Sub W.heap.size W, y.w.cell? ⟨w.heap.size, 2, none⟩ = some (.int .i64 e.k) := fun y => xc 2 _ rfl y.w y.h
 have E3 : ∀ y : Sub W.heap.size W, y.w.cell? ⟨w.heap.size, 3, none⟩ = some (.int .i64 e.n) := fun y => xc 3 _ rfl y.w y.h
 have E4 : ∀ y : Sub W.heap.size W, y.w.cell? ⟨w.heap.size, 4, none⟩ = some (.string e.s) := fun y => xc 4 _ rfl y.w y.h
 have E5 : ∀ y : Sub W.heap.size W, y.w.cell? ⟨w.heap.size, 5, none⟩ = some (.slice b e.l.length cap) := fun y => xc 5 _ rfl y.w y.h
 have Y1 := hide (xc 1 _ rfl)
 have Y2 := hide (xc 2 _ rfl)
 have Y3 := hide (xc 3 _ rfl)
 have Y4 := hide (xc 4 _ rfl)
 have Y5 := hide (xc 5 _ rfl)
 have MK := hide (fun x w1 => markS_ex x w1)
 have RG := hide (fun w1 => regS rn hrn w1)
 have RN := hide (fun w1 => rndS rn hrn w1)
 have TE := hide (fun y : Sub W.heap.size W => toksS_all 6 (by omega) e b cap y.w ok (hrW.later y.h))
 have tne := toks_ne ok
 have tle : (toksF 6 e).length ≤ 200 := Nat.le_trans (toks_ok 6 e ok).2 (mxT_le 6 (by omega))
 unfold Ex.cs at TE
 have AT : agT ⟨7, (rn : Int), e⟩ = mkT 64 :: (toksF 6 e ++ rnT rn) := rfl
 rw [AT]
 clear AT ok hr hrW hW xc xl hbW hrn
 generalize toksF 6 e = te at *
 generalize e.k = ek at *
 generalize e.n = en at *
 generalize e.s = es at *
 generalize e.l.length = el at *
 unfold Tk.v Tk.cs at MK RG
 simp only at MK RG
 have rl := rnT_le rn
 have rne := rnT_ne rn
 generalize rnT rn = rt at *
 obtain ⟨T, hT⟩ : ∃ T, mkT 64 :: (te ++ rt) = T := ⟨_, rfl⟩
 have HT := hide hT
 rw [hT]
 clear hT
 have l0 : ([] : List Tk).length ≤ 0 := Nat.le_refl 0
 obtain ⟨y1, hy1⟩ := Sub.step (uh HZ) (below_new y0.w (.cells #[] 71))
 have O1 := hide (show OwnT y1.w W.heap.size (.slice (some ⟨y0.w.heap.size, 0, none⟩) 0 0) [] by rw [← hy1]; exact ownT_empty y0.w W.heap.size (Nat.le_trans (uh HZ) y0.h.size))
 go_enter Tryz.func60, Tryz.ntmps60
 go_wp2_with fail
 refine (uh MK ⟨#[64]⟩ y1.w).mono ?_
 rintro r w2 ⟨rfl, hb⟩
 have O2 := hide ((uh O1).later hb)
 clear O1
 obtain ⟨y2, rfl⟩ := Sub.step (uh HZ) hb
 clear hb
 obtain ⟨y3, hy3⟩ := Sub.step (uh HZ) (below_new y2.w (.cells #[.int .i64 4, .int .i64 0, .string ⟨#[64]⟩] 71))
 have S3 := hide (show OwnT y3.w W.heap.size (.slice (some ⟨y2.w.heap.size, 0, none⟩) 1 1) [(Tk.mk 4 0 ⟨#[64]⟩)] by rw [← hy3]; exact ownT_new y2.w (Tk.mk 4 0 ⟨#[64]⟩) W.heap.size (Nat.le_trans (uh HZ) y2.h.size))
 have O3 := hide (show OwnT y3.w W.heap.size (.slice (some ⟨y0.w.heap.size, 0, none⟩) 0 0) [] by rw [← hy3]; exact (uh O2).later (below_new _ _))
 clear O2
 go_wp2_with (at_builtin; go_must (refine appT rfl (.tmp 13) (.tmp 15) rfl (uh HZ) y3.h rfl (uh O3) rfl (uh S3) (one_ne _) (lsum l0 (one_le _) (by decide)) ?_; intro v4 y4 hO; obtain ⟨u4, hu⟩ : ∃ u, ([] ++ [(Tk.mk 4 0 ⟨#[64]⟩)]) = u := ⟨_, rfl⟩; rw [hu] at hO; have l4 := lapp hu l0 (one_le _); have O4 := hide hO; have H4 := hide hu; clear hO hu O3 S3))
 obtain ⟨y5, hy5⟩ := Sub.step (uh HZ) (below_drew (w := y4.w))
 have O5 := hide (show OwnT y5.w W.heap.size (v4) u4 by rw [← hy5]; exact (uh O4).later below_drew)
 have D0 := hide (show Below W.heap.size W y4.w.drew by rw [hy5]; exact y5.h)
 refine wp_region_held_drew (S := fun w' => Below W.heap.size W w') (by kernel_rfl) (uh D0) (fun hS => ?_)
 have HS := hide hS
 clear hS D0 O4
 rw [hy5] at HS ⊢
 refine tkB 0 (v4) rfl (uh HS) ?_
 go_simp
 refine tkB 1 (.pointer (some ⟨w.heap.size, 2, none⟩)) rfl (uh HS) ?_
 go_simp
 refine tkA 2 (.agg #[.int .i64 ek, .int .i64 en, .string es, .slice b el cap]) rfl (.inl ⟨by rfl, fun w hc => ?_⟩) (uh HS) ?_
 · have q2 := uh Y2 _ hc; have q3 := uh Y3 _ hc; have q4 := uh Y4 _ hc; have q5 := uh Y5 _ hc; clear hc; go_simp
 go_simp
 refine tkB 5 (.pointer (some ⟨w.heap.size, 1, none⟩)) rfl (uh HS) ?_
 go_simp
 refine tkA 6 (.int .i64 (rn : Int)) rfl (.inl ⟨by rfl, fun w hc => ?_⟩) (uh HS) ?_
 · have q := uh Y1 _ hc; clear hc; go_simp
 go_simp
 refine wpAnyH_ready (rs := [3]) (by kernel_rfl) (by simp) ?_
 refine AllReadyH.cons rfl (fun K2 hK => ?_) AllReadyH.nil
 go_simp
 refine (uh TE y5).mono ?_
 rintro r w6 ⟨vs, rfl, hS, hb⟩
 have O6 := hide ((uh O5).later hb)
 clear O5
 obtain ⟨y6, rfl⟩ := Sub.step (uh HZ) hb
 clear hb
 have SR := hide hS
 clear hS
 refine hK.out _ _ (y6.h) (fun hS => ?_)
 clear HS
 have HS := hide hS
 clear hS hK K2
 refine wpAnyH_ready (rs := [4]) (by kernel_rfl) (by simp) ?_
 refine AllReadyH.cons rfl (fun K2 hK => ?_) AllReadyH.nil
 rw [if_pos (by rfl)]
 refine wp_appT (.tmp 59) (.tmp 62) rfl (uh HZ) y6.h rfl (uh O6) rfl (uh SR) tne (lsum l4 tle (by decide)) ?_
 intro v7 y7 hO
 obtain ⟨u7, hu⟩ : ∃ u, (u4 ++ te) = u := ⟨_, rfl⟩
 rw [hu] at hO
 have l7 := lapp hu l4 tle
 have O7 := hide hO
 have H7 := hide hu
 clear hO hu O6 SR
 refine hK.out _ _ (y7.h) (fun hS => ?_)
 clear HS
 have HS := hide hS
 clear hS hK K2
 refine wpAnyH_ready (rs := [7]) (by kernel_rfl) (by simp) ?_
 refine AllReadyH.cons rfl (fun K2 hK => ?_) AllReadyH.nil
 go_simp
 refine (uh RN y7.w).mono ?_
 rintro r w8 ⟨vs, rfl, hS, hb⟩
 have O8 := hide ((uh O7).later hb)
 clear O7
 obtain ⟨y8, rfl⟩ := Sub.step (uh HZ) hb
 clear hb
 have SR := hide hS
 clear hS
 refine hK.out _ _ (y8.h) (fun hS => ?_)
 clear HS
 have HS := hide hS
 clear hS hK K2
 refine wpAnyH_ready (rs := [8]) (by kernel_rfl) (by simp) ?_
 refine AllReadyH.cons rfl (fun K2 hK => ?_) AllReadyH.nil
 rw [if_pos (by rfl)]
 refine wp_appT (.tmp 63) (.tmp 66) rfl (uh HZ) y8.h rfl (uh O8) rfl (uh SR) rne (lsum l7 rl (by decide)) ?_
 intro v9 y9 hO
 obtain ⟨u9, hu⟩ : ∃ u, (u7 ++ rt) = u := ⟨_, rfl⟩
 rw [hu] at hO
 have l9 := lapp hu l7 rl
 have O9 := hide hO
 have H9 := hide hu
 clear hO hu O8 SR
 refine hK.out _ _ (y9.h) (fun hS => ?_)
 clear HS
 have HS := hide hS
 clear hS hK K2
 refine tkB 9 (v9) rfl (uh HS) ?_
 go_simp
 refine wpAnyH_done (by kernel_rfl) ?_ _
 clear HS
 go_wp2_with fail
 have EQ : u9 = T := by
  rw [← uh HT]
  rw [← uh H9, ← uh H7, ← uh H4]
  simp [mkT, mkS]
 rw [EQ] at O9
 go_ret
 exact ⟨_, rfl, uh HO y9 _ _ (uh O9), uh HB y9⟩
theorem agt8 (rn : Nat) (hrn : rn < 8) (e : Ex) (ok : okF 6 true e = true) (b : Option Addr) (cap : Nat) (w : World) (hr : RdX w 0 e b) : Calls Tryz.prog 60 #[.agg #[.int .i64 8, .int .i64 (rn : Int), .int .i64 e.k, .int .i64 e.n, .string e.s, .slice b e.l.length cap]] w fun r w' => ∃ v, r = .returned v ∧ OwnT w' w.heap.size v (agT ⟨8, (rn : Int), e⟩) ∧ Below w.heap.size w w' := by
 have hbW := below_new w (.cells #[.int .i64 8, .int .i64 (rn : Int), .int .i64 e.k, .int .i64 e.n, .string e.s, .slice b e.l.length cap] 28)
 obtain ⟨W, hW⟩ : ∃ W, w.alloc (.cells #[.int .i64 8, .int .i64 (rn : Int), .int .i64 e.k, .int .i64 e.n, .string e.s, .slice b e.l.length cap] 28) = W := ⟨_, rfl⟩
 have xl : w.heap.size < W.heap.size := by rw [← hW]; simp
 have hrW := hr.later hbW
 have xc : ∀ (i : Nat) (v : Value), (#[.int .i64 8, .int .i64 (rn : Int), .int .i64 e.k, .int .i64 e.n, .string e.s, .slice b e.l.length cap] : Array Value)[i]? = some v → ∀ w1, Below W.heap.size W w1 → w1.cell? ⟨w.heap.size, i, none⟩ = some v := fun i v h w1 hb => (hb.cell (p := ⟨w.heap.size, i, none⟩) xl).trans (by rw [← hW]; exact box17 w _ _ i v h)
 rw [hW] at hbW hrW
 obtain ⟨y0, hy0⟩ : ∃ z : Sub W.heap.size W, w.alloc (.cells #[.int .i64 8, .int .i64 (rn : Int), .int .i64 e.k, .int .i64 e.n, .string e.s, .slice b e.l.length cap] 28) = z.w := ⟨⟨W, Below.refl _ _⟩, hW⟩
 have ne := Sub.ne W.heap.size W
 have HZ := hide (Nat.le_refl W.heap.size)
 have HB := hide (fun y : Sub W.heap.size W => hbW.trans (y.h.mono hbW.size))
 have HO := hide (fun (y : Sub W.heap.size W) v ts (h : OwnT y.w W.heap.size v ts) => h.base hbW.size)
 have E0 : ∀ y : Sub W.heap.size W, y.w.cell? ⟨w.heap.size, 0, none⟩ = some (.int .i64 8) := fun y => xc 0 _ rfl y.w y.h
 have E1 : ∀ y : Sub W.heap.size W, y.w.cell? ⟨w.heap.size, 1, none⟩ = some (.int .i64 (rn : Int)) := fun y => xc 1 _ rfl y.w y.h
 have E2 : ∀ y : Sub W.heap.size W, y.w.cell? ⟨w.heap.size, 2, none⟩ = some (.int .i64 e.k) := fun y => xc 2 _ rfl y.w y.h
 have E3 : ∀ y : Sub W.heap.size W, y.w.cell? ⟨w.heap.size, 3, none⟩ = some (.int .i64 e.n) := fun y => xc 3 _ rfl y.w y.h
 have E4 : ∀ y : Sub W.heap.size W, y.w.cell? ⟨w.heap.size, 4, none⟩ = some (.string e.s) := fun y => xc 4 _ rfl y.w y.h
 have E5 : ∀ y : Sub W.heap.size W, y.w.cell? ⟨w.heap.size, 5, none⟩ = some (.slice b e.l.length cap) := fun y => xc 5 _ rfl y.w y.h
 have Y1 := hide (xc 1 _ rfl)
 have Y2 := hide (xc 2 _ rfl)
 have Y3 := hide (xc 3 _ rfl)
 have Y4 := hide (xc 4 _ rfl)
 have Y5 := hide (xc 5 _ rfl)
 have MK := hide (fun x w1 => markS_ex x w1)
 have RG := hide (fun w1 => regS rn hrn w1)
 have RN := hide (fun w1 => rndS rn hrn w1)
 have TE := hide (fun y : Sub W.heap.size W => toksS_all 6 (by omega) e b cap y.w ok (hrW.later y.h))
 have tne := toks_ne ok
 have tle : (toksF 6 e).length ≤ 200 := Nat.le_trans (toks_ok 6 e ok).2 (mxT_le 6 (by omega))
 unfold Ex.cs at TE
 have AT : agT ⟨8, (rn : Int), e⟩ = mkT 35 :: toksF 6 e := rfl
 rw [AT]
 clear AT ok hr hrW hW xc xl hbW hrn
 generalize toksF 6 e = te at *
 generalize e.k = ek at *
 generalize e.n = en at *
 generalize e.s = es at *
 generalize e.l.length = el at *
 unfold Tk.v Tk.cs at MK RG
 simp only at MK RG
 have rl := rnT_le rn
 have rne := rnT_ne rn
 generalize rnT rn = rt at *
 obtain ⟨T, hT⟩ : ∃ T, mkT 35 :: te = T := ⟨_, rfl⟩
 have HT := hide hT
 rw [hT]
 clear hT
 have l0 : ([] : List Tk).length ≤ 0 := Nat.le_refl 0
 obtain ⟨y1, hy1⟩ := Sub.step (uh HZ) (below_new y0.w (.cells #[] 71))
 have O1 := hide (show OwnT y1.w W.heap.size (.slice (some ⟨y0.w.heap.size, 0, none⟩) 0 0) [] by rw [← hy1]; exact ownT_empty y0.w W.heap.size (Nat.le_trans (uh HZ) y0.h.size))
 go_enter Tryz.func60, Tryz.ntmps60
 go_wp2_with fail
 refine (uh MK ⟨#[35]⟩ y1.w).mono ?_
 rintro r w2 ⟨rfl, hb⟩
 have O2 := hide ((uh O1).later hb)
 clear O1
 obtain ⟨y2, rfl⟩ := Sub.step (uh HZ) hb
 clear hb
 obtain ⟨y3, hy3⟩ := Sub.step (uh HZ) (below_new y2.w (.cells #[.int .i64 4, .int .i64 0, .string ⟨#[35]⟩] 71))
 have S3 := hide (show OwnT y3.w W.heap.size (.slice (some ⟨y2.w.heap.size, 0, none⟩) 1 1) [(Tk.mk 4 0 ⟨#[35]⟩)] by rw [← hy3]; exact ownT_new y2.w (Tk.mk 4 0 ⟨#[35]⟩) W.heap.size (Nat.le_trans (uh HZ) y2.h.size))
 have O3 := hide (show OwnT y3.w W.heap.size (.slice (some ⟨y0.w.heap.size, 0, none⟩) 0 0) [] by rw [← hy3]; exact (uh O2).later (below_new _ _))
 clear O2
 go_wp2_with (at_builtin; go_must (refine appT rfl (.tmp 71) (.tmp 73) rfl (uh HZ) y3.h rfl (uh O3) rfl (uh S3) (one_ne _) (lsum l0 (one_le _) (by decide)) ?_; intro v4 y4 hO; obtain ⟨u4, hu⟩ : ∃ u, ([] ++ [(Tk.mk 4 0 ⟨#[35]⟩)]) = u := ⟨_, rfl⟩; rw [hu] at hO; have l4 := lapp hu l0 (one_le _); have O4 := hide hO; have H4 := hide hu; clear hO hu O3 S3))
 refine (uh TE y4).mono ?_
 rintro r w5 ⟨vs, rfl, hS, hb⟩
 have O5 := hide ((uh O4).later hb)
 clear O4
 obtain ⟨y5, rfl⟩ := Sub.step (uh HZ) hb
 clear hb
 have SR := hide hS
 clear hS
 go_wp2_with (at_builtin; go_must (refine appT rfl (.tmp 75) (.tmp 78) rfl (uh HZ) y5.h rfl (uh O5) rfl (uh SR) tne (lsum l4 tle (by decide)) ?_; intro v6 y6 hO; obtain ⟨u6, hu⟩ : ∃ u, (u4 ++ te) = u := ⟨_, rfl⟩; rw [hu] at hO; have l6 := lapp hu l4 tle; have O6 := hide hO; have H6 := hide hu; clear hO hu O5 SR))
 have EQ : u6 = T := by
  rw [← uh HT]
  rw [← uh H6, ← uh H4]
  simp [mkT, mkS]
 rw [EQ] at O6
 go_ret
 exact ⟨_, rfl, uh HO y6 _ _ (uh O6), uh HB y6⟩
theorem agt9 (rn : Nat) (hrn : rn < 8) (e : Ex) (ok : okF 6 true e = true) (b : Option Addr) (cap : Nat) (w : World) (hr : RdX w 0 e b) : Calls Tryz.prog 60 #[.agg #[.int .i64 9, .int .i64 (rn : Int), .int .i64 e.k, .int .i64 e.n, .string e.s, .slice b e.l.length cap]] w fun r w' => ∃ v, r = .returned v ∧ OwnT w' w.heap.size v (agT ⟨9, (rn : Int), e⟩) ∧ Below w.heap.size w w' := by
 have hbW := below_new w (.cells #[.int .i64 9, .int .i64 (rn : Int), .int .i64 e.k, .int .i64 e.n, .string e.s, .slice b e.l.length cap] 28)
 obtain ⟨W, hW⟩ : ∃ W, w.alloc (.cells #[.int .i64 9, .int .i64 (rn : Int), .int .i64 e.k, .int .i64 e.n, .string e.s, .slice b e.l.length cap] 28) = W := ⟨_, rfl⟩
 have xl : w.heap.size < W.heap.size := by rw [← hW]; simp
 have hrW := hr.later hbW
 have xc : ∀ (i : Nat) (v : Value), (#[.int .i64 9, .int .i64 (rn : Int), .int .i64 e.k, .int .i64 e.n, .string e.s, .slice b e.l.length cap] : Array Value)[i]? = some v → ∀ w1, Below W.heap.size W w1 → w1.cell? ⟨w.heap.size, i, none⟩ = some v := fun i v h w1 hb => (hb.cell (p := ⟨w.heap.size, i, none⟩) xl).trans (by rw [← hW]; exact box17 w _ _ i v h)
 rw [hW] at hbW hrW
 obtain ⟨y0, hy0⟩ : ∃ z : Sub W.heap.size W, w.alloc (.cells #[.int .i64 9, .int .i64 (rn : Int), .int .i64 e.k, .int .i64 e.n, .string e.s, .slice b e.l.length cap] 28) = z.w := ⟨⟨W, Below.refl _ _⟩, hW⟩
 have ne := Sub.ne W.heap.size W
 have HZ := hide (Nat.le_refl W.heap.size)
 have HB := hide (fun y : Sub W.heap.size W => hbW.trans (y.h.mono hbW.size))
 have HO := hide (fun (y : Sub W.heap.size W) v ts (h : OwnT y.w W.heap.size v ts) => h.base hbW.size)
 have E0 : ∀ y : Sub W.heap.size W, y.w.cell? ⟨w.heap.size, 0, none⟩ = some (.int .i64 9) := fun y => xc 0 _ rfl y.w y.h
 have E1 : ∀ y : Sub W.heap.size W, y.w.cell? ⟨w.heap.size, 1, none⟩ = some (.int .i64 (rn : Int)) := fun y => xc 1 _ rfl y.w y.h
 have E2 : ∀ y : Sub W.heap.size W, y.w.cell? ⟨w.heap.size, 2, none⟩ = some (.int .i64 e.k) := fun y => xc 2 _ rfl y.w y.h
 have E3 : ∀ y : Sub W.heap.size W, y.w.cell? ⟨w.heap.size, 3, none⟩ = some (.int .i64 e.n) := fun y => xc 3 _ rfl y.w y.h
 have E4 : ∀ y : Sub W.heap.size W, y.w.cell? ⟨w.heap.size, 4, none⟩ = some (.string e.s) := fun y => xc 4 _ rfl y.w y.h
 have E5 : ∀ y : Sub W.heap.size W, y.w.cell? ⟨w.heap.size, 5, none⟩ = some (.slice b e.l.length cap) := fun y => xc 5 _ rfl y.w y.h
 have Y1 := hide (xc 1 _ rfl)
 have Y2 := hide (xc 2 _ rfl)
 have Y3 := hide (xc 3 _ rfl)
 have Y4 := hide (xc 4 _ rfl)
 have Y5 := hide (xc 5 _ rfl)
 have MK := hide (fun x w1 => markS_ex x w1)
 have RG := hide (fun w1 => regS rn hrn w1)
 have RN := hide (fun w1 => rndS rn hrn w1)
 have TE := hide (fun y : Sub W.heap.size W => toksS_all 6 (by omega) e b cap y.w ok (hrW.later y.h))
 have tne := toks_ne ok
 have tle : (toksF 6 e).length ≤ 200 := Nat.le_trans (toks_ok 6 e ok).2 (mxT_le 6 (by omega))
 unfold Ex.cs at TE
 have AT : agT ⟨9, (rn : Int), e⟩ = mkT 64 :: mkT 35 :: toksF 6 e := rfl
 rw [AT]
 clear AT ok hr hrW hW xc xl hbW hrn
 generalize toksF 6 e = te at *
 generalize e.k = ek at *
 generalize e.n = en at *
 generalize e.s = es at *
 generalize e.l.length = el at *
 unfold Tk.v Tk.cs at MK RG
 simp only at MK RG
 have rl := rnT_le rn
 have rne := rnT_ne rn
 generalize rnT rn = rt at *
 obtain ⟨T, hT⟩ : ∃ T, mkT 64 :: mkT 35 :: te = T := ⟨_, rfl⟩
 have HT := hide hT
 rw [hT]
 clear hT
 have l0 : ([] : List Tk).length ≤ 0 := Nat.le_refl 0
 obtain ⟨y1, hy1⟩ := Sub.step (uh HZ) (below_new y0.w (.cells #[] 71))
 have O1 := hide (show OwnT y1.w W.heap.size (.slice (some ⟨y0.w.heap.size, 0, none⟩) 0 0) [] by rw [← hy1]; exact ownT_empty y0.w W.heap.size (Nat.le_trans (uh HZ) y0.h.size))
 go_enter Tryz.func60, Tryz.ntmps60
 go_wp2_with fail
 refine (uh MK ⟨#[64]⟩ y1.w).mono ?_
 rintro r w2 ⟨rfl, hb⟩
 have O2 := hide ((uh O1).later hb)
 clear O1
 obtain ⟨y2, rfl⟩ := Sub.step (uh HZ) hb
 clear hb
 obtain ⟨y3, hy3⟩ := Sub.step (uh HZ) (below_new y2.w (.cells #[.int .i64 4, .int .i64 0, .string ⟨#[64]⟩] 71))
 have S3 := hide (show OwnT y3.w W.heap.size (.slice (some ⟨y2.w.heap.size, 0, none⟩) 1 1) [(Tk.mk 4 0 ⟨#[64]⟩)] by rw [← hy3]; exact ownT_new y2.w (Tk.mk 4 0 ⟨#[64]⟩) W.heap.size (Nat.le_trans (uh HZ) y2.h.size))
 have O3 := hide (show OwnT y3.w W.heap.size (.slice (some ⟨y0.w.heap.size, 0, none⟩) 0 0) [] by rw [← hy3]; exact (uh O2).later (below_new _ _))
 clear O2
 go_wp2_with (at_builtin; go_must (refine appT rfl (.tmp 13) (.tmp 15) rfl (uh HZ) y3.h rfl (uh O3) rfl (uh S3) (one_ne _) (lsum l0 (one_le _) (by decide)) ?_; intro v4 y4 hO; obtain ⟨u4, hu⟩ : ∃ u, ([] ++ [(Tk.mk 4 0 ⟨#[64]⟩)]) = u := ⟨_, rfl⟩; rw [hu] at hO; have l4 := lapp hu l0 (one_le _); have O4 := hide hO; have H4 := hide hu; clear hO hu O3 S3))
 refine (uh MK ⟨#[35]⟩ y4.w).mono ?_
 rintro r w5 ⟨rfl, hb⟩
 have O5 := hide ((uh O4).later hb)
 clear O4
 obtain ⟨y5, rfl⟩ := Sub.step (uh HZ) hb
 clear hb
 obtain ⟨y6, hy6⟩ := Sub.step (uh HZ) (below_new y5.w (.cells #[.int .i64 4, .int .i64 0, .string ⟨#[35]⟩] 71))
 have S6 := hide (show OwnT y6.w W.heap.size (.slice (some ⟨y5.w.heap.size, 0, none⟩) 1 1) [(Tk.mk 4 0 ⟨#[35]⟩)] by rw [← hy6]; exact ownT_new y5.w (Tk.mk 4 0 ⟨#[35]⟩) W.heap.size (Nat.le_trans (uh HZ) y5.h.size))
 have O6 := hide (show OwnT y6.w W.heap.size (v4) u4 by rw [← hy6]; exact (uh O5).later (below_new _ _))
 clear O5
 go_wp2_with (at_builtin; go_must (refine appT rfl (.tmp 71) (.tmp 73) rfl (uh HZ) y6.h rfl (uh O6) rfl (uh S6) (one_ne _) (lsum l4 (one_le _) (by decide)) ?_; intro v7 y7 hO; obtain ⟨u7, hu⟩ : ∃ u, (u4 ++ [(Tk.mk 4 0 ⟨#[35]⟩)]) = u := ⟨_, rfl⟩; rw [hu] at hO; have l7 := lapp hu l4 (one_le _); have O7 := hide hO; have H7 := hide hu; clear hO hu O6 S6))
 refine (uh TE y7).mono ?_
 rintro r w8 ⟨vs, rfl, hS, hb⟩
 have O8 := hide ((uh O7).later hb)
 clear O7
 obtain ⟨y8, rfl⟩ := Sub.step (uh HZ) hb
 clear hb
 have SR := hide hS
 clear hS
 go_wp2_with (at_builtin; go_must (refine appT rfl (.tmp 75) (.tmp 78) rfl (uh HZ) y8.h rfl (uh O8) rfl (uh SR) tne (lsum l7 tle (by decide)) ?_; intro v9 y9 hO; obtain ⟨u9, hu⟩ : ∃ u, (u7 ++ te) = u := ⟨_, rfl⟩; rw [hu] at hO; have l9 := lapp hu l7 tle; have O9 := hide hO; have H9 := hide hu; clear hO hu O8 SR))
 have EQ : u9 = T := by
  rw [← uh HT]
  rw [← uh H9, ← uh H7, ← uh H4]
  simp [mkT, mkS]
 rw [EQ] at O9
 go_ret
 exact ⟨_, rfl, uh HO y9 _ _ (uh O9), uh HB y9⟩
theorem agt10 (rn : Nat) (hrn : rn < 8) (e : Ex) (ok : okF 6 true e = true) (b : Option Addr) (cap : Nat) (w : World) (hr : RdX w 0 e b) : Calls Tryz.prog 60 #[.agg #[.int .i64 10, .int .i64 (rn : Int), .int .i64 e.k, .int .i64 e.n, .string e.s, .slice b e.l.length cap]] w fun r w' => ∃ v, r = .returned v ∧ OwnT w' w.heap.size v (agT ⟨10, (rn : Int), e⟩) ∧ Below w.heap.size w w' := by
 have hbW := below_new w (.cells #[.int .i64 10, .int .i64 (rn : Int), .int .i64 e.k, .int .i64 e.n, .string e.s, .slice b e.l.length cap] 28)
 obtain ⟨W, hW⟩ : ∃ W, w.alloc (.cells #[.int .i64 10, .int .i64 (rn : Int), .int .i64 e.k, .int .i64 e.n, .string e.s, .slice b e.l.length cap] 28) = W := ⟨_, rfl⟩
 have xl : w.heap.size < W.heap.size := by rw [← hW]; simp
 have hrW := hr.later hbW
 have xc : ∀ (i : Nat) (v : Value), (#[.int .i64 10, .int .i64 (rn : Int), .int .i64 e.k, .int .i64 e.n, .string e.s, .slice b e.l.length cap] : Array Value)[i]? = some v → ∀ w1, Below W.heap.size W w1 → w1.cell? ⟨w.heap.size, i, none⟩ = some v := fun i v h w1 hb => (hb.cell (p := ⟨w.heap.size, i, none⟩) xl).trans (by rw [← hW]; exact box17 w _ _ i v h)
 rw [hW] at hbW hrW
 obtain ⟨y0, hy0⟩ : ∃ z : Sub W.heap.size W, w.alloc (.cells #[.int .i64 10, .int .i64 (rn : Int), .int .i64 e.k, .int .i64 e.n, .string e.s, .slice b e.l.length cap] 28) = z.w := ⟨⟨W, Below.refl _ _⟩, hW⟩
 have ne := Sub.ne W.heap.size W
 have HZ := hide (Nat.le_refl W.heap.size)
 have HB := hide (fun y : Sub W.heap.size W => hbW.trans (y.h.mono hbW.size))
 have HO := hide (fun (y : Sub W.heap.size W) v ts (h : OwnT y.w W.heap.size v ts) => h.base hbW.size)
 have E0 : ∀ y : Sub W.heap.size W, y.w.cell? ⟨w.heap.size, 0, none⟩ = some (.int .i64 10) := fun y => xc 0 _ rfl y.w y.h
 have E1 : ∀ y : Sub W.heap.size W, y.w.cell? ⟨w.heap.size, 1, none⟩ = some (.int .i64 (rn : Int)) := fun y => xc 1 _ rfl y.w y.h
 have E2 : ∀ y : Sub W.heap.size W, y.w.cell? ⟨w.heap.size, 2, none⟩ = some (.int .i64 e.k) := fun y => xc 2 _ rfl y.w y.h
 have E3 : ∀ y : Sub W.heap.size W, y.w.cell? ⟨w.heap.size, 3, none⟩ = some (.int .i64 e.n) := fun y => xc 3 _ rfl y.w y.h
 have E4 : ∀ y : Sub W.heap.size W, y.w.cell? ⟨w.heap.size, 4, none⟩ = some (.string e.s) := fun y => xc 4 _ rfl y.w y.h
 have E5 : ∀ y : Sub W.heap.size W, y.w.cell? ⟨w.heap.size, 5, none⟩ = some (.slice b e.l.length cap) := fun y => xc 5 _ rfl y.w y.h
 have Y1 := hide (xc 1 _ rfl)
 have Y2 := hide (xc 2 _ rfl)
 have Y3 := hide (xc 3 _ rfl)
 have Y4 := hide (xc 4 _ rfl)
 have Y5 := hide (xc 5 _ rfl)
 have MK := hide (fun x w1 => markS_ex x w1)
 have RG := hide (fun w1 => regS rn hrn w1)
 have RN := hide (fun w1 => rndS rn hrn w1)
 have TE := hide (fun y : Sub W.heap.size W => toksS_all 6 (by omega) e b cap y.w ok (hrW.later y.h))
 have tne := toks_ne ok
 have tle : (toksF 6 e).length ≤ 200 := Nat.le_trans (toks_ok 6 e ok).2 (mxT_le 6 (by omega))
 unfold Ex.cs at TE
 have AT : agT ⟨10, (rn : Int), e⟩ = toksF 6 e := rfl
 rw [AT]
 clear AT ok hr hrW hW xc xl hbW hrn
 generalize toksF 6 e = te at *
 generalize e.k = ek at *
 generalize e.n = en at *
 generalize e.s = es at *
 generalize e.l.length = el at *
 unfold Tk.v Tk.cs at MK RG
 simp only at MK RG
 have rl := rnT_le rn
 have rne := rnT_ne rn
 generalize rnT rn = rt at *
 obtain ⟨T, hT⟩ : ∃ T, te = T := ⟨_, rfl⟩
 have HT := hide hT
 rw [hT]
 clear hT
 have l0 : ([] : List Tk).length ≤ 0 := Nat.le_refl 0
 obtain ⟨y1, hy1⟩ := Sub.step (uh HZ) (below_new y0.w (.cells #[] 71))
 have O1 := hide (show OwnT y1.w W.heap.size (.slice (some ⟨y0.w.heap.size, 0, none⟩) 0 0) [] by rw [← hy1]; exact ownT_empty y0.w W.heap.size (Nat.le_trans (uh HZ) y0.h.size))
 go_enter Tryz.func60, Tryz.ntmps60
 go_wp2_with fail
 refine (uh TE y1).mono ?_
 rintro r w2 ⟨vs, rfl, hS, hb⟩
 have O2 := hide ((uh O1).later hb)
 clear O1
 obtain ⟨y2, rfl⟩ := Sub.step (uh HZ) hb
 clear hb
 have SR := hide hS
 clear hS
 go_wp2_with (at_builtin; go_must (refine appT rfl (.tmp 75) (.tmp 78) rfl (uh HZ) y2.h rfl (uh O2) rfl (uh SR) tne (lsum l0 tle (by decide)) ?_; intro v3 y3 hO; obtain ⟨u3, hu⟩ : ∃ u, ([] ++ te) = u := ⟨_, rfl⟩; rw [hu] at hO; have l3 := lapp hu l0 tle; have O3 := hide hO; have H3 := hide hu; clear hO hu O2 SR))
 have EQ : u3 = T := by
  rw [← uh HT]
  rw [← uh H3]
  simp [mkT, mkS]
 rw [EQ] at O3
 go_ret
 exact ⟨_, rfl, uh HO y3 _ _ (uh O3), uh HB y3⟩
theorem agt11 (rn : Nat) (hrn : rn < 8) (e : Ex) (ok : okF 6 true e = true) (b : Option Addr) (cap : Nat) (w : World) (hr : RdX w 0 e b) : Calls Tryz.prog 60 #[.agg #[.int .i64 11, .int .i64 (rn : Int), .int .i64 e.k, .int .i64 e.n, .string e.s, .slice b e.l.length cap]] w fun r w' => ∃ v, r = .returned v ∧ OwnT w' w.heap.size v (agT ⟨11, (rn : Int), e⟩) ∧ Below w.heap.size w w' := by
 have hbW := below_new w (.cells #[.int .i64 11, .int .i64 (rn : Int), .int .i64 e.k, .int .i64 e.n, .string e.s, .slice b e.l.length cap] 28)
 obtain ⟨W, hW⟩ : ∃ W, w.alloc (.cells #[.int .i64 11, .int .i64 (rn : Int), .int .i64 e.k, .int .i64 e.n, .string e.s, .slice b e.l.length cap] 28) = W := ⟨_, rfl⟩
 have xl : w.heap.size < W.heap.size := by rw [← hW]; simp
 have hrW := hr.later hbW
 have xc : ∀ (i : Nat) (v : Value), (#[.int .i64 11, .int .i64 (rn : Int), .int .i64 e.k, .int .i64 e.n, .string e.s, .slice b e.l.length cap] : Array Value)[i]? = some v → ∀ w1, Below W.heap.size W w1 → w1.cell? ⟨w.heap.size, i, none⟩ = some v := fun i v h w1 hb => (hb.cell (p := ⟨w.heap.size, i, none⟩) xl).trans (by rw [← hW]; exact box17 w _ _ i v h)
 rw [hW] at hbW hrW
 obtain ⟨y0, hy0⟩ : ∃ z : Sub W.heap.size W, w.alloc (.cells #[.int .i64 11, .int .i64 (rn : Int), .int .i64 e.k, .int .i64 e.n, .string e.s, .slice b e.l.length cap] 28) = z.w := ⟨⟨W, Below.refl _ _⟩, hW⟩
 have ne := Sub.ne W.heap.size W
 have HZ := hide (Nat.le_refl W.heap.size)
 have HB := hide (fun y : Sub W.heap.size W => hbW.trans (y.h.mono hbW.size))
 have HO := hide (fun (y : Sub W.heap.size W) v ts (h : OwnT y.w W.heap.size v ts) => h.base hbW.size)
 have E0 : ∀ y : Sub W.heap.size W, y.w.cell? ⟨w.heap.size, 0, none⟩ = some (.int .i64 11) := fun y => xc 0 _ rfl y.w y.h
 have E1 : ∀ y : Sub W.heap.size W, y.w.cell? ⟨w.heap.size, 1, none⟩ = some (.int .i64 (rn : Int)) := fun y => xc 1 _ rfl y.w y.h
 have E2 : ∀ y : Sub W.heap.size W, y.w.cell? ⟨w.heap.size, 2, none⟩ = some (.int .i64 e.k) := fun y => xc 2 _ rfl y.w y.h
 have E3 : ∀ y : Sub W.heap.size W, y.w.cell? ⟨w.heap.size, 3, none⟩ = some (.int .i64 e.n) := fun y => xc 3 _ rfl y.w y.h
 have E4 : ∀ y : Sub W.heap.size W, y.w.cell? ⟨w.heap.size, 4, none⟩ = some (.string e.s) := fun y => xc 4 _ rfl y.w y.h
 have E5 : ∀ y : Sub W.heap.size W, y.w.cell? ⟨w.heap.size, 5, none⟩ = some (.slice b e.l.length cap) := fun y => xc 5 _ rfl y.w y.h
 have Y1 := hide (xc 1 _ rfl)
 have Y2 := hide (xc 2 _ rfl)
 have Y3 := hide (xc 3 _ rfl)
 have Y4 := hide (xc 4 _ rfl)
 have Y5 := hide (xc 5 _ rfl)
 have MK := hide (fun x w1 => markS_ex x w1)
 have RG := hide (fun w1 => regS rn hrn w1)
 have RN := hide (fun w1 => rndS rn hrn w1)
 have TE := hide (fun y : Sub W.heap.size W => toksS_all 6 (by omega) e b cap y.w ok (hrW.later y.h))
 have tne := toks_ne ok
 have tle : (toksF 6 e).length ≤ 200 := Nat.le_trans (toks_ok 6 e ok).2 (mxT_le 6 (by omega))
 unfold Ex.cs at TE
 have AT : agT ⟨11, (rn : Int), e⟩ = mkT 64 :: toksF 6 e := rfl
 rw [AT]
 clear AT ok hr hrW hW xc xl hbW hrn
 generalize toksF 6 e = te at *
 generalize e.k = ek at *
 generalize e.n = en at *
 generalize e.s = es at *
 generalize e.l.length = el at *
 unfold Tk.v Tk.cs at MK RG
 simp only at MK RG
 have rl := rnT_le rn
 have rne := rnT_ne rn
 generalize rnT rn = rt at *
 obtain ⟨T, hT⟩ : ∃ T, mkT 64 :: te = T := ⟨_, rfl⟩
 have HT := hide hT
 rw [hT]
 clear hT
 have l0 : ([] : List Tk).length ≤ 0 := Nat.le_refl 0
 obtain ⟨y1, hy1⟩ := Sub.step (uh HZ) (below_new y0.w (.cells #[] 71))
 have O1 := hide (show OwnT y1.w W.heap.size (.slice (some ⟨y0.w.heap.size, 0, none⟩) 0 0) [] by rw [← hy1]; exact ownT_empty y0.w W.heap.size (Nat.le_trans (uh HZ) y0.h.size))
 go_enter Tryz.func60, Tryz.ntmps60
 go_wp2_with fail
 refine (uh MK ⟨#[64]⟩ y1.w).mono ?_
 rintro r w2 ⟨rfl, hb⟩
 have O2 := hide ((uh O1).later hb)
 clear O1
 obtain ⟨y2, rfl⟩ := Sub.step (uh HZ) hb
 clear hb
 obtain ⟨y3, hy3⟩ := Sub.step (uh HZ) (below_new y2.w (.cells #[.int .i64 4, .int .i64 0, .string ⟨#[64]⟩] 71))
 have S3 := hide (show OwnT y3.w W.heap.size (.slice (some ⟨y2.w.heap.size, 0, none⟩) 1 1) [(Tk.mk 4 0 ⟨#[64]⟩)] by rw [← hy3]; exact ownT_new y2.w (Tk.mk 4 0 ⟨#[64]⟩) W.heap.size (Nat.le_trans (uh HZ) y2.h.size))
 have O3 := hide (show OwnT y3.w W.heap.size (.slice (some ⟨y0.w.heap.size, 0, none⟩) 0 0) [] by rw [← hy3]; exact (uh O2).later (below_new _ _))
 clear O2
 go_wp2_with (at_builtin; go_must (refine appT rfl (.tmp 13) (.tmp 15) rfl (uh HZ) y3.h rfl (uh O3) rfl (uh S3) (one_ne _) (lsum l0 (one_le _) (by decide)) ?_; intro v4 y4 hO; obtain ⟨u4, hu⟩ : ∃ u, ([] ++ [(Tk.mk 4 0 ⟨#[64]⟩)]) = u := ⟨_, rfl⟩; rw [hu] at hO; have l4 := lapp hu l0 (one_le _); have O4 := hide hO; have H4 := hide hu; clear hO hu O3 S3))
 refine (uh TE y4).mono ?_
 rintro r w5 ⟨vs, rfl, hS, hb⟩
 have O5 := hide ((uh O4).later hb)
 clear O4
 obtain ⟨y5, rfl⟩ := Sub.step (uh HZ) hb
 clear hb
 have SR := hide hS
 clear hS
 go_wp2_with (at_builtin; go_must (refine appT rfl (.tmp 75) (.tmp 78) rfl (uh HZ) y5.h rfl (uh O5) rfl (uh SR) tne (lsum l4 tle (by decide)) ?_; intro v6 y6 hO; obtain ⟨u6, hu⟩ : ∃ u, (u4 ++ te) = u := ⟨_, rfl⟩; rw [hu] at hO; have l6 := lapp hu l4 tle; have O6 := hide hO; have H6 := hide hu; clear hO hu O5 SR))
 have EQ : u6 = T := by
  rw [← uh HT]
  rw [← uh H6, ← uh H4]
  simp [mkT, mkS]
 rw [EQ] at O6
 go_ret
 exact ⟨_, rfl, uh HO y6 _ _ (uh O6), uh HB y6⟩
end Go.Proofs.YtjnblcgekpgkoaaGreatDoor
