/- Contracts over this seat's translation, laid together; conditions stand as hypotheses of each. -/
import Derived.Test.YtmhcbehplhfgfaaGreatDoorTxA
import Derived.Test.YtmhcbehplhfgfaaGreatDoorTxO

namespace Go.Proofs.YtmhcbehplhfgfaaGreatDoor
open Go.ChangeShapes Go.WideShapes Go.ChangeAt Go.RowKit
set_option linter.unusedVariables false
set_option maxRecDepth 8000
set_option linter.unusedSimpArgs false
/-- How much a line holds, as the laws count it. -/
def Ln.zz (x : Ln) : Nat := x.s.size + x.src.e.sz + x.dst.e.sz + (x.l.length + szX x.l)
structure FtL (x : Ln) : Prop where
  s : x.s.size ≤ 9223372036854775807
  a : Fit x.src.e
  b : Fit x.dst.e
  l : Fit ⟨0, 0, E0, x.l⟩
theorem SzL.of {x : Ln} (h : x.zz ≤ 1048576) : SzL x := by
  unfold Ln.zz at h
  refine ⟨by omega, by omega, by omega, by omega, fun i hi => ?_⟩
  have := sz_part hi
  omega
set_option maxHeartbeats 8000000 in
theorem szL_any (x : Ln) (p : La) (left : Int) (w : World) (hr : RdL w x p) (hf : FtL x) (h0 : 0 ≤ left) (h1 : left ≤ 1048576) : Calls Tryz.prog 4 #[.agg (x.cs p), .int .i64 left] w fun r w' => r = .returned (.int .i64 (lessX left x.zz)) ∧ Below w.heap.size w w' := by
  have hbW := below_new w (.cells (x.cs p) 28)
  obtain ⟨W, hW⟩ : ∃ W, w.alloc (.cells (x.cs p) 28) = W := ⟨_, rfl⟩
  have hrW := hr.later hbW
  have xl : w.heap.size < W.heap.size := by rw [← hW]; simp
  have xc : ∀ (i : Nat) (v : Value), (x.cs p)[i]? = some v → ∀ y : Sub W.heap.size W, y.w.cell? ⟨w.heap.size, i, none⟩ = some v := fun i v h y => (y.h.cell (p := ⟨w.heap.size, i, none⟩) xl).trans (by rw [← hW]; exact box17 w _ _ i v h)
  rw [hW] at hbW hrW
  obtain ⟨z, hz0⟩ : ∃ z : Sub W.heap.size W, w.alloc (.cells (x.cs p) 28) = z.w := ⟨⟨W, Below.refl _ _⟩, hW⟩
  have ne := Sub.ne W.heap.size W
  have HZ := hide (Nat.le_refl W.heap.size)
  have HB := hide (fun y : Sub W.heap.size W => hbW.trans (y.h.mono hbW.size))
  have F0 : ∀ y : Sub W.heap.size W, y.w.cell? ⟨w.heap.size, 0, none⟩ = some (.int .i64 x.k) := xc 0 _ rfl
  have F1 : ∀ y : Sub W.heap.size W, y.w.cell? ⟨w.heap.size, 1, none⟩ = some (.string x.s) := xc 1 _ rfl
  have F2 : ∀ y : Sub W.heap.size W, y.w.cell? ⟨w.heap.size, 2, none⟩ = some (.int .i64 x.op) := xc 2 _ rfl
  have F3 : ∀ y : Sub W.heap.size W, y.w.cell? ⟨w.heap.size, 3, none⟩ = some (.int .i64 x.src.f) := xc 3 _ rfl
  have F4 : ∀ y : Sub W.heap.size W, y.w.cell? ⟨w.heap.size, 4, none⟩ = some (.int .i64 x.src.r) := xc 4 _ rfl
  have F5 : ∀ y : Sub W.heap.size W, y.w.cell? ⟨w.heap.size, 5, none⟩ = some (.int .i64 x.src.e.k) := xc 5 _ rfl
  have F6 : ∀ y : Sub W.heap.size W, y.w.cell? ⟨w.heap.size, 6, none⟩ = some (.int .i64 x.src.e.n) := xc 6 _ rfl
  have F7 : ∀ y : Sub W.heap.size W, y.w.cell? ⟨w.heap.size, 7, none⟩ = some (.string x.src.e.s) := xc 7 _ rfl
  have F8 : ∀ y : Sub W.heap.size W, y.w.cell? ⟨w.heap.size, 8, none⟩ = some (.slice p.b1 x.src.e.l.length p.c1) := xc 8 _ rfl
  have F9 : ∀ y : Sub W.heap.size W, y.w.cell? ⟨w.heap.size, 9, none⟩ = some (.int .i64 x.dst.f) := xc 9 _ rfl
  have F10 : ∀ y : Sub W.heap.size W, y.w.cell? ⟨w.heap.size, 10, none⟩ = some (.int .i64 x.dst.r) := xc 10 _ rfl
  have F11 : ∀ y : Sub W.heap.size W, y.w.cell? ⟨w.heap.size, 11, none⟩ = some (.int .i64 x.dst.e.k) := xc 11 _ rfl
  have F12 : ∀ y : Sub W.heap.size W, y.w.cell? ⟨w.heap.size, 12, none⟩ = some (.int .i64 x.dst.e.n) := xc 12 _ rfl
  have F13 : ∀ y : Sub W.heap.size W, y.w.cell? ⟨w.heap.size, 13, none⟩ = some (.string x.dst.e.s) := xc 13 _ rfl
  have F14 : ∀ y : Sub W.heap.size W, y.w.cell? ⟨w.heap.size, 14, none⟩ = some (.slice p.b2 x.dst.e.l.length p.c2) := xc 14 _ rfl
  have F15 : ∀ y : Sub W.heap.size W, y.w.cell? ⟨w.heap.size, 15, none⟩ = some (.int .i64 x.n) := xc 15 _ rfl
  have F16 : ∀ y : Sub W.heap.size W, y.w.cell? ⟨w.heap.size, 16, none⟩ = some (.slice p.b3 x.l.length p.c3) := xc 16 _ rfl
  obtain ⟨hfs, hfa, hfb, hfl⟩ := hf
  have S1 := hide (fun (d : Int) (q0 : 0 ≤ d) (q1 : d ≤ 1048576) (y : Sub W.heap.size W) => szA_any x.src p.b1 p.c1 d y.w (hrW.a.later y.h) hfa q0 q1)
  have S2 := hide (fun (d : Int) (q0 : 0 ≤ d) (q1 : d ≤ 1048576) (y : Sub W.heap.size W) => szA_any x.dst p.b2 p.c2 d y.w (hrW.b.later y.h) hfb q0 q1)
  have S3 := hide (fun (d : Int) (q0 : 0 ≤ d) (q1 : d ≤ 1048576) (y : Sub W.heap.size W) => (show Calls Tryz.prog 10 #[.slice p.b3 x.l.length p.c3, .int .i64 d] y.w fun r w' => r = .returned (.int .i64 (lessX d (x.l.length + szX x.l))) ∧ Below y.w.heap.size y.w w' from szXS_of ⟨0, 0, E0, x.l⟩ (fun i hi => szX_any _) p.b3 p.c3 d y.w (hrW.l.later y.h) hfl q0 q1))
  unfold Ln.zz
  unfold Ag.cs at S1 S2
  unfold Ln.cs at hz0 ⊢
  clear hr hrW hfa hfb hfl xl hW xc hbW
  generalize x.src.e.sz = za at *
  generalize x.dst.e.sz = zb at *
  generalize x.l.length + szX x.l = zc at *
  generalize hzs : x.s.size = zs at *
  have HS := hide hzs
  clear hzs
  generalize x.src.f = sf at *
  generalize x.src.r = sr at *
  generalize x.src.e.k = sk at *
  generalize x.src.e.n = sn at *
  generalize x.src.e.s = ss at *
  generalize x.src.e.l.length = sl at *
  generalize x.dst.f = df at *
  generalize x.dst.r = dr at *
  generalize x.dst.e.k = dk at *
  generalize x.dst.e.n = dn at *
  generalize x.dst.e.s = ds at *
  generalize x.dst.e.l.length = dl at *
  generalize x.k = k at *
  generalize x.op = op at *
  generalize x.n = n at *
  generalize x.l.length = ll at *
  generalize p.b1 = b1 at *
  generalize p.c1 = c1 at *
  generalize p.b2 = b2 at *
  generalize p.c2 = c2 at *
  generalize p.b3 = b3 at *
  generalize p.c3 = c3 at *
  have hw : IntKind.i64.wrap (left - (zs : Int)) = left - (zs : Int) := by rw [IntKind.wrap_i64]; omega
  have hsz : x.s.size = zs := unhide HS
  unfold lessX at S1 S2 S3 ⊢
  by_cases n1 : left - (zs : Int) < 0
  · rw [if_pos (show left - ((zs + za + zb + zc : Nat) : Int) < 0 by omega)]
    go_enter Tryz.func4, Tryz.ntmps4
    go_wp2_with fail
    go_ret
    exact ⟨rfl, unhide HB _⟩
  obtain ⟨d1, hd1⟩ : ∃ d, left - (zs : Int) = d := ⟨_, rfl⟩
  rw [hd1] at hw n1
  have g1 : (0 : Int) ≤ d1 := by omega
  have C1 := hide (unhide S1 d1 g1 (by omega))
  clear S1
  by_cases n2 : d1 - (za : Int) < 0
  · rw [if_pos n2] at C1
    rw [if_pos (show left - ((zs + za + zb + zc : Nat) : Int) < 0 by omega)]
    clear n2 g1
    go_enter Tryz.func4, Tryz.ntmps4
    go_wp2_with (go_at_call_of 9 sf; refine (Sub.call (unhide HZ) (unhide C1 _)).mono ?_; rintro r _ ⟨rfl, z2, rfl⟩)
    go_ret
    exact ⟨rfl, unhide HB _⟩
  obtain ⟨d2, hd2⟩ : ∃ d, d1 - (za : Int) = d := ⟨_, rfl⟩
  rw [if_neg n2, hd2] at C1
  rw [hd2] at n2
  have g2 : (0 : Int) ≤ d2 := by omega
  have C2 := hide (unhide S2 d2 g2 (by omega))
  clear S2
  by_cases n3 : d2 - (zb : Int) < 0
  · rw [if_pos n3] at C2
    rw [if_pos (show left - ((zs + za + zb + zc : Nat) : Int) < 0 by omega)]
    clear n3 g1 g2 hd2
    go_enter Tryz.func4, Tryz.ntmps4
    go_wp2_with (first | (go_at_call_of 9 sf; refine (Sub.call (unhide HZ) (unhide C1 _)).mono ?_; rintro r _ ⟨rfl, z2, rfl⟩) | (go_at_call_of 9 df; refine (Sub.call (unhide HZ) (unhide C2 _)).mono ?_; rintro r _ ⟨rfl, z2, rfl⟩))
    go_ret
    exact ⟨rfl, unhide HB _⟩
  obtain ⟨d3, hd3⟩ : ∃ d, d2 - (zb : Int) = d := ⟨_, rfl⟩
  rw [if_neg n3, hd3] at C2
  rw [hd3] at n3
  have g3 : (0 : Int) ≤ d3 := by omega
  have C3 := hide (unhide S3 d3 g3 (by omega))
  clear S3
  by_cases n4 : d3 - (zc : Int) < 0
  · rw [if_pos n4] at C3
    rw [if_pos (show left - ((zs + za + zb + zc : Nat) : Int) < 0 by omega)]
    clear n4 g1 g2 g3 hd2 hd3
    go_enter Tryz.func4, Tryz.ntmps4
    go_wp2_with (first | (go_at_call_of 9 sf; refine (Sub.call (unhide HZ) (unhide C1 _)).mono ?_; rintro r _ ⟨rfl, z2, rfl⟩) | (go_at_call_of 9 df; refine (Sub.call (unhide HZ) (unhide C2 _)).mono ?_; rintro r _ ⟨rfl, z2, rfl⟩) | (go_at_call 10; refine (Sub.call (unhide HZ) (unhide C3 _)).mono ?_; rintro r _ ⟨rfl, z2, rfl⟩))
    go_ret
    exact ⟨rfl, unhide HB _⟩
  obtain ⟨d4, hd4⟩ : ∃ d, d3 - (zc : Int) = d := ⟨_, rfl⟩
  rw [if_neg n4, hd4] at C3
  rw [hd4] at n4
  rw [if_neg (show ¬ (left - ((zs + za + zb + zc : Nat) : Int) < 0) by omega)]
  rw [show left - ((zs + za + zb + zc : Nat) : Int) = d4 by omega]
  clear hd2 hd3 hd4 g1 g2 g3
  go_enter Tryz.func4, Tryz.ntmps4
  go_wp2_with (first | (go_at_call_of 9 sf; refine (Sub.call (unhide HZ) (unhide C1 _)).mono ?_; rintro r _ ⟨rfl, z2, rfl⟩) | (go_at_call_of 9 df; refine (Sub.call (unhide HZ) (unhide C2 _)).mono ?_; rintro r _ ⟨rfl, z2, rfl⟩) | (go_at_call 10; refine (Sub.call (unhide HZ) (unhide C3 _)).mono ?_; rintro r _ ⟨rfl, z2, rfl⟩))
  go_ret
  exact ⟨rfl, unhide HB _⟩
set_option maxHeartbeats 8000000 in
theorem eqL_same (x : Ln) (p q : La) (w : World) (hp : RdL w x p) (hq : RdL w x q) (hz : SzL x) (hzl : (Ex.mk 0 0 E0 x.l).sz ≤ 1048576) : Calls Tryz.prog 8 #[.agg (x.cs p), .agg (x.cs q)] w fun r w' => r = .returned (.bool true) ∧ Below w.heap.size w w' := by
  have b1 := below_new w (.cells (x.cs p) 37)
  have b2 := below_new (w.alloc (.cells (x.cs p) 37)) (.cells (x.cs q) 37)
  have hbW := b1.trans (b2.mono b1.size)
  obtain ⟨W, hW⟩ : ∃ W, (w.alloc (.cells (x.cs p) 37)).alloc (.cells (x.cs q) 37) = W := ⟨_, rfl⟩
  have hpW := hp.later hbW
  have hqW := hq.later hbW
  have xl : w.heap.size + 1 < W.heap.size := by rw [← hW]; simp
  have xc : ∀ (i : Nat) (v : Value), (x.cs p)[i]? = some v → ∀ y : Sub W.heap.size W, y.w.cell? ⟨w.heap.size, i, none⟩ = some v := fun i v h y => (y.h.cell (p := ⟨w.heap.size, i, none⟩) (by show w.heap.size < W.heap.size; omega)).trans (by rw [← hW]; exact (b2.cell (p := ⟨w.heap.size, i, none⟩) (by simp)).trans (box17 w _ _ i v h))
  have xd : ∀ (i : Nat) (v : Value), (x.cs q)[i]? = some v → ∀ y : Sub W.heap.size W, y.w.cell? ⟨w.heap.size + 1, i, none⟩ = some v := fun i v h y => (y.h.cell (p := ⟨w.heap.size + 1, i, none⟩) xl).trans (by rw [← hW]; have := box17 (w.alloc (.cells (x.cs p) 37)) (x.cs q) 37 i v h; rw [show (w.alloc (.cells (x.cs p) 37)).heap.size = w.heap.size + 1 by simp] at this; exact this)
  rw [hW] at hbW hpW hqW
  obtain ⟨z, hz0⟩ : ∃ z : Sub W.heap.size W, (w.alloc (.cells (x.cs p) 37)).alloc (.cells (x.cs q) 37) = z.w := ⟨⟨W, Below.refl _ _⟩, hW⟩
  have ne := Sub.ne W.heap.size W
  have HZ := hide (Nat.le_refl W.heap.size)
  have HB := hide (fun y : Sub W.heap.size W => hbW.trans (y.h.mono hbW.size))
  obtain ⟨hza, hzb, hzc, hzd, hze⟩ := hz
  have C1 := hide (fun y : Sub W.heap.size W => eqA_same x.src p.b1 q.b1 p.c1 q.c1 y.w (hpW.a.later y.h) (hqW.a.later y.h) hzb)
  have C2 := hide (fun y : Sub W.heap.size W => eqA_same x.dst p.b2 q.b2 p.c2 q.c2 y.w (hpW.b.later y.h) (hqW.b.later y.h) hzc)
  have C3 := hide (fun y : Sub W.heap.size W => (show Calls Tryz.prog 22 #[.slice p.b3 x.l.length p.c3, .slice q.b3 x.l.length q.c3] y.w fun r w' => r = .returned (.bool true) ∧ Below y.w.heap.size y.w w' from eqXS_of ⟨0, 0, E0, x.l⟩ (fun i hi => eqX_same _) p.b3 q.b3 p.c3 q.c3 y.w (hpW.l.later y.h) (hqW.l.later y.h) hzl))
  have F0 : ∀ y : Sub W.heap.size W, y.w.cell? ⟨w.heap.size, 0, none⟩ = some (.int .i64 x.k) := xc 0 _ rfl
  have G0 : ∀ y : Sub W.heap.size W, y.w.cell? ⟨w.heap.size + 1, 0, none⟩ = some (.int .i64 x.k) := xd 0 _ rfl
  have F1 : ∀ y : Sub W.heap.size W, y.w.cell? ⟨w.heap.size, 1, none⟩ = some (.string x.s) := xc 1 _ rfl
  have G1 : ∀ y : Sub W.heap.size W, y.w.cell? ⟨w.heap.size + 1, 1, none⟩ = some (.string x.s) := xd 1 _ rfl
  have F2 : ∀ y : Sub W.heap.size W, y.w.cell? ⟨w.heap.size, 2, none⟩ = some (.int .i64 x.op) := xc 2 _ rfl
  have G2 : ∀ y : Sub W.heap.size W, y.w.cell? ⟨w.heap.size + 1, 2, none⟩ = some (.int .i64 x.op) := xd 2 _ rfl
  have F3 : ∀ y : Sub W.heap.size W, y.w.cell? ⟨w.heap.size, 3, none⟩ = some (.int .i64 x.src.f) := xc 3 _ rfl
  have G3 : ∀ y : Sub W.heap.size W, y.w.cell? ⟨w.heap.size + 1, 3, none⟩ = some (.int .i64 x.src.f) := xd 3 _ rfl
  have F4 : ∀ y : Sub W.heap.size W, y.w.cell? ⟨w.heap.size, 4, none⟩ = some (.int .i64 x.src.r) := xc 4 _ rfl
  have G4 : ∀ y : Sub W.heap.size W, y.w.cell? ⟨w.heap.size + 1, 4, none⟩ = some (.int .i64 x.src.r) := xd 4 _ rfl
  have F5 : ∀ y : Sub W.heap.size W, y.w.cell? ⟨w.heap.size, 5, none⟩ = some (.int .i64 x.src.e.k) := xc 5 _ rfl
  have G5 : ∀ y : Sub W.heap.size W, y.w.cell? ⟨w.heap.size + 1, 5, none⟩ = some (.int .i64 x.src.e.k) := xd 5 _ rfl
  have F6 : ∀ y : Sub W.heap.size W, y.w.cell? ⟨w.heap.size, 6, none⟩ = some (.int .i64 x.src.e.n) := xc 6 _ rfl
  have G6 : ∀ y : Sub W.heap.size W, y.w.cell? ⟨w.heap.size + 1, 6, none⟩ = some (.int .i64 x.src.e.n) := xd 6 _ rfl
  have F7 : ∀ y : Sub W.heap.size W, y.w.cell? ⟨w.heap.size, 7, none⟩ = some (.string x.src.e.s) := xc 7 _ rfl
  have G7 : ∀ y : Sub W.heap.size W, y.w.cell? ⟨w.heap.size + 1, 7, none⟩ = some (.string x.src.e.s) := xd 7 _ rfl
  have F8 : ∀ y : Sub W.heap.size W, y.w.cell? ⟨w.heap.size, 8, none⟩ = some (.slice p.b1 x.src.e.l.length p.c1) := xc 8 _ rfl
  have G8 : ∀ y : Sub W.heap.size W, y.w.cell? ⟨w.heap.size + 1, 8, none⟩ = some (.slice q.b1 x.src.e.l.length q.c1) := xd 8 _ rfl
  have F9 : ∀ y : Sub W.heap.size W, y.w.cell? ⟨w.heap.size, 9, none⟩ = some (.int .i64 x.dst.f) := xc 9 _ rfl
  have G9 : ∀ y : Sub W.heap.size W, y.w.cell? ⟨w.heap.size + 1, 9, none⟩ = some (.int .i64 x.dst.f) := xd 9 _ rfl
  have F10 : ∀ y : Sub W.heap.size W, y.w.cell? ⟨w.heap.size, 10, none⟩ = some (.int .i64 x.dst.r) := xc 10 _ rfl
  have G10 : ∀ y : Sub W.heap.size W, y.w.cell? ⟨w.heap.size + 1, 10, none⟩ = some (.int .i64 x.dst.r) := xd 10 _ rfl
  have F11 : ∀ y : Sub W.heap.size W, y.w.cell? ⟨w.heap.size, 11, none⟩ = some (.int .i64 x.dst.e.k) := xc 11 _ rfl
  have G11 : ∀ y : Sub W.heap.size W, y.w.cell? ⟨w.heap.size + 1, 11, none⟩ = some (.int .i64 x.dst.e.k) := xd 11 _ rfl
  have F12 : ∀ y : Sub W.heap.size W, y.w.cell? ⟨w.heap.size, 12, none⟩ = some (.int .i64 x.dst.e.n) := xc 12 _ rfl
  have G12 : ∀ y : Sub W.heap.size W, y.w.cell? ⟨w.heap.size + 1, 12, none⟩ = some (.int .i64 x.dst.e.n) := xd 12 _ rfl
  have F13 : ∀ y : Sub W.heap.size W, y.w.cell? ⟨w.heap.size, 13, none⟩ = some (.string x.dst.e.s) := xc 13 _ rfl
  have G13 : ∀ y : Sub W.heap.size W, y.w.cell? ⟨w.heap.size + 1, 13, none⟩ = some (.string x.dst.e.s) := xd 13 _ rfl
  have F14 : ∀ y : Sub W.heap.size W, y.w.cell? ⟨w.heap.size, 14, none⟩ = some (.slice p.b2 x.dst.e.l.length p.c2) := xc 14 _ rfl
  have G14 : ∀ y : Sub W.heap.size W, y.w.cell? ⟨w.heap.size + 1, 14, none⟩ = some (.slice q.b2 x.dst.e.l.length q.c2) := xd 14 _ rfl
  have F15 : ∀ y : Sub W.heap.size W, y.w.cell? ⟨w.heap.size, 15, none⟩ = some (.int .i64 x.n) := xc 15 _ rfl
  have G15 : ∀ y : Sub W.heap.size W, y.w.cell? ⟨w.heap.size + 1, 15, none⟩ = some (.int .i64 x.n) := xd 15 _ rfl
  have F16 : ∀ y : Sub W.heap.size W, y.w.cell? ⟨w.heap.size, 16, none⟩ = some (.slice p.b3 x.l.length p.c3) := xc 16 _ rfl
  have G16 : ∀ y : Sub W.heap.size W, y.w.cell? ⟨w.heap.size + 1, 16, none⟩ = some (.slice q.b3 x.l.length q.c3) := xd 16 _ rfl
  unfold Ag.cs at C1 C2
  unfold Ln.cs at hz0 ⊢
  clear hp hq hpW hqW xl hW xc xd hbW b1 b2 hza hzb hzc hzd hze hzl
  generalize x.src.f = sf at *
  generalize x.src.r = sr at *
  generalize x.src.e.k = sk at *
  generalize x.src.e.n = sn at *
  generalize x.src.e.s = ss at *
  generalize x.src.e.l.length = sl at *
  generalize x.dst.f = df at *
  generalize x.dst.r = dr at *
  generalize x.dst.e.k = dk at *
  generalize x.dst.e.n = dn at *
  generalize x.dst.e.s = ds at *
  generalize x.dst.e.l.length = dl at *
  generalize x.k = k at *
  generalize x.s = s at *
  generalize x.op = op at *
  generalize x.n = n at *
  generalize x.l.length = ll at *
  generalize p.b1 = b1 at *
  generalize p.c1 = c1 at *
  generalize p.b2 = b2 at *
  generalize p.c2 = c2 at *
  generalize p.b3 = b3 at *
  generalize p.c3 = c3 at *
  generalize q.b1 = qb1 at *
  generalize q.c1 = qc1 at *
  generalize q.b2 = qb2 at *
  generalize q.c2 = qc2 at *
  generalize q.b3 = qb3 at *
  generalize q.c3 = qc3 at *
  go_enter Tryz.func8, Tryz.ntmps8
  go_wp2_with (first | (go_at_call_of 21 sf; refine (Sub.call (unhide HZ) (unhide C1 _)).mono ?_; rintro r _ ⟨rfl, z2, rfl⟩) | (go_at_call_of 21 df; refine (Sub.call (unhide HZ) (unhide C2 _)).mono ?_; rintro r _ ⟨rfl, z2, rfl⟩) | (go_at_call 22; refine (Sub.call (unhide HZ) (unhide C3 _)).mono ?_; rintro r _ ⟨rfl, z2, rfl⟩))
  go_ret
  exact ⟨rfl, unhide HB _⟩
end Go.Proofs.YtmhcbehplhfgfaaGreatDoor

namespace Go.Proofs.YtmhcbehplhfgfaaGreatDoor
open Go.ChangeShapes Go.WideShapes Go.ChangeAt Go.RowKit
set_option linter.unusedVariables false
set_option maxRecDepth 8000
set_option linter.unusedSimpArgs false
/-- A line's lists, each new from B on. -/
structure NwL (w : World) (B : Nat) (x : Ln) (p : La) : Prop where
  a : NewX w B x.src.e p.b1
  b : NewX w B x.dst.e p.b2
  l : NewX w B ⟨0, 0, E0, x.l⟩ p.b3
theorem NwL.rd {w : World} {B : Nat} {x : Ln} {p : La} (h : NwL w B x p) : RdL w x p := ⟨h.a.rd.lower (Nat.zero_le _) _ _, h.b.rd.lower (Nat.zero_le _) _ _, h.l.rd.lower (Nat.zero_le _) _ _⟩
set_option maxHeartbeats 8000000 in
theorem toL_any (x : Ln) (p : La) (w : World) (hr : RdL w x p) (hz : SzL x) (hzl : (Ex.mk 0 0 E0 x.l).sz ≤ 1048576) : Calls Tryz.prog 6 #[.agg (x.cs p)] w fun r w' => ∃ q : La, r = .returned (.agg (x.cs q)) ∧ NwL w' w.heap.size x q ∧ Below w.heap.size w w' := by
  obtain ⟨hb, hg1, hg2⟩ := three_new w (.cells (x.cs p) 28) (.cells #[.int .i64 0, .string ⟨#[]⟩, .int .i64 0, .int .i64 0, .int .i64 0, .int .i64 0, .int .i64 0, .string ⟨#[]⟩, .slice none 0 0, .int .i64 0, .int .i64 0, .int .i64 0, .int .i64 0, .string ⟨#[]⟩, .slice none 0 0, .int .i64 0, .slice none 0 0] 37) (.cells #[.int .i64 x.k, .string x.s, .int .i64 x.op, .int .i64 0, .int .i64 0, .int .i64 0, .int .i64 0, .string ⟨#[]⟩, .slice none 0 0, .int .i64 0, .int .i64 0, .int .i64 0, .int .i64 0, .string ⟨#[]⟩, .slice none 0 0, .int .i64 0, .slice none 0 0] 37)
  have hg0 := three_new0 w (.cells (x.cs p) 28) (.cells #[.int .i64 0, .string ⟨#[]⟩, .int .i64 0, .int .i64 0, .int .i64 0, .int .i64 0, .int .i64 0, .string ⟨#[]⟩, .slice none 0 0, .int .i64 0, .int .i64 0, .int .i64 0, .int .i64 0, .string ⟨#[]⟩, .slice none 0 0, .int .i64 0, .slice none 0 0] 37) (.cells #[.int .i64 x.k, .string x.s, .int .i64 x.op, .int .i64 0, .int .i64 0, .int .i64 0, .int .i64 0, .string ⟨#[]⟩, .slice none 0 0, .int .i64 0, .int .i64 0, .int .i64 0, .int .i64 0, .string ⟨#[]⟩, .slice none 0 0, .int .i64 0, .slice none 0 0] 37)
  obtain ⟨W, hW⟩ : ∃ W, ((w.alloc (.cells (x.cs p) 28)).alloc (.cells #[.int .i64 0, .string ⟨#[]⟩, .int .i64 0, .int .i64 0, .int .i64 0, .int .i64 0, .int .i64 0, .string ⟨#[]⟩, .slice none 0 0, .int .i64 0, .int .i64 0, .int .i64 0, .int .i64 0, .string ⟨#[]⟩, .slice none 0 0, .int .i64 0, .slice none 0 0] 37)).alloc (.cells #[.int .i64 x.k, .string x.s, .int .i64 x.op, .int .i64 0, .int .i64 0, .int .i64 0, .int .i64 0, .string ⟨#[]⟩, .slice none 0 0, .int .i64 0, .int .i64 0, .int .i64 0, .int .i64 0, .string ⟨#[]⟩, .slice none 0 0, .int .i64 0, .slice none 0 0] 37) = W := ⟨_, rfl⟩
  have hsz : w.heap.size + 3 = W.heap.size := by rw [← hW]; simp
  rw [hW] at hb hg1 hg2 hg0
  have hrW := hr.later hb
  obtain ⟨hza, hzb, hzc, hzd, hze⟩ := hz
  have S1 := hide (toA_any x.src p.b1 p.c1 W hrW.a hzb)
  have S2 := hide (fun wr (h : Below w.heap.size w wr) => toA_any x.dst p.b2 p.c2 wr (hr.b.later h) hzc)
  have S3 := hide (fun wr (h : Below w.heap.size w wr) => (show Calls Tryz.prog 15 #[.slice p.b3 x.l.length p.c3] wr fun r w' => r = .returned (.slice (some ⟨wr.heap.size, 0, none⟩) x.l.length x.l.length) ∧ NewX w' wr.heap.size ⟨0, 0, E0, x.l⟩ (some ⟨wr.heap.size, 0, none⟩) ∧ Below wr.heap.size wr w' from toXS_of ⟨0, 0, E0, x.l⟩ (fun i hi => toX_any _) p.b3 p.c3 wr (hr.l.later h) hzl))
  have B0 := hide hb
  have P0 := hide hg0
  have Q0 := hide hg1
  have R0 := hide hg2
  have HL := hide hsz
  have a3 := Lib.cell_of_heap hg0 3
  have a4 := Lib.cell_of_heap hg0 4
  have a5 := Lib.cell_of_heap hg0 5
  have a6 := Lib.cell_of_heap hg0 6
  have a7 := Lib.cell_of_heap hg0 7
  have a8 := Lib.cell_of_heap hg0 8
  clear hr hrW hb hg0 hg1 hg2 hza hzb hzc hzd hze hzl hsz
  unfold Ag.cs at S1 S2
  unfold Ln.cs at hW P0 a3 a4 a5 a6 a7 a8 ⊢
  simp at a3 a4 a5 a6 a7 a8
  generalize x.src.f = sf at *
  generalize x.src.r = sr at *
  generalize x.src.e.k = sk at *
  generalize x.src.e.n = sn at *
  generalize x.src.e.s = ss at *
  generalize x.src.e.l.length = sl at *
  generalize x.dst.f = df at *
  generalize x.dst.r = dr at *
  generalize x.dst.e.k = dk at *
  generalize x.dst.e.n = dn at *
  generalize x.dst.e.s = ds at *
  generalize x.dst.e.l.length = dl at *
  generalize x.k = k at *
  generalize x.s = s at *
  generalize x.op = op at *
  generalize x.n = n at *
  generalize x.l.length = ll at *
  generalize p.b1 = b1 at *
  generalize p.c1 = c1_ at *
  generalize p.b2 = b2 at *
  generalize p.c2 = c2_ at *
  generalize p.b3 = b3 at *
  generalize p.c3 = c3_ at *
  go_enter Tryz.func6, Tryz.ntmps6
  go_wp2_with fail
  refine (unhide S1).mono ?_
  rintro r v1 ⟨c1, cp1, rfl, hn, hb⟩
  have p1 := row_keep (unhide P0) hb
  have q1 := row_keep (unhide Q0) hb
  have r1 := row_keep (unhide R0) hb
  have b1 := (unhide B0).trans (hb.mono (unhide B0).size)
  have Nv1 := hn.lower (show w.heap.size + 3 ≤ W.heap.size by have := unhide HL; omega)
  clear hn S1
  have hg : v1.grownBy ((((((v1.setCell ⟨w.heap.size + 1 + 1, 3, none⟩ (.int .i64 sf)).setCell ⟨w.heap.size + 1 + 1, 4, none⟩ (.int .i64 sr)).setCell ⟨w.heap.size + 1 + 1, 5, none⟩ (.int .i64 sk)).setCell ⟨w.heap.size + 1 + 1, 6, none⟩ (.int .i64 sn)).setCell ⟨w.heap.size + 1 + 1, 7, none⟩ (.string ss)).setCell ⟨w.heap.size + 1 + 1, 8, none⟩ (.slice c1 sl cp1)) (some (w.heap.size + 1 + 1)) := (grownBy_trans (grownBy_trans (grownBy_trans (grownBy_trans (grownBy_trans (grownBy_set (.int .i64 sf)) (grownBy_set (.int .i64 sr))) (grownBy_set (.int .i64 sk))) (grownBy_set (.int .i64 sn))) (grownBy_set (.string ss))) (grownBy_set (.slice c1 sl cp1)))
  have P1 := hide ((hg.block _ (Array.getElem?_eq_some_iff.1 p1).1 (fun e => by simp at e; omega)).trans p1)
  have Q1 := hide ((hg.block _ (Array.getElem?_eq_some_iff.1 q1).1 (fun e => by simp at e)).trans q1)
  have R1 := hide (show (((((((v1.setCell ⟨w.heap.size + 1 + 1, 3, none⟩ (.int .i64 sf)).setCell ⟨w.heap.size + 1 + 1, 4, none⟩ (.int .i64 sr)).setCell ⟨w.heap.size + 1 + 1, 5, none⟩ (.int .i64 sk)).setCell ⟨w.heap.size + 1 + 1, 6, none⟩ (.int .i64 sn)).setCell ⟨w.heap.size + 1 + 1, 7, none⟩ (.string ss)).setCell ⟨w.heap.size + 1 + 1, 8, none⟩ (.slice c1 sl cp1))).heap[w.heap.size + 1 + 1]? = some (.cells #[.int .i64 k, .string s, .int .i64 op, .int .i64 sf, .int .i64 sr, .int .i64 sk, .int .i64 sn, .string ss, .slice c1 sl cp1, .int .i64 0, .int .i64 0, .int .i64 0, .int .i64 0, .string ⟨#[]⟩, .slice none 0 0, .int .i64 0, .slice none 0 0] 37 (0, 0)) from (heap_setK 8 _ (heap_setK 7 _ (heap_setK 6 _ (heap_setK 5 _ (heap_setK 4 _ (heap_setK 3 _ r1)))))))
  have B1 := hide (b1.grown hg b1.size (fun g e => by cases e; omega))
  have N1 := hide (Nv1.drawn hg (by have := unhide HL; omega))
  have k3 := Lib.cell_of_heap r1 3
  have f3 := Lib.frozen_of_heap r1 3
  have k4 := Lib.cell_of_heap r1 4
  have f4 := Lib.frozen_of_heap r1 4
  have k5 := Lib.cell_of_heap r1 5
  have f5 := Lib.frozen_of_heap r1 5
  have k6 := Lib.cell_of_heap r1 6
  have f6 := Lib.frozen_of_heap r1 6
  have k7 := Lib.cell_of_heap r1 7
  have f7 := Lib.frozen_of_heap r1 7
  have k8 := Lib.cell_of_heap r1 8
  have f8 := Lib.frozen_of_heap r1 8
  obtain ⟨w1, hw1⟩ : ∃ w2, ((((((v1.setCell ⟨w.heap.size + 1 + 1, 3, none⟩ (.int .i64 sf)).setCell ⟨w.heap.size + 1 + 1, 4, none⟩ (.int .i64 sr)).setCell ⟨w.heap.size + 1 + 1, 5, none⟩ (.int .i64 sk)).setCell ⟨w.heap.size + 1 + 1, 6, none⟩ (.int .i64 sn)).setCell ⟨w.heap.size + 1 + 1, 7, none⟩ (.string ss)).setCell ⟨w.heap.size + 1 + 1, 8, none⟩ (.slice c1 sl cp1)) = w2 := ⟨_, rfl⟩
  rw [hw1] at P1 Q1 R1 B1 N1
  have a9 := Lib.cell_of_heap (unhide P1) 9
  have a10 := Lib.cell_of_heap (unhide P1) 10
  have a11 := Lib.cell_of_heap (unhide P1) 11
  have a12 := Lib.cell_of_heap (unhide P1) 12
  have a13 := Lib.cell_of_heap (unhide P1) 13
  have a14 := Lib.cell_of_heap (unhide P1) 14
  simp at a9 a10 a11 a12 a13 a14
  have ZS1 := hide (show W.heap.size ≤ w1.heap.size by rw [← hw1]; exact Nat.le_trans hb.size hg.size)
  clear hg p1 q1 r1 b1 hb P0 Q0 R0 B0 Nv1
  have Z1 := hide (show W.heap.size ≤ w1.heap.size from unhide ZS1)
  have C1 := hide (unhide S2 w1 (unhide B1))
  go_wp2_with fail
  refine (unhide C1).mono ?_
  rintro r v2 ⟨c2, cp2, rfl, hn, hb⟩
  have p2 := row_keep (unhide P1) hb
  have q2 := row_keep (unhide Q1) hb
  have r2 := row_keep (unhide R1) hb
  have b2 := (unhide B1).trans (hb.mono (unhide B1).size)
  have Nv2 := (unhide N1).later hb
  clear k3 f3 k4 f4 k5 f5 k6 f6 k7 f7 k8 f8 hw1 C1 S2
  have Mv2 := hn.lower (show w.heap.size + 3 ≤ w1.heap.size by have := unhide HL; have := unhide Z1; omega)
  clear hn
  have hg : v2.grownBy ((((((v2.setCell ⟨w.heap.size + 1 + 1, 9, none⟩ (.int .i64 df)).setCell ⟨w.heap.size + 1 + 1, 10, none⟩ (.int .i64 dr)).setCell ⟨w.heap.size + 1 + 1, 11, none⟩ (.int .i64 dk)).setCell ⟨w.heap.size + 1 + 1, 12, none⟩ (.int .i64 dn)).setCell ⟨w.heap.size + 1 + 1, 13, none⟩ (.string ds)).setCell ⟨w.heap.size + 1 + 1, 14, none⟩ (.slice c2 dl cp2)) (some (w.heap.size + 1 + 1)) := (grownBy_trans (grownBy_trans (grownBy_trans (grownBy_trans (grownBy_trans (grownBy_set (.int .i64 df)) (grownBy_set (.int .i64 dr))) (grownBy_set (.int .i64 dk))) (grownBy_set (.int .i64 dn))) (grownBy_set (.string ds))) (grownBy_set (.slice c2 dl cp2)))
  have P2 := hide ((hg.block _ (Array.getElem?_eq_some_iff.1 p2).1 (fun e => by simp at e; omega)).trans p2)
  have Q2 := hide ((hg.block _ (Array.getElem?_eq_some_iff.1 q2).1 (fun e => by simp at e)).trans q2)
  have R2 := hide (show (((((((v2.setCell ⟨w.heap.size + 1 + 1, 9, none⟩ (.int .i64 df)).setCell ⟨w.heap.size + 1 + 1, 10, none⟩ (.int .i64 dr)).setCell ⟨w.heap.size + 1 + 1, 11, none⟩ (.int .i64 dk)).setCell ⟨w.heap.size + 1 + 1, 12, none⟩ (.int .i64 dn)).setCell ⟨w.heap.size + 1 + 1, 13, none⟩ (.string ds)).setCell ⟨w.heap.size + 1 + 1, 14, none⟩ (.slice c2 dl cp2))).heap[w.heap.size + 1 + 1]? = some (.cells #[.int .i64 k, .string s, .int .i64 op, .int .i64 sf, .int .i64 sr, .int .i64 sk, .int .i64 sn, .string ss, .slice c1 sl cp1, .int .i64 df, .int .i64 dr, .int .i64 dk, .int .i64 dn, .string ds, .slice c2 dl cp2, .int .i64 0, .slice none 0 0] 37 (0, 0)) from (heap_setK 14 _ (heap_setK 13 _ (heap_setK 12 _ (heap_setK 11 _ (heap_setK 10 _ (heap_setK 9 _ r2)))))))
  have B2 := hide (b2.grown hg b2.size (fun g e => by cases e; omega))
  have N2 := hide (Nv2.drawn hg (by have := unhide HL; omega))
  have M2 := hide (Mv2.drawn hg (by have := unhide HL; omega))
  have k9 := Lib.cell_of_heap r2 9
  have f9 := Lib.frozen_of_heap r2 9
  have k10 := Lib.cell_of_heap r2 10
  have f10 := Lib.frozen_of_heap r2 10
  have k11 := Lib.cell_of_heap r2 11
  have f11 := Lib.frozen_of_heap r2 11
  have k12 := Lib.cell_of_heap r2 12
  have f12 := Lib.frozen_of_heap r2 12
  have k13 := Lib.cell_of_heap r2 13
  have f13 := Lib.frozen_of_heap r2 13
  have k14 := Lib.cell_of_heap r2 14
  have f14 := Lib.frozen_of_heap r2 14
  obtain ⟨w2, hw2⟩ : ∃ w2, ((((((v2.setCell ⟨w.heap.size + 1 + 1, 9, none⟩ (.int .i64 df)).setCell ⟨w.heap.size + 1 + 1, 10, none⟩ (.int .i64 dr)).setCell ⟨w.heap.size + 1 + 1, 11, none⟩ (.int .i64 dk)).setCell ⟨w.heap.size + 1 + 1, 12, none⟩ (.int .i64 dn)).setCell ⟨w.heap.size + 1 + 1, 13, none⟩ (.string ds)).setCell ⟨w.heap.size + 1 + 1, 14, none⟩ (.slice c2 dl cp2)) = w2 := ⟨_, rfl⟩
  rw [hw2] at P2 Q2 R2 B2 N2 M2
  have a15 := Lib.cell_of_heap (unhide P2) 15
  simp at a15
  have ZS2 := hide (show w1.heap.size ≤ w2.heap.size by rw [← hw2]; exact Nat.le_trans hb.size hg.size)
  clear hg p2 q2 r2 b2 hb P1 Q1 R1 B1 Nv2 Mv2
  have p3 := unhide P2
  have q3 := unhide Q2
  have r3 := unhide R2
  have b3 := unhide B2
  have Nv3 := unhide N2
  have Mv3 := unhide M2
  obtain ⟨v3, hv3⟩ : ∃ v, w2 = v := ⟨_, rfl⟩
  rw [hv3] at p3 q3 r3 b3 Nv3 Mv3 a15 hw2
  have hb := Below.refl v3.heap.size v3
  have hg : v3.grownBy (v3.setCell ⟨w.heap.size + 1 + 1, 15, none⟩ (.int .i64 n)) (some (w.heap.size + 1 + 1)) := (grownBy_set (.int .i64 n))
  have P3 := hide ((hg.block _ (Array.getElem?_eq_some_iff.1 p3).1 (fun e => by simp at e; omega)).trans p3)
  have Q3 := hide ((hg.block _ (Array.getElem?_eq_some_iff.1 q3).1 (fun e => by simp at e)).trans q3)
  have R3 := hide (show ((v3.setCell ⟨w.heap.size + 1 + 1, 15, none⟩ (.int .i64 n))).heap[w.heap.size + 1 + 1]? = some (.cells #[.int .i64 k, .string s, .int .i64 op, .int .i64 sf, .int .i64 sr, .int .i64 sk, .int .i64 sn, .string ss, .slice c1 sl cp1, .int .i64 df, .int .i64 dr, .int .i64 dk, .int .i64 dn, .string ds, .slice c2 dl cp2, .int .i64 n, .slice none 0 0] 37 (0, 0)) from (heap_setK 15 _ r3))
  have B3 := hide (b3.grown hg b3.size (fun g e => by cases e; omega))
  have N3 := hide (Nv3.drawn hg (by have := unhide HL; omega))
  have M3 := hide (Mv3.drawn hg (by have := unhide HL; omega))
  have k15 := Lib.cell_of_heap r3 15
  have f15 := Lib.frozen_of_heap r3 15
  obtain ⟨w3, hw3⟩ : ∃ w2, (v3.setCell ⟨w.heap.size + 1 + 1, 15, none⟩ (.int .i64 n)) = w2 := ⟨_, rfl⟩
  rw [hw3] at P3 Q3 R3 B3 N3 M3
  have a16 := Lib.cell_of_heap (unhide P3) 16
  simp at a16
  have ZS3 := hide (show w2.heap.size ≤ w3.heap.size by rw [← hw3, hv3]; exact hg.size)
  clear hg p3 q3 r3 b3 hb P2 Q2 R2 B2 Nv3 Mv3
  have Z3 := hide (show W.heap.size ≤ w3.heap.size from Nat.le_trans (unhide Z1) (Nat.le_trans (unhide ZS2) (unhide ZS3)))
  have C3 := hide (unhide S3 w3 (unhide B3))
  go_wp2_with fail
  refine (unhide C3).mono ?_
  rintro r v4 ⟨rfl, hn, hb⟩
  have p4 := row_keep (unhide P3) hb
  have q4 := row_keep (unhide Q3) hb
  have r4 := row_keep (unhide R3) hb
  have b4 := (unhide B3).trans (hb.mono (unhide B3).size)
  have Nv4 := (unhide N3).later hb
  have Mv4 := (unhide M3).later hb
  clear k9 f9 k10 f10 k11 f11 k12 f12 k13 f13 k14 f14 k15 f15 hw2 hw3 C3 S3
  have Lv4 := hn.lower (show w.heap.size + 3 ≤ w3.heap.size by have := unhide HL; have := unhide Z3; omega)
  clear hn
  generalize w3.heap.size = gl at *
  have hg : v4.grownBy (v4.setCell ⟨w.heap.size + 1 + 1, 16, none⟩ (.slice (some ⟨gl, 0, none⟩) ll ll)) (some (w.heap.size + 1 + 1)) := (grownBy_set (.slice (some ⟨gl, 0, none⟩) ll ll))
  have P4 := hide ((hg.block _ (Array.getElem?_eq_some_iff.1 p4).1 (fun e => by simp at e; omega)).trans p4)
  have Q4 := hide ((hg.block _ (Array.getElem?_eq_some_iff.1 q4).1 (fun e => by simp at e)).trans q4)
  have R4 := hide (show ((v4.setCell ⟨w.heap.size + 1 + 1, 16, none⟩ (.slice (some ⟨gl, 0, none⟩) ll ll))).heap[w.heap.size + 1 + 1]? = some (.cells #[.int .i64 k, .string s, .int .i64 op, .int .i64 sf, .int .i64 sr, .int .i64 sk, .int .i64 sn, .string ss, .slice c1 sl cp1, .int .i64 df, .int .i64 dr, .int .i64 dk, .int .i64 dn, .string ds, .slice c2 dl cp2, .int .i64 n, .slice (some ⟨gl, 0, none⟩) ll ll] 37 (0, 0)) from (heap_setK 16 _ r4))
  have B4 := hide (b4.grown hg b4.size (fun g e => by cases e; omega))
  have N4 := hide (Nv4.drawn hg (by have := unhide HL; omega))
  have M4 := hide (Mv4.drawn hg (by have := unhide HL; omega))
  have L4 := hide (Lv4.drawn hg (by have := unhide HL; omega))
  have k16 := Lib.cell_of_heap r4 16
  have f16 := Lib.frozen_of_heap r4 16
  obtain ⟨w4, hw4⟩ : ∃ w2, (v4.setCell ⟨w.heap.size + 1 + 1, 16, none⟩ (.slice (some ⟨gl, 0, none⟩) ll ll)) = w2 := ⟨_, rfl⟩
  rw [hw4] at P4 Q4 R4 B4 N4 M4 L4
  clear hg p4 q4 r4 b4 hb P3 Q3 R3 B3 Nv4 Mv4 Lv4
  go_wp2_with (first | (refine wpList_load_row rfl 37 _ rfl (w.heap.size + 1 + 1) rfl 37 #[.int .i64 k, .string s, .int .i64 op, .int .i64 sf, .int .i64 sr, .int .i64 sk, .int .i64 sn, .string ss, .slice c1 sl cp1, .int .i64 df, .int .i64 dr, .int .i64 dk, .int .i64 dn, .string ds, .slice c2 dl cp2, .int .i64 n, .slice (some ⟨gl, 0, none⟩) ll ll] (0, 0) _ (unhide R4) Tryz.underlying37 rfl (by kernel_rfl) ?_) | (refine wpList_store_row rfl 37 _ _ rfl (w.heap.size + 1) #[.int .i64 k, .string s, .int .i64 op, .int .i64 sf, .int .i64 sr, .int .i64 sk, .int .i64 sn, .string ss, .slice c1 sl cp1, .int .i64 df, .int .i64 dr, .int .i64 dk, .int .i64 dn, .string ds, .slice c2 dl cp2, .int .i64 n, .slice (some ⟨gl, 0, none⟩) ll ll] rfl rfl 37 _ (unhide Q4) (by kernel_rfl) rfl (by simp [Value.oneCell']) ?_))
  refine bodyPost_ret (results_cell_row (P := Tryz.prog) rfl _ _ (w.heap.size + 1) 37 #[.int .i64 k, .string s, .int .i64 op, .int .i64 sf, .int .i64 sr, .int .i64 sk, .int .i64 sn, .string ss, .slice c1 sl cp1, .int .i64 df, .int .i64 dr, .int .i64 dk, .int .i64 dn, .string ds, .slice c2 dl cp2, .int .i64 n, .slice (some ⟨gl, 0, none⟩) ll ll] (0, 0) _ rfl (setRow_heap _ _ _ _ _ _ (unhide Q4)) Tryz.underlying37 rfl (by kernel_rfl)) rfl ?_
  exact ⟨⟨c1, cp1, c2, cp2, some ⟨gl, 0, none⟩, ll⟩, rfl, ⟨((unhide N4).row _ (by omega)).lower (by omega), ((unhide M4).row _ (by omega)).lower (by omega), ((unhide L4).row _ (by omega)).lower (by omega)⟩, (unhide B4).grown (grownBy_row _) (unhide B4).size (fun g e => by cases e; omega)⟩
end Go.Proofs.YtmhcbehplhfgfaaGreatDoor

namespace Go.Proofs.YtmhcbehplhfgfaaGreatDoor
open Go.ChangeShapes Go.WideShapes Go.ChangeAt Go.RowKit
set_option linter.unusedVariables false
set_option maxRecDepth 8000
section
variable {H : Type} {enc : TypeId × Value → H} {W : World} {b0 base : Nat} {spare : TypeId → Bool} {held : Bool}
theorem trod_exs (fuel : Nat) (cs : List Value) (x : DataW H × List MemPlace) (hf : DataW.trod enc Tryz.prog W base spare held fuel 22 cs = some x) : ∃ (e : Ex) (b : Option Addr) (cap : Nat), cs = [.slice b e.l.length cap] ∧ RdX W 0 e b ∧ Fit e := by
  have hc : Tryz.prog.cellsOf 24 = 4 := by kernel_rfl
  rcases DataW.trod_slice Tryz.underlying22 hf with ⟨hcs, _⟩ | ⟨a, len, cap, elems, rest, q, hq, hcs, _, hb, hl, hm, hel, hx, _, _⟩
  · subst hcs
    exact ⟨⟨0, 0, E0, []⟩, none, 0, rfl, (RdX_eq _ _ _ _).2 (.inl rfl), (Fit_eq _).2 ⟨by decide, by simp, fun i hi => by simp at hi⟩⟩
  · subst hcs
    have each : ∀ i, i < len → ∃ t : Ex, (W.cell? (a.add (i * 4)) = some (.int .i64 t.k) ∧ W.cell? (a.add (i * 4 + 1)) = some (.int .i64 t.n) ∧ W.cell? (a.add (i * 4 + 2)) = some (.string t.s) ∧ ∃ c cap, W.cell? (a.add (i * 4 + 3)) = some (.slice c t.l.length cap) ∧ RdX W 0 t c) ∧ Fit t := fun i hi => by
      have h4 := hx i hi
      rw [List.getElem?_eq_getElem (by omega), Option.bind_eq_some_iff] at h4
      obtain ⟨cs', p1, p2⟩ := h4
      rw [hc] at p1
      obtain ⟨_, hlen', hcell⟩ := World.cells?_some p1
      obtain ⟨t, c, cap', hcs', hrd, hft⟩ := trod_ex _ cs' _ p2
      refine ⟨t, ⟨?_, ?_, ?_, c, cap', ?_, hrd⟩, hft⟩
      · have e := hcell 0 (by omega); rw [_root_.Go.Deep.add_add, hcs'] at e; simpa using e
      · have e := hcell 1 (by omega); rw [_root_.Go.Deep.add_add, hcs'] at e; simpa using e
      · have e := hcell 2 (by omega); rw [_root_.Go.Deep.add_add, hcs'] at e; simpa using e
      · have e := hcell 3 (by omega); rw [_root_.Go.Deep.add_add, hcs'] at e; simpa using e
    obtain ⟨T, hT⟩ := @_root_.Go.Deep.choose_lt Ex ⟨X0⟩ _ _ each
    have hL : ((List.range len).map T).length = len := by simp
    have hat : ∀ i, i < len → xAt ((List.range len).map T) i = T i := fun i hi => by
      unfold xAt
      rw [List.getD_eq_getElem?_getD, List.getElem?_map, List.getElem?_range hi]
      rfl
    refine ⟨⟨0, 0, E0, (List.range len).map T⟩, some a, cap, by simp [hL], (RdX_eq _ _ _ _).2 ?_, (Fit_eq _).2 ⟨show E0.size ≤ 9223372036854775807 by decide, ?_, fun i hi => ?_⟩⟩
    · by_cases h0 : len = 0
      · subst h0; exact .inl rfl
      · right
        obtain ⟨b, off, spot⟩ := a
        have h00 := (hT 0 (by omega)).1.1
        have hspot : spot = none := by simpa [Addr.add] using World.cell?_spot h00
        subst hspot
        have hadd : ∀ j, (⟨b, off, none⟩ : Addr).add j = ⟨b, off + j, none⟩ := fun j => by
          unfold Addr.add
          by_cases hj : j = 0
          · subst hj; simp
          · simp [hj]
        refine ⟨b, off, rfl, Nat.zero_le _, World.block_lt_of_cell? W _ h00, fun i hi => ?_⟩
        have hi : i < len := by simpa using hi
        show OneX W 0 b (off + i * 4) (xAt ((List.range len).map T) i)
        rw [hat i hi]
        have h3 := (hT i hi).1
        rw [hadd, hadd, hadd, hadd] at h3
        exact h3
    · show ((List.range len).map T).length ≤ _
      rw [hL]; unfold maxLen at hm; omega
    · have hi : i < len := by simpa using hi
      show Fit (xAt ((List.range len).map T) i)
      rw [hat i hi]
      exact (hT i hi).2
theorem trod_ag (fuel : Nat) (cs : List Value) (x : DataW H × List MemPlace) (h : DataW.trod enc Tryz.prog W base spare held fuel 26 cs = some x) : ∃ (a : Ag) (b : Option Addr) (cap : Nat), cs = [.int .i64 a.f, .int .i64 a.r, .int .i64 a.e.k, .int .i64 a.e.n, .string a.e.s, .slice b a.e.l.length cap] ∧ RdX W 0 a.e b ∧ Fit a.e := by
  obtain ⟨xs, n, hf, rfl, hl, hlen, hfs⟩ := DataW.trod_struct Tryz.underlying26 h
  have hc : Tryz.prog.cellsOf 26 = 6 := by kernel_rfl
  have hc4 : Tryz.prog.cellsOf 24 = 4 := by kernel_rfl
  have hc3 : Tryz.prog.cellsOf 3 = 1 := by kernel_rfl
  rw [hc] at hl
  match cs, hl with
  | [c0, c1, c2, c3, c4, c5], _ =>
    match xs, hlen with
    | [y0, y1, y2], _ =>
      obtain ⟨m, e0, _, w0⟩ := DataW.trod_int Tryz.underlying3 (hfs 0 _ rfl)
      obtain ⟨r, e1, _, w1⟩ := DataW.trod_int Tryz.underlying3 (hfs 1 _ rfl)
      obtain ⟨e, b, cap, e2, h1, h2⟩ := trod_ex _ _ _ (hfs 2 _ rfl)
      simp [hc3, hc4] at e0 e1 e2
      obtain ⟨q2, q3, q4, q5⟩ := e2
      subst e0 e1 q2 q3 q4 q5
      exact ⟨⟨m, r, e⟩, b, cap, rfl, h1, h2⟩
theorem trod_ln (fuel : Nat) (cs : List Value) (x : DataW H × List MemPlace) (h : DataW.trod enc Tryz.prog W base spare held fuel 28 cs = some x) : ∃ (l : Ln) (p : La), cs = (l.cs p).toList ∧ RdL W l p ∧ FtL l := by
  obtain ⟨xs, n, hf, rfl, hl, hlen, hfs⟩ := DataW.trod_struct Tryz.underlying28 h
  have hc : Tryz.prog.cellsOf 28 = 17 := by kernel_rfl
  have hc6 : Tryz.prog.cellsOf 26 = 6 := by kernel_rfl
  have hc3 : Tryz.prog.cellsOf 3 = 1 := by kernel_rfl
  have hc9 : Tryz.prog.cellsOf 9 = 1 := by kernel_rfl
  have hcl : Tryz.prog.cellsOf 22 = 1 := by kernel_rfl
  rw [hc] at hl
  match cs, hl with
  | [c0, c1, c2, c3, c4, c5, c6, c7, c8, c9, c10, c11, c12, c13, c14, c15, c16], _ =>
    match xs, hlen with
    | [y0, y1, y2, y3, y4, y5, y6], _ =>
      obtain ⟨k, e0, _, w0⟩ := DataW.trod_int Tryz.underlying3 (hfs 0 _ rfl)
      obtain ⟨s, e1, _, w1⟩ := DataW.trod_string Tryz.underlying9 (hfs 1 _ rfl)
      obtain ⟨o, e2, _, w2⟩ := DataW.trod_int Tryz.underlying3 (hfs 2 _ rfl)
      obtain ⟨a, b1, q1, e3, ra, fa⟩ := trod_ag _ _ _ (hfs 3 _ rfl)
      obtain ⟨b, b2, q2, e4, rb, fb⟩ := trod_ag _ _ _ (hfs 4 _ rfl)
      obtain ⟨m, e5, _, w5⟩ := DataW.trod_int Tryz.underlying3 (hfs 5 _ rfl)
      obtain ⟨t, b3, q3, e6, rt, ft⟩ := trod_exs _ _ _ (hfs 6 _ rfl)
      simp [hc3, hc6, hc9, hcl] at e0 e1 e2 e3 e4 e5 e6
      obtain ⟨u3, u4, u5, u6, u7, u8⟩ := e3
      obtain ⟨v3, v4, v5, v6, v7, v8⟩ := e4
      subst e0 e1 e2 e5 e6 u3 u4 u5 u6 u7 u8 v3 v4 v5 v6 v7 v8
      have hs9 : s.size ≤ 9223372036854775807 := by have := w1; unfold maxLen at this; omega
      exact ⟨⟨k, s, o, a, b, m, t.l⟩, ⟨b1, q1, b2, q2, b3, q3⟩, rfl, ⟨ra, rb, (RdX_eq W 0 ⟨0, 0, E0, t.l⟩ b3).2 ((RdX_eq W 0 t b3).1 rt)⟩, ⟨hs9, fa, fb, fit_l ft⟩⟩
theorem open_ln {r : Reach} {v : Value} {d : DataW H} {p : List MemPlace} (hv : Value.okWide Tryz.prog W r b0 28 v) (h : DataW.Trod enc Tryz.prog W base spare held 28 v d p) : ∃ (l : Ln) (q : La), v = .agg (l.cs q) ∧ RdL W l q ∧ FtL l := by
  obtain ⟨cs, rfl, hsz⟩ := okWide_struct Tryz.underlying28 hv
  obtain ⟨fuel, hf⟩ := h
  obtain ⟨l, q, hcs, h1, h2⟩ := trod_ln _ _ _ hf
  refine ⟨l, q, ?_, h1, h2⟩
  have : cs.toList = (l.cs q).toList := by simpa [Value.cells] using hcs
  rw [← Array.toArray_toList (xs := cs), this, Array.toArray_toList]
end
end Go.Proofs.YtmhcbehplhfgfaaGreatDoor
