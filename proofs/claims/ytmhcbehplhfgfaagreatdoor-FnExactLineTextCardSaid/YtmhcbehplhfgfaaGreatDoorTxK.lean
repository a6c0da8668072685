/- Contracts over this seat's translation, laid together; conditions stand as hypotheses of each. -/
import Derived.Test.YtmhcbehplhfgfaaGreatDoorTxJ

namespace Go.Proofs.YtmhcbehplhfgfaaGreatDoor
open Go.ChangeShapes Go.WideShapes Go.ChangeAt Go.RowKit
set_option linter.unusedVariables false
set_option maxRecDepth 8000
set_option linter.unusedSimpArgs false
theorem two_ne (t u : Tk) : [t, u] ≠ [] := by simp
theorem two_le (t u : Tk) : [t, u].length ≤ 2 := Nat.le_refl 2
/-- The tokens of an instruction's line. -/
def insT (x : Ln) : List Tk :=
  kpT (x.op - 1).toNat :: (if x.op ≤ 6 then agT x.src ++ mkT 44 :: agT x.dst else if x.op ≤ 14 then agT x.dst
    else if x.op = 15 then rgT x.n.toNat :: mkT 44 :: agT x.dst else if x.op = 16 then [rgT x.n.toNat] else if x.op = 22 then [] else toksF 6 (xAt x.l 0))
set_option maxHeartbeats 8000000 in
theorem ins_a (x : Ln) (p : La) (w : World) (hr : RdL w x p) (hop : 1 ≤ x.op ∧ x.op ≤ 6) (ok : agX x.src = true ∧ agX x.dst = true) : Calls Tryz.prog 33 #[.agg (x.cs p)] w fun r w' => ∃ v, r = .returned v ∧ OwnT w' w.heap.size v (kpT (x.op - 1).toNat :: (agT x.src ++ mkT 44 :: agT x.dst)) ∧ Below w.heap.size w w' := by
  have hbW := below_new w (.cells (x.cs p) 37)
  obtain ⟨W, hW⟩ : ∃ W, w.alloc (.cells (x.cs p) 37) = W := ⟨_, rfl⟩
  have hrW := hr.later hbW
  have xl : w.heap.size < W.heap.size := by rw [← hW]; simp
  have xc : ∀ (i : Nat) (v : Value), (x.cs p)[i]? = some v → ∀ w1, Below W.heap.size W w1 → w1.cell? ⟨w.heap.size, i, none⟩ = some v := fun i v h w1 hb => (hb.cell (p := ⟨w.heap.size, i, none⟩) xl).trans (by rw [← hW]; exact box17 w _ _ i v h)
  rw [hW] at hbW hrW
  obtain ⟨y0, hy0⟩ : ∃ z : Sub W.heap.size W, w.alloc (.cells (x.cs p) 37) = z.w := ⟨⟨W, Below.refl _ _⟩, hW⟩
  have ne := Sub.ne W.heap.size W
  have HZ := hide (Nat.le_refl W.heap.size)
  have HB := hide (fun y : Sub W.heap.size W => hbW.trans (y.h.mono hbW.size))
  have HO := hide (fun (y : Sub W.heap.size W) v ts (h : OwnT y.w W.heap.size v ts) => h.base hbW.size)
  have F0 : ∀ y : Sub W.heap.size W, y.w.cell? ⟨w.heap.size, 0, none⟩ = some (.int .i64 x.k) := fun y => xc 0 _ rfl y.w y.h
  have Y0 := hide (fun w1 (hb : Below W.heap.size W w1) => (show w1.cell? ⟨w.heap.size, 0, none⟩ = some (.int .i64 x.k) from xc 0 _ rfl w1 hb))
  have F1 : ∀ y : Sub W.heap.size W, y.w.cell? ⟨w.heap.size, 1, none⟩ = some (.string x.s) := fun y => xc 1 _ rfl y.w y.h
  have Y1 := hide (fun w1 (hb : Below W.heap.size W w1) => (show w1.cell? ⟨w.heap.size, 1, none⟩ = some (.string x.s) from xc 1 _ rfl w1 hb))
  have F2 : ∀ y : Sub W.heap.size W, y.w.cell? ⟨w.heap.size, 2, none⟩ = some (.int .i64 x.op) := fun y => xc 2 _ rfl y.w y.h
  have Y2 := hide (fun w1 (hb : Below W.heap.size W w1) => (show w1.cell? ⟨w.heap.size, 2, none⟩ = some (.int .i64 x.op) from xc 2 _ rfl w1 hb))
  have F3 : ∀ y : Sub W.heap.size W, y.w.cell? ⟨w.heap.size, 3, none⟩ = some (.int .i64 x.src.f) := fun y => xc 3 _ rfl y.w y.h
  have Y3 := hide (fun w1 (hb : Below W.heap.size W w1) => (show w1.cell? ⟨w.heap.size, 3, none⟩ = some (.int .i64 x.src.f) from xc 3 _ rfl w1 hb))
  have F4 : ∀ y : Sub W.heap.size W, y.w.cell? ⟨w.heap.size, 4, none⟩ = some (.int .i64 x.src.r) := fun y => xc 4 _ rfl y.w y.h
  have Y4 := hide (fun w1 (hb : Below W.heap.size W w1) => (show w1.cell? ⟨w.heap.size, 4, none⟩ = some (.int .i64 x.src.r) from xc 4 _ rfl w1 hb))
  have F5 : ∀ y : Sub W.heap.size W, y.w.cell? ⟨w.heap.size, 5, none⟩ = some (.int .i64 x.src.e.k) := fun y => xc 5 _ rfl y.w y.h
  have Y5 := hide (fun w1 (hb : Below W.heap.size W w1) => (show w1.cell? ⟨w.heap.size, 5, none⟩ = some (.int .i64 x.src.e.k) from xc 5 _ rfl w1 hb))
  have F6 : ∀ y : Sub W.heap.size W, y.w.cell? ⟨w.heap.size, 6, none⟩ = some (.int .i64 x.src.e.n) := fun y => xc 6 _ rfl y.w y.h
  have Y6 := hide (fun w1 (hb : Below W.heap.size W w1) => (show w1.cell? ⟨w.heap.size, 6, none⟩ = some (.int .i64 x.src.e.n) from xc 6 _ rfl w1 hb))
  have F7 : ∀ y : Sub W.heap.size W, y.w.cell? ⟨w.heap.size, 7, none⟩ = some (.string x.src.e.s) := fun y => xc 7 _ rfl y.w y.h
  have Y7 := hide (fun w1 (hb : Below W.heap.size W w1) => (show w1.cell? ⟨w.heap.size, 7, none⟩ = some (.string x.src.e.s) from xc 7 _ rfl w1 hb))
  have F8 : ∀ y : Sub W.heap.size W, y.w.cell? ⟨w.heap.size, 8, none⟩ = some (.slice p.b1 x.src.e.l.length p.c1) := fun y => xc 8 _ rfl y.w y.h
  have Y8 := hide (fun w1 (hb : Below W.heap.size W w1) => (show w1.cell? ⟨w.heap.size, 8, none⟩ = some (.slice p.b1 x.src.e.l.length p.c1) from xc 8 _ rfl w1 hb))
  have F9 : ∀ y : Sub W.heap.size W, y.w.cell? ⟨w.heap.size, 9, none⟩ = some (.int .i64 x.dst.f) := fun y => xc 9 _ rfl y.w y.h
  have Y9 := hide (fun w1 (hb : Below W.heap.size W w1) => (show w1.cell? ⟨w.heap.size, 9, none⟩ = some (.int .i64 x.dst.f) from xc 9 _ rfl w1 hb))
  have F10 : ∀ y : Sub W.heap.size W, y.w.cell? ⟨w.heap.size, 10, none⟩ = some (.int .i64 x.dst.r) := fun y => xc 10 _ rfl y.w y.h
  have Y10 := hide (fun w1 (hb : Below W.heap.size W w1) => (show w1.cell? ⟨w.heap.size, 10, none⟩ = some (.int .i64 x.dst.r) from xc 10 _ rfl w1 hb))
  have F11 : ∀ y : Sub W.heap.size W, y.w.cell? ⟨w.heap.size, 11, none⟩ = some (.int .i64 x.dst.e.k) := fun y => xc 11 _ rfl y.w y.h
  have Y11 := hide (fun w1 (hb : Below W.heap.size W w1) => (show w1.cell? ⟨w.heap.size, 11, none⟩ = some (.int .i64 x.dst.e.k) from xc 11 _ rfl w1 hb))
  have F12 : ∀ y : Sub W.heap.size W, y.w.cell? ⟨w.heap.size, 12, none⟩ = some (.int .i64 x.dst.e.n) := fun y => xc 12 _ rfl y.w y.h
  have Y12 := hide (fun w1 (hb : Below W.heap.size W w1) => (show w1.cell? ⟨w.heap.size, 12, none⟩ = some (.int .i64 x.dst.e.n) from xc 12 _ rfl w1 hb))
  have F13 : ∀ y : Sub W.heap.size W, y.w.cell? ⟨w.heap.size, 13, none⟩ = some (.string x.dst.e.s) := fun y => xc 13 _ rfl y.w y.h
  have Y13 := hide (fun w1 (hb : Below W.heap.size W w1) => (show w1.cell? ⟨w.heap.size, 13, none⟩ = some (.string x.dst.e.s) from xc 13 _ rfl w1 hb))
  have F14 : ∀ y : Sub W.heap.size W, y.w.cell? ⟨w.heap.size, 14, none⟩ = some (.slice p.b2 x.dst.e.l.length p.c2) := fun y => xc 14 _ rfl y.w y.h
  have Y14 := hide (fun w1 (hb : Below W.heap.size W w1) => (show w1.cell? ⟨w.heap.size, 14, none⟩ = some (.slice p.b2 x.dst.e.l.length p.c2) from xc 14 _ rfl w1 hb))
  have F15 : ∀ y : Sub W.heap.size W, y.w.cell? ⟨w.heap.size, 15, none⟩ = some (.int .i64 x.n) := fun y => xc 15 _ rfl y.w y.h
  have Y15 := hide (fun w1 (hb : Below W.heap.size W w1) => (show w1.cell? ⟨w.heap.size, 15, none⟩ = some (.int .i64 x.n) from xc 15 _ rfl w1 hb))
  have F16 : ∀ y : Sub W.heap.size W, y.w.cell? ⟨w.heap.size, 16, none⟩ = some (.slice p.b3 x.l.length p.c3) := fun y => xc 16 _ rfl y.w y.h
  have Y16 := hide (fun w1 (hb : Below W.heap.size W w1) => (show w1.cell? ⟨w.heap.size, 16, none⟩ = some (.slice p.b3 x.l.length p.c3) from xc 16 _ rfl w1 hb))
  have MK := hide (fun x w1 => markS_ex x w1)
  unfold Tk.v Tk.cs at MK
  simp only at MK
  have KP' := fun w1 => keptS (x.op - 1).toNat (by omega) w1
  rw [show (((x.op - 1).toNat : Nat) : Int) = x.op - 1 by omega] at KP'
  have KP := hide KP'
  clear KP'
  unfold kpT Tk.v Tk.cs at KP
  simp only at KP
  have hwr : IntKind.i64.wrap (x.op - 1) = x.op - 1 := by rw [IntKind.wrap_i64]; omega
  have o1 : x.op ≤ 6 := hop.2
  have A1 := hide (fun y : Sub W.heap.size W => agtS_any x.src p.b1 p.c1 y.w ok.1 (hrW.a.later y.h))
  obtain ⟨sne, sle⟩ := agT_ok ok.1
  unfold Ag.cs at A1
  generalize agT x.src = ta at *
  have A2 := hide (fun y : Sub W.heap.size W => agtS_any x.dst p.b2 p.c2 y.w ok.2 (hrW.b.later y.h))
  obtain ⟨dne, dle⟩ := agT_ok ok.2
  unfold Ag.cs at A2
  generalize agT x.dst = td at *
  obtain ⟨T, hT⟩ : ∃ T, (kpT (x.op - 1).toNat :: (ta ++ mkT 44 :: td)) = T := ⟨_, rfl⟩
  have HT := hide hT
  rw [hT]
  clear hT
  unfold kpT at HT
  generalize keptL.getD (x.op - 1).toNat E0 = ks at *
  unfold Ln.cs at hy0 ⊢
  clear hr hrW hW xc xl hbW ok hop
  generalize x.src.f = sf at *
  generalize x.src.r = sr at *
  generalize x.src.e.k = sk at *
  generalize x.src.e.n = sn at *
  generalize x.src.e.s = ss at *
  generalize x.src.e.l.length = sl at *
  generalize x.dst.f = df at *
  generalize x.dst.r = dr at *
  generalize x.dst.e.k = dk at *
  generalize x.dst.e.n = dn at *
  generalize x.dst.e.s = ds at *
  generalize x.dst.e.l.length = dl at *
  generalize x.k = k at *
  generalize x.s = s at *
  generalize x.op = op at *
  generalize x.n = n at *
  generalize x.l.length = ll at *
  generalize p.b1 = b1 at *
  generalize p.c1 = c1 at *
  generalize p.b2 = b2 at *
  generalize p.c2 = c2 at *
  generalize p.b3 = b3 at *
  generalize p.c3 = c3 at *
  go_enter Tryz.func33, Tryz.ntmps33
  go_wp2_with fail
  refine (unhide KP y0.w).mono ?_
  rintro r w1 ⟨rfl, hb⟩
  obtain ⟨y1, rfl⟩ := Sub.step (unhide HZ) hb
  clear hb
  obtain ⟨y2, hy2⟩ := Sub.step (unhide HZ) (below_new y1.w (.cells #[.int .i64 5, .int .i64 0, .string ks] 59))
  have S2 := hide (show OwnT y2.w W.heap.size (.slice (some ⟨y1.w.heap.size, 0, none⟩) 1 1) [Tk.mk 5 0 ks] by rw [← hy2]; exact ownT_new y1.w (Tk.mk 5 0 ks) W.heap.size (Nat.le_trans (unhide HZ) y1.h.size))
  have O2 := hide (unhide S2)
  clear S2
  have l0 : [Tk.mk 5 0 ks].length ≤ 1 := Nat.le_refl 1
  go_wp2_with fail
  refine (unhide A1 y2).mono ?_
  rintro r w3 ⟨vs, rfl, hS, hb⟩
  have O3 := hide ((unhide O2).later hb)
  clear O2
  obtain ⟨y3, rfl⟩ := Sub.step (unhide HZ) hb
  clear hb
  have SR := hide hS
  clear hS
  go_wp2_with (at_builtin; go_must (refine appT rfl (.tmp 13) (.tmp 16) rfl (unhide HZ) y3.h rfl (unhide O3) rfl (unhide SR) sne (lsum l0 sle (by decide)) ?_; intro v4 y4 hO; obtain ⟨u4, hu⟩ : ∃ u, ([Tk.mk 5 0 ks] ++ ta) = u := ⟨_, rfl⟩; rw [hu] at hO; have l4 := lapp hu l0 sle; have O4 := hide hO; have H4 := hide hu; clear hO hu O3 SR))
  refine (unhide MK ⟨#[44]⟩ y4.w).mono ?_
  rintro r w5 ⟨rfl, hb⟩
  have O5 := hide ((unhide O4).later hb)
  clear O4
  obtain ⟨y5, rfl⟩ := Sub.step (unhide HZ) hb
  clear hb
  obtain ⟨y6, hy6⟩ := Sub.step (unhide HZ) (below_new y5.w (.cells #[.int .i64 4, .int .i64 0, .string ⟨#[44]⟩] 59))
  have S6 := hide (show OwnT y6.w W.heap.size (.slice (some ⟨y5.w.heap.size, 0, none⟩) 1 1) [(Tk.mk 4 0 ⟨#[44]⟩)] by rw [← hy6]; exact ownT_new y5.w (Tk.mk 4 0 ⟨#[44]⟩) W.heap.size (Nat.le_trans (unhide HZ) y5.h.size))
  have O6 := hide (show OwnT y6.w W.heap.size (v4) u4 by rw [← hy6]; exact (unhide O5).later (below_new _ _))
  clear O5
  go_wp2_with (at_builtin; go_must (refine appT rfl (.tmp 17) (.tmp 19) rfl (unhide HZ) y6.h rfl (unhide O6) rfl (unhide S6) (one_ne _) (lsum l4 (one_le _) (by decide)) ?_; intro v7 y7 hO; obtain ⟨u7, hu⟩ : ∃ u, (u4 ++ [(Tk.mk 4 0 ⟨#[44]⟩)]) = u := ⟨_, rfl⟩; rw [hu] at hO; have l7 := lapp hu l4 (one_le _); have O7 := hide hO; have H7 := hide hu; clear hO hu O6 S6))
  refine (unhide A2 y7).mono ?_
  rintro r w8 ⟨vs, rfl, hS, hb⟩
  have O8 := hide ((unhide O7).later hb)
  clear O7
  obtain ⟨y8, rfl⟩ := Sub.step (unhide HZ) hb
  clear hb
  have SR := hide hS
  clear hS
  go_wp2_with (at_builtin; go_must (refine appT rfl (.tmp 21) (.tmp 24) rfl (unhide HZ) y8.h rfl (unhide O8) rfl (unhide SR) dne (lsum l7 dle (by decide)) ?_; intro v9 y9 hO; obtain ⟨u9, hu⟩ : ∃ u, (u7 ++ td) = u := ⟨_, rfl⟩; rw [hu] at hO; have l9 := lapp hu l7 dle; have O9 := hide hO; have H9 := hide hu; clear hO hu O8 SR))
  have EQ : u9 = T := by
    rw [← unhide HT]
    rw [← unhide H9, ← unhide H7, ← unhide H4]
    simp [mkT, mkS]
  rw [EQ] at O9
  go_ret
  exact ⟨_, rfl, unhide HO y9 _ _ (unhide O9), unhide HB y9⟩
set_option maxHeartbeats 8000000 in
theorem ins_b (x : Ln) (p : La) (w : World) (hr : RdL w x p) (hop : 7 ≤ x.op ∧ x.op ≤ 14) (ok : agX x.dst = true) : Calls Tryz.prog 33 #[.agg (x.cs p)] w fun r w' => ∃ v, r = .returned v ∧ OwnT w' w.heap.size v (kpT (x.op - 1).toNat :: agT x.dst) ∧ Below w.heap.size w w' := by
  have hbW := below_new w (.cells (x.cs p) 37)
  obtain ⟨W, hW⟩ : ∃ W, w.alloc (.cells (x.cs p) 37) = W := ⟨_, rfl⟩
  have hrW := hr.later hbW
  have xl : w.heap.size < W.heap.size := by rw [← hW]; simp
  have xc : ∀ (i : Nat) (v : Value), (x.cs p)[i]? = some v → ∀ w1, Below W.heap.size W w1 → w1.cell? ⟨w.heap.size, i, none⟩ = some v := fun i v h w1 hb => (hb.cell (p := ⟨w.heap.size, i, none⟩) xl).trans (by rw [← hW]; exact box17 w _ _ i v h)
  rw [hW] at hbW hrW
  obtain ⟨y0, hy0⟩ : ∃ z : Sub W.heap.size W, w.alloc (.cells (x.cs p) 37) = z.w := ⟨⟨W, Below.refl _ _⟩, hW⟩
  have ne := Sub.ne W.heap.size W
  have HZ := hide (Nat.le_refl W.heap.size)
  have HB := hide (fun y : Sub W.heap.size W => hbW.trans (y.h.mono hbW.size))
  have HO := hide (fun (y : Sub W.heap.size W) v ts (h : OwnT y.w W.heap.size v ts) => h.base hbW.size)
  have F0 : ∀ y : Sub W.heap.size W, y.w.cell? ⟨w.heap.size, 0, none⟩ = some (.int .i64 x.k) := fun y => xc 0 _ rfl y.w y.h
  have Y0 := hide (fun w1 (hb : Below W.heap.size W w1) => (show w1.cell? ⟨w.heap.size, 0, none⟩ = some (.int .i64 x.k) from xc 0 _ rfl w1 hb))
  have F1 : ∀ y : Sub W.heap.size W, y.w.cell? ⟨w.heap.size, 1, none⟩ = some (.string x.s) := fun y => xc 1 _ rfl y.w y.h
  have Y1 := hide (fun w1 (hb : Below W.heap.size W w1) => (show w1.cell? ⟨w.heap.size, 1, none⟩ = some (.string x.s) from xc 1 _ rfl w1 hb))
  have F2 : ∀ y : Sub W.heap.size W, y.w.cell? ⟨w.heap.size, 2, none⟩ = some (.int .i64 x.op) := fun y => xc 2 _ rfl y.w y.h
  have Y2 := hide (fun w1 (hb : Below W.heap.size W w1) => (show w1.cell? ⟨w.heap.size, 2, none⟩ = some (.int .i64 x.op) from xc 2 _ rfl w1 hb))
  have F3 : ∀ y : Sub W.heap.size W, y.w.cell? ⟨w.heap.size, 3, none⟩ = some (.int .i64 x.src.f) := fun y => xc 3 _ rfl y.w y.h
  have Y3 := hide (fun w1 (hb : Below W.heap.size W w1) => (show w1.cell? ⟨w.heap.size, 3, none⟩ = some (.int .i64 x.src.f) from xc 3 _ rfl w1 hb))
  have F4 : ∀ y : Sub W.heap.size W, y.w.cell? ⟨w.heap.size, 4, none⟩ = some (.int .i64 x.src.r) := fun y => xc 4 _ rfl y.w y.h
  have Y4 := hide (fun w1 (hb : Below W.heap.size W w1) => (show w1.cell? ⟨w.heap.size, 4, none⟩ = some (.int .i64 x.src.r) from xc 4 _ rfl w1 hb))
  have F5 : ∀ y : Sub W.heap.size W, y.w.cell? ⟨w.heap.size, 5, none⟩ = some (.int .i64 x.src.e.k) := fun y => xc 5 _ rfl y.w y.h
  have Y5 := hide (fun w1 (hb : Below W.heap.size W w1) => (show w1.cell? ⟨w.heap.size, 5, none⟩ = some (.int .i64 x.src.e.k) from xc 5 _ rfl w1 hb))
  have F6 : ∀ y : Sub W.heap.size W, y.w.cell? ⟨w.heap.size, 6, none⟩ = some (.int .i64 x.src.e.n) := fun y => xc 6 _ rfl y.w y.h
  have Y6 := hide (fun w1 (hb : Below W.heap.size W w1) => (show w1.cell? ⟨w.heap.size, 6, none⟩ = some (.int .i64 x.src.e.n) from xc 6 _ rfl w1 hb))
  have F7 : ∀ y : Sub W.heap.size W, y.w.cell? ⟨w.heap.size, 7, none⟩ = some (.string x.src.e.s) := fun y => xc 7 _ rfl y.w y.h
  have Y7 := hide (fun w1 (hb : Below W.heap.size W w1) => (show w1.cell? ⟨w.heap.size, 7, none⟩ = some (.string x.src.e.s) from xc 7 _ rfl w1 hb))
  have F8 : ∀ y : Sub W.heap.size W, y.w.cell? ⟨w.heap.size, 8, none⟩ = some (.slice p.b1 x.src.e.l.length p.c1) := fun y => xc 8 _ rfl y.w y.h
  have Y8 := hide (fun w1 (hb : Below W.heap.size W w1) => (show w1.cell? ⟨w.heap.size, 8, none⟩ = some (.slice p.b1 x.src.e.l.length p.c1) from xc 8 _ rfl w1 hb))
  have F9 : ∀ y : Sub W.heap.size W, y.w.cell? ⟨w.heap.size, 9, none⟩ = some (.int .i64 x.dst.f) := fun y => xc 9 _ rfl y.w y.h
  have Y9 := hide (fun w1 (hb : Below W.heap.size W w1) => (show w1.cell? ⟨w.heap.size, 9, none⟩ = some (.int .i64 x.dst.f) from xc 9 _ rfl w1 hb))
  have F10 : ∀ y : Sub W.heap.size W, y.w.cell? ⟨w.heap.size, 10, none⟩ = some (.int .i64 x.dst.r) := fun y => xc 10 _ rfl y.w y.h
  have Y10 := hide (fun w1 (hb : Below W.heap.size W w1) => (show w1.cell? ⟨w.heap.size, 10, none⟩ = some (.int .i64 x.dst.r) from xc 10 _ rfl w1 hb))
  have F11 : ∀ y : Sub W.heap.size W, y.w.cell? ⟨w.heap.size, 11, none⟩ = some (.int .i64 x.dst.e.k) := fun y => xc 11 _ rfl y.w y.h
  have Y11 := hide (fun w1 (hb : Below W.heap.size W w1) => (show w1.cell? ⟨w.heap.size, 11, none⟩ = some (.int .i64 x.dst.e.k) from xc 11 _ rfl w1 hb))
  have F12 : ∀ y : Sub W.heap.size W, y.w.cell? ⟨w.heap.size, 12, none⟩ = some (.int .i64 x.dst.e.n) := fun y => xc 12 _ rfl y.w y.h
  have Y12 := hide (fun w1 (hb : Below W.heap.size W w1) => (show w1.cell? ⟨w.heap.size, 12, none⟩ = some (.int .i64 x.dst.e.n) from xc 12 _ rfl w1 hb))
  have F13 : ∀ y : Sub W.heap.size W, y.w.cell? ⟨w.heap.size, 13, none⟩ = some (.string x.dst.e.s) := fun y => xc 13 _ rfl y.w y.h
  have Y13 := hide (fun w1 (hb : Below W.heap.size W w1) => (show w1.cell? ⟨w.heap.size, 13, none⟩ = some (.string x.dst.e.s) from xc 13 _ rfl w1 hb))
  have F14 : ∀ y : Sub W.heap.size W, y.w.cell? ⟨w.heap.size, 14, none⟩ = some (.slice p.b2 x.dst.e.l.length p.c2) := fun y => xc 14 _ rfl y.w y.h
  have Y14 := hide (fun w1 (hb : Below W.heap.size W w1) => (show w1.cell? ⟨w.heap.size, 14, none⟩ = some (.slice p.b2 x.dst.e.l.length p.c2) from xc 14 _ rfl w1 hb))
  have F15 : ∀ y : Sub W.heap.size W, y.w.cell? ⟨w.heap.size, 15, none⟩ = some (.int .i64 x.n) := fun y => xc 15 _ rfl y.w y.h
  have Y15 := hide (fun w1 (hb : Below W.heap.size W w1) => (show w1.cell? ⟨w.heap.size, 15, none⟩ = some (.int .i64 x.n) from xc 15 _ rfl w1 hb))
  have F16 : ∀ y : Sub W.heap.size W, y.w.cell? ⟨w.heap.size, 16, none⟩ = some (.slice p.b3 x.l.length p.c3) := fun y => xc 16 _ rfl y.w y.h
  have Y16 := hide (fun w1 (hb : Below W.heap.size W w1) => (show w1.cell? ⟨w.heap.size, 16, none⟩ = some (.slice p.b3 x.l.length p.c3) from xc 16 _ rfl w1 hb))
  have MK := hide (fun x w1 => markS_ex x w1)
  unfold Tk.v Tk.cs at MK
  simp only at MK
  have KP' := fun w1 => keptS (x.op - 1).toNat (by omega) w1
  rw [show (((x.op - 1).toNat : Nat) : Int) = x.op - 1 by omega] at KP'
  have KP := hide KP'
  clear KP'
  unfold kpT Tk.v Tk.cs at KP
  simp only at KP
  have hwr : IntKind.i64.wrap (x.op - 1) = x.op - 1 := by rw [IntKind.wrap_i64]; omega
  have o1 : ¬ (x.op ≤ 6) := by omega
  have o2 : x.op ≤ 14 := hop.2
  have A2 := hide (fun y : Sub W.heap.size W => agtS_any x.dst p.b2 p.c2 y.w ok (hrW.b.later y.h))
  obtain ⟨dne, dle⟩ := agT_ok ok
  unfold Ag.cs at A2
  generalize agT x.dst = td at *
  obtain ⟨T, hT⟩ : ∃ T, (kpT (x.op - 1).toNat :: td) = T := ⟨_, rfl⟩
  have HT := hide hT
  rw [hT]
  clear hT
  unfold kpT at HT
  generalize keptL.getD (x.op - 1).toNat E0 = ks at *
  unfold Ln.cs at hy0 ⊢
  clear hr hrW hW xc xl hbW ok hop
  generalize x.src.f = sf at *
  generalize x.src.r = sr at *
  generalize x.src.e.k = sk at *
  generalize x.src.e.n = sn at *
  generalize x.src.e.s = ss at *
  generalize x.src.e.l.length = sl at *
  generalize x.dst.f = df at *
  generalize x.dst.r = dr at *
  generalize x.dst.e.k = dk at *
  generalize x.dst.e.n = dn at *
  generalize x.dst.e.s = ds at *
  generalize x.dst.e.l.length = dl at *
  generalize x.k = k at *
  generalize x.s = s at *
  generalize x.op = op at *
  generalize x.n = n at *
  generalize x.l.length = ll at *
  generalize p.b1 = b1 at *
  generalize p.c1 = c1 at *
  generalize p.b2 = b2 at *
  generalize p.c2 = c2 at *
  generalize p.b3 = b3 at *
  generalize p.c3 = c3 at *
  go_enter Tryz.func33, Tryz.ntmps33
  go_wp2_with fail
  refine (unhide KP y0.w).mono ?_
  rintro r w1 ⟨rfl, hb⟩
  obtain ⟨y1, rfl⟩ := Sub.step (unhide HZ) hb
  clear hb
  obtain ⟨y2, hy2⟩ := Sub.step (unhide HZ) (below_new y1.w (.cells #[.int .i64 5, .int .i64 0, .string ks] 59))
  have S2 := hide (show OwnT y2.w W.heap.size (.slice (some ⟨y1.w.heap.size, 0, none⟩) 1 1) [Tk.mk 5 0 ks] by rw [← hy2]; exact ownT_new y1.w (Tk.mk 5 0 ks) W.heap.size (Nat.le_trans (unhide HZ) y1.h.size))
  have O2 := hide (unhide S2)
  clear S2
  have l0 : [Tk.mk 5 0 ks].length ≤ 1 := Nat.le_refl 1
  go_wp2_with fail
  refine (unhide A2 y2).mono ?_
  rintro r w3 ⟨vs, rfl, hS, hb⟩
  have O3 := hide ((unhide O2).later hb)
  clear O2
  obtain ⟨y3, rfl⟩ := Sub.step (unhide HZ) hb
  clear hb
  have SR := hide hS
  clear hS
  go_wp2_with (at_builtin; go_must (refine appT rfl (.tmp 30) (.tmp 33) rfl (unhide HZ) y3.h rfl (unhide O3) rfl (unhide SR) dne (lsum l0 dle (by decide)) ?_; intro v4 y4 hO; obtain ⟨u4, hu⟩ : ∃ u, ([Tk.mk 5 0 ks] ++ td) = u := ⟨_, rfl⟩; rw [hu] at hO; have l4 := lapp hu l0 dle; have O4 := hide hO; have H4 := hide hu; clear hO hu O3 SR))
  have EQ : u4 = T := by
    rw [← unhide HT]
    rw [← unhide H4]
    simp [mkT, mkS]
  rw [EQ] at O4
  go_ret
  exact ⟨_, rfl, unhide HO y4 _ _ (unhide O4), unhide HB y4⟩
set_option maxHeartbeats 8000000 in
theorem ins_c (x : Ln) (p : La) (w : World) (hr : RdL w x p) (hop : x.op = 15) (ok : agX x.dst = true ∧ 0 ≤ x.n ∧ x.n ≤ 7) : Calls Tryz.prog 33 #[.agg (x.cs p)] w fun r w' => ∃ v, r = .returned v ∧ OwnT w' w.heap.size v (kpT (x.op - 1).toNat :: rgT x.n.toNat :: mkT 44 :: agT x.dst) ∧ Below w.heap.size w w' := by
  have hbW := below_new w (.cells (x.cs p) 37)
  obtain ⟨W, hW⟩ : ∃ W, w.alloc (.cells (x.cs p) 37) = W := ⟨_, rfl⟩
  have hrW := hr.later hbW
  have xl : w.heap.size < W.heap.size := by rw [← hW]; simp
  have xc : ∀ (i : Nat) (v : Value), (x.cs p)[i]? = some v → ∀ w1, Below W.heap.size W w1 → w1.cell? ⟨w.heap.size, i, none⟩ = some v := fun i v h w1 hb => (hb.cell (p := ⟨w.heap.size, i, none⟩) xl).trans (by rw [← hW]; exact box17 w _ _ i v h)
  rw [hW] at hbW hrW
  obtain ⟨y0, hy0⟩ : ∃ z : Sub W.heap.size W, w.alloc (.cells (x.cs p) 37) = z.w := ⟨⟨W, Below.refl _ _⟩, hW⟩
  have ne := Sub.ne W.heap.size W
  have HZ := hide (Nat.le_refl W.heap.size)
  have HB := hide (fun y : Sub W.heap.size W => hbW.trans (y.h.mono hbW.size))
  have HO := hide (fun (y : Sub W.heap.size W) v ts (h : OwnT y.w W.heap.size v ts) => h.base hbW.size)
  have F0 : ∀ y : Sub W.heap.size W, y.w.cell? ⟨w.heap.size, 0, none⟩ = some (.int .i64 x.k) := fun y => xc 0 _ rfl y.w y.h
  have Y0 := hide (fun w1 (hb : Below W.heap.size W w1) => (show w1.cell? ⟨w.heap.size, 0, none⟩ = some (.int .i64 x.k) from xc 0 _ rfl w1 hb))
  have F1 : ∀ y : Sub W.heap.size W, y.w.cell? ⟨w.heap.size, 1, none⟩ = some (.string x.s) := fun y => xc 1 _ rfl y.w y.h
  have Y1 := hide (fun w1 (hb : Below W.heap.size W w1) => (show w1.cell? ⟨w.heap.size, 1, none⟩ = some (.string x.s) from xc 1 _ rfl w1 hb))
  have F2 : ∀ y : Sub W.heap.size W, y.w.cell? ⟨w.heap.size, 2, none⟩ = some (.int .i64 x.op) := fun y => xc 2 _ rfl y.w y.h
  have Y2 := hide (fun w1 (hb : Below W.heap.size W w1) => (show w1.cell? ⟨w.heap.size, 2, none⟩ = some (.int .i64 x.op) from xc 2 _ rfl w1 hb))
  have F3 : ∀ y : Sub W.heap.size W, y.w.cell? ⟨w.heap.size, 3, none⟩ = some (.int .i64 x.src.f) := fun y => xc 3 _ rfl y.w y.h
  have Y3 := hide (fun w1 (hb : Below W.heap.size W w1) => (show w1.cell? ⟨w.heap.size, 3, none⟩ = some (.int .i64 x.src.f) from xc 3 _ rfl w1 hb))
  have F4 : ∀ y : Sub W.heap.size W, y.w.cell? ⟨w.heap.size, 4, none⟩ = some (.int .i64 x.src.r) := fun y => xc 4 _ rfl y.w y.h
  have Y4 := hide (fun w1 (hb : Below W.heap.size W w1) => (show w1.cell? ⟨w.heap.size, 4, none⟩ = some (.int .i64 x.src.r) from xc 4 _ rfl w1 hb))
  have F5 : ∀ y : Sub W.heap.size W, y.w.cell? ⟨w.heap.size, 5, none⟩ = some (.int .i64 x.src.e.k) := fun y => xc 5 _ rfl y.w y.h
  have Y5 := hide (fun w1 (hb : Below W.heap.size W w1) => (show w1.cell? ⟨w.heap.size, 5, none⟩ = some (.int .i64 x.src.e.k) from xc 5 _ rfl w1 hb))
  have F6 : ∀ y : Sub W.heap.size W, y.w.cell? ⟨w.heap.size, 6, none⟩ = some (.int .i64 x.src.e.n) := fun y => xc 6 _ rfl y.w y.h
  have Y6 := hide (fun w1 (hb : Below W.heap.size W w1) => (show w1.cell? ⟨w.heap.size, 6, none⟩ = some (.int .i64 x.src.e.n) from xc 6 _ rfl w1 hb))
  have F7 : ∀ y : Sub W.heap.size W, y.w.cell? ⟨w.heap.size, 7, none⟩ = some (.string x.src.e.s) := fun y => xc 7 _ rfl y.w y.h
  have Y7 := hide (fun w1 (hb : Below W.heap.size W w1) => (show w1.cell? ⟨w.heap.size, 7, none⟩ = some (.string x.src.e.s) from xc 7 _ rfl w1 hb))
  have F8 : ∀ y : Sub W.heap.size W, y.w.cell? ⟨w.heap.size, 8, none⟩ = some (.slice p.b1 x.src.e.l.length p.c1) := fun y => xc 8 _ rfl y.w y.h
  have Y8 := hide (fun w1 (hb : Below W.heap.size W w1) => (show w1.cell? ⟨w.heap.size, 8, none⟩ = some (.slice p.b1 x.src.e.l.length p.c1) from xc 8 _ rfl w1 hb))
  have F9 : ∀ y : Sub W.heap.size W, y.w.cell? ⟨w.heap.size, 9, none⟩ = some (.int .i64 x.dst.f) := fun y => xc 9 _ rfl y.w y.h
  have Y9 := hide (fun w1 (hb : Below W.heap.size W w1) => (show w1.cell? ⟨w.heap.size, 9, none⟩ = some (.int .i64 x.dst.f) from xc 9 _ rfl w1 hb))
  have F10 : ∀ y : Sub W.heap.size W, y.w.cell? ⟨w.heap.size, 10, none⟩ = some (.int .i64 x.dst.r) := fun y => xc 10 _ rfl y.w y.h
  have Y10 := hide (fun w1 (hb : Below W.heap.size W w1) => (show w1.cell? ⟨w.heap.size, 10, none⟩ = some (.int .i64 x.dst.r) from xc 10 _ rfl w1 hb))
  have F11 : ∀ y : Sub W.heap.size W, y.w.cell? ⟨w.heap.size, 11, none⟩ = some (.int .i64 x.dst.e.k) := fun y => xc 11 _ rfl y.w y.h
  have Y11 := hide (fun w1 (hb : Below W.heap.size W w1) => (show w1.cell? ⟨w.heap.size, 11, none⟩ = some (.int .i64 x.dst.e.k) from xc 11 _ rfl w1 hb))
  have F12 : ∀ y : Sub W.heap.size W, y.w.cell? ⟨w.heap.size, 12, none⟩ = some (.int .i64 x.dst.e.n) := fun y => xc 12 _ rfl y.w y.h
  have Y12 := hide (fun w1 (hb : Below W.heap.size W w1) => (show w1.cell? ⟨w.heap.size, 12, none⟩ = some (.int .i64 x.dst.e.n) from xc 12 _ rfl w1 hb))
  have F13 : ∀ y : Sub W.heap.size W, y.w.cell? ⟨w.heap.size, 13, none⟩ = some (.string x.dst.e.s) := fun y => xc 13 _ rfl y.w y.h
  have Y13 := hide (fun w1 (hb : Below W.heap.size W w1) => (show w1.cell? ⟨w.heap.size, 13, none⟩ = some (.string x.dst.e.s) from xc 13 _ rfl w1 hb))
  have F14 : ∀ y : Sub W.heap.size W, y.w.cell? ⟨w.heap.size, 14, none⟩ = some (.slice p.b2 x.dst.e.l.length p.c2) := fun y => xc 14 _ rfl y.w y.h
  have Y14 := hide (fun w1 (hb : Below W.heap.size W w1) => (show w1.cell? ⟨w.heap.size, 14, none⟩ = some (.slice p.b2 x.dst.e.l.length p.c2) from xc 14 _ rfl w1 hb))
  have F15 : ∀ y : Sub W.heap.size W, y.w.cell? ⟨w.heap.size, 15, none⟩ = some (.int .i64 x.n) := fun y => xc 15 _ rfl y.w y.h
  have Y15 := hide (fun w1 (hb : Below W.heap.size W w1) => (show w1.cell? ⟨w.heap.size, 15, none⟩ = some (.int .i64 x.n) from xc 15 _ rfl w1 hb))
  have F16 : ∀ y : Sub W.heap.size W, y.w.cell? ⟨w.heap.size, 16, none⟩ = some (.slice p.b3 x.l.length p.c3) := fun y => xc 16 _ rfl y.w y.h
  have Y16 := hide (fun w1 (hb : Below W.heap.size W w1) => (show w1.cell? ⟨w.heap.size, 16, none⟩ = some (.slice p.b3 x.l.length p.c3) from xc 16 _ rfl w1 hb))
  have MK := hide (fun x w1 => markS_ex x w1)
  unfold Tk.v Tk.cs at MK
  simp only at MK
  have KP' := fun w1 => keptS (x.op - 1).toNat (by omega) w1
  rw [show (((x.op - 1).toNat : Nat) : Int) = x.op - 1 by omega] at KP'
  have KP := hide KP'
  clear KP'
  unfold kpT Tk.v Tk.cs at KP
  simp only at KP
  have hwr : IntKind.i64.wrap (x.op - 1) = x.op - 1 := by rw [IntKind.wrap_i64]; omega
  rw [hop] at hwr KP F2 ⊢
  have A2 := hide (fun y : Sub W.heap.size W => agtS_any x.dst p.b2 p.c2 y.w ok.1 (hrW.b.later y.h))
  obtain ⟨dne, dle⟩ := agT_ok ok.1
  unfold Ag.cs at A2
  generalize agT x.dst = td at *
  obtain ⟨rn, hrn⟩ : ∃ n : Nat, x.n = (n : Int) := ⟨x.n.toNat, by omega⟩
  have hrn8 : rn < 8 := by omega
  rw [hrn] at F15 Y15 ⊢
  rw [show ((rn : Int)).toNat = rn from rfl]
  have RG := hide (fun w1 => regS rn hrn8 w1)
  unfold Tk.v Tk.cs at RG
  clear hrn hrn8
  obtain ⟨T, hT⟩ : ∃ T, (kpT ((15 : Int) - 1).toNat :: rgT rn :: mkT 44 :: td) = T := ⟨_, rfl⟩
  have HT := hide hT
  rw [hT]
  clear hT
  unfold kpT at HT
  generalize keptL.getD ((15 : Int) - 1).toNat E0 = ks at *
  unfold Ln.cs at hy0 ⊢
  clear hr hrW hW xc xl hbW ok
  rw [hop] at hy0 ⊢
  clear hop
  generalize x.src.f = sf at *
  generalize x.src.r = sr at *
  generalize x.src.e.k = sk at *
  generalize x.src.e.n = sn at *
  generalize x.src.e.s = ss at *
  generalize x.src.e.l.length = sl at *
  generalize x.dst.f = df at *
  generalize x.dst.r = dr at *
  generalize x.dst.e.k = dk at *
  generalize x.dst.e.n = dn at *
  generalize x.dst.e.s = ds at *
  generalize x.dst.e.l.length = dl at *
  generalize x.k = k at *
  generalize x.s = s at *
  generalize x.op = op at *
  generalize x.n = n at *
  generalize x.l.length = ll at *
  generalize p.b1 = b1 at *
  generalize p.c1 = c1 at *
  generalize p.b2 = b2 at *
  generalize p.c2 = c2 at *
  generalize p.b3 = b3 at *
  generalize p.c3 = c3 at *
  go_enter Tryz.func33, Tryz.ntmps33
  go_wp2_with fail
  refine (unhide KP y0.w).mono ?_
  rintro r w1 ⟨rfl, hb⟩
  obtain ⟨y1, rfl⟩ := Sub.step (unhide HZ) hb
  clear hb
  obtain ⟨y2, hy2⟩ := Sub.step (unhide HZ) (below_new y1.w (.cells #[.int .i64 5, .int .i64 0, .string ks] 59))
  have S2 := hide (show OwnT y2.w W.heap.size (.slice (some ⟨y1.w.heap.size, 0, none⟩) 1 1) [Tk.mk 5 0 ks] by rw [← hy2]; exact ownT_new y1.w (Tk.mk 5 0 ks) W.heap.size (Nat.le_trans (unhide HZ) y1.h.size))
  have O2 := hide (unhide S2)
  clear S2
  have l0 : [Tk.mk 5 0 ks].length ≤ 1 := Nat.le_refl 1
  go_wp2_with fail
  obtain ⟨y3, hy3⟩ := Sub.step (unhide HZ) (below_drew (w := y2.w))
  have O3 := hide (show OwnT y3.w W.heap.size (.slice (some ⟨y1.w.heap.size, 0, none⟩) 1 1) [Tk.mk 5 0 ks] by rw [← hy3]; exact (unhide O2).later below_drew)
  have D0 := hide (show Below W.heap.size W y2.w.drew by rw [hy3]; exact y3.h)
  refine wp_region_held_drew (S := fun w' => Below W.heap.size W w') (by kernel_rfl) (unhide D0) (fun hS => ?_)
  have HS := hide hS
  clear hS D0
  rw [hy3] at HS ⊢
  clear O2
  refine wpAnyH_take (i := 0) (v := .slice (some ⟨y1.w.heap.size, 0, none⟩) 1 1) rfl (by kernel_rfl) (by kernel_rfl) (by kernel_rfl) (fun _ _ _ h => h) (Or.inl ⟨by rfl, fun w hc => ?_⟩) (unhide HS) ?_
  · clear hc; go_simp
  go_simp
  refine wpAnyH_take (i := 1) (v := .pointer (some ⟨w.heap.size, 15, none⟩)) rfl (by kernel_rfl) (by kernel_rfl) (by kernel_rfl) (fun _ _ _ h => h) (Or.inl ⟨by rfl, fun w hc => ?_⟩) (unhide HS) ?_
  · clear hc; go_simp
  go_simp
  refine wpAnyH_take (i := 2) (v := .int .i64 (rn : Int)) rfl (by kernel_rfl) (by kernel_rfl) (by kernel_rfl) (fun _ _ _ h => h) (Or.inl ⟨by rfl, fun w hc => ?_⟩) (unhide HS) ?_
  · have q15 := unhide Y15 _ hc; clear hc; go_simp
  go_simp
  refine wpAnyH_take (i := 7) (v := .pointer (some ⟨w.heap.size, 9, none⟩)) rfl (by kernel_rfl) (by kernel_rfl) (by kernel_rfl) (fun _ _ _ h => h) (Or.inl ⟨by rfl, fun w hc => ?_⟩) (unhide HS) ?_
  · clear hc; go_simp
  go_simp
  refine wpAnyH_take (i := 8) (v := .agg #[.int .i64 df, .int .i64 dr, .int .i64 dk, .int .i64 dn, .string ds, .slice b2 dl c2]) rfl (by kernel_rfl) (by kernel_rfl) (by kernel_rfl) (fun _ _ _ h => h) (Or.inl ⟨by rfl, fun w hc => ?_⟩) (unhide HS) ?_
  · have q9 := unhide Y9 _ hc; have q10 := unhide Y10 _ hc; have q11 := unhide Y11 _ hc; have q12 := unhide Y12 _ hc; have q13 := unhide Y13 _ hc; have q14 := unhide Y14 _ hc; clear hc; go_simp
  go_simp
  refine wpAnyH_ready (rs := [3]) (by kernel_rfl) (by simp) ?_
  refine AllReadyH.cons rfl (fun K2 hK => ?_) AllReadyH.nil
  go_simp
  refine (unhide RG y3.w).mono ?_
  rintro r w4 ⟨rfl, hb⟩
  have O4 := hide ((unhide O3).later hb)
  clear O3
  obtain ⟨y4, rfl⟩ := Sub.step (unhide HZ) hb
  clear hb
  refine hK.out _ _ (y4.h) (fun hS => ?_)
  clear HS
  have HS := hide hS
  clear hS hK K2
  refine wpAnyH_ready (rs := [4]) (by kernel_rfl) (by simp) ?_
  refine AllReadyH.cons rfl (fun K2 hK => ?_) AllReadyH.nil
  go_simp
  refine (unhide MK ⟨#[44]⟩ y4.w).mono ?_
  rintro r w5 ⟨rfl, hb⟩
  have O5 := hide ((unhide O4).later hb)
  clear O4
  obtain ⟨y5, rfl⟩ := Sub.step (unhide HZ) hb
  clear hb
  refine hK.out _ _ (y5.h) (fun hS => ?_)
  clear HS
  have HS := hide hS
  clear hS hK K2
  refine wpAnyH_ready (rs := [5]) (by kernel_rfl) (by simp) ?_
  refine AllReadyH.cons rfl (fun K2 hK => ?_) AllReadyH.nil
  obtain ⟨y6, hy6⟩ := Sub.step (unhide HZ) (below_new y5.w (.cells #[.int .i64 (rgT rn).k, .int .i64 (rgT rn).n, .string (rgT rn).s, .int .i64 4, .int .i64 0, .string ⟨#[44]⟩] 59))
  have S6 := hide (show OwnT y6.w W.heap.size (.slice (some ⟨y5.w.heap.size, 0, none⟩) 2 2) [rgT rn, (Tk.mk 4 0 ⟨#[44]⟩)] by rw [← hy6]; exact ownT_two y5.w (rgT rn) (Tk.mk 4 0 ⟨#[44]⟩) W.heap.size (Nat.le_trans (unhide HZ) y5.h.size))
  have O6 := hide (show OwnT y6.w W.heap.size (.slice (some ⟨y1.w.heap.size, 0, none⟩) 1 1) [Tk.mk 5 0 ks] by rw [← hy6]; exact (unhide O5).later (below_new _ _))
  clear O5
  go_simp
  refine hK.out _ _ (y6.h) (fun hS => ?_)
  clear HS
  have HS := hide hS
  clear hS hK K2
  refine wpAnyH_ready (rs := [6]) (by kernel_rfl) (by simp) ?_
  refine AllReadyH.cons rfl (fun K2 hK => ?_) AllReadyH.nil
  rw [if_pos (by rfl)]
  refine wp_appT (.tmp 39) (.tmp 44) rfl (unhide HZ) y6.h rfl (unhide O6) rfl (unhide S6) (two_ne _ _) (lsum l0 (two_le _ _) (by decide)) ?_
  intro v7 y7 hO
  obtain ⟨u7, hu⟩ : ∃ u, ([Tk.mk 5 0 ks] ++ [rgT rn, (Tk.mk 4 0 ⟨#[44]⟩)]) = u := ⟨_, rfl⟩
  rw [hu] at hO
  have l7 := lapp hu l0 (two_le _ _)
  have O7 := hide hO
  have H7 := hide hu
  clear hO hu O6 S6
  refine hK.out _ _ (y7.h) (fun hS => ?_)
  clear HS
  have HS := hide hS
  clear hS hK K2
  refine wpAnyH_ready (rs := [9]) (by kernel_rfl) (by simp) ?_
  refine AllReadyH.cons rfl (fun K2 hK => ?_) AllReadyH.nil
  go_simp
  refine (unhide A2 y7).mono ?_
  rintro r w8 ⟨vs, rfl, hS, hb⟩
  have O8 := hide ((unhide O7).later hb)
  clear O7
  obtain ⟨y8, rfl⟩ := Sub.step (unhide HZ) hb
  clear hb
  have SR := hide hS
  clear hS
  refine hK.out _ _ (y8.h) (fun hS => ?_)
  clear HS
  have HS := hide hS
  clear hS hK K2
  refine wpAnyH_ready (rs := [10]) (by kernel_rfl) (by simp) ?_
  refine AllReadyH.cons rfl (fun K2 hK => ?_) AllReadyH.nil
  rw [if_pos (by rfl)]
  refine wp_appT (.tmp 45) (.tmp 48) rfl (unhide HZ) y8.h rfl (unhide O8) rfl (unhide SR) dne (lsum l7 dle (by decide)) ?_
  intro v9 y9 hO
  obtain ⟨u9, hu⟩ : ∃ u, (u7 ++ td) = u := ⟨_, rfl⟩
  rw [hu] at hO
  have l9 := lapp hu l7 dle
  have O9 := hide hO
  have H9 := hide hu
  clear hO hu O8 SR
  refine hK.out _ _ (y9.h) (fun hS => ?_)
  clear HS
  have HS := hide hS
  clear hS hK K2
  refine wpAnyH_take (i := 11) (v := v9) rfl (by kernel_rfl) (by kernel_rfl) (by kernel_rfl) (fun _ _ _ h => h) (Or.inl ⟨by rfl, fun w hc => ?_⟩) (unhide HS) ?_
  · clear hc; go_simp
  go_simp
  refine wpAnyH_done (by kernel_rfl) ?_ _
  clear HS
  go_wp2_with fail
  have EQ : u9 = T := by
    rw [← unhide HT]
    rw [← unhide H9, ← unhide H7]
    simp [mkT, mkS]
  rw [EQ] at O9
  go_ret
  exact ⟨_, rfl, unhide HO y9 _ _ (unhide O9), unhide HB y9⟩
set_option maxHeartbeats 8000000 in
theorem ins_d (x : Ln) (p : La) (w : World) (hr : RdL w x p) (hop : x.op = 16) (ok : 0 ≤ x.n ∧ x.n ≤ 7) : Calls Tryz.prog 33 #[.agg (x.cs p)] w fun r w' => ∃ v, r = .returned v ∧ OwnT w' w.heap.size v ([kpT (x.op - 1).toNat, rgT x.n.toNat]) ∧ Below w.heap.size w w' := by
  have hbW := below_new w (.cells (x.cs p) 37)
  obtain ⟨W, hW⟩ : ∃ W, w.alloc (.cells (x.cs p) 37) = W := ⟨_, rfl⟩
  have hrW := hr.later hbW
  have xl : w.heap.size < W.heap.size := by rw [← hW]; simp
  have xc : ∀ (i : Nat) (v : Value), (x.cs p)[i]? = some v → ∀ w1, Below W.heap.size W w1 → w1.cell? ⟨w.heap.size, i, none⟩ = some v := fun i v h w1 hb => (hb.cell (p := ⟨w.heap.size, i, none⟩) xl).trans (by rw [← hW]; exact box17 w _ _ i v h)
  rw [hW] at hbW hrW
  obtain ⟨y0, hy0⟩ : ∃ z : Sub W.heap.size W, w.alloc (.cells (x.cs p) 37) = z.w := ⟨⟨W, Below.refl _ _⟩, hW⟩
  have ne := Sub.ne W.heap.size W
  have HZ := hide (Nat.le_refl W.heap.size)
  have HB := hide (fun y : Sub W.heap.size W => hbW.trans (y.h.mono hbW.size))
  have HO := hide (fun (y : Sub W.heap.size W) v ts (h : OwnT y.w W.heap.size v ts) => h.base hbW.size)
  have F0 : ∀ y : Sub W.heap.size W, y.w.cell? ⟨w.heap.size, 0, none⟩ = some (.int .i64 x.k) := fun y => xc 0 _ rfl y.w y.h
  have Y0 := hide (fun w1 (hb : Below W.heap.size W w1) => (show w1.cell? ⟨w.heap.size, 0, none⟩ = some (.int .i64 x.k) from xc 0 _ rfl w1 hb))
  have F1 : ∀ y : Sub W.heap.size W, y.w.cell? ⟨w.heap.size, 1, none⟩ = some (.string x.s) := fun y => xc 1 _ rfl y.w y.h
  have Y1 := hide (fun w1 (hb : Below W.heap.size W w1) => (show w1.cell? ⟨w.heap.size, 1, none⟩ = some (.string x.s) from xc 1 _ rfl w1 hb))
  have F2 : ∀ y : Sub W.heap.size W, y.w.cell? ⟨w.heap.size, 2, none⟩ = some (.int .i64 x.op) := fun y => xc 2 _ rfl y.w y.h
  have Y2 := hide (fun w1 (hb : Below W.heap.size W w1) => (show w1.cell? ⟨w.heap.size, 2, none⟩ = some (.int .i64 x.op) from xc 2 _ rfl w1 hb))
  have F3 : ∀ y : Sub W.heap.size W, y.w.cell? ⟨w.heap.size, 3, none⟩ = some (.int .i64 x.src.f) := fun y => xc 3 _ rfl y.w y.h
  have Y3 := hide (fun w1 (hb : Below W.heap.size W w1) => (show w1.cell? ⟨w.heap.size, 3, none⟩ = some (.int .i64 x.src.f) from xc 3 _ rfl w1 hb))
  have F4 : ∀ y : Sub W.heap.size W, y.w.cell? ⟨w.heap.size, 4, none⟩ = some (.int .i64 x.src.r) := fun y => xc 4 _ rfl y.w y.h
  have Y4 := hide (fun w1 (hb : Below W.heap.size W w1) => (show w1.cell? ⟨w.heap.size, 4, none⟩ = some (.int .i64 x.src.r) from xc 4 _ rfl w1 hb))
  have F5 : ∀ y : Sub W.heap.size W, y.w.cell? ⟨w.heap.size, 5, none⟩ = some (.int .i64 x.src.e.k) := fun y => xc 5 _ rfl y.w y.h
  have Y5 := hide (fun w1 (hb : Below W.heap.size W w1) => (show w1.cell? ⟨w.heap.size, 5, none⟩ = some (.int .i64 x.src.e.k) from xc 5 _ rfl w1 hb))
  have F6 : ∀ y : Sub W.heap.size W, y.w.cell? ⟨w.heap.size, 6, none⟩ = some (.int .i64 x.src.e.n) := fun y => xc 6 _ rfl y.w y.h
  have Y6 := hide (fun w1 (hb : Below W.heap.size W w1) => (show w1.cell? ⟨w.heap.size, 6, none⟩ = some (.int .i64 x.src.e.n) from xc 6 _ rfl w1 hb))
  have F7 : ∀ y : Sub W.heap.size W, y.w.cell? ⟨w.heap.size, 7, none⟩ = some (.string x.src.e.s) := fun y => xc 7 _ rfl y.w y.h
  have Y7 := hide (fun w1 (hb : Below W.heap.size W w1) => (show w1.cell? ⟨w.heap.size, 7, none⟩ = some (.string x.src.e.s) from xc 7 _ rfl w1 hb))
  have F8 : ∀ y : Sub W.heap.size W, y.w.cell? ⟨w.heap.size, 8, none⟩ = some (.slice p.b1 x.src.e.l.length p.c1) := fun y => xc 8 _ rfl y.w y.h
  have Y8 := hide (fun w1 (hb : Below W.heap.size W w1) => (show w1.cell? ⟨w.heap.size, 8, none⟩ = some (.slice p.b1 x.src.e.l.length p.c1) from xc 8 _ rfl w1 hb))
  have F9 : ∀ y : Sub W.heap.size W, y.w.cell? ⟨w.heap.size, 9, none⟩ = some (.int .i64 x.dst.f) := fun y => xc 9 _ rfl y.w y.h
  have Y9 := hide (fun w1 (hb : Below W.heap.size W w1) => (show w1.cell? ⟨w.heap.size, 9, none⟩ = some (.int .i64 x.dst.f) from xc 9 _ rfl w1 hb))
  have F10 : ∀ y : Sub W.heap.size W, y.w.cell? ⟨w.heap.size, 10, none⟩ = some (.int .i64 x.dst.r) := fun y => xc 10 _ rfl y.w y.h
  have Y10 := hide (fun w1 (hb : Below W.heap.size W w1) => (show w1.cell? ⟨w.heap.size, 10, none⟩ = some (.int .i64 x.dst.r) from xc 10 _ rfl w1 hb))
  have F11 : ∀ y : Sub W.heap.size W, y.w.cell? ⟨w.heap.size, 11, none⟩ = some (.int .i64 x.dst.e.k) := fun y => xc 11 _ rfl y.w y.h
  have Y11 := hide (fun w1 (hb : Below W.heap.size W w1) => (show w1.cell? ⟨w.heap.size, 11, none⟩ = some (.int .i64 x.dst.e.k) from xc 11 _ rfl w1 hb))
  have F12 : ∀ y : Sub W.heap.size W, y.w.cell? ⟨w.heap.size, 12, none⟩ = some (.int .i64 x.dst.e.n) := fun y => xc 12 _ rfl y.w y.h
  have Y12 := hide (fun w1 (hb : Below W.heap.size W w1) => (show w1.cell? ⟨w.heap.size, 12, none⟩ = some (.int .i64 x.dst.e.n) from xc 12 _ rfl w1 hb))
  have F13 : ∀ y : Sub W.heap.size W, y.w.cell? ⟨w.heap.size, 13, none⟩ = some (.string x.dst.e.s) := fun y => xc 13 _ rfl y.w y.h
  have Y13 := hide (fun w1 (hb : Below W.heap.size W w1) => (show w1.cell? ⟨w.heap.size, 13, none⟩ = some (.string x.dst.e.s) from xc 13 _ rfl w1 hb))
  have F14 : ∀ y : Sub W.heap.size W, y.w.cell? ⟨w.heap.size, 14, none⟩ = some (.slice p.b2 x.dst.e.l.length p.c2) := fun y => xc 14 _ rfl y.w y.h
  have Y14 := hide (fun w1 (hb : Below W.heap.size W w1) => (show w1.cell? ⟨w.heap.size, 14, none⟩ = some (.slice p.b2 x.dst.e.l.length p.c2) from xc 14 _ rfl w1 hb))
  have F15 : ∀ y : Sub W.heap.size W, y.w.cell? ⟨w.heap.size, 15, none⟩ = some (.int .i64 x.n) := fun y => xc 15 _ rfl y.w y.h
  have Y15 := hide (fun w1 (hb : Below W.heap.size W w1) => (show w1.cell? ⟨w.heap.size, 15, none⟩ = some (.int .i64 x.n) from xc 15 _ rfl w1 hb))
  have F16 : ∀ y : Sub W.heap.size W, y.w.cell? ⟨w.heap.size, 16, none⟩ = some (.slice p.b3 x.l.length p.c3) := fun y => xc 16 _ rfl y.w y.h
  have Y16 := hide (fun w1 (hb : Below W.heap.size W w1) => (show w1.cell? ⟨w.heap.size, 16, none⟩ = some (.slice p.b3 x.l.length p.c3) from xc 16 _ rfl w1 hb))
  have MK := hide (fun x w1 => markS_ex x w1)
  unfold Tk.v Tk.cs at MK
  simp only at MK
  have KP' := fun w1 => keptS (x.op - 1).toNat (by omega) w1
  rw [show (((x.op - 1).toNat : Nat) : Int) = x.op - 1 by omega] at KP'
  have KP := hide KP'
  clear KP'
  unfold kpT Tk.v Tk.cs at KP
  simp only at KP
  have hwr : IntKind.i64.wrap (x.op - 1) = x.op - 1 := by rw [IntKind.wrap_i64]; omega
  rw [hop] at hwr KP F2 ⊢
  obtain ⟨rn, hrn⟩ : ∃ n : Nat, x.n = (n : Int) := ⟨x.n.toNat, by omega⟩
  have hrn8 : rn < 8 := by omega
  rw [hrn] at F15 Y15 ⊢
  rw [show ((rn : Int)).toNat = rn from rfl]
  have RG := hide (fun w1 => regS rn hrn8 w1)
  unfold Tk.v Tk.cs at RG
  clear hrn hrn8
  obtain ⟨T, hT⟩ : ∃ T, ([kpT ((16 : Int) - 1).toNat, rgT rn]) = T := ⟨_, rfl⟩
  have HT := hide hT
  rw [hT]
  clear hT
  unfold kpT at HT
  generalize keptL.getD ((16 : Int) - 1).toNat E0 = ks at *
  unfold Ln.cs at hy0 ⊢
  clear hr hrW hW xc xl hbW ok
  rw [hop] at hy0 ⊢
  clear hop
  generalize x.src.f = sf at *
  generalize x.src.r = sr at *
  generalize x.src.e.k = sk at *
  generalize x.src.e.n = sn at *
  generalize x.src.e.s = ss at *
  generalize x.src.e.l.length = sl at *
  generalize x.dst.f = df at *
  generalize x.dst.r = dr at *
  generalize x.dst.e.k = dk at *
  generalize x.dst.e.n = dn at *
  generalize x.dst.e.s = ds at *
  generalize x.dst.e.l.length = dl at *
  generalize x.k = k at *
  generalize x.s = s at *
  generalize x.op = op at *
  generalize x.n = n at *
  generalize x.l.length = ll at *
  generalize p.b1 = b1 at *
  generalize p.c1 = c1 at *
  generalize p.b2 = b2 at *
  generalize p.c2 = c2 at *
  generalize p.b3 = b3 at *
  generalize p.c3 = c3 at *
  go_enter Tryz.func33, Tryz.ntmps33
  go_wp2_with fail
  refine (unhide KP y0.w).mono ?_
  rintro r w1 ⟨rfl, hb⟩
  obtain ⟨y1, rfl⟩ := Sub.step (unhide HZ) hb
  clear hb
  obtain ⟨y2, hy2⟩ := Sub.step (unhide HZ) (below_new y1.w (.cells #[.int .i64 5, .int .i64 0, .string ks] 59))
  have S2 := hide (show OwnT y2.w W.heap.size (.slice (some ⟨y1.w.heap.size, 0, none⟩) 1 1) [Tk.mk 5 0 ks] by rw [← hy2]; exact ownT_new y1.w (Tk.mk 5 0 ks) W.heap.size (Nat.le_trans (unhide HZ) y1.h.size))
  have O2 := hide (unhide S2)
  clear S2
  have l0 : [Tk.mk 5 0 ks].length ≤ 1 := Nat.le_refl 1
  go_wp2_with fail
  refine (unhide RG y2.w).mono ?_
  rintro r w3 ⟨rfl, hb⟩
  have O3 := hide ((unhide O2).later hb)
  clear O2
  obtain ⟨y3, rfl⟩ := Sub.step (unhide HZ) hb
  clear hb
  obtain ⟨y4, hy4⟩ := Sub.step (unhide HZ) (below_new y3.w (.cells #[.int .i64 (rgT rn).k, .int .i64 (rgT rn).n, .string (rgT rn).s] 59))
  have S4 := hide (show OwnT y4.w W.heap.size (.slice (some ⟨y3.w.heap.size, 0, none⟩) 1 1) [rgT rn] by rw [← hy4]; exact ownT_new y3.w (rgT rn) W.heap.size (Nat.le_trans (unhide HZ) y3.h.size))
  have O4 := hide (show OwnT y4.w W.heap.size (.slice (some ⟨y1.w.heap.size, 0, none⟩) 1 1) [Tk.mk 5 0 ks] by rw [← hy4]; exact (unhide O3).later (below_new _ _))
  clear O3
  go_wp2_with (at_builtin; go_must (refine appT rfl (.tmp 54) (.tmp 58) rfl (unhide HZ) y4.h rfl (unhide O4) rfl (unhide S4) (one_ne _) (lsum l0 (one_le _) (by decide)) ?_; intro v5 y5 hO; obtain ⟨u5, hu⟩ : ∃ u, ([Tk.mk 5 0 ks] ++ [rgT rn]) = u := ⟨_, rfl⟩; rw [hu] at hO; have l5 := lapp hu l0 (one_le _); have O5 := hide hO; have H5 := hide hu; clear hO hu O4 S4))
  have EQ : u5 = T := by
    rw [← unhide HT]
    rw [← unhide H5]
    simp [mkT, mkS]
  rw [EQ] at O5
  go_ret
  exact ⟨_, rfl, unhide HO y5 _ _ (unhide O5), unhide HB y5⟩
set_option maxHeartbeats 8000000 in
theorem ins_e (x : Ln) (p : La) (w : World) (hr : RdL w x p) (hop : x.op = 22) (ok : True) : Calls Tryz.prog 33 #[.agg (x.cs p)] w fun r w' => ∃ v, r = .returned v ∧ OwnT w' w.heap.size v ([kpT (x.op - 1).toNat]) ∧ Below w.heap.size w w' := by
  have hbW := below_new w (.cells (x.cs p) 37)
  obtain ⟨W, hW⟩ : ∃ W, w.alloc (.cells (x.cs p) 37) = W := ⟨_, rfl⟩
  have hrW := hr.later hbW
  have xl : w.heap.size < W.heap.size := by rw [← hW]; simp
  have xc : ∀ (i : Nat) (v : Value), (x.cs p)[i]? = some v → ∀ w1, Below W.heap.size W w1 → w1.cell? ⟨w.heap.size, i, none⟩ = some v := fun i v h w1 hb => (hb.cell (p := ⟨w.heap.size, i, none⟩) xl).trans (by rw [← hW]; exact box17 w _ _ i v h)
  rw [hW] at hbW hrW
  obtain ⟨y0, hy0⟩ : ∃ z : Sub W.heap.size W, w.alloc (.cells (x.cs p) 37) = z.w := ⟨⟨W, Below.refl _ _⟩, hW⟩
  have ne := Sub.ne W.heap.size W
  have HZ := hide (Nat.le_refl W.heap.size)
  have HB := hide (fun y : Sub W.heap.size W => hbW.trans (y.h.mono hbW.size))
  have HO := hide (fun (y : Sub W.heap.size W) v ts (h : OwnT y.w W.heap.size v ts) => h.base hbW.size)
  have F0 : ∀ y : Sub W.heap.size W, y.w.cell? ⟨w.heap.size, 0, none⟩ = some (.int .i64 x.k) := fun y => xc 0 _ rfl y.w y.h
  have Y0 := hide (fun w1 (hb : Below W.heap.size W w1) => (show w1.cell? ⟨w.heap.size, 0, none⟩ = some (.int .i64 x.k) from xc 0 _ rfl w1 hb))
  have F1 : ∀ y : Sub W.heap.size W, y.w.cell? ⟨w.heap.size, 1, none⟩ = some (.string x.s) := fun y => xc 1 _ rfl y.w y.h
  have Y1 := hide (fun w1 (hb : Below W.heap.size W w1) => (show w1.cell? ⟨w.heap.size, 1, none⟩ = some (.string x.s) from xc 1 _ rfl w1 hb))
  have F2 : ∀ y : Sub W.heap.size W, y.w.cell? ⟨w.heap.size, 2, none⟩ = some (.int .i64 x.op) := fun y => xc 2 _ rfl y.w y.h
  have Y2 := hide (fun w1 (hb : Below W.heap.size W w1) => (show w1.cell? ⟨w.heap.size, 2, none⟩ = some (.int .i64 x.op) from xc 2 _ rfl w1 hb))
  have F3 : ∀ y : Sub W.heap.size W, y.w.cell? ⟨w.heap.size, 3, none⟩ = some (.int .i64 x.src.f) := fun y => xc 3 _ rfl y.w y.h
  have Y3 := hide (fun w1 (hb : Below W.heap.size W w1) => (show w1.cell? ⟨w.heap.size, 3, none⟩ = some (.int .i64 x.src.f) from xc 3 _ rfl w1 hb))
  have F4 : ∀ y : Sub W.heap.size W, y.w.cell? ⟨w.heap.size, 4, none⟩ = some (.int .i64 x.src.r) := fun y => xc 4 _ rfl y.w y.h
  have Y4 := hide (fun w1 (hb : Below W.heap.size W w1) => (show w1.cell? ⟨w.heap.size, 4, none⟩ = some (.int .i64 x.src.r) from xc 4 _ rfl w1 hb))
  have F5 : ∀ y : Sub W.heap.size W, y.w.cell? ⟨w.heap.size, 5, none⟩ = some (.int .i64 x.src.e.k) := fun y => xc 5 _ rfl y.w y.h
  have Y5 := hide (fun w1 (hb : Below W.heap.size W w1) => (show w1.cell? ⟨w.heap.size, 5, none⟩ = some (.int .i64 x.src.e.k) from xc 5 _ rfl w1 hb))
  have F6 : ∀ y : Sub W.heap.size W, y.w.cell? ⟨w.heap.size, 6, none⟩ = some (.int .i64 x.src.e.n) := fun y => xc 6 _ rfl y.w y.h
  have Y6 := hide (fun w1 (hb : Below W.heap.size W w1) => (show w1.cell? ⟨w.heap.size, 6, none⟩ = some (.int .i64 x.src.e.n) from xc 6 _ rfl w1 hb))
  have F7 : ∀ y : Sub W.heap.size W, y.w.cell? ⟨w.heap.size, 7, none⟩ = some (.string x.src.e.s) := fun y => xc 7 _ rfl y.w y.h
  have Y7 := hide (fun w1 (hb : Below W.heap.size W w1) => (show w1.cell? ⟨w.heap.size, 7, none⟩ = some (.string x.src.e.s) from xc 7 _ rfl w1 hb))
  have F8 : ∀ y : Sub W.heap.size W, y.w.cell? ⟨w.heap.size, 8, none⟩ = some (.slice p.b1 x.src.e.l.length p.c1) := fun y => xc 8 _ rfl y.w y.h
  have Y8 := hide (fun w1 (hb : Below W.heap.size W w1) => (show w1.cell? ⟨w.heap.size, 8, none⟩ = some (.slice p.b1 x.src.e.l.length p.c1) from xc 8 _ rfl w1 hb))
  have F9 : ∀ y : Sub W.heap.size W, y.w.cell? ⟨w.heap.size, 9, none⟩ = some (.int .i64 x.dst.f) := fun y => xc 9 _ rfl y.w y.h
  have Y9 := hide (fun w1 (hb : Below W.heap.size W w1) => (show w1.cell? ⟨w.heap.size, 9, none⟩ = some (.int .i64 x.dst.f) from xc 9 _ rfl w1 hb))
  have F10 : ∀ y : Sub W.heap.size W, y.w.cell? ⟨w.heap.size, 10, none⟩ = some (.int .i64 x.dst.r) := fun y => xc 10 _ rfl y.w y.h
  have Y10 := hide (fun w1 (hb : Below W.heap.size W w1) => (show w1.cell? ⟨w.heap.size, 10, none⟩ = some (.int .i64 x.dst.r) from xc 10 _ rfl w1 hb))
  have F11 : ∀ y : Sub W.heap.size W, y.w.cell? ⟨w.heap.size, 11, none⟩ = some (.int .i64 x.dst.e.k) := fun y => xc 11 _ rfl y.w y.h
  have Y11 := hide (fun w1 (hb : Below W.heap.size W w1) => (show w1.cell? ⟨w.heap.size, 11, none⟩ = some (.int .i64 x.dst.e.k) from xc 11 _ rfl w1 hb))
  have F12 : ∀ y : Sub W.heap.size W, y.w.cell? ⟨w.heap.size, 12, none⟩ = some (.int .i64 x.dst.e.n) := fun y => xc 12 _ rfl y.w y.h
  have Y12 := hide (fun w1 (hb : Below W.heap.size W w1) => (show w1.cell? ⟨w.heap.size, 12, none⟩ = some (.int .i64 x.dst.e.n) from xc 12 _ rfl w1 hb))
  have F13 : ∀ y : Sub W.heap.size W, y.w.cell? ⟨w.heap.size, 13, none⟩ = some (.string x.dst.e.s) := fun y => xc 13 _ rfl y.w y.h
  have Y13 := hide (fun w1 (hb : Below W.heap.size W w1) => (show w1.cell? ⟨w.heap.size, 13, none⟩ = some (.string x.dst.e.s) from xc 13 _ rfl w1 hb))
  have F14 : ∀ y : Sub W.heap.size W, y.w.cell? ⟨w.heap.size, 14, none⟩ = some (.slice p.b2 x.dst.e.l.length p.c2) := fun y => xc 14 _ rfl y.w y.h
  have Y14 := hide (fun w1 (hb : Below W.heap.size W w1) => (show w1.cell? ⟨w.heap.size, 14, none⟩ = some (.slice p.b2 x.dst.e.l.length p.c2) from xc 14 _ rfl w1 hb))
  have F15 : ∀ y : Sub W.heap.size W, y.w.cell? ⟨w.heap.size, 15, none⟩ = some (.int .i64 x.n) := fun y => xc 15 _ rfl y.w y.h
  have Y15 := hide (fun w1 (hb : Below W.heap.size W w1) => (show w1.cell? ⟨w.heap.size, 15, none⟩ = some (.int .i64 x.n) from xc 15 _ rfl w1 hb))
  have F16 : ∀ y : Sub W.heap.size W, y.w.cell? ⟨w.heap.size, 16, none⟩ = some (.slice p.b3 x.l.length p.c3) := fun y => xc 16 _ rfl y.w y.h
  have Y16 := hide (fun w1 (hb : Below W.heap.size W w1) => (show w1.cell? ⟨w.heap.size, 16, none⟩ = some (.slice p.b3 x.l.length p.c3) from xc 16 _ rfl w1 hb))
  have MK := hide (fun x w1 => markS_ex x w1)
  unfold Tk.v Tk.cs at MK
  simp only at MK
  have KP' := fun w1 => keptS (x.op - 1).toNat (by omega) w1
  rw [show (((x.op - 1).toNat : Nat) : Int) = x.op - 1 by omega] at KP'
  have KP := hide KP'
  clear KP'
  unfold kpT Tk.v Tk.cs at KP
  simp only at KP
  have hwr : IntKind.i64.wrap (x.op - 1) = x.op - 1 := by rw [IntKind.wrap_i64]; omega
  rw [hop] at hwr KP F2 ⊢
  obtain ⟨T, hT⟩ : ∃ T, ([kpT ((22 : Int) - 1).toNat]) = T := ⟨_, rfl⟩
  have HT := hide hT
  rw [hT]
  clear hT
  unfold kpT at HT
  generalize keptL.getD ((22 : Int) - 1).toNat E0 = ks at *
  unfold Ln.cs at hy0 ⊢
  clear hr hrW hW xc xl hbW ok
  rw [hop] at hy0 ⊢
  clear hop
  generalize x.src.f = sf at *
  generalize x.src.r = sr at *
  generalize x.src.e.k = sk at *
  generalize x.src.e.n = sn at *
  generalize x.src.e.s = ss at *
  generalize x.src.e.l.length = sl at *
  generalize x.dst.f = df at *
  generalize x.dst.r = dr at *
  generalize x.dst.e.k = dk at *
  generalize x.dst.e.n = dn at *
  generalize x.dst.e.s = ds at *
  generalize x.dst.e.l.length = dl at *
  generalize x.k = k at *
  generalize x.s = s at *
  generalize x.op = op at *
  generalize x.n = n at *
  generalize x.l.length = ll at *
  generalize p.b1 = b1 at *
  generalize p.c1 = c1 at *
  generalize p.b2 = b2 at *
  generalize p.c2 = c2 at *
  generalize p.b3 = b3 at *
  generalize p.c3 = c3 at *
  go_enter Tryz.func33, Tryz.ntmps33
  go_wp2_with fail
  refine (unhide KP y0.w).mono ?_
  rintro r w1 ⟨rfl, hb⟩
  obtain ⟨y1, rfl⟩ := Sub.step (unhide HZ) hb
  clear hb
  obtain ⟨y2, hy2⟩ := Sub.step (unhide HZ) (below_new y1.w (.cells #[.int .i64 5, .int .i64 0, .string ks] 59))
  have S2 := hide (show OwnT y2.w W.heap.size (.slice (some ⟨y1.w.heap.size, 0, none⟩) 1 1) [Tk.mk 5 0 ks] by rw [← hy2]; exact ownT_new y1.w (Tk.mk 5 0 ks) W.heap.size (Nat.le_trans (unhide HZ) y1.h.size))
  have O2 := hide (unhide S2)
  clear S2
  have l0 : [Tk.mk 5 0 ks].length ≤ 1 := Nat.le_refl 1
  go_wp2_with fail
  have EQ : [Tk.mk 5 0 ks] = T := unhide HT
  rw [EQ] at O2
  go_ret
  exact ⟨_, rfl, unhide HO y2 _ _ (unhide O2), unhide HB y2⟩
set_option maxHeartbeats 8000000 in
theorem ins_f (x : Ln) (p : La) (w : World) (hr : RdL w x p) (hop : 17 ≤ x.op ∧ x.op ≤ 23 ∧ x.op ≠ 22) (ok : 0 < x.l.length ∧ okF 6 true (xAt x.l 0) = true) : Calls Tryz.prog 33 #[.agg (x.cs p)] w fun r w' => ∃ v, r = .returned v ∧ OwnT w' w.heap.size v (kpT (x.op - 1).toNat :: toksF 6 (xAt x.l 0)) ∧ Below w.heap.size w w' := by
  have hbW := below_new w (.cells (x.cs p) 37)
  obtain ⟨W, hW⟩ : ∃ W, w.alloc (.cells (x.cs p) 37) = W := ⟨_, rfl⟩
  have hrW := hr.later hbW
  have xl : w.heap.size < W.heap.size := by rw [← hW]; simp
  have xc : ∀ (i : Nat) (v : Value), (x.cs p)[i]? = some v → ∀ w1, Below W.heap.size W w1 → w1.cell? ⟨w.heap.size, i, none⟩ = some v := fun i v h w1 hb => (hb.cell (p := ⟨w.heap.size, i, none⟩) xl).trans (by rw [← hW]; exact box17 w _ _ i v h)
  rw [hW] at hbW hrW
  obtain ⟨y0, hy0⟩ : ∃ z : Sub W.heap.size W, w.alloc (.cells (x.cs p) 37) = z.w := ⟨⟨W, Below.refl _ _⟩, hW⟩
  have ne := Sub.ne W.heap.size W
  have HZ := hide (Nat.le_refl W.heap.size)
  have HB := hide (fun y : Sub W.heap.size W => hbW.trans (y.h.mono hbW.size))
  have HO := hide (fun (y : Sub W.heap.size W) v ts (h : OwnT y.w W.heap.size v ts) => h.base hbW.size)
  have F0 : ∀ y : Sub W.heap.size W, y.w.cell? ⟨w.heap.size, 0, none⟩ = some (.int .i64 x.k) := fun y => xc 0 _ rfl y.w y.h
  have Y0 := hide (fun w1 (hb : Below W.heap.size W w1) => (show w1.cell? ⟨w.heap.size, 0, none⟩ = some (.int .i64 x.k) from xc 0 _ rfl w1 hb))
  have F1 : ∀ y : Sub W.heap.size W, y.w.cell? ⟨w.heap.size, 1, none⟩ = some (.string x.s) := fun y => xc 1 _ rfl y.w y.h
  have Y1 := hide (fun w1 (hb : Below W.heap.size W w1) => (show w1.cell? ⟨w.heap.size, 1, none⟩ = some (.string x.s) from xc 1 _ rfl w1 hb))
  have F2 : ∀ y : Sub W.heap.size W, y.w.cell? ⟨w.heap.size, 2, none⟩ = some (.int .i64 x.op) := fun y => xc 2 _ rfl y.w y.h
  have Y2 := hide (fun w1 (hb : Below W.heap.size W w1) => (show w1.cell? ⟨w.heap.size, 2, none⟩ = some (.int .i64 x.op) from xc 2 _ rfl w1 hb))
  have F3 : ∀ y : Sub W.heap.size W, y.w.cell? ⟨w.heap.size, 3, none⟩ = some (.int .i64 x.src.f) := fun y => xc 3 _ rfl y.w y.h
  have Y3 := hide (fun w1 (hb : Below W.heap.size W w1) => (show w1.cell? ⟨w.heap.size, 3, none⟩ = some (.int .i64 x.src.f) from xc 3 _ rfl w1 hb))
  have F4 : ∀ y : Sub W.heap.size W, y.w.cell? ⟨w.heap.size, 4, none⟩ = some (.int .i64 x.src.r) := fun y => xc 4 _ rfl y.w y.h
  have Y4 := hide (fun w1 (hb : Below W.heap.size W w1) => (show w1.cell? ⟨w.heap.size, 4, none⟩ = some (.int .i64 x.src.r) from xc 4 _ rfl w1 hb))
  have F5 : ∀ y : Sub W.heap.size W, y.w.cell? ⟨w.heap.size, 5, none⟩ = some (.int .i64 x.src.e.k) := fun y => xc 5 _ rfl y.w y.h
  have Y5 := hide (fun w1 (hb : Below W.heap.size W w1) => (show w1.cell? ⟨w.heap.size, 5, none⟩ = some (.int .i64 x.src.e.k) from xc 5 _ rfl w1 hb))
  have F6 : ∀ y : Sub W.heap.size W, y.w.cell? ⟨w.heap.size, 6, none⟩ = some (.int .i64 x.src.e.n) := fun y => xc 6 _ rfl y.w y.h
  have Y6 := hide (fun w1 (hb : Below W.heap.size W w1) => (show w1.cell? ⟨w.heap.size, 6, none⟩ = some (.int .i64 x.src.e.n) from xc 6 _ rfl w1 hb))
  have F7 : ∀ y : Sub W.heap.size W, y.w.cell? ⟨w.heap.size, 7, none⟩ = some (.string x.src.e.s) := fun y => xc 7 _ rfl y.w y.h
  have Y7 := hide (fun w1 (hb : Below W.heap.size W w1) => (show w1.cell? ⟨w.heap.size, 7, none⟩ = some (.string x.src.e.s) from xc 7 _ rfl w1 hb))
  have F8 : ∀ y : Sub W.heap.size W, y.w.cell? ⟨w.heap.size, 8, none⟩ = some (.slice p.b1 x.src.e.l.length p.c1) := fun y => xc 8 _ rfl y.w y.h
  have Y8 := hide (fun w1 (hb : Below W.heap.size W w1) => (show w1.cell? ⟨w.heap.size, 8, none⟩ = some (.slice p.b1 x.src.e.l.length p.c1) from xc 8 _ rfl w1 hb))
  have F9 : ∀ y : Sub W.heap.size W, y.w.cell? ⟨w.heap.size, 9, none⟩ = some (.int .i64 x.dst.f) := fun y => xc 9 _ rfl y.w y.h
  have Y9 := hide (fun w1 (hb : Below W.heap.size W w1) => (show w1.cell? ⟨w.heap.size, 9, none⟩ = some (.int .i64 x.dst.f) from xc 9 _ rfl w1 hb))
  have F10 : ∀ y : Sub W.heap.size W, y.w.cell? ⟨w.heap.size, 10, none⟩ = some (.int .i64 x.dst.r) := fun y => xc 10 _ rfl y.w y.h
  have Y10 := hide (fun w1 (hb : Below W.heap.size W w1) => (show w1.cell? ⟨w.heap.size, 10, none⟩ = some (.int .i64 x.dst.r) from xc 10 _ rfl w1 hb))
  have F11 : ∀ y : Sub W.heap.size W, y.w.cell? ⟨w.heap.size, 11, none⟩ = some (.int .i64 x.dst.e.k) := fun y => xc 11 _ rfl y.w y.h
  have Y11 := hide (fun w1 (hb : Below W.heap.size W w1) => (show w1.cell? ⟨w.heap.size, 11, none⟩ = some (.int .i64 x.dst.e.k) from xc 11 _ rfl w1 hb))
  have F12 : ∀ y : Sub W.heap.size W, y.w.cell? ⟨w.heap.size, 12, none⟩ = some (.int .i64 x.dst.e.n) := fun y => xc 12 _ rfl y.w y.h
  have Y12 := hide (fun w1 (hb : Below W.heap.size W w1) => (show w1.cell? ⟨w.heap.size, 12, none⟩ = some (.int .i64 x.dst.e.n) from xc 12 _ rfl w1 hb))
  have F13 : ∀ y : Sub W.heap.size W, y.w.cell? ⟨w.heap.size, 13, none⟩ = some (.string x.dst.e.s) := fun y => xc 13 _ rfl y.w y.h
  have Y13 := hide (fun w1 (hb : Below W.heap.size W w1) => (show w1.cell? ⟨w.heap.size, 13, none⟩ = some (.string x.dst.e.s) from xc 13 _ rfl w1 hb))
  have F14 : ∀ y : Sub W.heap.size W, y.w.cell? ⟨w.heap.size, 14, none⟩ = some (.slice p.b2 x.dst.e.l.length p.c2) := fun y => xc 14 _ rfl y.w y.h
  have Y14 := hide (fun w1 (hb : Below W.heap.size W w1) => (show w1.cell? ⟨w.heap.size, 14, none⟩ = some (.slice p.b2 x.dst.e.l.length p.c2) from xc 14 _ rfl w1 hb))
  have F15 : ∀ y : Sub W.heap.size W, y.w.cell? ⟨w.heap.size, 15, none⟩ = some (.int .i64 x.n) := fun y => xc 15 _ rfl y.w y.h
  have Y15 := hide (fun w1 (hb : Below W.heap.size W w1) => (show w1.cell? ⟨w.heap.size, 15, none⟩ = some (.int .i64 x.n) from xc 15 _ rfl w1 hb))
  have F16 : ∀ y : Sub W.heap.size W, y.w.cell? ⟨w.heap.size, 16, none⟩ = some (.slice p.b3 x.l.length p.c3) := fun y => xc 16 _ rfl y.w y.h
  have Y16 := hide (fun w1 (hb : Below W.heap.size W w1) => (show w1.cell? ⟨w.heap.size, 16, none⟩ = some (.slice p.b3 x.l.length p.c3) from xc 16 _ rfl w1 hb))
  have MK := hide (fun x w1 => markS_ex x w1)
  unfold Tk.v Tk.cs at MK
  simp only at MK
  have KP' := fun w1 => keptS (x.op - 1).toNat (by omega) w1
  rw [show (((x.op - 1).toNat : Nat) : Int) = x.op - 1 by omega] at KP'
  have KP := hide KP'
  clear KP'
  unfold kpT Tk.v Tk.cs at KP
  simp only at KP
  have hwr : IntKind.i64.wrap (x.op - 1) = x.op - 1 := by rw [IntKind.wrap_i64]; omega
  have o1 : ¬ (x.op ≤ 6) := by omega
  have o2 : ¬ (x.op ≤ 14) := by omega
  have o3 : (x.op == 15) = false := beq_eq_false_iff_ne.2 (by omega)
  have o4 : (x.op == 16) = false := beq_eq_false_iff_ne.2 (by omega)
  have o5 : (x.op == 22) = false := beq_eq_false_iff_ne.2 (by omega)
  obtain ⟨hl1, okt⟩ := ok
  obtain ⟨p1, po, hb1, _, hp1, hpc⟩ := ((RdX_eq _ _ _ _).1 hrW.l).resolve_left (fun h => by have h : x.l = [] := h; rw [h] at hl1; simp at hl1)
  obtain ⟨e0, e1, e2, pc, pp, e3, e4⟩ := hpc 0 (show 0 < x.l.length by omega)
  simp only [Nat.zero_mul, Nat.add_zero] at e0 e1 e2 e3
  have d0 : ∀ y : Sub W.heap.size W, y.w.cell? ⟨p1, po, none⟩ = some (.int .i64 (xAt x.l 0).k) := fun y => (y.h.cell (p := ⟨p1, _, none⟩) hp1).trans e0
  have d1 : ∀ y : Sub W.heap.size W, y.w.cell? ⟨p1, po + 1, none⟩ = some (.int .i64 (xAt x.l 0).n) := fun y => (y.h.cell (p := ⟨p1, _, none⟩) hp1).trans e1
  have d2 : ∀ y : Sub W.heap.size W, y.w.cell? ⟨p1, po + 2, none⟩ = some (.string (xAt x.l 0).s) := fun y => (y.h.cell (p := ⟨p1, _, none⟩) hp1).trans e2
  have d3 : ∀ y : Sub W.heap.size W, y.w.cell? ⟨p1, po + 3, none⟩ = some (.slice pc (xAt x.l 0).l.length pp) := fun y => (y.h.cell (p := ⟨p1, _, none⟩) hp1).trans e3
  have Z0 := hide (fun w1 (hb : Below W.heap.size W w1) => (show w1.cell? ⟨p1, po, none⟩ = some (.int .i64 (xAt x.l 0).k) from (hb.cell (p := ⟨p1, _, none⟩) hp1).trans e0))
  have Z1 := hide (fun w1 (hb : Below W.heap.size W w1) => (show w1.cell? ⟨p1, po + 1, none⟩ = some (.int .i64 (xAt x.l 0).n) from (hb.cell (p := ⟨p1, _, none⟩) hp1).trans e1))
  have Z2 := hide (fun w1 (hb : Below W.heap.size W w1) => (show w1.cell? ⟨p1, po + 2, none⟩ = some (.string (xAt x.l 0).s) from (hb.cell (p := ⟨p1, _, none⟩) hp1).trans e2))
  have Z3 := hide (fun w1 (hb : Below W.heap.size W w1) => (show w1.cell? ⟨p1, po + 3, none⟩ = some (.slice pc (xAt x.l 0).l.length pp) from (hb.cell (p := ⟨p1, _, none⟩) hp1).trans e3))
  have TE := hide (fun y : Sub W.heap.size W => toksS_all 6 (by omega) (xAt x.l 0) pc pp y.w okt ((show RdX W 0 (xAt x.l 0) pc from e4).later y.h))
  have tne := toks_ne okt
  have tle := toks_le okt
  rw [hb1] at F16 Y16
  clear e0 e1 e2 e3 e4 hpc hb1 hp1 okt
  unfold Ex.cs at TE
  generalize toksF 6 (xAt x.l 0) = te at *
  generalize (xAt x.l 0).s = ts at *
  generalize (xAt x.l 0).k = tk at *
  generalize (xAt x.l 0).n = tn at *
  generalize (xAt x.l 0).l.length = tl at *
  obtain ⟨T, hT⟩ : ∃ T, (kpT (x.op - 1).toNat :: te) = T := ⟨_, rfl⟩
  have HT := hide hT
  rw [hT]
  clear hT
  unfold kpT at HT
  generalize keptL.getD (x.op - 1).toNat E0 = ks at *
  unfold Ln.cs at hy0 ⊢
  clear hr hrW hW xc xl hbW hop
  generalize x.src.f = sf at *
  generalize x.src.r = sr at *
  generalize x.src.e.k = sk at *
  generalize x.src.e.n = sn at *
  generalize x.src.e.s = ss at *
  generalize x.src.e.l.length = sl at *
  generalize x.dst.f = df at *
  generalize x.dst.r = dr at *
  generalize x.dst.e.k = dk at *
  generalize x.dst.e.n = dn at *
  generalize x.dst.e.s = ds at *
  generalize x.dst.e.l.length = dl at *
  generalize x.k = k at *
  generalize x.s = s at *
  generalize x.op = op at *
  generalize x.n = n at *
  generalize x.l.length = ll at *
  generalize p.b1 = b1 at *
  generalize p.c1 = c1 at *
  generalize p.b2 = b2 at *
  generalize p.c2 = c2 at *
  generalize p.b3 = b3 at *
  generalize p.c3 = c3 at *
  go_enter Tryz.func33, Tryz.ntmps33
  go_wp2_with fail
  refine (unhide KP y0.w).mono ?_
  rintro r w1 ⟨rfl, hb⟩
  obtain ⟨y1, rfl⟩ := Sub.step (unhide HZ) hb
  clear hb
  obtain ⟨y2, hy2⟩ := Sub.step (unhide HZ) (below_new y1.w (.cells #[.int .i64 5, .int .i64 0, .string ks] 59))
  have S2 := hide (show OwnT y2.w W.heap.size (.slice (some ⟨y1.w.heap.size, 0, none⟩) 1 1) [Tk.mk 5 0 ks] by rw [← hy2]; exact ownT_new y1.w (Tk.mk 5 0 ks) W.heap.size (Nat.le_trans (unhide HZ) y1.h.size))
  have O2 := hide (unhide S2)
  clear S2
  have l0 : [Tk.mk 5 0 ks].length ≤ 1 := Nat.le_refl 1
  go_wp2_with fail
  refine (unhide TE y2).mono ?_
  rintro r w3 ⟨vs, rfl, hS, hb⟩
  have O3 := hide ((unhide O2).later hb)
  clear O2
  obtain ⟨y3, rfl⟩ := Sub.step (unhide HZ) hb
  clear hb
  have SR := hide hS
  clear hS
  go_wp2_with (at_builtin; go_must (refine appT rfl (.tmp 65) (.tmp 70) rfl (unhide HZ) y3.h rfl (unhide O3) rfl (unhide SR) tne (lsum l0 tle (by decide)) ?_; intro v4 y4 hO; obtain ⟨u4, hu⟩ : ∃ u, ([Tk.mk 5 0 ks] ++ te) = u := ⟨_, rfl⟩; rw [hu] at hO; have l4 := lapp hu l0 tle; have O4 := hide hO; have H4 := hide hu; clear hO hu O3 SR))
  have EQ : u4 = T := by
    rw [← unhide HT]
    rw [← unhide H4]
    simp [mkT, mkS]
  rw [EQ] at O4
  go_ret
  exact ⟨_, rfl, unhide HO y4 _ _ (unhide O4), unhide HB y4⟩
theorem instS_any (x : Ln) (p : La) (w : World) (hr : RdL w x p) (ok : insX x = true) : Calls Tryz.prog 33 #[.agg (x.cs p)] w fun r w' => ∃ v, r = .returned v ∧ OwnT w' w.heap.size v (insT x) ∧ Below w.heap.size w w' := by
  unfold insX insV at ok
  unfold insT
  by_cases h1 : inB x.op 1 6 = true
  · rw [if_pos h1] at ok
    simp only [Bool.and_eq_true] at ok
    obtain ⟨q1, q2⟩ := inB_of h1
    rw [if_pos q2]
    exact ins_a x p w hr ⟨q1, q2⟩ ⟨ok.1, ok.2.1⟩
  rw [if_neg h1] at ok
  by_cases h2 : inB x.op 7 14 = true
  · rw [if_pos h2] at ok
    simp only [Bool.and_eq_true] at ok
    obtain ⟨q1, q2⟩ := inB_of h2
    rw [if_neg (by omega), if_pos q2]
    exact ins_b x p w hr ⟨q1, q2⟩ ok.2.1
  rw [if_neg h2] at ok
  by_cases h3 : x.op = 15
  · rw [if_pos (by simp [h3])] at ok
    simp only [Bool.and_eq_true] at ok
    obtain ⟨q1, q2⟩ := inB_of ok.2.2.1
    rw [if_neg (by omega), if_neg (by omega), if_pos h3]
    exact ins_c x p w hr h3 ⟨ok.2.1, q1, q2⟩
  rw [if_neg (by simp [h3])] at ok
  by_cases h4 : (!nonX x.src || !nonX x.dst) = true
  · rw [if_pos h4] at ok
    cases ok
  rw [if_neg h4] at ok
  by_cases h5 : x.op = 16
  · rw [if_pos (by simp [h5])] at ok
    simp only [Bool.and_eq_true] at ok
    obtain ⟨q1, q2⟩ := inB_of ok.1
    rw [if_neg (by omega), if_neg (by omega), if_neg h3, if_pos h5]
    exact ins_d x p w hr h5 ⟨q1, q2⟩
  rw [if_neg (by simp [h5])] at ok
  by_cases h6 : x.op = 22
  · rw [if_neg (by omega), if_neg (by omega), if_neg h3, if_neg h5, if_pos h6]
    exact ins_e x p w hr h6 trivial
  rw [if_neg (by simp [h6])] at ok
  by_cases h7 : (inB x.op 17 21 || x.op == 23) = true
  · rw [if_pos h7] at ok
    simp only [Bool.and_eq_true, beq_iff_eq] at ok
    have h8 : 17 ≤ x.op ∧ x.op ≤ 23 ∧ x.op ≠ 22 := by
      rcases Bool.or_eq_true_iff.1 h7 with h | h
      · have := inB_of h; omega
      · have : x.op = 23 := by simpa using h
        omega
    rw [if_neg (by omega), if_neg (by omega), if_neg h3, if_neg h5, if_neg h6]
    exact ins_f x p w hr h8 ⟨by omega, List.all_eq_true.1 ok.2.2 _ (xAt_mem (by omega))⟩
  rw [if_neg h7] at ok
  cases ok
end Go.Proofs.YtmhcbehplhfgfaaGreatDoor
