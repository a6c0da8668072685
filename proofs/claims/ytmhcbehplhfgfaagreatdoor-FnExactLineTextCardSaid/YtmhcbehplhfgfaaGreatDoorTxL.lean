/- Contracts over this seat's translation, laid together; conditions stand as hypotheses of each. -/
import Derived.Test.YtmhcbehplhfgfaaGreatDoorTxK

namespace Go.Proofs.YtmhcbehplhfgfaaGreatDoor
open Go.ChangeShapes Go.WideShapes Go.ChangeAt Go.RowKit
set_option linter.unusedVariables false
set_option maxRecDepth 8000
set_option linter.unusedSimpArgs false
/-- The tokens of a line. -/
def lnT (x : Ln) : List Tk :=
  if x.k = 1 then [⟨1, 0, x.s⟩, mkT 58] else if x.k = 2 then ⟨1, 0, x.s⟩ :: mkT 61 :: toksF 6 (xAt x.l 0) else if x.k = 3 then insT x
  else if x.k = 4 then tmT ⟨#[46, 119, 111, 114, 100]⟩ x.l else if x.k = 5 then tmT ⟨#[46, 98, 108, 107, 119]⟩ x.l else if x.k = 7 then tmT ⟨#[46, 103, 108, 111, 98, 108]⟩ x.l else if x.k = 8 then tmT ⟨#[46, 101, 110, 100]⟩ x.l
  else if x.k = 6 then (if x.n = 1 then [⟨3, 0, ⟨#[46, 115, 101, 99, 116]⟩⟩, ⟨1, 0, x.s⟩, mkT 44, ⟨1, 0, ⟨#[111, 118, 101, 114]⟩⟩] else [⟨3, 0, ⟨#[46, 115, 101, 99, 116]⟩⟩, ⟨1, 0, x.s⟩]) else []
set_option maxHeartbeats 8000000 in
theorem ln_1 (x : Ln) (p : La) (w : World) (hr : RdL w x p) (hk : x.k = 1) (ok : True) : Calls Tryz.prog 13 #[.agg (x.cs p)] w fun r w' => ∃ v, r = .returned v ∧ OwnT w' w.heap.size v ([⟨1, 0, x.s⟩, mkT 58]) ∧ Below w.heap.size w w' := by
  have hb1 := below_new w (.cells (x.cs p) 37)
  have hb2 := below_new (w.alloc (.cells (x.cs p) 37)) (.cells #[.int .i64 1, .int .i64 0, .string x.s] 59)
  have hbW := hb1.trans (hb2.mono hb1.size)
  obtain ⟨W, hW⟩ : ∃ W, (w.alloc (.cells (x.cs p) 37)).alloc (.cells #[.int .i64 1, .int .i64 0, .string x.s] 59) = W := ⟨_, rfl⟩
  have hrW := hr.later hbW
  have xl : w.heap.size + 1 < W.heap.size := by rw [← hW]; simp
  have xc : ∀ (i : Nat) (v : Value), (x.cs p)[i]? = some v → ∀ w1, Below W.heap.size W w1 → w1.cell? ⟨w.heap.size, i, none⟩ = some v := fun i v h w1 hb => (hb.cell (p := ⟨w.heap.size, i, none⟩) (by show w.heap.size < W.heap.size; omega)).trans (by rw [← hW]; exact (hb2.cell (p := ⟨w.heap.size, i, none⟩) (by simp)).trans (box17 w _ _ i v h))
  have xn : ∀ (i : Nat) (v : Value), (#[.int .i64 1, .int .i64 0, .string x.s] : Array Value)[i]? = some v → ∀ w1, Below W.heap.size W w1 → w1.cell? ⟨w.heap.size + 1, i, none⟩ = some v := fun i v h w1 hb => (hb.cell (p := ⟨w.heap.size + 1, i, none⟩) xl).trans (by rw [← hW]; have := box17 (w.alloc (.cells (x.cs p) 37)) #[.int .i64 1, .int .i64 0, .string x.s] 59 i v h; rw [show (w.alloc (.cells (x.cs p) 37)).heap.size = w.heap.size + 1 by simp] at this; exact this)
  rw [hW] at hbW hrW
  obtain ⟨y0, hy0⟩ : ∃ z : Sub W.heap.size W, (w.alloc (.cells (x.cs p) 37)).alloc (.cells #[.int .i64 1, .int .i64 0, .string x.s] 59) = z.w := ⟨⟨W, Below.refl _ _⟩, hW⟩
  clear hb1 hb2
  have ne := Sub.ne W.heap.size W
  have HZ := hide (Nat.le_refl W.heap.size)
  have HB := hide (fun y : Sub W.heap.size W => hbW.trans (y.h.mono hbW.size))
  have HO := hide (fun (y : Sub W.heap.size W) v ts (h : OwnT y.w W.heap.size v ts) => h.base hbW.size)
  have F0 : ∀ y : Sub W.heap.size W, y.w.cell? ⟨w.heap.size, 0, none⟩ = some (.int .i64 x.k) := fun y => xc 0 _ rfl y.w y.h
  have Y0 := hide (fun w1 (hb : Below W.heap.size W w1) => (show w1.cell? ⟨w.heap.size, 0, none⟩ = some (.int .i64 x.k) from xc 0 _ rfl w1 hb))
  have F1 : ∀ y : Sub W.heap.size W, y.w.cell? ⟨w.heap.size, 1, none⟩ = some (.string x.s) := fun y => xc 1 _ rfl y.w y.h
  have Y1 := hide (fun w1 (hb : Below W.heap.size W w1) => (show w1.cell? ⟨w.heap.size, 1, none⟩ = some (.string x.s) from xc 1 _ rfl w1 hb))
  have F2 : ∀ y : Sub W.heap.size W, y.w.cell? ⟨w.heap.size, 2, none⟩ = some (.int .i64 x.op) := fun y => xc 2 _ rfl y.w y.h
  have Y2 := hide (fun w1 (hb : Below W.heap.size W w1) => (show w1.cell? ⟨w.heap.size, 2, none⟩ = some (.int .i64 x.op) from xc 2 _ rfl w1 hb))
  have F3 : ∀ y : Sub W.heap.size W, y.w.cell? ⟨w.heap.size, 3, none⟩ = some (.int .i64 x.src.f) := fun y => xc 3 _ rfl y.w y.h
  have Y3 := hide (fun w1 (hb : Below W.heap.size W w1) => (show w1.cell? ⟨w.heap.size, 3, none⟩ = some (.int .i64 x.src.f) from xc 3 _ rfl w1 hb))
  have F4 : ∀ y : Sub W.heap.size W, y.w.cell? ⟨w.heap.size, 4, none⟩ = some (.int .i64 x.src.r) := fun y => xc 4 _ rfl y.w y.h
  have Y4 := hide (fun w1 (hb : Below W.heap.size W w1) => (show w1.cell? ⟨w.heap.size, 4, none⟩ = some (.int .i64 x.src.r) from xc 4 _ rfl w1 hb))
  have F5 : ∀ y : Sub W.heap.size W, y.w.cell? ⟨w.heap.size, 5, none⟩ = some (.int .i64 x.src.e.k) := fun y => xc 5 _ rfl y.w y.h
  have Y5 := hide (fun w1 (hb : Below W.heap.size W w1) => (show w1.cell? ⟨w.heap.size, 5, none⟩ = some (.int .i64 x.src.e.k) from xc 5 _ rfl w1 hb))
  have F6 : ∀ y : Sub W.heap.size W, y.w.cell? ⟨w.heap.size, 6, none⟩ = some (.int .i64 x.src.e.n) := fun y => xc 6 _ rfl y.w y.h
  have Y6 := hide (fun w1 (hb : Below W.heap.size W w1) => (show w1.cell? ⟨w.heap.size, 6, none⟩ = some (.int .i64 x.src.e.n) from xc 6 _ rfl w1 hb))
  have F7 : ∀ y : Sub W.heap.size W, y.w.cell? ⟨w.heap.size, 7, none⟩ = some (.string x.src.e.s) := fun y => xc 7 _ rfl y.w y.h
  have Y7 := hide (fun w1 (hb : Below W.heap.size W w1) => (show w1.cell? ⟨w.heap.size, 7, none⟩ = some (.string x.src.e.s) from xc 7 _ rfl w1 hb))
  have F8 : ∀ y : Sub W.heap.size W, y.w.cell? ⟨w.heap.size, 8, none⟩ = some (.slice p.b1 x.src.e.l.length p.c1) := fun y => xc 8 _ rfl y.w y.h
  have Y8 := hide (fun w1 (hb : Below W.heap.size W w1) => (show w1.cell? ⟨w.heap.size, 8, none⟩ = some (.slice p.b1 x.src.e.l.length p.c1) from xc 8 _ rfl w1 hb))
  have F9 : ∀ y : Sub W.heap.size W, y.w.cell? ⟨w.heap.size, 9, none⟩ = some (.int .i64 x.dst.f) := fun y => xc 9 _ rfl y.w y.h
  have Y9 := hide (fun w1 (hb : Below W.heap.size W w1) => (show w1.cell? ⟨w.heap.size, 9, none⟩ = some (.int .i64 x.dst.f) from xc 9 _ rfl w1 hb))
  have F10 : ∀ y : Sub W.heap.size W, y.w.cell? ⟨w.heap.size, 10, none⟩ = some (.int .i64 x.dst.r) := fun y => xc 10 _ rfl y.w y.h
  have Y10 := hide (fun w1 (hb : Below W.heap.size W w1) => (show w1.cell? ⟨w.heap.size, 10, none⟩ = some (.int .i64 x.dst.r) from xc 10 _ rfl w1 hb))
  have F11 : ∀ y : Sub W.heap.size W, y.w.cell? ⟨w.heap.size, 11, none⟩ = some (.int .i64 x.dst.e.k) := fun y => xc 11 _ rfl y.w y.h
  have Y11 := hide (fun w1 (hb : Below W.heap.size W w1) => (show w1.cell? ⟨w.heap.size, 11, none⟩ = some (.int .i64 x.dst.e.k) from xc 11 _ rfl w1 hb))
  have F12 : ∀ y : Sub W.heap.size W, y.w.cell? ⟨w.heap.size, 12, none⟩ = some (.int .i64 x.dst.e.n) := fun y => xc 12 _ rfl y.w y.h
  have Y12 := hide (fun w1 (hb : Below W.heap.size W w1) => (show w1.cell? ⟨w.heap.size, 12, none⟩ = some (.int .i64 x.dst.e.n) from xc 12 _ rfl w1 hb))
  have F13 : ∀ y : Sub W.heap.size W, y.w.cell? ⟨w.heap.size, 13, none⟩ = some (.string x.dst.e.s) := fun y => xc 13 _ rfl y.w y.h
  have Y13 := hide (fun w1 (hb : Below W.heap.size W w1) => (show w1.cell? ⟨w.heap.size, 13, none⟩ = some (.string x.dst.e.s) from xc 13 _ rfl w1 hb))
  have F14 : ∀ y : Sub W.heap.size W, y.w.cell? ⟨w.heap.size, 14, none⟩ = some (.slice p.b2 x.dst.e.l.length p.c2) := fun y => xc 14 _ rfl y.w y.h
  have Y14 := hide (fun w1 (hb : Below W.heap.size W w1) => (show w1.cell? ⟨w.heap.size, 14, none⟩ = some (.slice p.b2 x.dst.e.l.length p.c2) from xc 14 _ rfl w1 hb))
  have F15 : ∀ y : Sub W.heap.size W, y.w.cell? ⟨w.heap.size, 15, none⟩ = some (.int .i64 x.n) := fun y => xc 15 _ rfl y.w y.h
  have Y15 := hide (fun w1 (hb : Below W.heap.size W w1) => (show w1.cell? ⟨w.heap.size, 15, none⟩ = some (.int .i64 x.n) from xc 15 _ rfl w1 hb))
  have F16 : ∀ y : Sub W.heap.size W, y.w.cell? ⟨w.heap.size, 16, none⟩ = some (.slice p.b3 x.l.length p.c3) := fun y => xc 16 _ rfl y.w y.h
  have Y16 := hide (fun w1 (hb : Below W.heap.size W w1) => (show w1.cell? ⟨w.heap.size, 16, none⟩ = some (.slice p.b3 x.l.length p.c3) from xc 16 _ rfl w1 hb))
  have MK := hide (fun x w1 => markS_ex x w1)
  unfold Tk.v Tk.cs at MK
  simp only at MK
  have G0 : ∀ y : Sub W.heap.size W, y.w.cell? ⟨w.heap.size + 1, 0, none⟩ = some (.int .i64 1) := fun y => xn 0 _ rfl y.w y.h
  have X0 := hide (fun w1 (hb : Below W.heap.size W w1) => (show w1.cell? ⟨w.heap.size + 1, 0, none⟩ = some (.int .i64 1) from xn 0 _ rfl w1 hb))
  have G1 : ∀ y : Sub W.heap.size W, y.w.cell? ⟨w.heap.size + 1, 1, none⟩ = some (.int .i64 0) := fun y => xn 1 _ rfl y.w y.h
  have X1 := hide (fun w1 (hb : Below W.heap.size W w1) => (show w1.cell? ⟨w.heap.size + 1, 1, none⟩ = some (.int .i64 0) from xn 1 _ rfl w1 hb))
  have G2 : ∀ y : Sub W.heap.size W, y.w.cell? ⟨w.heap.size + 1, 2, none⟩ = some (.string x.s) := fun y => xn 2 _ rfl y.w y.h
  have X2 := hide (fun w1 (hb : Below W.heap.size W w1) => (show w1.cell? ⟨w.heap.size + 1, 2, none⟩ = some (.string x.s) from xn 2 _ rfl w1 hb))
  rw [hk] at F0
  obtain ⟨T, hT⟩ : ∃ T : List Tk, ([⟨1, 0, x.s⟩, mkT 58]) = T := ⟨_, rfl⟩
  have HT := hide hT
  rw [hT]
  clear hT
  unfold Ln.cs at hy0 ⊢
  rw [hk] at hy0 ⊢
  clear hr hrW hW xc xn xl hbW hk ok
  generalize x.src.f = sf at *
  generalize x.src.r = sr at *
  generalize x.src.e.k = sk at *
  generalize x.src.e.n = sn at *
  generalize x.src.e.s = ss at *
  generalize x.src.e.l.length = sl at *
  generalize x.dst.f = df at *
  generalize x.dst.r = dr at *
  generalize x.dst.e.k = dk at *
  generalize x.dst.e.n = dn at *
  generalize x.dst.e.s = ds at *
  generalize x.dst.e.l.length = dl at *
  generalize x.k = k at *
  generalize x.s = s at *
  generalize x.op = op at *
  generalize x.n = n at *
  generalize x.l.length = ll at *
  generalize p.b1 = b1 at *
  generalize p.c1 = c1 at *
  generalize p.b2 = b2 at *
  generalize p.c2 = c2 at *
  generalize p.b3 = b3 at *
  generalize p.c3 = c3 at *
  go_enter Tryz.func13, Tryz.ntmps13
  go_wp2_with fail
  obtain ⟨y1, hy1⟩ := Sub.step (unhide HZ) (below_drew (w := y0.w))
  have D0 := hide (show Below W.heap.size W y0.w.drew by rw [hy1]; exact y1.h)
  refine wp_region_held_drew (S := fun w' => Below W.heap.size W w') (by kernel_rfl) (unhide D0) (fun hS => ?_)
  have HS := hide hS
  clear hS D0
  rw [hy1] at HS ⊢
  refine wpAnyH_take (i := 0) (v := .agg #[.int .i64 1, .int .i64 0, .string s]) rfl (by kernel_rfl) (by kernel_rfl) (by kernel_rfl) (fun _ _ _ h => h) (Or.inl ⟨by rfl, fun w hc => ?_⟩) (unhide HS) ?_
  · have q0 := unhide X0 _ hc; have q1 := unhide X1 _ hc; have q2 := unhide X2 _ hc; clear hc; go_simp
  go_simp
  refine wpAnyH_ready (rs := [1]) (by kernel_rfl) (by simp) ?_
  refine AllReadyH.cons rfl (fun K2 hK => ?_) AllReadyH.nil
  go_simp
  refine (unhide MK ⟨#[58]⟩ y1.w).mono ?_
  rintro r w2 ⟨rfl, hb⟩
  obtain ⟨y2, rfl⟩ := Sub.step (unhide HZ) hb
  clear hb
  refine hK.out _ _ (y2.h) (fun hS => ?_)
  clear HS
  have HS := hide hS
  clear hS hK K2
  refine wpAnyH_ready (rs := [2]) (by kernel_rfl) (by simp) ?_
  refine AllReadyH.cons rfl (fun K2 hK => ?_) AllReadyH.nil
  obtain ⟨y3, hy3⟩ := Sub.step (unhide HZ) (below_new y2.w (.cells #[.int .i64 1, .int .i64 0, .string s, .int .i64 4, .int .i64 0, .string ⟨#[58]⟩] 59))
  have S3 := hide (show OwnT y3.w W.heap.size (.slice (some ⟨y2.w.heap.size, 0, none⟩) 2 2) [(Tk.mk 1 0 s), (Tk.mk 4 0 ⟨#[58]⟩)] by rw [← hy3]; exact ownT_two y2.w (Tk.mk 1 0 s) (Tk.mk 4 0 ⟨#[58]⟩) W.heap.size (Nat.le_trans (unhide HZ) y2.h.size))
  go_simp
  refine hK.out _ _ (y3.h) (fun hS => ?_)
  clear HS
  have HS := hide hS
  clear hS hK K2
  have O3 := hide (unhide S3)
  clear S3
  have l0 : ([(Tk.mk 1 0 s), (Tk.mk 4 0 ⟨#[58]⟩)]).length ≤ 2 := Nat.le_refl 2
  refine wpAnyH_take (i := 3) (v := .slice (some ⟨y2.w.heap.size, 0, none⟩) 2 2) rfl (by kernel_rfl) (by kernel_rfl) (by kernel_rfl) (fun _ _ _ h => h) (Or.inl ⟨by rfl, fun w hc => ?_⟩) (unhide HS) ?_
  · clear hc; go_simp
  go_simp
  refine wpAnyH_done (by kernel_rfl) ?_ _
  clear HS
  go_wp2_with fail
  have EQ : [(Tk.mk 1 0 s), (Tk.mk 4 0 ⟨#[58]⟩)] = T := unhide HT
  rw [EQ] at O3
  go_ret
  exact ⟨_, rfl, unhide HO y3 _ _ (unhide O3), unhide HB y3⟩
set_option maxHeartbeats 8000000 in
theorem ln_2 (x : Ln) (p : La) (w : World) (hr : RdL w x p) (hk : x.k = 2) (ok : 0 < x.l.length ∧ okF 6 true (xAt x.l 0) = true) : Calls Tryz.prog 13 #[.agg (x.cs p)] w fun r w' => ∃ v, r = .returned v ∧ OwnT w' w.heap.size v (⟨1, 0, x.s⟩ :: mkT 61 :: toksF 6 (xAt x.l 0)) ∧ Below w.heap.size w w' := by
  have hb1 := below_new w (.cells (x.cs p) 37)
  have hb2 := below_new (w.alloc (.cells (x.cs p) 37)) (.cells #[.int .i64 1, .int .i64 0, .string x.s] 59)
  have hbW := hb1.trans (hb2.mono hb1.size)
  obtain ⟨W, hW⟩ : ∃ W, (w.alloc (.cells (x.cs p) 37)).alloc (.cells #[.int .i64 1, .int .i64 0, .string x.s] 59) = W := ⟨_, rfl⟩
  have hrW := hr.later hbW
  have xl : w.heap.size + 1 < W.heap.size := by rw [← hW]; simp
  have xc : ∀ (i : Nat) (v : Value), (x.cs p)[i]? = some v → ∀ w1, Below W.heap.size W w1 → w1.cell? ⟨w.heap.size, i, none⟩ = some v := fun i v h w1 hb => (hb.cell (p := ⟨w.heap.size, i, none⟩) (by show w.heap.size < W.heap.size; omega)).trans (by rw [← hW]; exact (hb2.cell (p := ⟨w.heap.size, i, none⟩) (by simp)).trans (box17 w _ _ i v h))
  have xn : ∀ (i : Nat) (v : Value), (#[.int .i64 1, .int .i64 0, .string x.s] : Array Value)[i]? = some v → ∀ w1, Below W.heap.size W w1 → w1.cell? ⟨w.heap.size + 1, i, none⟩ = some v := fun i v h w1 hb => (hb.cell (p := ⟨w.heap.size + 1, i, none⟩) xl).trans (by rw [← hW]; have := box17 (w.alloc (.cells (x.cs p) 37)) #[.int .i64 1, .int .i64 0, .string x.s] 59 i v h; rw [show (w.alloc (.cells (x.cs p) 37)).heap.size = w.heap.size + 1 by simp] at this; exact this)
  rw [hW] at hbW hrW
  obtain ⟨y0, hy0⟩ : ∃ z : Sub W.heap.size W, (w.alloc (.cells (x.cs p) 37)).alloc (.cells #[.int .i64 1, .int .i64 0, .string x.s] 59) = z.w := ⟨⟨W, Below.refl _ _⟩, hW⟩
  clear hb1 hb2
  have ne := Sub.ne W.heap.size W
  have HZ := hide (Nat.le_refl W.heap.size)
  have HB := hide (fun y : Sub W.heap.size W => hbW.trans (y.h.mono hbW.size))
  have HO := hide (fun (y : Sub W.heap.size W) v ts (h : OwnT y.w W.heap.size v ts) => h.base hbW.size)
  have F0 : ∀ y : Sub W.heap.size W, y.w.cell? ⟨w.heap.size, 0, none⟩ = some (.int .i64 x.k) := fun y => xc 0 _ rfl y.w y.h
  have Y0 := hide (fun w1 (hb : Below W.heap.size W w1) => (show w1.cell? ⟨w.heap.size, 0, none⟩ = some (.int .i64 x.k) from xc 0 _ rfl w1 hb))
  have F1 : ∀ y : Sub W.heap.size W, y.w.cell? ⟨w.heap.size, 1, none⟩ = some (.string x.s) := fun y => xc 1 _ rfl y.w y.h
  have Y1 := hide (fun w1 (hb : Below W.heap.size W w1) => (show w1.cell? ⟨w.heap.size, 1, none⟩ = some (.string x.s) from xc 1 _ rfl w1 hb))
  have F2 : ∀ y : Sub W.heap.size W, y.w.cell? ⟨w.heap.size, 2, none⟩ = some (.int .i64 x.op) := fun y => xc 2 _ rfl y.w y.h
  have Y2 := hide (fun w1 (hb : Below W.heap.size W w1) => (show w1.cell? ⟨w.heap.size, 2, none⟩ = some (.int .i64 x.op) from xc 2 _ rfl w1 hb))
  have F3 : ∀ y : Sub W.heap.size W, y.w.cell? ⟨w.heap.size, 3, none⟩ = some (.int .i64 x.src.f) := fun y => xc 3 _ rfl y.w y.h
  have Y3 := hide (fun w1 (hb : Below W.heap.size W w1) => (show w1.cell? ⟨w.heap.size, 3, none⟩ = some (.int .i64 x.src.f) from xc 3 _ rfl w1 hb))
  have F4 : ∀ y : Sub W.heap.size W, y.w.cell? ⟨w.heap.size, 4, none⟩ = some (.int .i64 x.src.r) := fun y => xc 4 _ rfl y.w y.h
  have Y4 := hide (fun w1 (hb : Below W.heap.size W w1) => (show w1.cell? ⟨w.heap.size, 4, none⟩ = some (.int .i64 x.src.r) from xc 4 _ rfl w1 hb))
  have F5 : ∀ y : Sub W.heap.size W, y.w.cell? ⟨w.heap.size, 5, none⟩ = some (.int .i64 x.src.e.k) := fun y => xc 5 _ rfl y.w y.h
  have Y5 := hide (fun w1 (hb : Below W.heap.size W w1) => (show w1.cell? ⟨w.heap.size, 5, none⟩ = some (.int .i64 x.src.e.k) from xc 5 _ rfl w1 hb))
  have F6 : ∀ y : Sub W.heap.size W, y.w.cell? ⟨w.heap.size, 6, none⟩ = some (.int .i64 x.src.e.n) := fun y => xc 6 _ rfl y.w y.h
  have Y6 := hide (fun w1 (hb : Below W.heap.size W w1) => (show w1.cell? ⟨w.heap.size, 6, none⟩ = some (.int .i64 x.src.e.n) from xc 6 _ rfl w1 hb))
  have F7 : ∀ y : Sub W.heap.size W, y.w.cell? ⟨w.heap.size, 7, none⟩ = some (.string x.src.e.s) := fun y => xc 7 _ rfl y.w y.h
  have Y7 := hide (fun w1 (hb : Below W.heap.size W w1) => (show w1.cell? ⟨w.heap.size, 7, none⟩ = some (.string x.src.e.s) from xc 7 _ rfl w1 hb))
  have F8 : ∀ y : Sub W.heap.size W, y.w.cell? ⟨w.heap.size, 8, none⟩ = some (.slice p.b1 x.src.e.l.length p.c1) := fun y => xc 8 _ rfl y.w y.h
  have Y8 := hide (fun w1 (hb : Below W.heap.size W w1) => (show w1.cell? ⟨w.heap.size, 8, none⟩ = some (.slice p.b1 x.src.e.l.length p.c1) from xc 8 _ rfl w1 hb))
  have F9 : ∀ y : Sub W.heap.size W, y.w.cell? ⟨w.heap.size, 9, none⟩ = some (.int .i64 x.dst.f) := fun y => xc 9 _ rfl y.w y.h
  have Y9 := hide (fun w1 (hb : Below W.heap.size W w1) => (show w1.cell? ⟨w.heap.size, 9, none⟩ = some (.int .i64 x.dst.f) from xc 9 _ rfl w1 hb))
  have F10 : ∀ y : Sub W.heap.size W, y.w.cell? ⟨w.heap.size, 10, none⟩ = some (.int .i64 x.dst.r) := fun y => xc 10 _ rfl y.w y.h
  have Y10 := hide (fun w1 (hb : Below W.heap.size W w1) => (show w1.cell? ⟨w.heap.size, 10, none⟩ = some (.int .i64 x.dst.r) from xc 10 _ rfl w1 hb))
  have F11 : ∀ y : Sub W.heap.size W, y.w.cell? ⟨w.heap.size, 11, none⟩ = some (.int .i64 x.dst.e.k) := fun y => xc 11 _ rfl y.w y.h
  have Y11 := hide (fun w1 (hb : Below W.heap.size W w1) => (show w1.cell? ⟨w.heap.size, 11, none⟩ = some (.int .i64 x.dst.e.k) from xc 11 _ rfl w1 hb))
  have F12 : ∀ y : Sub W.heap.size W, y.w.cell? ⟨w.heap.size, 12, none⟩ = some (.int .i64 x.dst.e.n) := fun y => xc 12 _ rfl y.w y.h
  have Y12 := hide (fun w1 (hb : Below W.heap.size W w1) => (show w1.cell? ⟨w.heap.size, 12, none⟩ = some (.int .i64 x.dst.e.n) from xc 12 _ rfl w1 hb))
  have F13 : ∀ y : Sub W.heap.size W, y.w.cell? ⟨w.heap.size, 13, none⟩ = some (.string x.dst.e.s) := fun y => xc 13 _ rfl y.w y.h
  have Y13 := hide (fun w1 (hb : Below W.heap.size W w1) => (show w1.cell? ⟨w.heap.size, 13, none⟩ = some (.string x.dst.e.s) from xc 13 _ rfl w1 hb))
  have F14 : ∀ y : Sub W.heap.size W, y.w.cell? ⟨w.heap.size, 14, none⟩ = some (.slice p.b2 x.dst.e.l.length p.c2) := fun y => xc 14 _ rfl y.w y.h
  have Y14 := hide (fun w1 (hb : Below W.heap.size W w1) => (show w1.cell? ⟨w.heap.size, 14, none⟩ = some (.slice p.b2 x.dst.e.l.length p.c2) from xc 14 _ rfl w1 hb))
  have F15 : ∀ y : Sub W.heap.size W, y.w.cell? ⟨w.heap.size, 15, none⟩ = some (.int .i64 x.n) := fun y => xc 15 _ rfl y.w y.h
  have Y15 := hide (fun w1 (hb : Below W.heap.size W w1) => (show w1.cell? ⟨w.heap.size, 15, none⟩ = some (.int .i64 x.n) from xc 15 _ rfl w1 hb))
  have F16 : ∀ y : Sub W.heap.size W, y.w.cell? ⟨w.heap.size, 16, none⟩ = some (.slice p.b3 x.l.length p.c3) := fun y => xc 16 _ rfl y.w y.h
  have Y16 := hide (fun w1 (hb : Below W.heap.size W w1) => (show w1.cell? ⟨w.heap.size, 16, none⟩ = some (.slice p.b3 x.l.length p.c3) from xc 16 _ rfl w1 hb))
  have MK := hide (fun x w1 => markS_ex x w1)
  unfold Tk.v Tk.cs at MK
  simp only at MK
  have G0 : ∀ y : Sub W.heap.size W, y.w.cell? ⟨w.heap.size + 1, 0, none⟩ = some (.int .i64 1) := fun y => xn 0 _ rfl y.w y.h
  have X0 := hide (fun w1 (hb : Below W.heap.size W w1) => (show w1.cell? ⟨w.heap.size + 1, 0, none⟩ = some (.int .i64 1) from xn 0 _ rfl w1 hb))
  have G1 : ∀ y : Sub W.heap.size W, y.w.cell? ⟨w.heap.size + 1, 1, none⟩ = some (.int .i64 0) := fun y => xn 1 _ rfl y.w y.h
  have X1 := hide (fun w1 (hb : Below W.heap.size W w1) => (show w1.cell? ⟨w.heap.size + 1, 1, none⟩ = some (.int .i64 0) from xn 1 _ rfl w1 hb))
  have G2 : ∀ y : Sub W.heap.size W, y.w.cell? ⟨w.heap.size + 1, 2, none⟩ = some (.string x.s) := fun y => xn 2 _ rfl y.w y.h
  have X2 := hide (fun w1 (hb : Below W.heap.size W w1) => (show w1.cell? ⟨w.heap.size + 1, 2, none⟩ = some (.string x.s) from xn 2 _ rfl w1 hb))
  rw [hk] at F0
  obtain ⟨hl1, okt⟩ := ok
  obtain ⟨p1, po, hb1, _, hp1, hpc⟩ := ((RdX_eq _ _ _ _).1 hrW.l).resolve_left (fun h => by have h : x.l = [] := h; rw [h] at hl1; simp at hl1)
  obtain ⟨e0, e1, e2, pc, pp, e3, e4⟩ := hpc 0 (show 0 < x.l.length by omega)
  simp only [Nat.zero_mul, Nat.add_zero] at e0 e1 e2 e3
  have d0 : ∀ y : Sub W.heap.size W, y.w.cell? ⟨p1, po, none⟩ = some (.int .i64 (xAt x.l 0).k) := fun y => (y.h.cell (p := ⟨p1, _, none⟩) hp1).trans e0
  have d1 : ∀ y : Sub W.heap.size W, y.w.cell? ⟨p1, po + 1, none⟩ = some (.int .i64 (xAt x.l 0).n) := fun y => (y.h.cell (p := ⟨p1, _, none⟩) hp1).trans e1
  have d2 : ∀ y : Sub W.heap.size W, y.w.cell? ⟨p1, po + 2, none⟩ = some (.string (xAt x.l 0).s) := fun y => (y.h.cell (p := ⟨p1, _, none⟩) hp1).trans e2
  have d3 : ∀ y : Sub W.heap.size W, y.w.cell? ⟨p1, po + 3, none⟩ = some (.slice pc (xAt x.l 0).l.length pp) := fun y => (y.h.cell (p := ⟨p1, _, none⟩) hp1).trans e3
  have Z0 := hide (fun w1 (hb : Below W.heap.size W w1) => (show w1.cell? ⟨p1, po, none⟩ = some (.int .i64 (xAt x.l 0).k) from (hb.cell (p := ⟨p1, _, none⟩) hp1).trans e0))
  have Z1 := hide (fun w1 (hb : Below W.heap.size W w1) => (show w1.cell? ⟨p1, po + 1, none⟩ = some (.int .i64 (xAt x.l 0).n) from (hb.cell (p := ⟨p1, _, none⟩) hp1).trans e1))
  have Z2 := hide (fun w1 (hb : Below W.heap.size W w1) => (show w1.cell? ⟨p1, po + 2, none⟩ = some (.string (xAt x.l 0).s) from (hb.cell (p := ⟨p1, _, none⟩) hp1).trans e2))
  have Z3 := hide (fun w1 (hb : Below W.heap.size W w1) => (show w1.cell? ⟨p1, po + 3, none⟩ = some (.slice pc (xAt x.l 0).l.length pp) from (hb.cell (p := ⟨p1, _, none⟩) hp1).trans e3))
  have TE := hide (fun y : Sub W.heap.size W => toksS_all 6 (by omega) (xAt x.l 0) pc pp y.w okt ((show RdX W 0 (xAt x.l 0) pc from e4).later y.h))
  have tne := toks_ne okt
  have tle := toks_le okt
  rw [hb1] at F16 Y16
  clear e0 e1 e2 e3 e4 hpc hb1 hp1 okt
  unfold Ex.cs at TE
  generalize toksF 6 (xAt x.l 0) = te at *
  generalize (xAt x.l 0).s = ts at *
  generalize (xAt x.l 0).k = tk at *
  generalize (xAt x.l 0).n = tn at *
  generalize (xAt x.l 0).l.length = tl at *
  obtain ⟨T, hT⟩ : ∃ T : List Tk, (⟨1, 0, x.s⟩ :: mkT 61 :: te) = T := ⟨_, rfl⟩
  have HT := hide hT
  rw [hT]
  clear hT
  unfold Ln.cs at hy0 ⊢
  rw [hk] at hy0 ⊢
  clear hr hrW hW xc xn xl hbW hk
  generalize x.src.f = sf at *
  generalize x.src.r = sr at *
  generalize x.src.e.k = sk at *
  generalize x.src.e.n = sn at *
  generalize x.src.e.s = ss at *
  generalize x.src.e.l.length = sl at *
  generalize x.dst.f = df at *
  generalize x.dst.r = dr at *
  generalize x.dst.e.k = dk at *
  generalize x.dst.e.n = dn at *
  generalize x.dst.e.s = ds at *
  generalize x.dst.e.l.length = dl at *
  generalize x.k = k at *
  generalize x.s = s at *
  generalize x.op = op at *
  generalize x.n = n at *
  generalize x.l.length = ll at *
  generalize p.b1 = b1 at *
  generalize p.c1 = c1 at *
  generalize p.b2 = b2 at *
  generalize p.c2 = c2 at *
  generalize p.b3 = b3 at *
  generalize p.c3 = c3 at *
  go_enter Tryz.func13, Tryz.ntmps13
  go_wp2_with fail
  obtain ⟨y1, hy1⟩ := Sub.step (unhide HZ) (below_drew (w := y0.w))
  have D0 := hide (show Below W.heap.size W y0.w.drew by rw [hy1]; exact y1.h)
  refine wp_region_held_drew (S := fun w' => Below W.heap.size W w') (by kernel_rfl) (unhide D0) (fun hS => ?_)
  have HS := hide hS
  clear hS D0
  rw [hy1] at HS ⊢
  refine wpAnyH_take (i := 0) (v := .agg #[.int .i64 1, .int .i64 0, .string s]) rfl (by kernel_rfl) (by kernel_rfl) (by kernel_rfl) (fun _ _ _ h => h) (Or.inl ⟨by rfl, fun w hc => ?_⟩) (unhide HS) ?_
  · have q0 := unhide X0 _ hc; have q1 := unhide X1 _ hc; have q2 := unhide X2 _ hc; clear hc; go_simp
  go_simp
  refine wpAnyH_take (i := 3) (v := .pointer (some ⟨w.heap.size, 16, none⟩)) rfl (by kernel_rfl) (by kernel_rfl) (by kernel_rfl) (fun _ _ _ h => h) (Or.inl ⟨by rfl, fun w hc => ?_⟩) (unhide HS) ?_
  · clear hc; go_simp
  go_simp
  refine wpAnyH_take (i := 4) (v := .slice (some ⟨p1, po, none⟩) ll c3) rfl (by kernel_rfl) (by kernel_rfl) (by kernel_rfl) (fun _ _ _ h => h) (Or.inl ⟨by rfl, fun w hc => ?_⟩) (unhide HS) ?_
  · have q16 := unhide Y16 _ hc; clear hc; go_simp
  go_simp
  refine wpAnyH_take (i := 5) (v := .pointer (some ⟨p1, po, none⟩)) rfl (by kernel_rfl) (by kernel_rfl) (by kernel_rfl) (fun _ _ _ h => h) (Or.inl ⟨by rfl, fun w hc => ?_⟩) (unhide HS) ?_
  · clear hc; go_simp
  go_simp
  refine wpAnyH_take (i := 6) (v := .agg #[.int .i64 tk, .int .i64 tn, .string ts, .slice pc tl pp]) rfl (by kernel_rfl) (by kernel_rfl) (by kernel_rfl) (fun _ _ _ h => h) (Or.inl ⟨by rfl, fun w hc => ?_⟩) (unhide HS) ?_
  · have q0 := unhide Z0 _ hc; have q1 := unhide Z1 _ hc; have q2 := unhide Z2 _ hc; have q3 := unhide Z3 _ hc; clear hc; go_simp
  go_simp
  refine wpAnyH_ready (rs := [1]) (by kernel_rfl) (by simp) ?_
  refine AllReadyH.cons rfl (fun K2 hK => ?_) AllReadyH.nil
  go_simp
  refine (unhide MK ⟨#[61]⟩ y1.w).mono ?_
  rintro r w2 ⟨rfl, hb⟩
  obtain ⟨y2, rfl⟩ := Sub.step (unhide HZ) hb
  clear hb
  refine hK.out _ _ (y2.h) (fun hS => ?_)
  clear HS
  have HS := hide hS
  clear hS hK K2
  refine wpAnyH_ready (rs := [2, 7]) (by kernel_rfl) (by simp) ?_
  refine AllReadyH.cons rfl (fun K2 hK => ?_) (AllReadyH.cons rfl (fun K2 hK => ?_) AllReadyH.nil)
  · obtain ⟨y3, hy3⟩ := Sub.step (unhide HZ) (below_new y2.w (.cells #[.int .i64 1, .int .i64 0, .string s, .int .i64 4, .int .i64 0, .string ⟨#[61]⟩] 59))
    have S3 := hide (show OwnT y3.w W.heap.size (.slice (some ⟨y2.w.heap.size, 0, none⟩) 2 2) [(Tk.mk 1 0 s), (Tk.mk 4 0 ⟨#[61]⟩)] by rw [← hy3]; exact ownT_two y2.w (Tk.mk 1 0 s) (Tk.mk 4 0 ⟨#[61]⟩) W.heap.size (Nat.le_trans (unhide HZ) y2.h.size))
    go_simp
    refine hK.out _ _ (y3.h) (fun hS => ?_)
    clear HS
    have HS := hide hS
    clear hS hK K2
    have O3 := hide (unhide S3)
    clear S3
    have l0 : ([(Tk.mk 1 0 s), (Tk.mk 4 0 ⟨#[61]⟩)]).length ≤ 2 := Nat.le_refl 2
    refine wpAnyH_ready (rs := [7]) (by kernel_rfl) (by simp) ?_
    refine AllReadyH.cons rfl (fun K2 hK => ?_) AllReadyH.nil
    go_simp
    refine (unhide TE y3).mono ?_
    rintro r w4 ⟨vs, rfl, hS, hb⟩
    have O4 := hide ((unhide O3).later hb)
    clear O3
    obtain ⟨y4, rfl⟩ := Sub.step (unhide HZ) hb
    clear hb
    have SR := hide hS
    clear hS
    refine hK.out _ _ (y4.h) (fun hS => ?_)
    clear HS
    have HS := hide hS
    clear hS hK K2
    refine wpAnyH_ready (rs := [8]) (by kernel_rfl) (by simp) ?_
    refine AllReadyH.cons rfl (fun K2 hK => ?_) AllReadyH.nil
    rw [if_pos (by rfl)]
    refine wp_appT (.tmp 19) (.tmp 24) rfl (unhide HZ) y4.h rfl (unhide O4) rfl (unhide SR) tne (lsum l0 tle (by decide)) ?_
    intro v5 y5 hO
    obtain ⟨u5, hu⟩ : ∃ u, ([(Tk.mk 1 0 s), (Tk.mk 4 0 ⟨#[61]⟩)] ++ te) = u := ⟨_, rfl⟩
    rw [hu] at hO
    have l5 := lapp hu l0 tle
    have O5 := hide hO
    have H5 := hide hu
    clear hO hu O4 SR
    refine hK.out _ _ (y5.h) (fun hS => ?_)
    clear HS
    have HS := hide hS
    clear hS hK K2
    refine wpAnyH_take (i := 9) (v := v5) rfl (by kernel_rfl) (by kernel_rfl) (by kernel_rfl) (fun _ _ _ h => h) (Or.inl ⟨by rfl, fun w hc => ?_⟩) (unhide HS) ?_
    · clear hc; go_simp
    go_simp
    refine wpAnyH_done (by kernel_rfl) ?_ _
    clear HS
    go_wp2_with fail
    have EQ : u5 = T := by
      rw [← unhide HT]
      rw [← unhide H5]
      simp [mkT, mkS]
    rw [EQ] at O5
    go_ret
    exact ⟨_, rfl, unhide HO y5 _ _ (unhide O5), unhide HB y5⟩
  · go_simp
    refine (unhide TE y2).mono ?_
    rintro r w3 ⟨vs, rfl, hS, hb⟩
    obtain ⟨y3, rfl⟩ := Sub.step (unhide HZ) hb
    clear hb
    have SR := hide hS
    clear hS
    refine hK.out _ _ (y3.h) (fun hS => ?_)
    clear HS
    have HS := hide hS
    clear hS hK K2
    refine wpAnyH_ready (rs := [2]) (by kernel_rfl) (by simp) ?_
    refine AllReadyH.cons rfl (fun K2 hK => ?_) AllReadyH.nil
    obtain ⟨y4, hy4⟩ := Sub.step (unhide HZ) (below_new y3.w (.cells #[.int .i64 1, .int .i64 0, .string s, .int .i64 4, .int .i64 0, .string ⟨#[61]⟩] 59))
    have S4 := hide (show OwnT y4.w W.heap.size (.slice (some ⟨y3.w.heap.size, 0, none⟩) 2 2) [(Tk.mk 1 0 s), (Tk.mk 4 0 ⟨#[61]⟩)] by rw [← hy4]; exact ownT_two y3.w (Tk.mk 1 0 s) (Tk.mk 4 0 ⟨#[61]⟩) W.heap.size (Nat.le_trans (unhide HZ) y3.h.size))
    have SQ := hide (show OwnT y4.w _ vs te by rw [← hy4]; exact (unhide SR).later (below_new _ _))
    clear SR
    go_simp
    refine hK.out _ _ (y4.h) (fun hS => ?_)
    clear HS
    have HS := hide hS
    clear hS hK K2
    have O4 := hide (unhide S4)
    clear S4
    have l0 : ([(Tk.mk 1 0 s), (Tk.mk 4 0 ⟨#[61]⟩)]).length ≤ 2 := Nat.le_refl 2
    refine wpAnyH_ready (rs := [8]) (by kernel_rfl) (by simp) ?_
    refine AllReadyH.cons rfl (fun K2 hK => ?_) AllReadyH.nil
    rw [if_pos (by rfl)]
    refine wp_appT (.tmp 19) (.tmp 24) rfl (unhide HZ) y4.h rfl (unhide O4) rfl (unhide SQ) tne (lsum l0 tle (by decide)) ?_
    intro v5 y5 hO
    obtain ⟨u5, hu⟩ : ∃ u, ([(Tk.mk 1 0 s), (Tk.mk 4 0 ⟨#[61]⟩)] ++ te) = u := ⟨_, rfl⟩
    rw [hu] at hO
    have l5 := lapp hu l0 tle
    have O5 := hide hO
    have H5 := hide hu
    clear hO hu O4 SQ
    refine hK.out _ _ (y5.h) (fun hS => ?_)
    clear HS
    have HS := hide hS
    clear hS hK K2
    refine wpAnyH_take (i := 9) (v := v5) rfl (by kernel_rfl) (by kernel_rfl) (by kernel_rfl) (fun _ _ _ h => h) (Or.inl ⟨by rfl, fun w hc => ?_⟩) (unhide HS) ?_
    · clear hc; go_simp
    go_simp
    refine wpAnyH_done (by kernel_rfl) ?_ _
    clear HS
    go_wp2_with fail
    have EQ : u5 = T := by
      rw [← unhide HT]
      rw [← unhide H5]
      simp [mkT, mkS]
    rw [EQ] at O5
    go_ret
    exact ⟨_, rfl, unhide HO y5 _ _ (unhide O5), unhide HB y5⟩
set_option maxHeartbeats 8000000 in
theorem ln_3 (x : Ln) (p : La) (w : World) (hr : RdL w x p) (hk : x.k = 3) (ok : insX x = true) : Calls Tryz.prog 13 #[.agg (x.cs p)] w fun r w' => ∃ v, r = .returned v ∧ OwnT w' w.heap.size v (insT x) ∧ Below w.heap.size w w' := by
  have hb1 := below_new w (.cells (x.cs p) 37)
  have hb2 := below_new (w.alloc (.cells (x.cs p) 37)) (.cells #[.int .i64 1, .int .i64 0, .string x.s] 59)
  have hbW := hb1.trans (hb2.mono hb1.size)
  obtain ⟨W, hW⟩ : ∃ W, (w.alloc (.cells (x.cs p) 37)).alloc (.cells #[.int .i64 1, .int .i64 0, .string x.s] 59) = W := ⟨_, rfl⟩
  have hrW := hr.later hbW
  have xl : w.heap.size + 1 < W.heap.size := by rw [← hW]; simp
  have xc : ∀ (i : Nat) (v : Value), (x.cs p)[i]? = some v → ∀ w1, Below W.heap.size W w1 → w1.cell? ⟨w.heap.size, i, none⟩ = some v := fun i v h w1 hb => (hb.cell (p := ⟨w.heap.size, i, none⟩) (by show w.heap.size < W.heap.size; omega)).trans (by rw [← hW]; exact (hb2.cell (p := ⟨w.heap.size, i, none⟩) (by simp)).trans (box17 w _ _ i v h))
  have xn : ∀ (i : Nat) (v : Value), (#[.int .i64 1, .int .i64 0, .string x.s] : Array Value)[i]? = some v → ∀ w1, Below W.heap.size W w1 → w1.cell? ⟨w.heap.size + 1, i, none⟩ = some v := fun i v h w1 hb => (hb.cell (p := ⟨w.heap.size + 1, i, none⟩) xl).trans (by rw [← hW]; have := box17 (w.alloc (.cells (x.cs p) 37)) #[.int .i64 1, .int .i64 0, .string x.s] 59 i v h; rw [show (w.alloc (.cells (x.cs p) 37)).heap.size = w.heap.size + 1 by simp] at this; exact this)
  rw [hW] at hbW hrW
  obtain ⟨y0, hy0⟩ : ∃ z : Sub W.heap.size W, (w.alloc (.cells (x.cs p) 37)).alloc (.cells #[.int .i64 1, .int .i64 0, .string x.s] 59) = z.w := ⟨⟨W, Below.refl _ _⟩, hW⟩
  clear hb1 hb2
  have ne := Sub.ne W.heap.size W
  have HZ := hide (Nat.le_refl W.heap.size)
  have HB := hide (fun y : Sub W.heap.size W => hbW.trans (y.h.mono hbW.size))
  have HO := hide (fun (y : Sub W.heap.size W) v ts (h : OwnT y.w W.heap.size v ts) => h.base hbW.size)
  have F0 : ∀ y : Sub W.heap.size W, y.w.cell? ⟨w.heap.size, 0, none⟩ = some (.int .i64 x.k) := fun y => xc 0 _ rfl y.w y.h
  have Y0 := hide (fun w1 (hb : Below W.heap.size W w1) => (show w1.cell? ⟨w.heap.size, 0, none⟩ = some (.int .i64 x.k) from xc 0 _ rfl w1 hb))
  have F1 : ∀ y : Sub W.heap.size W, y.w.cell? ⟨w.heap.size, 1, none⟩ = some (.string x.s) := fun y => xc 1 _ rfl y.w y.h
  have Y1 := hide (fun w1 (hb : Below W.heap.size W w1) => (show w1.cell? ⟨w.heap.size, 1, none⟩ = some (.string x.s) from xc 1 _ rfl w1 hb))
  have F2 : ∀ y : Sub W.heap.size W, y.w.cell? ⟨w.heap.size, 2, none⟩ = some (.int .i64 x.op) := fun y => xc 2 _ rfl y.w y.h
  have Y2 := hide (fun w1 (hb : Below W.heap.size W w1) => (show w1.cell? ⟨w.heap.size, 2, none⟩ = some (.int .i64 x.op) from xc 2 _ rfl w1 hb))
  have F3 : ∀ y : Sub W.heap.size W, y.w.cell? ⟨w.heap.size, 3, none⟩ = some (.int .i64 x.src.f) := fun y => xc 3 _ rfl y.w y.h
  have Y3 := hide (fun w1 (hb : Below W.heap.size W w1) => (show w1.cell? ⟨w.heap.size, 3, none⟩ = some (.int .i64 x.src.f) from xc 3 _ rfl w1 hb))
  have F4 : ∀ y : Sub W.heap.size W, y.w.cell? ⟨w.heap.size, 4, none⟩ = some (.int .i64 x.src.r) := fun y => xc 4 _ rfl y.w y.h
  have Y4 := hide (fun w1 (hb : Below W.heap.size W w1) => (show w1.cell? ⟨w.heap.size, 4, none⟩ = some (.int .i64 x.src.r) from xc 4 _ rfl w1 hb))
  have F5 : ∀ y : Sub W.heap.size W, y.w.cell? ⟨w.heap.size, 5, none⟩ = some (.int .i64 x.src.e.k) := fun y => xc 5 _ rfl y.w y.h
  have Y5 := hide (fun w1 (hb : Below W.heap.size W w1) => (show w1.cell? ⟨w.heap.size, 5, none⟩ = some (.int .i64 x.src.e.k) from xc 5 _ rfl w1 hb))
  have F6 : ∀ y : Sub W.heap.size W, y.w.cell? ⟨w.heap.size, 6, none⟩ = some (.int .i64 x.src.e.n) := fun y => xc 6 _ rfl y.w y.h
  have Y6 := hide (fun w1 (hb : Below W.heap.size W w1) => (show w1.cell? ⟨w.heap.size, 6, none⟩ = some (.int .i64 x.src.e.n) from xc 6 _ rfl w1 hb))
  have F7 : ∀ y : Sub W.heap.size W, y.w.cell? ⟨w.heap.size, 7, none⟩ = some (.string x.src.e.s) := fun y => xc 7 _ rfl y.w y.h
  have Y7 := hide (fun w1 (hb : Below W.heap.size W w1) => (show w1.cell? ⟨w.heap.size, 7, none⟩ = some (.string x.src.e.s) from xc 7 _ rfl w1 hb))
  have F8 : ∀ y : Sub W.heap.size W, y.w.cell? ⟨w.heap.size, 8, none⟩ = some (.slice p.b1 x.src.e.l.length p.c1) := fun y => xc 8 _ rfl y.w y.h
  have Y8 := hide (fun w1 (hb : Below W.heap.size W w1) => (show w1.cell? ⟨w.heap.size, 8, none⟩ = some (.slice p.b1 x.src.e.l.length p.c1) from xc 8 _ rfl w1 hb))
  have F9 : ∀ y : Sub W.heap.size W, y.w.cell? ⟨w.heap.size, 9, none⟩ = some (.int .i64 x.dst.f) := fun y => xc 9 _ rfl y.w y.h
  have Y9 := hide (fun w1 (hb : Below W.heap.size W w1) => (show w1.cell? ⟨w.heap.size, 9, none⟩ = some (.int .i64 x.dst.f) from xc 9 _ rfl w1 hb))
  have F10 : ∀ y : Sub W.heap.size W, y.w.cell? ⟨w.heap.size, 10, none⟩ = some (.int .i64 x.dst.r) := fun y => xc 10 _ rfl y.w y.h
  have Y10 := hide (fun w1 (hb : Below W.heap.size W w1) => (show w1.cell? ⟨w.heap.size, 10, none⟩ = some (.int .i64 x.dst.r) from xc 10 _ rfl w1 hb))
  have F11 : ∀ y : Sub W.heap.size W, y.w.cell? ⟨w.heap.size, 11, none⟩ = some (.int .i64 x.dst.e.k) := fun y => xc 11 _ rfl y.w y.h
  have Y11 := hide (fun w1 (hb : Below W.heap.size W w1) => (show w1.cell? ⟨w.heap.size, 11, none⟩ = some (.int .i64 x.dst.e.k) from xc 11 _ rfl w1 hb))
  have F12 : ∀ y : Sub W.heap.size W, y.w.cell? ⟨w.heap.size, 12, none⟩ = some (.int .i64 x.dst.e.n) := fun y => xc 12 _ rfl y.w y.h
  have Y12 := hide (fun w1 (hb : Below W.heap.size W w1) => (show w1.cell? ⟨w.heap.size, 12, none⟩ = some (.int .i64 x.dst.e.n) from xc 12 _ rfl w1 hb))
  have F13 : ∀ y : Sub W.heap.size W, y.w.cell? ⟨w.heap.size, 13, none⟩ = some (.string x.dst.e.s) := fun y => xc 13 _ rfl y.w y.h
  have Y13 := hide (fun w1 (hb : Below W.heap.size W w1) => (show w1.cell? ⟨w.heap.size, 13, none⟩ = some (.string x.dst.e.s) from xc 13 _ rfl w1 hb))
  have F14 : ∀ y : Sub W.heap.size W, y.w.cell? ⟨w.heap.size, 14, none⟩ = some (.slice p.b2 x.dst.e.l.length p.c2) := fun y => xc 14 _ rfl y.w y.h
  have Y14 := hide (fun w1 (hb : Below W.heap.size W w1) => (show w1.cell? ⟨w.heap.size, 14, none⟩ = some (.slice p.b2 x.dst.e.l.length p.c2) from xc 14 _ rfl w1 hb))
  have F15 : ∀ y : Sub W.heap.size W, y.w.cell? ⟨w.heap.size, 15, none⟩ = some (.int .i64 x.n) := fun y => xc 15 _ rfl y.w y.h
  have Y15 := hide (fun w1 (hb : Below W.heap.size W w1) => (show w1.cell? ⟨w.heap.size, 15, none⟩ = some (.int .i64 x.n) from xc 15 _ rfl w1 hb))
  have F16 : ∀ y : Sub W.heap.size W, y.w.cell? ⟨w.heap.size, 16, none⟩ = some (.slice p.b3 x.l.length p.c3) := fun y => xc 16 _ rfl y.w y.h
  have Y16 := hide (fun w1 (hb : Below W.heap.size W w1) => (show w1.cell? ⟨w.heap.size, 16, none⟩ = some (.slice p.b3 x.l.length p.c3) from xc 16 _ rfl w1 hb))
  have MK := hide (fun x w1 => markS_ex x w1)
  unfold Tk.v Tk.cs at MK
  simp only at MK
  have G0 : ∀ y : Sub W.heap.size W, y.w.cell? ⟨w.heap.size + 1, 0, none⟩ = some (.int .i64 1) := fun y => xn 0 _ rfl y.w y.h
  have X0 := hide (fun w1 (hb : Below W.heap.size W w1) => (show w1.cell? ⟨w.heap.size + 1, 0, none⟩ = some (.int .i64 1) from xn 0 _ rfl w1 hb))
  have G1 : ∀ y : Sub W.heap.size W, y.w.cell? ⟨w.heap.size + 1, 1, none⟩ = some (.int .i64 0) := fun y => xn 1 _ rfl y.w y.h
  have X1 := hide (fun w1 (hb : Below W.heap.size W w1) => (show w1.cell? ⟨w.heap.size + 1, 1, none⟩ = some (.int .i64 0) from xn 1 _ rfl w1 hb))
  have G2 : ∀ y : Sub W.heap.size W, y.w.cell? ⟨w.heap.size + 1, 2, none⟩ = some (.string x.s) := fun y => xn 2 _ rfl y.w y.h
  have X2 := hide (fun w1 (hb : Below W.heap.size W w1) => (show w1.cell? ⟨w.heap.size + 1, 2, none⟩ = some (.string x.s) from xn 2 _ rfl w1 hb))
  rw [hk] at F0
  have IT := hide (fun y : Sub W.heap.size W => instS_any x p y.w (hrW.later y.h) ok)
  unfold Ln.cs at IT
  rw [hk] at IT
  generalize insT x = it at *
  obtain ⟨T, hT⟩ : ∃ T : List Tk, (it) = T := ⟨_, rfl⟩
  have HT := hide hT
  rw [hT]
  clear hT
  unfold Ln.cs at hy0 ⊢
  rw [hk] at hy0 ⊢
  clear hr hrW hW xc xn xl hbW hk ok
  generalize x.src.f = sf at *
  generalize x.src.r = sr at *
  generalize x.src.e.k = sk at *
  generalize x.src.e.n = sn at *
  generalize x.src.e.s = ss at *
  generalize x.src.e.l.length = sl at *
  generalize x.dst.f = df at *
  generalize x.dst.r = dr at *
  generalize x.dst.e.k = dk at *
  generalize x.dst.e.n = dn at *
  generalize x.dst.e.s = ds at *
  generalize x.dst.e.l.length = dl at *
  generalize x.k = k at *
  generalize x.s = s at *
  generalize x.op = op at *
  generalize x.n = n at *
  generalize x.l.length = ll at *
  generalize p.b1 = b1 at *
  generalize p.c1 = c1 at *
  generalize p.b2 = b2 at *
  generalize p.c2 = c2 at *
  generalize p.b3 = b3 at *
  generalize p.c3 = c3 at *
  go_enter Tryz.func13, Tryz.ntmps13
  go_wp2_with fail
  refine (unhide IT y0).mono ?_
  rintro r w1 ⟨vs, rfl, hS, hb⟩
  obtain ⟨y1, rfl⟩ := Sub.step (unhide HZ) hb
  clear hb
  have O9 := hide (hS.base (Nat.le_trans (unhide HZ) y0.h.size))
  clear hS
  go_wp2_with fail
  have EQ : it = T := unhide HT
  rw [EQ] at O9
  go_ret
  exact ⟨_, rfl, unhide HO y1 _ _ (unhide O9), unhide HB y1⟩
set_option maxHeartbeats 8000000 in
theorem ln_4 (x : Ln) (p : La) (w : World) (hr : RdL w x p) (hk : x.k = 4) (ok : x.l.length ≤ 1000 ∧ x.l.all (okF 6 true) = true) : Calls Tryz.prog 13 #[.agg (x.cs p)] w fun r w' => ∃ v, r = .returned v ∧ OwnT w' w.heap.size v (tmT ⟨#[46, 119, 111, 114, 100]⟩ x.l) ∧ Below w.heap.size w w' := by
  have hb1 := below_new w (.cells (x.cs p) 37)
  have hb2 := below_new (w.alloc (.cells (x.cs p) 37)) (.cells #[.int .i64 1, .int .i64 0, .string x.s] 59)
  have hbW := hb1.trans (hb2.mono hb1.size)
  obtain ⟨W, hW⟩ : ∃ W, (w.alloc (.cells (x.cs p) 37)).alloc (.cells #[.int .i64 1, .int .i64 0, .string x.s] 59) = W := ⟨_, rfl⟩
  have hrW := hr.later hbW
  have xl : w.heap.size + 1 < W.heap.size := by rw [← hW]; simp
  have xc : ∀ (i : Nat) (v : Value), (x.cs p)[i]? = some v → ∀ w1, Below W.heap.size W w1 → w1.cell? ⟨w.heap.size, i, none⟩ = some v := fun i v h w1 hb => (hb.cell (p := ⟨w.heap.size, i, none⟩) (by show w.heap.size < W.heap.size; omega)).trans (by rw [← hW]; exact (hb2.cell (p := ⟨w.heap.size, i, none⟩) (by simp)).trans (box17 w _ _ i v h))
  have xn : ∀ (i : Nat) (v : Value), (#[.int .i64 1, .int .i64 0, .string x.s] : Array Value)[i]? = some v → ∀ w1, Below W.heap.size W w1 → w1.cell? ⟨w.heap.size + 1, i, none⟩ = some v := fun i v h w1 hb => (hb.cell (p := ⟨w.heap.size + 1, i, none⟩) xl).trans (by rw [← hW]; have := box17 (w.alloc (.cells (x.cs p) 37)) #[.int .i64 1, .int .i64 0, .string x.s] 59 i v h; rw [show (w.alloc (.cells (x.cs p) 37)).heap.size = w.heap.size + 1 by simp] at this; exact this)
  rw [hW] at hbW hrW
  obtain ⟨y0, hy0⟩ : ∃ z : Sub W.heap.size W, (w.alloc (.cells (x.cs p) 37)).alloc (.cells #[.int .i64 1, .int .i64 0, .string x.s] 59) = z.w := ⟨⟨W, Below.refl _ _⟩, hW⟩
  clear hb1 hb2
  have ne := Sub.ne W.heap.size W
  have HZ := hide (Nat.le_refl W.heap.size)
  have HB := hide (fun y : Sub W.heap.size W => hbW.trans (y.h.mono hbW.size))
  have HO := hide (fun (y : Sub W.heap.size W) v ts (h : OwnT y.w W.heap.size v ts) => h.base hbW.size)
  have F0 : ∀ y : Sub W.heap.size W, y.w.cell? ⟨w.heap.size, 0, none⟩ = some (.int .i64 x.k) := fun y => xc 0 _ rfl y.w y.h
  have Y0 := hide (fun w1 (hb : Below W.heap.size W w1) => (show w1.cell? ⟨w.heap.size, 0, none⟩ = some (.int .i64 x.k) from xc 0 _ rfl w1 hb))
  have F1 : ∀ y : Sub W.heap.size W, y.w.cell? ⟨w.heap.size, 1, none⟩ = some (.string x.s) := fun y => xc 1 _ rfl y.w y.h
  have Y1 := hide (fun w1 (hb : Below W.heap.size W w1) => (show w1.cell? ⟨w.heap.size, 1, none⟩ = some (.string x.s) from xc 1 _ rfl w1 hb))
  have F2 : ∀ y : Sub W.heap.size W, y.w.cell? ⟨w.heap.size, 2, none⟩ = some (.int .i64 x.op) := fun y => xc 2 _ rfl y.w y.h
  have Y2 := hide (fun w1 (hb : Below W.heap.size W w1) => (show w1.cell? ⟨w.heap.size, 2, none⟩ = some (.int .i64 x.op) from xc 2 _ rfl w1 hb))
  have F3 : ∀ y : Sub W.heap.size W, y.w.cell? ⟨w.heap.size, 3, none⟩ = some (.int .i64 x.src.f) := fun y => xc 3 _ rfl y.w y.h
  have Y3 := hide (fun w1 (hb : Below W.heap.size W w1) => (show w1.cell? ⟨w.heap.size, 3, none⟩ = some (.int .i64 x.src.f) from xc 3 _ rfl w1 hb))
  have F4 : ∀ y : Sub W.heap.size W, y.w.cell? ⟨w.heap.size, 4, none⟩ = some (.int .i64 x.src.r) := fun y => xc 4 _ rfl y.w y.h
  have Y4 := hide (fun w1 (hb : Below W.heap.size W w1) => (show w1.cell? ⟨w.heap.size, 4, none⟩ = some (.int .i64 x.src.r) from xc 4 _ rfl w1 hb))
  have F5 : ∀ y : Sub W.heap.size W, y.w.cell? ⟨w.heap.size, 5, none⟩ = some (.int .i64 x.src.e.k) := fun y => xc 5 _ rfl y.w y.h
  have Y5 := hide (fun w1 (hb : Below W.heap.size W w1) => (show w1.cell? ⟨w.heap.size, 5, none⟩ = some (.int .i64 x.src.e.k) from xc 5 _ rfl w1 hb))
  have F6 : ∀ y : Sub W.heap.size W, y.w.cell? ⟨w.heap.size, 6, none⟩ = some (.int .i64 x.src.e.n) := fun y => xc 6 _ rfl y.w y.h
  have Y6 := hide (fun w1 (hb : Below W.heap.size W w1) => (show w1.cell? ⟨w.heap.size, 6, none⟩ = some (.int .i64 x.src.e.n) from xc 6 _ rfl w1 hb))
  have F7 : ∀ y : Sub W.heap.size W, y.w.cell? ⟨w.heap.size, 7, none⟩ = some (.string x.src.e.s) := fun y => xc 7 _ rfl y.w y.h
  have Y7 := hide (fun w1 (hb : Below W.heap.size W w1) => (show w1.cell? ⟨w.heap.size, 7, none⟩ = some (.string x.src.e.s) from xc 7 _ rfl w1 hb))
  have F8 : ∀ y : Sub W.heap.size W, y.w.cell? ⟨w.heap.size, 8, none⟩ = some (.slice p.b1 x.src.e.l.length p.c1) := fun y => xc 8 _ rfl y.w y.h
  have Y8 := hide (fun w1 (hb : Below W.heap.size W w1) => (show w1.cell? ⟨w.heap.size, 8, none⟩ = some (.slice p.b1 x.src.e.l.length p.c1) from xc 8 _ rfl w1 hb))
  have F9 : ∀ y : Sub W.heap.size W, y.w.cell? ⟨w.heap.size, 9, none⟩ = some (.int .i64 x.dst.f) := fun y => xc 9 _ rfl y.w y.h
  have Y9 := hide (fun w1 (hb : Below W.heap.size W w1) => (show w1.cell? ⟨w.heap.size, 9, none⟩ = some (.int .i64 x.dst.f) from xc 9 _ rfl w1 hb))
  have F10 : ∀ y : Sub W.heap.size W, y.w.cell? ⟨w.heap.size, 10, none⟩ = some (.int .i64 x.dst.r) := fun y => xc 10 _ rfl y.w y.h
  have Y10 := hide (fun w1 (hb : Below W.heap.size W w1) => (show w1.cell? ⟨w.heap.size, 10, none⟩ = some (.int .i64 x.dst.r) from xc 10 _ rfl w1 hb))
  have F11 : ∀ y : Sub W.heap.size W, y.w.cell? ⟨w.heap.size, 11, none⟩ = some (.int .i64 x.dst.e.k) := fun y => xc 11 _ rfl y.w y.h
  have Y11 := hide (fun w1 (hb : Below W.heap.size W w1) => (show w1.cell? ⟨w.heap.size, 11, none⟩ = some (.int .i64 x.dst.e.k) from xc 11 _ rfl w1 hb))
  have F12 : ∀ y : Sub W.heap.size W, y.w.cell? ⟨w.heap.size, 12, none⟩ = some (.int .i64 x.dst.e.n) := fun y => xc 12 _ rfl y.w y.h
  have Y12 := hide (fun w1 (hb : Below W.heap.size W w1) => (show w1.cell? ⟨w.heap.size, 12, none⟩ = some (.int .i64 x.dst.e.n) from xc 12 _ rfl w1 hb))
  have F13 : ∀ y : Sub W.heap.size W, y.w.cell? ⟨w.heap.size, 13, none⟩ = some (.string x.dst.e.s) := fun y => xc 13 _ rfl y.w y.h
  have Y13 := hide (fun w1 (hb : Below W.heap.size W w1) => (show w1.cell? ⟨w.heap.size, 13, none⟩ = some (.string x.dst.e.s) from xc 13 _ rfl w1 hb))
  have F14 : ∀ y : Sub W.heap.size W, y.w.cell? ⟨w.heap.size, 14, none⟩ = some (.slice p.b2 x.dst.e.l.length p.c2) := fun y => xc 14 _ rfl y.w y.h
  have Y14 := hide (fun w1 (hb : Below W.heap.size W w1) => (show w1.cell? ⟨w.heap.size, 14, none⟩ = some (.slice p.b2 x.dst.e.l.length p.c2) from xc 14 _ rfl w1 hb))
  have F15 : ∀ y : Sub W.heap.size W, y.w.cell? ⟨w.heap.size, 15, none⟩ = some (.int .i64 x.n) := fun y => xc 15 _ rfl y.w y.h
  have Y15 := hide (fun w1 (hb : Below W.heap.size W w1) => (show w1.cell? ⟨w.heap.size, 15, none⟩ = some (.int .i64 x.n) from xc 15 _ rfl w1 hb))
  have F16 : ∀ y : Sub W.heap.size W, y.w.cell? ⟨w.heap.size, 16, none⟩ = some (.slice p.b3 x.l.length p.c3) := fun y => xc 16 _ rfl y.w y.h
  have Y16 := hide (fun w1 (hb : Below W.heap.size W w1) => (show w1.cell? ⟨w.heap.size, 16, none⟩ = some (.slice p.b3 x.l.length p.c3) from xc 16 _ rfl w1 hb))
  have MK := hide (fun x w1 => markS_ex x w1)
  unfold Tk.v Tk.cs at MK
  simp only at MK
  have G0 : ∀ y : Sub W.heap.size W, y.w.cell? ⟨w.heap.size + 1, 0, none⟩ = some (.int .i64 1) := fun y => xn 0 _ rfl y.w y.h
  have X0 := hide (fun w1 (hb : Below W.heap.size W w1) => (show w1.cell? ⟨w.heap.size + 1, 0, none⟩ = some (.int .i64 1) from xn 0 _ rfl w1 hb))
  have G1 : ∀ y : Sub W.heap.size W, y.w.cell? ⟨w.heap.size + 1, 1, none⟩ = some (.int .i64 0) := fun y => xn 1 _ rfl y.w y.h
  have X1 := hide (fun w1 (hb : Below W.heap.size W w1) => (show w1.cell? ⟨w.heap.size + 1, 1, none⟩ = some (.int .i64 0) from xn 1 _ rfl w1 hb))
  have G2 : ∀ y : Sub W.heap.size W, y.w.cell? ⟨w.heap.size + 1, 2, none⟩ = some (.string x.s) := fun y => xn 2 _ rfl y.w y.h
  have X2 := hide (fun w1 (hb : Below W.heap.size W w1) => (show w1.cell? ⟨w.heap.size + 1, 2, none⟩ = some (.string x.s) from xn 2 _ rfl w1 hb))
  rw [hk] at F0
  have TM := hide (fun y : Sub W.heap.size W => tmtS ⟨#[46, 119, 111, 114, 100]⟩ x.l p.b3 p.c3 y.w (hrW.l.later y.h) ok.1 ok.2)
  generalize tmT ⟨#[46, 119, 111, 114, 100]⟩ x.l = it at *
  obtain ⟨T, hT⟩ : ∃ T : List Tk, (it) = T := ⟨_, rfl⟩
  have HT := hide hT
  rw [hT]
  clear hT
  unfold Ln.cs at hy0 ⊢
  rw [hk] at hy0 ⊢
  clear hr hrW hW xc xn xl hbW hk ok
  generalize x.src.f = sf at *
  generalize x.src.r = sr at *
  generalize x.src.e.k = sk at *
  generalize x.src.e.n = sn at *
  generalize x.src.e.s = ss at *
  generalize x.src.e.l.length = sl at *
  generalize x.dst.f = df at *
  generalize x.dst.r = dr at *
  generalize x.dst.e.k = dk at *
  generalize x.dst.e.n = dn at *
  generalize x.dst.e.s = ds at *
  generalize x.dst.e.l.length = dl at *
  generalize x.k = k at *
  generalize x.s = s at *
  generalize x.op = op at *
  generalize x.n = n at *
  generalize x.l.length = ll at *
  generalize p.b1 = b1 at *
  generalize p.c1 = c1 at *
  generalize p.b2 = b2 at *
  generalize p.c2 = c2 at *
  generalize p.b3 = b3 at *
  generalize p.c3 = c3 at *
  go_enter Tryz.func13, Tryz.ntmps13
  go_wp2_with fail
  refine (unhide TM y0).mono ?_
  rintro r w1 ⟨vs, rfl, hS, hb⟩
  obtain ⟨y1, rfl⟩ := Sub.step (unhide HZ) hb
  clear hb
  have O9 := hide (hS.base (Nat.le_trans (unhide HZ) y0.h.size))
  clear hS
  go_wp2_with fail
  have EQ : it = T := unhide HT
  rw [EQ] at O9
  go_ret
  exact ⟨_, rfl, unhide HO y1 _ _ (unhide O9), unhide HB y1⟩
set_option maxHeartbeats 8000000 in
theorem ln_5 (x : Ln) (p : La) (w : World) (hr : RdL w x p) (hk : x.k = 5) (ok : x.l.length ≤ 1000 ∧ x.l.all (okF 6 true) = true) : Calls Tryz.prog 13 #[.agg (x.cs p)] w fun r w' => ∃ v, r = .returned v ∧ OwnT w' w.heap.size v (tmT ⟨#[46, 98, 108, 107, 119]⟩ x.l) ∧ Below w.heap.size w w' := by
  have hb1 := below_new w (.cells (x.cs p) 37)
  have hb2 := below_new (w.alloc (.cells (x.cs p) 37)) (.cells #[.int .i64 1, .int .i64 0, .string x.s] 59)
  have hbW := hb1.trans (hb2.mono hb1.size)
  obtain ⟨W, hW⟩ : ∃ W, (w.alloc (.cells (x.cs p) 37)).alloc (.cells #[.int .i64 1, .int .i64 0, .string x.s] 59) = W := ⟨_, rfl⟩
  have hrW := hr.later hbW
  have xl : w.heap.size + 1 < W.heap.size := by rw [← hW]; simp
  have xc : ∀ (i : Nat) (v : Value), (x.cs p)[i]? = some v → ∀ w1, Below W.heap.size W w1 → w1.cell? ⟨w.heap.size, i, none⟩ = some v := fun i v h w1 hb => (hb.cell (p := ⟨w.heap.size, i, none⟩) (by show w.heap.size < W.heap.size; omega)).trans (by rw [← hW]; exact (hb2.cell (p := ⟨w.heap.size, i, none⟩) (by simp)).trans (box17 w _ _ i v h))
  have xn : ∀ (i : Nat) (v : Value), (#[.int .i64 1, .int .i64 0, .string x.s] : Array Value)[i]? = some v → ∀ w1, Below W.heap.size W w1 → w1.cell? ⟨w.heap.size + 1, i, none⟩ = some v := fun i v h w1 hb => (hb.cell (p := ⟨w.heap.size + 1, i, none⟩) xl).trans (by rw [← hW]; have := box17 (w.alloc (.cells (x.cs p) 37)) #[.int .i64 1, .int .i64 0, .string x.s] 59 i v h; rw [show (w.alloc (.cells (x.cs p) 37)).heap.size = w.heap.size + 1 by simp] at this; exact this)
  rw [hW] at hbW hrW
  obtain ⟨y0, hy0⟩ : ∃ z : Sub W.heap.size W, (w.alloc (.cells (x.cs p) 37)).alloc (.cells #[.int .i64 1, .int .i64 0, .string x.s] 59) = z.w := ⟨⟨W, Below.refl _ _⟩, hW⟩
  clear hb1 hb2
  have ne := Sub.ne W.heap.size W
  have HZ := hide (Nat.le_refl W.heap.size)
  have HB := hide (fun y : Sub W.heap.size W => hbW.trans (y.h.mono hbW.size))
  have HO := hide (fun (y : Sub W.heap.size W) v ts (h : OwnT y.w W.heap.size v ts) => h.base hbW.size)
  have F0 : ∀ y : Sub W.heap.size W, y.w.cell? ⟨w.heap.size, 0, none⟩ = some (.int .i64 x.k) := fun y => xc 0 _ rfl y.w y.h
  have Y0 := hide (fun w1 (hb : Below W.heap.size W w1) => (show w1.cell? ⟨w.heap.size, 0, none⟩ = some (.int .i64 x.k) from xc 0 _ rfl w1 hb))
  have F1 : ∀ y : Sub W.heap.size W, y.w.cell? ⟨w.heap.size, 1, none⟩ = some (.string x.s) := fun y => xc 1 _ rfl y.w y.h
  have Y1 := hide (fun w1 (hb : Below W.heap.size W w1) => (show w1.cell? ⟨w.heap.size, 1, none⟩ = some (.string x.s) from xc 1 _ rfl w1 hb))
  have F2 : ∀ y : Sub W.heap.size W, y.w.cell? ⟨w.heap.size, 2, none⟩ = some (.int .i64 x.op) := fun y => xc 2 _ rfl y.w y.h
  have Y2 := hide (fun w1 (hb : Below W.heap.size W w1) => (show w1.cell? ⟨w.heap.size, 2, none⟩ = some (.int .i64 x.op) from xc 2 _ rfl w1 hb))
  have F3 : ∀ y : Sub W.heap.size W, y.w.cell? ⟨w.heap.size, 3, none⟩ = some (.int .i64 x.src.f) := fun y => xc 3 _ rfl y.w y.h
  have Y3 := hide (fun w1 (hb : Below W.heap.size W w1) => (show w1.cell? ⟨w.heap.size, 3, none⟩ = some (.int .i64 x.src.f) from xc 3 _ rfl w1 hb))
  have F4 : ∀ y : Sub W.heap.size W, y.w.cell? ⟨w.heap.size, 4, none⟩ = some (.int .i64 x.src.r) := fun y => xc 4 _ rfl y.w y.h
  have Y4 := hide (fun w1 (hb : Below W.heap.size W w1) => (show w1.cell? ⟨w.heap.size, 4, none⟩ = some (.int .i64 x.src.r) from xc 4 _ rfl w1 hb))
  have F5 : ∀ y : Sub W.heap.size W, y.w.cell? ⟨w.heap.size, 5, none⟩ = some (.int .i64 x.src.e.k) := fun y => xc 5 _ rfl y.w y.h
  have Y5 := hide (fun w1 (hb : Below W.heap.size W w1) => (show w1.cell? ⟨w.heap.size, 5, none⟩ = some (.int .i64 x.src.e.k) from xc 5 _ rfl w1 hb))
  have F6 : ∀ y : Sub W.heap.size W, y.w.cell? ⟨w.heap.size, 6, none⟩ = some (.int .i64 x.src.e.n) := fun y => xc 6 _ rfl y.w y.h
  have Y6 := hide (fun w1 (hb : Below W.heap.size W w1) => (show w1.cell? ⟨w.heap.size, 6, none⟩ = some (.int .i64 x.src.e.n) from xc 6 _ rfl w1 hb))
  have F7 : ∀ y : Sub W.heap.size W, y.w.cell? ⟨w.heap.size, 7, none⟩ = some (.string x.src.e.s) := fun y => xc 7 _ rfl y.w y.h
  have Y7 := hide (fun w1 (hb : Below W.heap.size W w1) => (show w1.cell? ⟨w.heap.size, 7, none⟩ = some (.string x.src.e.s) from xc 7 _ rfl w1 hb))
  have F8 : ∀ y : Sub W.heap.size W, y.w.cell? ⟨w.heap.size, 8, none⟩ = some (.slice p.b1 x.src.e.l.length p.c1) := fun y => xc 8 _ rfl y.w y.h
  have Y8 := hide (fun w1 (hb : Below W.heap.size W w1) => (show w1.cell? ⟨w.heap.size, 8, none⟩ = some (.slice p.b1 x.src.e.l.length p.c1) from xc 8 _ rfl w1 hb))
  have F9 : ∀ y : Sub W.heap.size W, y.w.cell? ⟨w.heap.size, 9, none⟩ = some (.int .i64 x.dst.f) := fun y => xc 9 _ rfl y.w y.h
  have Y9 := hide (fun w1 (hb : Below W.heap.size W w1) => (show w1.cell? ⟨w.heap.size, 9, none⟩ = some (.int .i64 x.dst.f) from xc 9 _ rfl w1 hb))
  have F10 : ∀ y : Sub W.heap.size W, y.w.cell? ⟨w.heap.size, 10, none⟩ = some (.int .i64 x.dst.r) := fun y => xc 10 _ rfl y.w y.h
  have Y10 := hide (fun w1 (hb : Below W.heap.size W w1) => (show w1.cell? ⟨w.heap.size, 10, none⟩ = some (.int .i64 x.dst.r) from xc 10 _ rfl w1 hb))
  have F11 : ∀ y : Sub W.heap.size W, y.w.cell? ⟨w.heap.size, 11, none⟩ = some (.int .i64 x.dst.e.k) := fun y => xc 11 _ rfl y.w y.h
  have Y11 := hide (fun w1 (hb : Below W.heap.size W w1) => (show w1.cell? ⟨w.heap.size, 11, none⟩ = some (.int .i64 x.dst.e.k) from xc 11 _ rfl w1 hb))
  have F12 : ∀ y : Sub W.heap.size W, y.w.cell? ⟨w.heap.size, 12, none⟩ = some (.int .i64 x.dst.e.n) := fun y => xc 12 _ rfl y.w y.h
  have Y12 := hide (fun w1 (hb : Below W.heap.size W w1) => (show w1.cell? ⟨w.heap.size, 12, none⟩ = some (.int .i64 x.dst.e.n) from xc 12 _ rfl w1 hb))
  have F13 : ∀ y : Sub W.heap.size W, y.w.cell? ⟨w.heap.size, 13, none⟩ = some (.string x.dst.e.s) := fun y => xc 13 _ rfl y.w y.h
  have Y13 := hide (fun w1 (hb : Below W.heap.size W w1) => (show w1.cell? ⟨w.heap.size, 13, none⟩ = some (.string x.dst.e.s) from xc 13 _ rfl w1 hb))
  have F14 : ∀ y : Sub W.heap.size W, y.w.cell? ⟨w.heap.size, 14, none⟩ = some (.slice p.b2 x.dst.e.l.length p.c2) := fun y => xc 14 _ rfl y.w y.h
  have Y14 := hide (fun w1 (hb : Below W.heap.size W w1) => (show w1.cell? ⟨w.heap.size, 14, none⟩ = some (.slice p.b2 x.dst.e.l.length p.c2) from xc 14 _ rfl w1 hb))
  have F15 : ∀ y : Sub W.heap.size W, y.w.cell? ⟨w.heap.size, 15, none⟩ = some (.int .i64 x.n) := fun y => xc 15 _ rfl y.w y.h
  have Y15 := hide (fun w1 (hb : Below W.heap.size W w1) => (show w1.cell? ⟨w.heap.size, 15, none⟩ = some (.int .i64 x.n) from xc 15 _ rfl w1 hb))
  have F16 : ∀ y : Sub W.heap.size W, y.w.cell? ⟨w.heap.size, 16, none⟩ = some (.slice p.b3 x.l.length p.c3) := fun y => xc 16 _ rfl y.w y.h
  have Y16 := hide (fun w1 (hb : Below W.heap.size W w1) => (show w1.cell? ⟨w.heap.size, 16, none⟩ = some (.slice p.b3 x.l.length p.c3) from xc 16 _ rfl w1 hb))
  have MK := hide (fun x w1 => markS_ex x w1)
  unfold Tk.v Tk.cs at MK
  simp only at MK
  have G0 : ∀ y : Sub W.heap.size W, y.w.cell? ⟨w.heap.size + 1, 0, none⟩ = some (.int .i64 1) := fun y => xn 0 _ rfl y.w y.h
  have X0 := hide (fun w1 (hb : Below W.heap.size W w1) => (show w1.cell? ⟨w.heap.size + 1, 0, none⟩ = some (.int .i64 1) from xn 0 _ rfl w1 hb))
  have G1 : ∀ y : Sub W.heap.size W, y.w.cell? ⟨w.heap.size + 1, 1, none⟩ = some (.int .i64 0) := fun y => xn 1 _ rfl y.w y.h
  have X1 := hide (fun w1 (hb : Below W.heap.size W w1) => (show w1.cell? ⟨w.heap.size + 1, 1, none⟩ = some (.int .i64 0) from xn 1 _ rfl w1 hb))
  have G2 : ∀ y : Sub W.heap.size W, y.w.cell? ⟨w.heap.size + 1, 2, none⟩ = some (.string x.s) := fun y => xn 2 _ rfl y.w y.h
  have X2 := hide (fun w1 (hb : Below W.heap.size W w1) => (show w1.cell? ⟨w.heap.size + 1, 2, none⟩ = some (.string x.s) from xn 2 _ rfl w1 hb))
  rw [hk] at F0
  have TM := hide (fun y : Sub W.heap.size W => tmtS ⟨#[46, 98, 108, 107, 119]⟩ x.l p.b3 p.c3 y.w (hrW.l.later y.h) ok.1 ok.2)
  generalize tmT ⟨#[46, 98, 108, 107, 119]⟩ x.l = it at *
  obtain ⟨T, hT⟩ : ∃ T : List Tk, (it) = T := ⟨_, rfl⟩
  have HT := hide hT
  rw [hT]
  clear hT
  unfold Ln.cs at hy0 ⊢
  rw [hk] at hy0 ⊢
  clear hr hrW hW xc xn xl hbW hk ok
  generalize x.src.f = sf at *
  generalize x.src.r = sr at *
  generalize x.src.e.k = sk at *
  generalize x.src.e.n = sn at *
  generalize x.src.e.s = ss at *
  generalize x.src.e.l.length = sl at *
  generalize x.dst.f = df at *
  generalize x.dst.r = dr at *
  generalize x.dst.e.k = dk at *
  generalize x.dst.e.n = dn at *
  generalize x.dst.e.s = ds at *
  generalize x.dst.e.l.length = dl at *
  generalize x.k = k at *
  generalize x.s = s at *
  generalize x.op = op at *
  generalize x.n = n at *
  generalize x.l.length = ll at *
  generalize p.b1 = b1 at *
  generalize p.c1 = c1 at *
  generalize p.b2 = b2 at *
  generalize p.c2 = c2 at *
  generalize p.b3 = b3 at *
  generalize p.c3 = c3 at *
  go_enter Tryz.func13, Tryz.ntmps13
  go_wp2_with fail
  refine (unhide TM y0).mono ?_
  rintro r w1 ⟨vs, rfl, hS, hb⟩
  obtain ⟨y1, rfl⟩ := Sub.step (unhide HZ) hb
  clear hb
  have O9 := hide (hS.base (Nat.le_trans (unhide HZ) y0.h.size))
  clear hS
  go_wp2_with fail
  have EQ : it = T := unhide HT
  rw [EQ] at O9
  go_ret
  exact ⟨_, rfl, unhide HO y1 _ _ (unhide O9), unhide HB y1⟩
set_option maxHeartbeats 8000000 in
theorem ln_7 (x : Ln) (p : La) (w : World) (hr : RdL w x p) (hk : x.k = 7) (ok : x.l.length ≤ 1000 ∧ x.l.all (okF 6 true) = true) : Calls Tryz.prog 13 #[.agg (x.cs p)] w fun r w' => ∃ v, r = .returned v ∧ OwnT w' w.heap.size v (tmT ⟨#[46, 103, 108, 111, 98, 108]⟩ x.l) ∧ Below w.heap.size w w' := by
  have hb1 := below_new w (.cells (x.cs p) 37)
  have hb2 := below_new (w.alloc (.cells (x.cs p) 37)) (.cells #[.int .i64 1, .int .i64 0, .string x.s] 59)
  have hbW := hb1.trans (hb2.mono hb1.size)
  obtain ⟨W, hW⟩ : ∃ W, (w.alloc (.cells (x.cs p) 37)).alloc (.cells #[.int .i64 1, .int .i64 0, .string x.s] 59) = W := ⟨_, rfl⟩
  have hrW := hr.later hbW
  have xl : w.heap.size + 1 < W.heap.size := by rw [← hW]; simp
  have xc : ∀ (i : Nat) (v : Value), (x.cs p)[i]? = some v → ∀ w1, Below W.heap.size W w1 → w1.cell? ⟨w.heap.size, i, none⟩ = some v := fun i v h w1 hb => (hb.cell (p := ⟨w.heap.size, i, none⟩) (by show w.heap.size < W.heap.size; omega)).trans (by rw [← hW]; exact (hb2.cell (p := ⟨w.heap.size, i, none⟩) (by simp)).trans (box17 w _ _ i v h))
  have xn : ∀ (i : Nat) (v : Value), (#[.int .i64 1, .int .i64 0, .string x.s] : Array Value)[i]? = some v → ∀ w1, Below W.heap.size W w1 → w1.cell? ⟨w.heap.size + 1, i, none⟩ = some v := fun i v h w1 hb => (hb.cell (p := ⟨w.heap.size + 1, i, none⟩) xl).trans (by rw [← hW]; have := box17 (w.alloc (.cells (x.cs p) 37)) #[.int .i64 1, .int .i64 0, .string x.s] 59 i v h; rw [show (w.alloc (.cells (x.cs p) 37)).heap.size = w.heap.size + 1 by simp] at this; exact this)
  rw [hW] at hbW hrW
  obtain ⟨y0, hy0⟩ : ∃ z : Sub W.heap.size W, (w.alloc (.cells (x.cs p) 37)).alloc (.cells #[.int .i64 1, .int .i64 0, .string x.s] 59) = z.w := ⟨⟨W, Below.refl _ _⟩, hW⟩
  clear hb1 hb2
  have ne := Sub.ne W.heap.size W
  have HZ := hide (Nat.le_refl W.heap.size)
  have HB := hide (fun y : Sub W.heap.size W => hbW.trans (y.h.mono hbW.size))
  have HO := hide (fun (y : Sub W.heap.size W) v ts (h : OwnT y.w W.heap.size v ts) => h.base hbW.size)
  have F0 : ∀ y : Sub W.heap.size W, y.w.cell? ⟨w.heap.size, 0, none⟩ = some (.int .i64 x.k) := fun y => xc 0 _ rfl y.w y.h
  have Y0 := hide (fun w1 (hb : Below W.heap.size W w1) => (show w1.cell? ⟨w.heap.size, 0, none⟩ = some (.int .i64 x.k) from xc 0 _ rfl w1 hb))
  have F1 : ∀ y : Sub W.heap.size W, y.w.cell? ⟨w.heap.size, 1, none⟩ = some (.string x.s) := fun y => xc 1 _ rfl y.w y.h
  have Y1 := hide (fun w1 (hb : Below W.heap.size W w1) => (show w1.cell? ⟨w.heap.size, 1, none⟩ = some (.string x.s) from xc 1 _ rfl w1 hb))
  have F2 : ∀ y : Sub W.heap.size W, y.w.cell? ⟨w.heap.size, 2, none⟩ = some (.int .i64 x.op) := fun y => xc 2 _ rfl y.w y.h
  have Y2 := hide (fun w1 (hb : Below W.heap.size W w1) => (show w1.cell? ⟨w.heap.size, 2, none⟩ = some (.int .i64 x.op) from xc 2 _ rfl w1 hb))
  have F3 : ∀ y : Sub W.heap.size W, y.w.cell? ⟨w.heap.size, 3, none⟩ = some (.int .i64 x.src.f) := fun y => xc 3 _ rfl y.w y.h
  have Y3 := hide (fun w1 (hb : Below W.heap.size W w1) => (show w1.cell? ⟨w.heap.size, 3, none⟩ = some (.int .i64 x.src.f) from xc 3 _ rfl w1 hb))
  have F4 : ∀ y : Sub W.heap.size W, y.w.cell? ⟨w.heap.size, 4, none⟩ = some (.int .i64 x.src.r) := fun y => xc 4 _ rfl y.w y.h
  have Y4 := hide (fun w1 (hb : Below W.heap.size W w1) => (show w1.cell? ⟨w.heap.size, 4, none⟩ = some (.int .i64 x.src.r) from xc 4 _ rfl w1 hb))
  have F5 : ∀ y : Sub W.heap.size W, y.w.cell? ⟨w.heap.size, 5, none⟩ = some (.int .i64 x.src.e.k) := fun y => xc 5 _ rfl y.w y.h
  have Y5 := hide (fun w1 (hb : Below W.heap.size W w1) => (show w1.cell? ⟨w.heap.size, 5, none⟩ = some (.int .i64 x.src.e.k) from xc 5 _ rfl w1 hb))
  have F6 : ∀ y : Sub W.heap.size W, y.w.cell? ⟨w.heap.size, 6, none⟩ = some (.int .i64 x.src.e.n) := fun y => xc 6 _ rfl y.w y.h
  have Y6 := hide (fun w1 (hb : Below W.heap.size W w1) => (show w1.cell? ⟨w.heap.size, 6, none⟩ = some (.int .i64 x.src.e.n) from xc 6 _ rfl w1 hb))
  have F7 : ∀ y : Sub W.heap.size W, y.w.cell? ⟨w.heap.size, 7, none⟩ = some (.string x.src.e.s) := fun y => xc 7 _ rfl y.w y.h
  have Y7 := hide (fun w1 (hb : Below W.heap.size W w1) => (show w1.cell? ⟨w.heap.size, 7, none⟩ = some (.string x.src.e.s) from xc 7 _ rfl w1 hb))
  have F8 : ∀ y : Sub W.heap.size W, y.w.cell? ⟨w.heap.size, 8, none⟩ = some (.slice p.b1 x.src.e.l.length p.c1) := fun y => xc 8 _ rfl y.w y.h
  have Y8 := hide (fun w1 (hb : Below W.heap.size W w1) => (show w1.cell? ⟨w.heap.size, 8, none⟩ = some (.slice p.b1 x.src.e.l.length p.c1) from xc 8 _ rfl w1 hb))
  have F9 : ∀ y : Sub W.heap.size W, y.w.cell? ⟨w.heap.size, 9, none⟩ = some (.int .i64 x.dst.f) := fun y => xc 9 _ rfl y.w y.h
  have Y9 := hide (fun w1 (hb : Below W.heap.size W w1) => (show w1.cell? ⟨w.heap.size, 9, none⟩ = some (.int .i64 x.dst.f) from xc 9 _ rfl w1 hb))
  have F10 : ∀ y : Sub W.heap.size W, y.w.cell? ⟨w.heap.size, 10, none⟩ = some (.int .i64 x.dst.r) := fun y => xc 10 _ rfl y.w y.h
  have Y10 := hide (fun w1 (hb : Below W.heap.size W w1) => (show w1.cell? ⟨w.heap.size, 10, none⟩ = some (.int .i64 x.dst.r) from xc 10 _ rfl w1 hb))
  have F11 : ∀ y : Sub W.heap.size W, y.w.cell? ⟨w.heap.size, 11, none⟩ = some (.int .i64 x.dst.e.k) := fun y => xc 11 _ rfl y.w y.h
  have Y11 := hide (fun w1 (hb : Below W.heap.size W w1) => (show w1.cell? ⟨w.heap.size, 11, none⟩ = some (.int .i64 x.dst.e.k) from xc 11 _ rfl w1 hb))
  have F12 : ∀ y : Sub W.heap.size W, y.w.cell? ⟨w.heap.size, 12, none⟩ = some (.int .i64 x.dst.e.n) := fun y => xc 12 _ rfl y.w y.h
  have Y12 := hide (fun w1 (hb : Below W.heap.size W w1) => (show w1.cell? ⟨w.heap.size, 12, none⟩ = some (.int .i64 x.dst.e.n) from xc 12 _ rfl w1 hb))
  have F13 : ∀ y : Sub W.heap.size W, y.w.cell? ⟨w.heap.size, 13, none⟩ = some (.string x.dst.e.s) := fun y => xc 13 _ rfl y.w y.h
  have Y13 := hide (fun w1 (hb : Below W.heap.size W w1) => (show w1.cell? ⟨w.heap.size, 13, none⟩ = some (.string x.dst.e.s) from xc 13 _ rfl w1 hb))
  have F14 : ∀ y : Sub W.heap.size W, y.w.cell? ⟨w.heap.size, 14, none⟩ = some (.slice p.b2 x.dst.e.l.length p.c2) := fun y => xc 14 _ rfl y.w y.h
  have Y14 := hide (fun w1 (hb : Below W.heap.size W w1) => (show w1.cell? ⟨w.heap.size, 14, none⟩ = some (.slice p.b2 x.dst.e.l.length p.c2) from xc 14 _ rfl w1 hb))
  have F15 : ∀ y : Sub W.heap.size W, y.w.cell? ⟨w.heap.size, 15, none⟩ = some (.int .i64 x.n) := fun y => xc 15 _ rfl y.w y.h
  have Y15 := hide (fun w1 (hb : Below W.heap.size W w1) => (show w1.cell? ⟨w.heap.size, 15, none⟩ = some (.int .i64 x.n) from xc 15 _ rfl w1 hb))
  have F16 : ∀ y : Sub W.heap.size W, y.w.cell? ⟨w.heap.size, 16, none⟩ = some (.slice p.b3 x.l.length p.c3) := fun y => xc 16 _ rfl y.w y.h
  have Y16 := hide (fun w1 (hb : Below W.heap.size W w1) => (show w1.cell? ⟨w.heap.size, 16, none⟩ = some (.slice p.b3 x.l.length p.c3) from xc 16 _ rfl w1 hb))
  have MK := hide (fun x w1 => markS_ex x w1)
  unfold Tk.v Tk.cs at MK
  simp only at MK
  have G0 : ∀ y : Sub W.heap.size W, y.w.cell? ⟨w.heap.size + 1, 0, none⟩ = some (.int .i64 1) := fun y => xn 0 _ rfl y.w y.h
  have X0 := hide (fun w1 (hb : Below W.heap.size W w1) => (show w1.cell? ⟨w.heap.size + 1, 0, none⟩ = some (.int .i64 1) from xn 0 _ rfl w1 hb))
  have G1 : ∀ y : Sub W.heap.size W, y.w.cell? ⟨w.heap.size + 1, 1, none⟩ = some (.int .i64 0) := fun y => xn 1 _ rfl y.w y.h
  have X1 := hide (fun w1 (hb : Below W.heap.size W w1) => (show w1.cell? ⟨w.heap.size + 1, 1, none⟩ = some (.int .i64 0) from xn 1 _ rfl w1 hb))
  have G2 : ∀ y : Sub W.heap.size W, y.w.cell? ⟨w.heap.size + 1, 2, none⟩ = some (.string x.s) := fun y => xn 2 _ rfl y.w y.h
  have X2 := hide (fun w1 (hb : Below W.heap.size W w1) => (show w1.cell? ⟨w.heap.size + 1, 2, none⟩ = some (.string x.s) from xn 2 _ rfl w1 hb))
  rw [hk] at F0
  have TM := hide (fun y : Sub W.heap.size W => tmtS ⟨#[46, 103, 108, 111, 98, 108]⟩ x.l p.b3 p.c3 y.w (hrW.l.later y.h) ok.1 ok.2)
  generalize tmT ⟨#[46, 103, 108, 111, 98, 108]⟩ x.l = it at *
  obtain ⟨T, hT⟩ : ∃ T : List Tk, (it) = T := ⟨_, rfl⟩
  have HT := hide hT
  rw [hT]
  clear hT
  unfold Ln.cs at hy0 ⊢
  rw [hk] at hy0 ⊢
  clear hr hrW hW xc xn xl hbW hk ok
  generalize x.src.f = sf at *
  generalize x.src.r = sr at *
  generalize x.src.e.k = sk at *
  generalize x.src.e.n = sn at *
  generalize x.src.e.s = ss at *
  generalize x.src.e.l.length = sl at *
  generalize x.dst.f = df at *
  generalize x.dst.r = dr at *
  generalize x.dst.e.k = dk at *
  generalize x.dst.e.n = dn at *
  generalize x.dst.e.s = ds at *
  generalize x.dst.e.l.length = dl at *
  generalize x.k = k at *
  generalize x.s = s at *
  generalize x.op = op at *
  generalize x.n = n at *
  generalize x.l.length = ll at *
  generalize p.b1 = b1 at *
  generalize p.c1 = c1 at *
  generalize p.b2 = b2 at *
  generalize p.c2 = c2 at *
  generalize p.b3 = b3 at *
  generalize p.c3 = c3 at *
  go_enter Tryz.func13, Tryz.ntmps13
  go_wp2_with fail
  refine (unhide TM y0).mono ?_
  rintro r w1 ⟨vs, rfl, hS, hb⟩
  obtain ⟨y1, rfl⟩ := Sub.step (unhide HZ) hb
  clear hb
  have O9 := hide (hS.base (Nat.le_trans (unhide HZ) y0.h.size))
  clear hS
  go_wp2_with fail
  have EQ : it = T := unhide HT
  rw [EQ] at O9
  go_ret
  exact ⟨_, rfl, unhide HO y1 _ _ (unhide O9), unhide HB y1⟩
set_option maxHeartbeats 8000000 in
theorem ln_8 (x : Ln) (p : La) (w : World) (hr : RdL w x p) (hk : x.k = 8) (ok : x.l.length ≤ 1000 ∧ x.l.all (okF 6 true) = true) : Calls Tryz.prog 13 #[.agg (x.cs p)] w fun r w' => ∃ v, r = .returned v ∧ OwnT w' w.heap.size v (tmT ⟨#[46, 101, 110, 100]⟩ x.l) ∧ Below w.heap.size w w' := by
  have hb1 := below_new w (.cells (x.cs p) 37)
  have hb2 := below_new (w.alloc (.cells (x.cs p) 37)) (.cells #[.int .i64 1, .int .i64 0, .string x.s] 59)
  have hbW := hb1.trans (hb2.mono hb1.size)
  obtain ⟨W, hW⟩ : ∃ W, (w.alloc (.cells (x.cs p) 37)).alloc (.cells #[.int .i64 1, .int .i64 0, .string x.s] 59) = W := ⟨_, rfl⟩
  have hrW := hr.later hbW
  have xl : w.heap.size + 1 < W.heap.size := by rw [← hW]; simp
  have xc : ∀ (i : Nat) (v : Value), (x.cs p)[i]? = some v → ∀ w1, Below W.heap.size W w1 → w1.cell? ⟨w.heap.size, i, none⟩ = some v := fun i v h w1 hb => (hb.cell (p := ⟨w.heap.size, i, none⟩) (by show w.heap.size < W.heap.size; omega)).trans (by rw [← hW]; exact (hb2.cell (p := ⟨w.heap.size, i, none⟩) (by simp)).trans (box17 w _ _ i v h))
  have xn : ∀ (i : Nat) (v : Value), (#[.int .i64 1, .int .i64 0, .string x.s] : Array Value)[i]? = some v → ∀ w1, Below W.heap.size W w1 → w1.cell? ⟨w.heap.size + 1, i, none⟩ = some v := fun i v h w1 hb => (hb.cell (p := ⟨w.heap.size + 1, i, none⟩) xl).trans (by rw [← hW]; have := box17 (w.alloc (.cells (x.cs p) 37)) #[.int .i64 1, .int .i64 0, .string x.s] 59 i v h; rw [show (w.alloc (.cells (x.cs p) 37)).heap.size = w.heap.size + 1 by simp] at this; exact this)
  rw [hW] at hbW hrW
  obtain ⟨y0, hy0⟩ : ∃ z : Sub W.heap.size W, (w.alloc (.cells (x.cs p) 37)).alloc (.cells #[.int .i64 1, .int .i64 0, .string x.s] 59) = z.w := ⟨⟨W, Below.refl _ _⟩, hW⟩
  clear hb1 hb2
  have ne := Sub.ne W.heap.size W
  have HZ := hide (Nat.le_refl W.heap.size)
  have HB := hide (fun y : Sub W.heap.size W => hbW.trans (y.h.mono hbW.size))
  have HO := hide (fun (y : Sub W.heap.size W) v ts (h : OwnT y.w W.heap.size v ts) => h.base hbW.size)
  have F0 : ∀ y : Sub W.heap.size W, y.w.cell? ⟨w.heap.size, 0, none⟩ = some (.int .i64 x.k) := fun y => xc 0 _ rfl y.w y.h
  have Y0 := hide (fun w1 (hb : Below W.heap.size W w1) => (show w1.cell? ⟨w.heap.size, 0, none⟩ = some (.int .i64 x.k) from xc 0 _ rfl w1 hb))
  have F1 : ∀ y : Sub W.heap.size W, y.w.cell? ⟨w.heap.size, 1, none⟩ = some (.string x.s) := fun y => xc 1 _ rfl y.w y.h
  have Y1 := hide (fun w1 (hb : Below W.heap.size W w1) => (show w1.cell? ⟨w.heap.size, 1, none⟩ = some (.string x.s) from xc 1 _ rfl w1 hb))
  have F2 : ∀ y : Sub W.heap.size W, y.w.cell? ⟨w.heap.size, 2, none⟩ = some (.int .i64 x.op) := fun y => xc 2 _ rfl y.w y.h
  have Y2 := hide (fun w1 (hb : Below W.heap.size W w1) => (show w1.cell? ⟨w.heap.size, 2, none⟩ = some (.int .i64 x.op) from xc 2 _ rfl w1 hb))
  have F3 : ∀ y : Sub W.heap.size W, y.w.cell? ⟨w.heap.size, 3, none⟩ = some (.int .i64 x.src.f) := fun y => xc 3 _ rfl y.w y.h
  have Y3 := hide (fun w1 (hb : Below W.heap.size W w1) => (show w1.cell? ⟨w.heap.size, 3, none⟩ = some (.int .i64 x.src.f) from xc 3 _ rfl w1 hb))
  have F4 : ∀ y : Sub W.heap.size W, y.w.cell? ⟨w.heap.size, 4, none⟩ = some (.int .i64 x.src.r) := fun y => xc 4 _ rfl y.w y.h
  have Y4 := hide (fun w1 (hb : Below W.heap.size W w1) => (show w1.cell? ⟨w.heap.size, 4, none⟩ = some (.int .i64 x.src.r) from xc 4 _ rfl w1 hb))
  have F5 : ∀ y : Sub W.heap.size W, y.w.cell? ⟨w.heap.size, 5, none⟩ = some (.int .i64 x.src.e.k) := fun y => xc 5 _ rfl y.w y.h
  have Y5 := hide (fun w1 (hb : Below W.heap.size W w1) => (show w1.cell? ⟨w.heap.size, 5, none⟩ = some (.int .i64 x.src.e.k) from xc 5 _ rfl w1 hb))
  have F6 : ∀ y : Sub W.heap.size W, y.w.cell? ⟨w.heap.size, 6, none⟩ = some (.int .i64 x.src.e.n) := fun y => xc 6 _ rfl y.w y.h
  have Y6 := hide (fun w1 (hb : Below W.heap.size W w1) => (show w1.cell? ⟨w.heap.size, 6, none⟩ = some (.int .i64 x.src.e.n) from xc 6 _ rfl w1 hb))
  have F7 : ∀ y : Sub W.heap.size W, y.w.cell? ⟨w.heap.size, 7, none⟩ = some (.string x.src.e.s) := fun y => xc 7 _ rfl y.w y.h
  have Y7 := hide (fun w1 (hb : Below W.heap.size W w1) => (show w1.cell? ⟨w.heap.size, 7, none⟩ = some (.string x.src.e.s) from xc 7 _ rfl w1 hb))
  have F8 : ∀ y : Sub W.heap.size W, y.w.cell? ⟨w.heap.size, 8, none⟩ = some (.slice p.b1 x.src.e.l.length p.c1) := fun y => xc 8 _ rfl y.w y.h
  have Y8 := hide (fun w1 (hb : Below W.heap.size W w1) => (show w1.cell? ⟨w.heap.size, 8, none⟩ = some (.slice p.b1 x.src.e.l.length p.c1) from xc 8 _ rfl w1 hb))
  have F9 : ∀ y : Sub W.heap.size W, y.w.cell? ⟨w.heap.size, 9, none⟩ = some (.int .i64 x.dst.f) := fun y => xc 9 _ rfl y.w y.h
  have Y9 := hide (fun w1 (hb : Below W.heap.size W w1) => (show w1.cell? ⟨w.heap.size, 9, none⟩ = some (.int .i64 x.dst.f) from xc 9 _ rfl w1 hb))
  have F10 : ∀ y : Sub W.heap.size W, y.w.cell? ⟨w.heap.size, 10, none⟩ = some (.int .i64 x.dst.r) := fun y => xc 10 _ rfl y.w y.h
  have Y10 := hide (fun w1 (hb : Below W.heap.size W w1) => (show w1.cell? ⟨w.heap.size, 10, none⟩ = some (.int .i64 x.dst.r) from xc 10 _ rfl w1 hb))
  have F11 : ∀ y : Sub W.heap.size W, y.w.cell? ⟨w.heap.size, 11, none⟩ = some (.int .i64 x.dst.e.k) := fun y => xc 11 _ rfl y.w y.h
  have Y11 := hide (fun w1 (hb : Below W.heap.size W w1) => (show w1.cell? ⟨w.heap.size, 11, none⟩ = some (.int .i64 x.dst.e.k) from xc 11 _ rfl w1 hb))
  have F12 : ∀ y : Sub W.heap.size W, y.w.cell? ⟨w.heap.size, 12, none⟩ = some (.int .i64 x.dst.e.n) := fun y => xc 12 _ rfl y.w y.h
  have Y12 := hide (fun w1 (hb : Below W.heap.size W w1) => (show w1.cell? ⟨w.heap.size, 12, none⟩ = some (.int .i64 x.dst.e.n) from xc 12 _ rfl w1 hb))
  have F13 : ∀ y : Sub W.heap.size W, y.w.cell? ⟨w.heap.size, 13, none⟩ = some (.string x.dst.e.s) := fun y => xc 13 _ rfl y.w y.h
  have Y13 := hide (fun w1 (hb : Below W.heap.size W w1) => (show w1.cell? ⟨w.heap.size, 13, none⟩ = some (.string x.dst.e.s) from xc 13 _ rfl w1 hb))
  have F14 : ∀ y : Sub W.heap.size W, y.w.cell? ⟨w.heap.size, 14, none⟩ = some (.slice p.b2 x.dst.e.l.length p.c2) := fun y => xc 14 _ rfl y.w y.h
  have Y14 := hide (fun w1 (hb : Below W.heap.size W w1) => (show w1.cell? ⟨w.heap.size, 14, none⟩ = some (.slice p.b2 x.dst.e.l.length p.c2) from xc 14 _ rfl w1 hb))
  have F15 : ∀ y : Sub W.heap.size W, y.w.cell? ⟨w.heap.size, 15, none⟩ = some (.int .i64 x.n) := fun y => xc 15 _ rfl y.w y.h
  have Y15 := hide (fun w1 (hb : Below W.heap.size W w1) => (show w1.cell? ⟨w.heap.size, 15, none⟩ = some (.int .i64 x.n) from xc 15 _ rfl w1 hb))
  have F16 : ∀ y : Sub W.heap.size W, y.w.cell? ⟨w.heap.size, 16, none⟩ = some (.slice p.b3 x.l.length p.c3) := fun y => xc 16 _ rfl y.w y.h
  have Y16 := hide (fun w1 (hb : Below W.heap.size W w1) => (show w1.cell? ⟨w.heap.size, 16, none⟩ = some (.slice p.b3 x.l.length p.c3) from xc 16 _ rfl w1 hb))
  have MK := hide (fun x w1 => markS_ex x w1)
  unfold Tk.v Tk.cs at MK
  simp only at MK
  have G0 : ∀ y : Sub W.heap.size W, y.w.cell? ⟨w.heap.size + 1, 0, none⟩ = some (.int .i64 1) := fun y => xn 0 _ rfl y.w y.h
  have X0 := hide (fun w1 (hb : Below W.heap.size W w1) => (show w1.cell? ⟨w.heap.size + 1, 0, none⟩ = some (.int .i64 1) from xn 0 _ rfl w1 hb))
  have G1 : ∀ y : Sub W.heap.size W, y.w.cell? ⟨w.heap.size + 1, 1, none⟩ = some (.int .i64 0) := fun y => xn 1 _ rfl y.w y.h
  have X1 := hide (fun w1 (hb : Below W.heap.size W w1) => (show w1.cell? ⟨w.heap.size + 1, 1, none⟩ = some (.int .i64 0) from xn 1 _ rfl w1 hb))
  have G2 : ∀ y : Sub W.heap.size W, y.w.cell? ⟨w.heap.size + 1, 2, none⟩ = some (.string x.s) := fun y => xn 2 _ rfl y.w y.h
  have X2 := hide (fun w1 (hb : Below W.heap.size W w1) => (show w1.cell? ⟨w.heap.size + 1, 2, none⟩ = some (.string x.s) from xn 2 _ rfl w1 hb))
  rw [hk] at F0
  have TM := hide (fun y : Sub W.heap.size W => tmtS ⟨#[46, 101, 110, 100]⟩ x.l p.b3 p.c3 y.w (hrW.l.later y.h) ok.1 ok.2)
  generalize tmT ⟨#[46, 101, 110, 100]⟩ x.l = it at *
  obtain ⟨T, hT⟩ : ∃ T : List Tk, (it) = T := ⟨_, rfl⟩
  have HT := hide hT
  rw [hT]
  clear hT
  unfold Ln.cs at hy0 ⊢
  rw [hk] at hy0 ⊢
  clear hr hrW hW xc xn xl hbW hk ok
  generalize x.src.f = sf at *
  generalize x.src.r = sr at *
  generalize x.src.e.k = sk at *
  generalize x.src.e.n = sn at *
  generalize x.src.e.s = ss at *
  generalize x.src.e.l.length = sl at *
  generalize x.dst.f = df at *
  generalize x.dst.r = dr at *
  generalize x.dst.e.k = dk at *
  generalize x.dst.e.n = dn at *
  generalize x.dst.e.s = ds at *
  generalize x.dst.e.l.length = dl at *
  generalize x.k = k at *
  generalize x.s = s at *
  generalize x.op = op at *
  generalize x.n = n at *
  generalize x.l.length = ll at *
  generalize p.b1 = b1 at *
  generalize p.c1 = c1 at *
  generalize p.b2 = b2 at *
  generalize p.c2 = c2 at *
  generalize p.b3 = b3 at *
  generalize p.c3 = c3 at *
  go_enter Tryz.func13, Tryz.ntmps13
  go_wp2_with fail
  refine (unhide TM y0).mono ?_
  rintro r w1 ⟨vs, rfl, hS, hb⟩
  obtain ⟨y1, rfl⟩ := Sub.step (unhide HZ) hb
  clear hb
  have O9 := hide (hS.base (Nat.le_trans (unhide HZ) y0.h.size))
  clear hS
  go_wp2_with fail
  have EQ : it = T := unhide HT
  rw [EQ] at O9
  go_ret
  exact ⟨_, rfl, unhide HO y1 _ _ (unhide O9), unhide HB y1⟩
set_option maxHeartbeats 8000000 in
theorem ln_6n (x : Ln) (p : La) (w : World) (hr : RdL w x p) (hk : x.k = 6) (ok : x.n = 1) : Calls Tryz.prog 13 #[.agg (x.cs p)] w fun r w' => ∃ v, r = .returned v ∧ OwnT w' w.heap.size v ([⟨3, 0, ⟨#[46, 115, 101, 99, 116]⟩⟩, ⟨1, 0, x.s⟩, mkT 44, ⟨1, 0, ⟨#[111, 118, 101, 114]⟩⟩]) ∧ Below w.heap.size w w' := by
  have hb1 := below_new w (.cells (x.cs p) 37)
  have hb2 := below_new (w.alloc (.cells (x.cs p) 37)) (.cells #[.int .i64 1, .int .i64 0, .string x.s] 59)
  have hbW := hb1.trans (hb2.mono hb1.size)
  obtain ⟨W, hW⟩ : ∃ W, (w.alloc (.cells (x.cs p) 37)).alloc (.cells #[.int .i64 1, .int .i64 0, .string x.s] 59) = W := ⟨_, rfl⟩
  have hrW := hr.later hbW
  have xl : w.heap.size + 1 < W.heap.size := by rw [← hW]; simp
  have xc : ∀ (i : Nat) (v : Value), (x.cs p)[i]? = some v → ∀ w1, Below W.heap.size W w1 → w1.cell? ⟨w.heap.size, i, none⟩ = some v := fun i v h w1 hb => (hb.cell (p := ⟨w.heap.size, i, none⟩) (by show w.heap.size < W.heap.size; omega)).trans (by rw [← hW]; exact (hb2.cell (p := ⟨w.heap.size, i, none⟩) (by simp)).trans (box17 w _ _ i v h))
  have xn : ∀ (i : Nat) (v : Value), (#[.int .i64 1, .int .i64 0, .string x.s] : Array Value)[i]? = some v → ∀ w1, Below W.heap.size W w1 → w1.cell? ⟨w.heap.size + 1, i, none⟩ = some v := fun i v h w1 hb => (hb.cell (p := ⟨w.heap.size + 1, i, none⟩) xl).trans (by rw [← hW]; have := box17 (w.alloc (.cells (x.cs p) 37)) #[.int .i64 1, .int .i64 0, .string x.s] 59 i v h; rw [show (w.alloc (.cells (x.cs p) 37)).heap.size = w.heap.size + 1 by simp] at this; exact this)
  rw [hW] at hbW hrW
  obtain ⟨y0, hy0⟩ : ∃ z : Sub W.heap.size W, (w.alloc (.cells (x.cs p) 37)).alloc (.cells #[.int .i64 1, .int .i64 0, .string x.s] 59) = z.w := ⟨⟨W, Below.refl _ _⟩, hW⟩
  clear hb1 hb2
  have ne := Sub.ne W.heap.size W
  have HZ := hide (Nat.le_refl W.heap.size)
  have HB := hide (fun y : Sub W.heap.size W => hbW.trans (y.h.mono hbW.size))
  have HO := hide (fun (y : Sub W.heap.size W) v ts (h : OwnT y.w W.heap.size v ts) => h.base hbW.size)
  have F0 : ∀ y : Sub W.heap.size W, y.w.cell? ⟨w.heap.size, 0, none⟩ = some (.int .i64 x.k) := fun y => xc 0 _ rfl y.w y.h
  have Y0 := hide (fun w1 (hb : Below W.heap.size W w1) => (show w1.cell? ⟨w.heap.size, 0, none⟩ = some (.int .i64 x.k) from xc 0 _ rfl w1 hb))
  have F1 : ∀ y : Sub W.heap.size W, y.w.cell? ⟨w.heap.size, 1, none⟩ = some (.string x.s) := fun y => xc 1 _ rfl y.w y.h
  have Y1 := hide (fun w1 (hb : Below W.heap.size W w1) => (show w1.cell? ⟨w.heap.size, 1, none⟩ = some (.string x.s) from xc 1 _ rfl w1 hb))
  have F2 : ∀ y : Sub W.heap.size W, y.w.cell? ⟨w.heap.size, 2, none⟩ = some (.int .i64 x.op) := fun y => xc 2 _ rfl y.w y.h
  have Y2 := hide (fun w1 (hb : Below W.heap.size W w1) => (show w1.cell? ⟨w.heap.size, 2, none⟩ = some (.int .i64 x.op) from xc 2 _ rfl w1 hb))
  have F3 : ∀ y : Sub W.heap.size W, y.w.cell? ⟨w.heap.size, 3, none⟩ = some (.int .i64 x.src.f) := fun y => xc 3 _ rfl y.w y.h
  have Y3 := hide (fun w1 (hb : Below W.heap.size W w1) => (show w1.cell? ⟨w.heap.size, 3, none⟩ = some (.int .i64 x.src.f) from xc 3 _ rfl w1 hb))
  have F4 : ∀ y : Sub W.heap.size W, y.w.cell? ⟨w.heap.size, 4, none⟩ = some (.int .i64 x.src.r) := fun y => xc 4 _ rfl y.w y.h
  have Y4 := hide (fun w1 (hb : Below W.heap.size W w1) => (show w1.cell? ⟨w.heap.size, 4, none⟩ = some (.int .i64 x.src.r) from xc 4 _ rfl w1 hb))
  have F5 : ∀ y : Sub W.heap.size W, y.w.cell? ⟨w.heap.size, 5, none⟩ = some (.int .i64 x.src.e.k) := fun y => xc 5 _ rfl y.w y.h
  have Y5 := hide (fun w1 (hb : Below W.heap.size W w1) => (show w1.cell? ⟨w.heap.size, 5, none⟩ = some (.int .i64 x.src.e.k) from xc 5 _ rfl w1 hb))
  have F6 : ∀ y : Sub W.heap.size W, y.w.cell? ⟨w.heap.size, 6, none⟩ = some (.int .i64 x.src.e.n) := fun y => xc 6 _ rfl y.w y.h
  have Y6 := hide (fun w1 (hb : Below W.heap.size W w1) => (show w1.cell? ⟨w.heap.size, 6, none⟩ = some (.int .i64 x.src.e.n) from xc 6 _ rfl w1 hb))
  have F7 : ∀ y : Sub W.heap.size W, y.w.cell? ⟨w.heap.size, 7, none⟩ = some (.string x.src.e.s) := fun y => xc 7 _ rfl y.w y.h
  have Y7 := hide (fun w1 (hb : Below W.heap.size W w1) => (show w1.cell? ⟨w.heap.size, 7, none⟩ = some (.string x.src.e.s) from xc 7 _ rfl w1 hb))
  have F8 : ∀ y : Sub W.heap.size W, y.w.cell? ⟨w.heap.size, 8, none⟩ = some (.slice p.b1 x.src.e.l.length p.c1) := fun y => xc 8 _ rfl y.w y.h
  have Y8 := hide (fun w1 (hb : Below W.heap.size W w1) => (show w1.cell? ⟨w.heap.size, 8, none⟩ = some (.slice p.b1 x.src.e.l.length p.c1) from xc 8 _ rfl w1 hb))
  have F9 : ∀ y : Sub W.heap.size W, y.w.cell? ⟨w.heap.size, 9, none⟩ = some (.int .i64 x.dst.f) := fun y => xc 9 _ rfl y.w y.h
  have Y9 := hide (fun w1 (hb : Below W.heap.size W w1) => (show w1.cell? ⟨w.heap.size, 9, none⟩ = some (.int .i64 x.dst.f) from xc 9 _ rfl w1 hb))
  have F10 : ∀ y : Sub W.heap.size W, y.w.cell? ⟨w.heap.size, 10, none⟩ = some (.int .i64 x.dst.r) := fun y => xc 10 _ rfl y.w y.h
  have Y10 := hide (fun w1 (hb : Below W.heap.size W w1) => (show w1.cell? ⟨w.heap.size, 10, none⟩ = some (.int .i64 x.dst.r) from xc 10 _ rfl w1 hb))
  have F11 : ∀ y : Sub W.heap.size W, y.w.cell? ⟨w.heap.size, 11, none⟩ = some (.int .i64 x.dst.e.k) := fun y => xc 11 _ rfl y.w y.h
  have Y11 := hide (fun w1 (hb : Below W.heap.size W w1) => (show w1.cell? ⟨w.heap.size, 11, none⟩ = some (.int .i64 x.dst.e.k) from xc 11 _ rfl w1 hb))
  have F12 : ∀ y : Sub W.heap.size W, y.w.cell? ⟨w.heap.size, 12, none⟩ = some (.int .i64 x.dst.e.n) := fun y => xc 12 _ rfl y.w y.h
  have Y12 := hide (fun w1 (hb : Below W.heap.size W w1) => (show w1.cell? ⟨w.heap.size, 12, none⟩ = some (.int .i64 x.dst.e.n) from xc 12 _ rfl w1 hb))
  have F13 : ∀ y : Sub W.heap.size W, y.w.cell? ⟨w.heap.size, 13, none⟩ = some (.string x.dst.e.s) := fun y => xc 13 _ rfl y.w y.h
  have Y13 := hide (fun w1 (hb : Below W.heap.size W w1) => (show w1.cell? ⟨w.heap.size, 13, none⟩ = some (.string x.dst.e.s) from xc 13 _ rfl w1 hb))
  have F14 : ∀ y : Sub W.heap.size W, y.w.cell? ⟨w.heap.size, 14, none⟩ = some (.slice p.b2 x.dst.e.l.length p.c2) := fun y => xc 14 _ rfl y.w y.h
  have Y14 := hide (fun w1 (hb : Below W.heap.size W w1) => (show w1.cell? ⟨w.heap.size, 14, none⟩ = some (.slice p.b2 x.dst.e.l.length p.c2) from xc 14 _ rfl w1 hb))
  have F15 : ∀ y : Sub W.heap.size W, y.w.cell? ⟨w.heap.size, 15, none⟩ = some (.int .i64 x.n) := fun y => xc 15 _ rfl y.w y.h
  have Y15 := hide (fun w1 (hb : Below W.heap.size W w1) => (show w1.cell? ⟨w.heap.size, 15, none⟩ = some (.int .i64 x.n) from xc 15 _ rfl w1 hb))
  have F16 : ∀ y : Sub W.heap.size W, y.w.cell? ⟨w.heap.size, 16, none⟩ = some (.slice p.b3 x.l.length p.c3) := fun y => xc 16 _ rfl y.w y.h
  have Y16 := hide (fun w1 (hb : Below W.heap.size W w1) => (show w1.cell? ⟨w.heap.size, 16, none⟩ = some (.slice p.b3 x.l.length p.c3) from xc 16 _ rfl w1 hb))
  have MK := hide (fun x w1 => markS_ex x w1)
  unfold Tk.v Tk.cs at MK
  simp only at MK
  have G0 : ∀ y : Sub W.heap.size W, y.w.cell? ⟨w.heap.size + 1, 0, none⟩ = some (.int .i64 1) := fun y => xn 0 _ rfl y.w y.h
  have X0 := hide (fun w1 (hb : Below W.heap.size W w1) => (show w1.cell? ⟨w.heap.size + 1, 0, none⟩ = some (.int .i64 1) from xn 0 _ rfl w1 hb))
  have G1 : ∀ y : Sub W.heap.size W, y.w.cell? ⟨w.heap.size + 1, 1, none⟩ = some (.int .i64 0) := fun y => xn 1 _ rfl y.w y.h
  have X1 := hide (fun w1 (hb : Below W.heap.size W w1) => (show w1.cell? ⟨w.heap.size + 1, 1, none⟩ = some (.int .i64 0) from xn 1 _ rfl w1 hb))
  have G2 : ∀ y : Sub W.heap.size W, y.w.cell? ⟨w.heap.size + 1, 2, none⟩ = some (.string x.s) := fun y => xn 2 _ rfl y.w y.h
  have X2 := hide (fun w1 (hb : Below W.heap.size W w1) => (show w1.cell? ⟨w.heap.size + 1, 2, none⟩ = some (.string x.s) from xn 2 _ rfl w1 hb))
  rw [hk] at F0
  rw [ok] at F15
  obtain ⟨T, hT⟩ : ∃ T : List Tk, ([⟨3, 0, ⟨#[46, 115, 101, 99, 116]⟩⟩, ⟨1, 0, x.s⟩, mkT 44, ⟨1, 0, ⟨#[111, 118, 101, 114]⟩⟩]) = T := ⟨_, rfl⟩
  have HT := hide hT
  rw [hT]
  clear hT
  unfold Ln.cs at hy0 ⊢
  rw [hk] at hy0 ⊢
  rw [ok] at hy0 ⊢
  clear hr hrW hW xc xn xl hbW hk ok
  generalize x.src.f = sf at *
  generalize x.src.r = sr at *
  generalize x.src.e.k = sk at *
  generalize x.src.e.n = sn at *
  generalize x.src.e.s = ss at *
  generalize x.src.e.l.length = sl at *
  generalize x.dst.f = df at *
  generalize x.dst.r = dr at *
  generalize x.dst.e.k = dk at *
  generalize x.dst.e.n = dn at *
  generalize x.dst.e.s = ds at *
  generalize x.dst.e.l.length = dl at *
  generalize x.k = k at *
  generalize x.s = s at *
  generalize x.op = op at *
  generalize x.n = n at *
  generalize x.l.length = ll at *
  generalize p.b1 = b1 at *
  generalize p.c1 = c1 at *
  generalize p.b2 = b2 at *
  generalize p.c2 = c2 at *
  generalize p.b3 = b3 at *
  generalize p.c3 = c3 at *
  go_enter Tryz.func13, Tryz.ntmps13
  obtain ⟨y1, hy1⟩ := Sub.step (unhide HZ) (below_new y0.w (.cells #[.int .i64 3, .int .i64 0, .string ⟨#[46, 115, 101, 99, 116]⟩, .int .i64 1, .int .i64 0, .string s] 59))
  have S1 := hide (show OwnT y1.w W.heap.size (.slice (some ⟨y0.w.heap.size, 0, none⟩) 2 2) [(Tk.mk 3 0 ⟨#[46, 115, 101, 99, 116]⟩), (Tk.mk 1 0 s)] by rw [← hy1]; exact ownT_two y0.w (Tk.mk 3 0 ⟨#[46, 115, 101, 99, 116]⟩) (Tk.mk 1 0 s) W.heap.size (Nat.le_trans (unhide HZ) y0.h.size))
  have O1 := hide (unhide S1)
  clear S1
  have l0 : ([(Tk.mk 3 0 ⟨#[46, 115, 101, 99, 116]⟩), (Tk.mk 1 0 s)]).length ≤ 2 := Nat.le_refl 2
  go_wp2_with fail
  refine (unhide MK ⟨#[44]⟩ y1.w).mono ?_
  rintro r w2 ⟨rfl, hb⟩
  have O2 := hide ((unhide O1).later hb)
  clear O1
  obtain ⟨y2, rfl⟩ := Sub.step (unhide HZ) hb
  clear hb
  obtain ⟨y3, hy3⟩ := Sub.step (unhide HZ) (below_new y2.w (.cells #[.int .i64 4, .int .i64 0, .string ⟨#[44]⟩, .int .i64 1, .int .i64 0, .string ⟨#[111, 118, 101, 114]⟩] 59))
  have S3 := hide (show OwnT y3.w W.heap.size (.slice (some ⟨y2.w.heap.size, 0, none⟩) 2 2) [(Tk.mk 4 0 ⟨#[44]⟩), (Tk.mk 1 0 ⟨#[111, 118, 101, 114]⟩)] by rw [← hy3]; exact ownT_two y2.w (Tk.mk 4 0 ⟨#[44]⟩) (Tk.mk 1 0 ⟨#[111, 118, 101, 114]⟩) W.heap.size (Nat.le_trans (unhide HZ) y2.h.size))
  have O3 := hide (show OwnT y3.w W.heap.size (.slice (some ⟨y0.w.heap.size, 0, none⟩) 2 2) [(Tk.mk 3 0 ⟨#[46, 115, 101, 99, 116]⟩), (Tk.mk 1 0 s)] by rw [← hy3]; exact (unhide O2).later (below_new _ _))
  clear O2
  go_wp2_with (at_builtin; go_must (refine appT rfl (.tmp 58) (.tmp 61) rfl (unhide HZ) y3.h rfl (unhide O3) rfl (unhide S3) (two_ne _ _) (lsum l0 (two_le _ _) (by decide)) ?_; intro v4 y4 hO; obtain ⟨u4, hu⟩ : ∃ u, ([(Tk.mk 3 0 ⟨#[46, 115, 101, 99, 116]⟩), (Tk.mk 1 0 s)] ++ [(Tk.mk 4 0 ⟨#[44]⟩), (Tk.mk 1 0 ⟨#[111, 118, 101, 114]⟩)]) = u := ⟨_, rfl⟩; rw [hu] at hO; have l4 := lapp hu l0 (two_le _ _); have O4 := hide hO; have H4 := hide hu; clear hO hu O3 S3))
  have EQ : u4 = T := by
    rw [← unhide HT]
    rw [← unhide H4]
    simp [mkT, mkS]
  rw [EQ] at O4
  go_ret
  exact ⟨_, rfl, unhide HO y4 _ _ (unhide O4), unhide HB y4⟩
set_option maxHeartbeats 8000000 in
theorem ln_6 (x : Ln) (p : La) (w : World) (hr : RdL w x p) (hk : x.k = 6) (ok : x.n ≠ 1) : Calls Tryz.prog 13 #[.agg (x.cs p)] w fun r w' => ∃ v, r = .returned v ∧ OwnT w' w.heap.size v ([⟨3, 0, ⟨#[46, 115, 101, 99, 116]⟩⟩, ⟨1, 0, x.s⟩]) ∧ Below w.heap.size w w' := by
  have hb1 := below_new w (.cells (x.cs p) 37)
  have hb2 := below_new (w.alloc (.cells (x.cs p) 37)) (.cells #[.int .i64 1, .int .i64 0, .string x.s] 59)
  have hbW := hb1.trans (hb2.mono hb1.size)
  obtain ⟨W, hW⟩ : ∃ W, (w.alloc (.cells (x.cs p) 37)).alloc (.cells #[.int .i64 1, .int .i64 0, .string x.s] 59) = W := ⟨_, rfl⟩
  have hrW := hr.later hbW
  have xl : w.heap.size + 1 < W.heap.size := by rw [← hW]; simp
  have xc : ∀ (i : Nat) (v : Value), (x.cs p)[i]? = some v → ∀ w1, Below W.heap.size W w1 → w1.cell? ⟨w.heap.size, i, none⟩ = some v := fun i v h w1 hb => (hb.cell (p := ⟨w.heap.size, i, none⟩) (by show w.heap.size < W.heap.size; omega)).trans (by rw [← hW]; exact (hb2.cell (p := ⟨w.heap.size, i, none⟩) (by simp)).trans (box17 w _ _ i v h))
  have xn : ∀ (i : Nat) (v : Value), (#[.int .i64 1, .int .i64 0, .string x.s] : Array Value)[i]? = some v → ∀ w1, Below W.heap.size W w1 → w1.cell? ⟨w.heap.size + 1, i, none⟩ = some v := fun i v h w1 hb => (hb.cell (p := ⟨w.heap.size + 1, i, none⟩) xl).trans (by rw [← hW]; have := box17 (w.alloc (.cells (x.cs p) 37)) #[.int .i64 1, .int .i64 0, .string x.s] 59 i v h; rw [show (w.alloc (.cells (x.cs p) 37)).heap.size = w.heap.size + 1 by simp] at this; exact this)
  rw [hW] at hbW hrW
  obtain ⟨y0, hy0⟩ : ∃ z : Sub W.heap.size W, (w.alloc (.cells (x.cs p) 37)).alloc (.cells #[.int .i64 1, .int .i64 0, .string x.s] 59) = z.w := ⟨⟨W, Below.refl _ _⟩, hW⟩
  clear hb1 hb2
  have ne := Sub.ne W.heap.size W
  have HZ := hide (Nat.le_refl W.heap.size)
  have HB := hide (fun y : Sub W.heap.size W => hbW.trans (y.h.mono hbW.size))
  have HO := hide (fun (y : Sub W.heap.size W) v ts (h : OwnT y.w W.heap.size v ts) => h.base hbW.size)
  have F0 : ∀ y : Sub W.heap.size W, y.w.cell? ⟨w.heap.size, 0, none⟩ = some (.int .i64 x.k) := fun y => xc 0 _ rfl y.w y.h
  have Y0 := hide (fun w1 (hb : Below W.heap.size W w1) => (show w1.cell? ⟨w.heap.size, 0, none⟩ = some (.int .i64 x.k) from xc 0 _ rfl w1 hb))
  have F1 : ∀ y : Sub W.heap.size W, y.w.cell? ⟨w.heap.size, 1, none⟩ = some (.string x.s) := fun y => xc 1 _ rfl y.w y.h
  have Y1 := hide (fun w1 (hb : Below W.heap.size W w1) => (show w1.cell? ⟨w.heap.size, 1, none⟩ = some (.string x.s) from xc 1 _ rfl w1 hb))
  have F2 : ∀ y : Sub W.heap.size W, y.w.cell? ⟨w.heap.size, 2, none⟩ = some (.int .i64 x.op) := fun y => xc 2 _ rfl y.w y.h
  have Y2 := hide (fun w1 (hb : Below W.heap.size W w1) => (show w1.cell? ⟨w.heap.size, 2, none⟩ = some (.int .i64 x.op) from xc 2 _ rfl w1 hb))
  have F3 : ∀ y : Sub W.heap.size W, y.w.cell? ⟨w.heap.size, 3, none⟩ = some (.int .i64 x.src.f) := fun y => xc 3 _ rfl y.w y.h
  have Y3 := hide (fun w1 (hb : Below W.heap.size W w1) => (show w1.cell? ⟨w.heap.size, 3, none⟩ = some (.int .i64 x.src.f) from xc 3 _ rfl w1 hb))
  have F4 : ∀ y : Sub W.heap.size W, y.w.cell? ⟨w.heap.size, 4, none⟩ = some (.int .i64 x.src.r) := fun y => xc 4 _ rfl y.w y.h
  have Y4 := hide (fun w1 (hb : Below W.heap.size W w1) => (show w1.cell? ⟨w.heap.size, 4, none⟩ = some (.int .i64 x.src.r) from xc 4 _ rfl w1 hb))
  have F5 : ∀ y : Sub W.heap.size W, y.w.cell? ⟨w.heap.size, 5, none⟩ = some (.int .i64 x.src.e.k) := fun y => xc 5 _ rfl y.w y.h
  have Y5 := hide (fun w1 (hb : Below W.heap.size W w1) => (show w1.cell? ⟨w.heap.size, 5, none⟩ = some (.int .i64 x.src.e.k) from xc 5 _ rfl w1 hb))
  have F6 : ∀ y : Sub W.heap.size W, y.w.cell? ⟨w.heap.size, 6, none⟩ = some (.int .i64 x.src.e.n) := fun y => xc 6 _ rfl y.w y.h
  have Y6 := hide (fun w1 (hb : Below W.heap.size W w1) => (show w1.cell? ⟨w.heap.size, 6, none⟩ = some (.int .i64 x.src.e.n) from xc 6 _ rfl w1 hb))
  have F7 : ∀ y : Sub W.heap.size W, y.w.cell? ⟨w.heap.size, 7, none⟩ = some (.string x.src.e.s) := fun y => xc 7 _ rfl y.w y.h
  have Y7 := hide (fun w1 (hb : Below W.heap.size W w1) => (show w1.cell? ⟨w.heap.size, 7, none⟩ = some (.string x.src.e.s) from xc 7 _ rfl w1 hb))
  have F8 : ∀ y : Sub W.heap.size W, y.w.cell? ⟨w.heap.size, 8, none⟩ = some (.slice p.b1 x.src.e.l.length p.c1) := fun y => xc 8 _ rfl y.w y.h
  have Y8 := hide (fun w1 (hb : Below W.heap.size W w1) => (show w1.cell? ⟨w.heap.size, 8, none⟩ = some (.slice p.b1 x.src.e.l.length p.c1) from xc 8 _ rfl w1 hb))
  have F9 : ∀ y : Sub W.heap.size W, y.w.cell? ⟨w.heap.size, 9, none⟩ = some (.int .i64 x.dst.f) := fun y => xc 9 _ rfl y.w y.h
  have Y9 := hide (fun w1 (hb : Below W.heap.size W w1) => (show w1.cell? ⟨w.heap.size, 9, none⟩ = some (.int .i64 x.dst.f) from xc 9 _ rfl w1 hb))
  have F10 : ∀ y : Sub W.heap.size W, y.w.cell? ⟨w.heap.size, 10, none⟩ = some (.int .i64 x.dst.r) := fun y => xc 10 _ rfl y.w y.h
  have Y10 := hide (fun w1 (hb : Below W.heap.size W w1) => (show w1.cell? ⟨w.heap.size, 10, none⟩ = some (.int .i64 x.dst.r) from xc 10 _ rfl w1 hb))
  have F11 : ∀ y : Sub W.heap.size W, y.w.cell? ⟨w.heap.size, 11, none⟩ = some (.int .i64 x.dst.e.k) := fun y => xc 11 _ rfl y.w y.h
  have Y11 := hide (fun w1 (hb : Below W.heap.size W w1) => (show w1.cell? ⟨w.heap.size, 11, none⟩ = some (.int .i64 x.dst.e.k) from xc 11 _ rfl w1 hb))
  have F12 : ∀ y : Sub W.heap.size W, y.w.cell? ⟨w.heap.size, 12, none⟩ = some (.int .i64 x.dst.e.n) := fun y => xc 12 _ rfl y.w y.h
  have Y12 := hide (fun w1 (hb : Below W.heap.size W w1) => (show w1.cell? ⟨w.heap.size, 12, none⟩ = some (.int .i64 x.dst.e.n) from xc 12 _ rfl w1 hb))
  have F13 : ∀ y : Sub W.heap.size W, y.w.cell? ⟨w.heap.size, 13, none⟩ = some (.string x.dst.e.s) := fun y => xc 13 _ rfl y.w y.h
  have Y13 := hide (fun w1 (hb : Below W.heap.size W w1) => (show w1.cell? ⟨w.heap.size, 13, none⟩ = some (.string x.dst.e.s) from xc 13 _ rfl w1 hb))
  have F14 : ∀ y : Sub W.heap.size W, y.w.cell? ⟨w.heap.size, 14, none⟩ = some (.slice p.b2 x.dst.e.l.length p.c2) := fun y => xc 14 _ rfl y.w y.h
  have Y14 := hide (fun w1 (hb : Below W.heap.size W w1) => (show w1.cell? ⟨w.heap.size, 14, none⟩ = some (.slice p.b2 x.dst.e.l.length p.c2) from xc 14 _ rfl w1 hb))
  have F15 : ∀ y : Sub W.heap.size W, y.w.cell? ⟨w.heap.size, 15, none⟩ = some (.int .i64 x.n) := fun y => xc 15 _ rfl y.w y.h
  have Y15 := hide (fun w1 (hb : Below W.heap.size W w1) => (show w1.cell? ⟨w.heap.size, 15, none⟩ = some (.int .i64 x.n) from xc 15 _ rfl w1 hb))
  have F16 : ∀ y : Sub W.heap.size W, y.w.cell? ⟨w.heap.size, 16, none⟩ = some (.slice p.b3 x.l.length p.c3) := fun y => xc 16 _ rfl y.w y.h
  have Y16 := hide (fun w1 (hb : Below W.heap.size W w1) => (show w1.cell? ⟨w.heap.size, 16, none⟩ = some (.slice p.b3 x.l.length p.c3) from xc 16 _ rfl w1 hb))
  have MK := hide (fun x w1 => markS_ex x w1)
  unfold Tk.v Tk.cs at MK
  simp only at MK
  have G0 : ∀ y : Sub W.heap.size W, y.w.cell? ⟨w.heap.size + 1, 0, none⟩ = some (.int .i64 1) := fun y => xn 0 _ rfl y.w y.h
  have X0 := hide (fun w1 (hb : Below W.heap.size W w1) => (show w1.cell? ⟨w.heap.size + 1, 0, none⟩ = some (.int .i64 1) from xn 0 _ rfl w1 hb))
  have G1 : ∀ y : Sub W.heap.size W, y.w.cell? ⟨w.heap.size + 1, 1, none⟩ = some (.int .i64 0) := fun y => xn 1 _ rfl y.w y.h
  have X1 := hide (fun w1 (hb : Below W.heap.size W w1) => (show w1.cell? ⟨w.heap.size + 1, 1, none⟩ = some (.int .i64 0) from xn 1 _ rfl w1 hb))
  have G2 : ∀ y : Sub W.heap.size W, y.w.cell? ⟨w.heap.size + 1, 2, none⟩ = some (.string x.s) := fun y => xn 2 _ rfl y.w y.h
  have X2 := hide (fun w1 (hb : Below W.heap.size W w1) => (show w1.cell? ⟨w.heap.size + 1, 2, none⟩ = some (.string x.s) from xn 2 _ rfl w1 hb))
  rw [hk] at F0
  have okn : (x.n == 1) = false := beq_eq_false_iff_ne.2 ok
  obtain ⟨T, hT⟩ : ∃ T : List Tk, ([⟨3, 0, ⟨#[46, 115, 101, 99, 116]⟩⟩, ⟨1, 0, x.s⟩]) = T := ⟨_, rfl⟩
  have HT := hide hT
  rw [hT]
  clear hT
  unfold Ln.cs at hy0 ⊢
  rw [hk] at hy0 ⊢
  clear hr hrW hW xc xn xl hbW hk ok
  generalize x.src.f = sf at *
  generalize x.src.r = sr at *
  generalize x.src.e.k = sk at *
  generalize x.src.e.n = sn at *
  generalize x.src.e.s = ss at *
  generalize x.src.e.l.length = sl at *
  generalize x.dst.f = df at *
  generalize x.dst.r = dr at *
  generalize x.dst.e.k = dk at *
  generalize x.dst.e.n = dn at *
  generalize x.dst.e.s = ds at *
  generalize x.dst.e.l.length = dl at *
  generalize x.k = k at *
  generalize x.s = s at *
  generalize x.op = op at *
  generalize x.n = n at *
  generalize x.l.length = ll at *
  generalize p.b1 = b1 at *
  generalize p.c1 = c1 at *
  generalize p.b2 = b2 at *
  generalize p.c2 = c2 at *
  generalize p.b3 = b3 at *
  generalize p.c3 = c3 at *
  go_enter Tryz.func13, Tryz.ntmps13
  obtain ⟨y1, hy1⟩ := Sub.step (unhide HZ) (below_new y0.w (.cells #[.int .i64 3, .int .i64 0, .string ⟨#[46, 115, 101, 99, 116]⟩, .int .i64 1, .int .i64 0, .string s] 59))
  have S1 := hide (show OwnT y1.w W.heap.size (.slice (some ⟨y0.w.heap.size, 0, none⟩) 2 2) [(Tk.mk 3 0 ⟨#[46, 115, 101, 99, 116]⟩), (Tk.mk 1 0 s)] by rw [← hy1]; exact ownT_two y0.w (Tk.mk 3 0 ⟨#[46, 115, 101, 99, 116]⟩) (Tk.mk 1 0 s) W.heap.size (Nat.le_trans (unhide HZ) y0.h.size))
  have O1 := hide (unhide S1)
  clear S1
  have l0 : ([(Tk.mk 3 0 ⟨#[46, 115, 101, 99, 116]⟩), (Tk.mk 1 0 s)]).length ≤ 2 := Nat.le_refl 2
  go_wp2_with fail
  have EQ : [(Tk.mk 3 0 ⟨#[46, 115, 101, 99, 116]⟩), (Tk.mk 1 0 s)] = T := unhide HT
  rw [EQ] at O1
  go_ret
  exact ⟨_, rfl, unhide HO y1 _ _ (unhide O1), unhide HB y1⟩
set_option maxHeartbeats 8000000 in
theorem ln_0 (x : Ln) (p : La) (w : World) (hr : RdL w x p) (hk : x.k = 0) (ok : True) : Calls Tryz.prog 13 #[.agg (x.cs p)] w fun r w' => ∃ v, r = .returned v ∧ OwnT w' w.heap.size v ([]) ∧ Below w.heap.size w w' := by
  have hb1 := below_new w (.cells (x.cs p) 37)
  have hb2 := below_new (w.alloc (.cells (x.cs p) 37)) (.cells #[.int .i64 1, .int .i64 0, .string x.s] 59)
  have hbW := hb1.trans (hb2.mono hb1.size)
  obtain ⟨W, hW⟩ : ∃ W, (w.alloc (.cells (x.cs p) 37)).alloc (.cells #[.int .i64 1, .int .i64 0, .string x.s] 59) = W := ⟨_, rfl⟩
  have hrW := hr.later hbW
  have xl : w.heap.size + 1 < W.heap.size := by rw [← hW]; simp
  have xc : ∀ (i : Nat) (v : Value), (x.cs p)[i]? = some v → ∀ w1, Below W.heap.size W w1 → w1.cell? ⟨w.heap.size, i, none⟩ = some v := fun i v h w1 hb => (hb.cell (p := ⟨w.heap.size, i, none⟩) (by show w.heap.size < W.heap.size; omega)).trans (by rw [← hW]; exact (hb2.cell (p := ⟨w.heap.size, i, none⟩) (by simp)).trans (box17 w _ _ i v h))
  have xn : ∀ (i : Nat) (v : Value), (#[.int .i64 1, .int .i64 0, .string x.s] : Array Value)[i]? = some v → ∀ w1, Below W.heap.size W w1 → w1.cell? ⟨w.heap.size + 1, i, none⟩ = some v := fun i v h w1 hb => (hb.cell (p := ⟨w.heap.size + 1, i, none⟩) xl).trans (by rw [← hW]; have := box17 (w.alloc (.cells (x.cs p) 37)) #[.int .i64 1, .int .i64 0, .string x.s] 59 i v h; rw [show (w.alloc (.cells (x.cs p) 37)).heap.size = w.heap.size + 1 by simp] at this; exact this)
  rw [hW] at hbW hrW
  obtain ⟨y0, hy0⟩ : ∃ z : Sub W.heap.size W, (w.alloc (.cells (x.cs p) 37)).alloc (.cells #[.int .i64 1, .int .i64 0, .string x.s] 59) = z.w := ⟨⟨W, Below.refl _ _⟩, hW⟩
  clear hb1 hb2
  have ne := Sub.ne W.heap.size W
  have HZ := hide (Nat.le_refl W.heap.size)
  have HB := hide (fun y : Sub W.heap.size W => hbW.trans (y.h.mono hbW.size))
  have HO := hide (fun (y : Sub W.heap.size W) v ts (h : OwnT y.w W.heap.size v ts) => h.base hbW.size)
  have F0 : ∀ y : Sub W.heap.size W, y.w.cell? ⟨w.heap.size, 0, none⟩ = some (.int .i64 x.k) := fun y => xc 0 _ rfl y.w y.h
  have Y0 := hide (fun w1 (hb : Below W.heap.size W w1) => (show w1.cell? ⟨w.heap.size, 0, none⟩ = some (.int .i64 x.k) from xc 0 _ rfl w1 hb))
  have F1 : ∀ y : Sub W.heap.size W, y.w.cell? ⟨w.heap.size, 1, none⟩ = some (.string x.s) := fun y => xc 1 _ rfl y.w y.h
  have Y1 := hide (fun w1 (hb : Below W.heap.size W w1) => (show w1.cell? ⟨w.heap.size, 1, none⟩ = some (.string x.s) from xc 1 _ rfl w1 hb))
  have F2 : ∀ y : Sub W.heap.size W, y.w.cell? ⟨w.heap.size, 2, none⟩ = some (.int .i64 x.op) := fun y => xc 2 _ rfl y.w y.h
  have Y2 := hide (fun w1 (hb : Below W.heap.size W w1) => (show w1.cell? ⟨w.heap.size, 2, none⟩ = some (.int .i64 x.op) from xc 2 _ rfl w1 hb))
  have F3 : ∀ y : Sub W.heap.size W, y.w.cell? ⟨w.heap.size, 3, none⟩ = some (.int .i64 x.src.f) := fun y => xc 3 _ rfl y.w y.h
  have Y3 := hide (fun w1 (hb : Below W.heap.size W w1) => (show w1.cell? ⟨w.heap.size, 3, none⟩ = some (.int .i64 x.src.f) from xc 3 _ rfl w1 hb))
  have F4 : ∀ y : Sub W.heap.size W, y.w.cell? ⟨w.heap.size, 4, none⟩ = some (.int .i64 x.src.r) := fun y => xc 4 _ rfl y.w y.h
  have Y4 := hide (fun w1 (hb : Below W.heap.size W w1) => (show w1.cell? ⟨w.heap.size, 4, none⟩ = some (.int .i64 x.src.r) from xc 4 _ rfl w1 hb))
  have F5 : ∀ y : Sub W.heap.size W, y.w.cell? ⟨w.heap.size, 5, none⟩ = some (.int .i64 x.src.e.k) := fun y => xc 5 _ rfl y.w y.h
  have Y5 := hide (fun w1 (hb : Below W.heap.size W w1) => (show w1.cell? ⟨w.heap.size, 5, none⟩ = some (.int .i64 x.src.e.k) from xc 5 _ rfl w1 hb))
  have F6 : ∀ y : Sub W.heap.size W, y.w.cell? ⟨w.heap.size, 6, none⟩ = some (.int .i64 x.src.e.n) := fun y => xc 6 _ rfl y.w y.h
  have Y6 := hide (fun w1 (hb : Below W.heap.size W w1) => (show w1.cell? ⟨w.heap.size, 6, none⟩ = some (.int .i64 x.src.e.n) from xc 6 _ rfl w1 hb))
  have F7 : ∀ y : Sub W.heap.size W, y.w.cell? ⟨w.heap.size, 7, none⟩ = some (.string x.src.e.s) := fun y => xc 7 _ rfl y.w y.h
  have Y7 := hide (fun w1 (hb : Below W.heap.size W w1) => (show w1.cell? ⟨w.heap.size, 7, none⟩ = some (.string x.src.e.s) from xc 7 _ rfl w1 hb))
  have F8 : ∀ y : Sub W.heap.size W, y.w.cell? ⟨w.heap.size, 8, none⟩ = some (.slice p.b1 x.src.e.l.length p.c1) := fun y => xc 8 _ rfl y.w y.h
  have Y8 := hide (fun w1 (hb : Below W.heap.size W w1) => (show w1.cell? ⟨w.heap.size, 8, none⟩ = some (.slice p.b1 x.src.e.l.length p.c1) from xc 8 _ rfl w1 hb))
  have F9 : ∀ y : Sub W.heap.size W, y.w.cell? ⟨w.heap.size, 9, none⟩ = some (.int .i64 x.dst.f) := fun y => xc 9 _ rfl y.w y.h
  have Y9 := hide (fun w1 (hb : Below W.heap.size W w1) => (show w1.cell? ⟨w.heap.size, 9, none⟩ = some (.int .i64 x.dst.f) from xc 9 _ rfl w1 hb))
  have F10 : ∀ y : Sub W.heap.size W, y.w.cell? ⟨w.heap.size, 10, none⟩ = some (.int .i64 x.dst.r) := fun y => xc 10 _ rfl y.w y.h
  have Y10 := hide (fun w1 (hb : Below W.heap.size W w1) => (show w1.cell? ⟨w.heap.size, 10, none⟩ = some (.int .i64 x.dst.r) from xc 10 _ rfl w1 hb))
  have F11 : ∀ y : Sub W.heap.size W, y.w.cell? ⟨w.heap.size, 11, none⟩ = some (.int .i64 x.dst.e.k) := fun y => xc 11 _ rfl y.w y.h
  have Y11 := hide (fun w1 (hb : Below W.heap.size W w1) => (show w1.cell? ⟨w.heap.size, 11, none⟩ = some (.int .i64 x.dst.e.k) from xc 11 _ rfl w1 hb))
  have F12 : ∀ y : Sub W.heap.size W, y.w.cell? ⟨w.heap.size, 12, none⟩ = some (.int .i64 x.dst.e.n) := fun y => xc 12 _ rfl y.w y.h
  have Y12 := hide (fun w1 (hb : Below W.heap.size W w1) => (show w1.cell? ⟨w.heap.size, 12, none⟩ = some (.int .i64 x.dst.e.n) from xc 12 _ rfl w1 hb))
  have F13 : ∀ y : Sub W.heap.size W, y.w.cell? ⟨w.heap.size, 13, none⟩ = some (.string x.dst.e.s) := fun y => xc 13 _ rfl y.w y.h
  have Y13 := hide (fun w1 (hb : Below W.heap.size W w1) => (show w1.cell? ⟨w.heap.size, 13, none⟩ = some (.string x.dst.e.s) from xc 13 _ rfl w1 hb))
  have F14 : ∀ y : Sub W.heap.size W, y.w.cell? ⟨w.heap.size, 14, none⟩ = some (.slice p.b2 x.dst.e.l.length p.c2) := fun y => xc 14 _ rfl y.w y.h
  have Y14 := hide (fun w1 (hb : Below W.heap.size W w1) => (show w1.cell? ⟨w.heap.size, 14, none⟩ = some (.slice p.b2 x.dst.e.l.length p.c2) from xc 14 _ rfl w1 hb))
  have F15 : ∀ y : Sub W.heap.size W, y.w.cell? ⟨w.heap.size, 15, none⟩ = some (.int .i64 x.n) := fun y => xc 15 _ rfl y.w y.h
  have Y15 := hide (fun w1 (hb : Below W.heap.size W w1) => (show w1.cell? ⟨w.heap.size, 15, none⟩ = some (.int .i64 x.n) from xc 15 _ rfl w1 hb))
  have F16 : ∀ y : Sub W.heap.size W, y.w.cell? ⟨w.heap.size, 16, none⟩ = some (.slice p.b3 x.l.length p.c3) := fun y => xc 16 _ rfl y.w y.h
  have Y16 := hide (fun w1 (hb : Below W.heap.size W w1) => (show w1.cell? ⟨w.heap.size, 16, none⟩ = some (.slice p.b3 x.l.length p.c3) from xc 16 _ rfl w1 hb))
  have MK := hide (fun x w1 => markS_ex x w1)
  unfold Tk.v Tk.cs at MK
  simp only at MK
  have G0 : ∀ y : Sub W.heap.size W, y.w.cell? ⟨w.heap.size + 1, 0, none⟩ = some (.int .i64 1) := fun y => xn 0 _ rfl y.w y.h
  have X0 := hide (fun w1 (hb : Below W.heap.size W w1) => (show w1.cell? ⟨w.heap.size + 1, 0, none⟩ = some (.int .i64 1) from xn 0 _ rfl w1 hb))
  have G1 : ∀ y : Sub W.heap.size W, y.w.cell? ⟨w.heap.size + 1, 1, none⟩ = some (.int .i64 0) := fun y => xn 1 _ rfl y.w y.h
  have X1 := hide (fun w1 (hb : Below W.heap.size W w1) => (show w1.cell? ⟨w.heap.size + 1, 1, none⟩ = some (.int .i64 0) from xn 1 _ rfl w1 hb))
  have G2 : ∀ y : Sub W.heap.size W, y.w.cell? ⟨w.heap.size + 1, 2, none⟩ = some (.string x.s) := fun y => xn 2 _ rfl y.w y.h
  have X2 := hide (fun w1 (hb : Below W.heap.size W w1) => (show w1.cell? ⟨w.heap.size + 1, 2, none⟩ = some (.string x.s) from xn 2 _ rfl w1 hb))
  rw [hk] at F0
  obtain ⟨T, hT⟩ : ∃ T : List Tk, ([]) = T := ⟨_, rfl⟩
  have HT := hide hT
  rw [hT]
  clear hT
  unfold Ln.cs at hy0 ⊢
  rw [hk] at hy0 ⊢
  clear hr hrW hW xc xn xl hbW hk ok
  generalize x.src.f = sf at *
  generalize x.src.r = sr at *
  generalize x.src.e.k = sk at *
  generalize x.src.e.n = sn at *
  generalize x.src.e.s = ss at *
  generalize x.src.e.l.length = sl at *
  generalize x.dst.f = df at *
  generalize x.dst.r = dr at *
  generalize x.dst.e.k = dk at *
  generalize x.dst.e.n = dn at *
  generalize x.dst.e.s = ds at *
  generalize x.dst.e.l.length = dl at *
  generalize x.k = k at *
  generalize x.s = s at *
  generalize x.op = op at *
  generalize x.n = n at *
  generalize x.l.length = ll at *
  generalize p.b1 = b1 at *
  generalize p.c1 = c1 at *
  generalize p.b2 = b2 at *
  generalize p.c2 = c2 at *
  generalize p.b3 = b3 at *
  generalize p.c3 = c3 at *
  go_enter Tryz.func13, Tryz.ntmps13
  obtain ⟨y1, hy1⟩ := Sub.step (unhide HZ) (below_new y0.w (.cells #[] 59))
  have O1 := hide (show OwnT y1.w W.heap.size (.slice (some ⟨y0.w.heap.size, 0, none⟩) 0 0) [] by rw [← hy1]; exact ownT_empty y0.w W.heap.size (Nat.le_trans (unhide HZ) y0.h.size))
  go_wp2_with fail
  have EQ : [] = T := unhide HT
  rw [EQ] at O1
  go_ret
  exact ⟨_, rfl, unhide HO y1 _ _ (unhide O1), unhide HB y1⟩
end Go.Proofs.YtmhcbehplhfgfaaGreatDoor
