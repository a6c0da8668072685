/- Contracts over this seat's translation, laid together; conditions stand as hypotheses of each. -/
import Derived.Test.YtjnblcgekpgkoaaGreatDoorTqB
namespace Go.Proofs.YtjnblcgekpgkoaaGreatDoor
open Go.ChangeShapes Go.WideShapes Go.ChangeAt Go.RowKit
set_option maxHeartbeats 16000000
set_option linter.unusedVariables false
set_option maxRecDepth 8000
set_option linter.unusedSimpArgs false
theorem inB_of {x a b : Int} (h : inB x a b = true) : a ≤ x ∧ x ≤ b := by
 unfold inB at h
 simpa using h
theorem agtS_any (a : Ag) (b : Option Addr) (cap : Nat) (w : World) (ok : agX a = true) (hr : RdX w 0 a.e b) : Calls Tryz.prog 60 #[.agg (a.cs b cap)] w fun r w' => ∃ v, r = .returned v ∧ OwnT w' w.heap.size v (agT a) ∧ Below w.heap.size w w' := by
 obtain ⟨f, r, e⟩ := a
 unfold agX at ok
 unfold Ag.cs
 simp only at ok hr ⊢
 by_cases h1 : inB f 0 5 = true
 ·
  rw [if_pos h1] at ok
  obtain ⟨h2, _⟩ := Bool.and_eq_true_iff.1 ok
  obtain ⟨q1, q2⟩ := inB_of h2
  obtain ⟨rn, rfl⟩ : ∃ n : Nat, r = (n : Int) := ⟨r.toNat, by omega⟩
  obtain ⟨p1, p2⟩ := inB_of h1
  have hrn : rn < 8 := by omega
  have : f = 0 ∨ f = 1 ∨ f = 2 ∨ f = 3 ∨ f = 4 ∨ f = 5 := by omega
  rcases this with rfl | rfl | rfl | rfl | rfl | rfl
  · exact agt0 rn hrn e trivial b cap w hr
  · exact agt1 rn hrn e trivial b cap w hr
  · exact agt2 rn hrn e trivial b cap w hr
  · exact agt3 rn hrn e trivial b cap w hr
  · exact agt4 rn hrn e trivial b cap w hr
  · exact agt5 rn hrn e trivial b cap w hr
 rw [if_neg h1] at ok
 by_cases h2 : (f == 6 || f == 7) = true
 ·
  rw [if_pos h2] at ok
  obtain ⟨h3, h4⟩ := Bool.and_eq_true_iff.1 ok
  obtain ⟨q1, q2⟩ := inB_of h3
  obtain ⟨rn, rfl⟩ : ∃ n : Nat, r = (n : Int) := ⟨r.toNat, by omega⟩
  have hrn : rn < 8 := by omega
  have : f = 6 ∨ f = 7 := by simpa using h2
  rcases this with rfl | rfl
  · exact agt6 rn hrn e h4 b cap w hr
  · exact agt7 rn hrn e h4 b cap w hr
 rw [if_neg h2] at ok
 by_cases h3 : inB f 8 11 = true
 ·
  rw [if_pos h3] at ok
  obtain ⟨h5, h4⟩ := Bool.and_eq_true_iff.1 ok
  have h5 : r = 0 := by simpa using h5
  subst h5
  obtain ⟨p1, p2⟩ := inB_of h3
  have : f = 8 ∨ f = 9 ∨ f = 10 ∨ f = 11 := by omega
  rcases this with rfl | rfl | rfl | rfl
  · exact agt8 0 (by omega) e h4 b cap w hr
  · exact agt9 0 (by omega) e h4 b cap w hr
  · exact agt10 0 (by omega) e h4 b cap w hr
  · exact agt11 0 (by omega) e h4 b cap w hr
 rw [if_neg h3] at ok
 cases ok
theorem agX_e {a : Ag} (ok : agX a = true) (h : 6 ≤ a.f) : okF 6 true a.e = true := by
 unfold agX at ok
 by_cases h1 : inB a.f 0 5 = true
 · have := inB_of h1; omega
 rw [if_neg h1] at ok
 by_cases h2 : (a.f == 6 || a.f == 7) = true
 · rw [if_pos h2] at ok; exact (Bool.and_eq_true_iff.1 ok).2
 rw [if_neg h2] at ok
 by_cases h3 : inB a.f 8 11 = true
 · rw [if_pos h3] at ok; exact (Bool.and_eq_true_iff.1 ok).2
 rw [if_neg h3] at ok
 cases ok
theorem toks_le {e : Ex} (ok : okF 6 true e = true) : (toksF 6 e).length ≤ 200 := Nat.le_trans (toks_ok 6 e ok).2 (mxT_le 6 (by omega))
theorem agX_f {a : Ag} (ok : agX a = true) : 0 ≤ a.f ∧ a.f ≤ 11 := by
 unfold agX at ok
 by_cases h1 : inB a.f 0 5 = true
 · have := inB_of h1; omega
 rw [if_neg h1] at ok
 by_cases h2 : (a.f == 6 || a.f == 7) = true
 ·
  have : a.f = 6 ∨ a.f = 7 := by simpa using h2
  omega
 rw [if_neg h2] at ok
 by_cases h3 : inB a.f 8 11 = true
 · have := inB_of h3; omega
 rw [if_neg h3] at ok
 cases ok
theorem agT_ok {a : Ag} (ok : agX a = true) : agT a ≠ [] ∧ (agT a).length ≤ 205 := by
 obtain ⟨f1, f2⟩ := agX_f ok
 have hr : (rnT a.r.toNat).length = 3 := rfl
 have hn := rnT_ne a.r.toNat
 by_cases h6 : 6 ≤ a.f
 ·
  have hl := toks_le (agX_e ok h6)
  have ht := toks_ne (agX_e ok h6)
  have : a.f = 6 ∨ a.f = 7 ∨ a.f = 8 ∨ a.f = 9 ∨ a.f = 10 ∨ a.f = 11 := by omega
  rcases this with h | h | h | h | h | h <;> (unfold agT; simp [h, ht, hn]; try omega)
 ·
  have : a.f = 0 ∨ a.f = 1 ∨ a.f = 2 ∨ a.f = 3 ∨ a.f = 4 ∨ a.f = 5 := by omega
  rcases this with h | h | h | h | h | h <;> (unfold agT; simp [h, hn]; try omega)
def cmT : List Ex → List Tk
 | [] => []
 | e :: r => toksF 6 e ++ (r.map fun x => mkT 44 :: toksF 6 x).flatten
def tmT (x : ByteArray) (l : List Ex) : List Tk := ⟨3, 0, x⟩ :: cmT l
theorem cmT_one (l : List Ex) (h : 0 < l.length) : cmT (l.take 1) = toksF 6 (xAt l 0) := by
 cases l with
 | nil => cases h
 | cons e r => simp [cmT, xAt]
theorem cmT_more (l : List Ex) (j : Nat) (h0 : 0 < j) (h : j < l.length) : cmT (l.take (j + 1)) = cmT (l.take j) ++ [mkT 44] ++ toksF 6 (xAt l j) := by
 cases l with
 | nil => cases h
 | cons e r =>
  obtain ⟨i, rfl⟩ : ∃ i, j = i + 1 := ⟨j - 1, by omega⟩
  have hi : i < r.length := by simpa using h
  rw [List.take_succ_cons, List.take_succ_cons, List.take_succ_eq_append_getElem hi]
  have e1 : xAt (e :: r) (i + 1) = r[i] := by
   unfold xAt
   rw [List.getD_eq_getElem?_getD, List.getElem?_cons_succ, List.getElem?_eq_getElem hi]
   rfl
  rw [e1]
  simp only [cmT, List.map_append, List.map_cons, List.map_nil, List.flatten_append, List.flatten_cons, List.flatten_nil, List.append_nil, List.append_assoc, List.cons_append, List.nil_append]
theorem cmT_le (l : List Ex) (ok : l.all (okF 6 true) = true) : ∀ j, j ≤ l.length → (cmT (l.take j)).length ≤ 201 * j := by
 intro j
 induction j with
 | zero => intro _; simp [cmT]
 | succ j ih =>
  intro hj
  have ih := ih (by omega)
  have okj : okF 6 true (xAt l j) = true := List.all_eq_true.1 ok _ (xAt_mem (by omega))
  have hl := toks_le okj
  by_cases h0 : j = 0
  ·
   subst h0
   rw [cmT_one l (by omega)]
   omega
  ·
   rw [cmT_more l j (by omega) (by omega), List.length_append, List.length_append]
   have : [mkT 44].length = 1 := rfl
   omega
theorem tmtS (x : ByteArray) (l : List Ex) (b : Option Addr) (cap : Nat) (W : World) (hr : RdX W 0 ⟨0, 0, E0, l⟩ b) (h6 : l.length ≤ 1000) (ok : l.all (okF 6 true) = true) : Calls Tryz.prog 155 #[.string x, .slice b l.length cap] W fun r w' => ∃ v, r = .returned v ∧ OwnT w' W.heap.size v (tmT x l) ∧ Below W.heap.size W w' := by
 rw [RdX_eq] at hr
 have OKJ := hide (fun j (hj : j < l.length) => (show okF 6 true (xAt l j) = true from List.all_eq_true.1 ok _ (xAt_mem hj)))
 have C1 := hide (cmT_one l)
 have C2 := hide (cmT_more l)
 have CL := hide (cmT_le l ok)
 have CE := hide (show tmT x l = Tk.mk 3 0 x :: cmT (l.take l.length) by rw [List.take_length]; rfl)
 obtain ⟨len, hl⟩ : ∃ len, l.length = len := ⟨_, rfl⟩
 rw [hl] at h6 OKJ C1 C2 CL CE ⊢
 have ne := Sub.ne W.heap.size W
 have HZ := hide (Nat.le_refl W.heap.size)
 have HB := hide (fun y : Sub W.heap.size W => y.h)
 have MK := hide (fun x w1 => markS_ex x w1)
 unfold Tk.v Tk.cs at MK
 simp only at MK
 obtain ⟨T, hT⟩ : ∃ T, tmT x l = T := ⟨_, rfl⟩
 rw [hT] at CE ⊢
 clear hT
 obtain ⟨y1, hy1⟩ : ∃ y1 : Sub W.heap.size W, W.alloc (.cells #[.int .i64 3, .int .i64 0, .string x] 71) = y1.w := ⟨⟨_, below_new _ _⟩, rfl⟩
 have O1 := hide (show OwnT y1.w W.heap.size (.slice (some ⟨W.heap.size, 0, none⟩) 1 1) [Tk.mk 3 0 x] by rw [← hy1]; exact ownT_new W (Tk.mk 3 0 x) W.heap.size (uh HZ))
 clear ok
 go_enter Tryz.func155, Tryz.ntmps155
 go_wp2
 go_loopw [5, 6] (fun o i wr => ∃ (j : Nat) (z : Sub W.heap.size W), j ≤ len ∧ i = .int .i64 j ∧ OwnT z.w W.heap.size o (Tk.mk 3 0 x :: cmT (l.take j)) ∧ wr = z.w) (fun _ i _ => len - (intOf i).toNat)
 case atStart => exact ⟨0, y1, Nat.zero_le _, rfl, uh O1, rfl⟩
 case round =>
  obtain ⟨j, y2, hj, rfl, hO, rfl⟩ := hrel
  have O2 := hide hO
  clear hO O1 hy1
  by_cases hlt : j < len
  ·
   rcases hr with h0 | ⟨p1, po, hb1, _, hp1, hpc⟩
   ·
    have h0 : l = [] := h0
    rw [h0] at hl; simp at hl; omega
   subst hb1
   obtain ⟨e0, e1, e2, pc, pp, e3, e4⟩ := hpc j (show j < l.length by omega)
   have d0 : ∀ y : Sub W.heap.size W, y.w.cell? ⟨p1, po + j * 4, none⟩ = some (.int .i64 (xAt l j).k) := fun y => (y.h.cell (p := ⟨p1, _, none⟩) hp1).trans e0
   have d1 : ∀ y : Sub W.heap.size W, y.w.cell? ⟨p1, po + j * 4 + 1, none⟩ = some (.int .i64 (xAt l j).n) := fun y => (y.h.cell (p := ⟨p1, _, none⟩) hp1).trans e1
   have d2 : ∀ y : Sub W.heap.size W, y.w.cell? ⟨p1, po + j * 4 + 2, none⟩ = some (.string (xAt l j).s) := fun y => (y.h.cell (p := ⟨p1, _, none⟩) hp1).trans e2
   have d3 : ∀ y : Sub W.heap.size W, y.w.cell? ⟨p1, po + j * 4 + 3, none⟩ = some (.slice pc (xAt l j).l.length pp) := fun y => (y.h.cell (p := ⟨p1, _, none⟩) hp1).trans e3
   have okj := uh OKJ j hlt
   have TE := hide (fun y : Sub W.heap.size W => toksS_all 6 (by omega) (xAt l j) pc pp y.w okj ((show RdX W 0 (xAt l j) pc from e4).later y.h))
   have tne := toks_ne okj
   have tle := toks_le okj
   have C1 := hide (fun (h : j = 0) => (show cmT (l.take (j + 1)) = toksF 6 (xAt l j) by subst h; exact uh C1 (by omega)))
   have C2 := hide (fun (h : 0 < j) => uh C2 j h hlt)
   have cl := uh CL j hj
   clear e0 e1 e2 e3 e4 hpc okj OKJ CL
   unfold Ex.cs at TE
   generalize toksF 6 (xAt l j) = te at *
   generalize (xAt l j).s = ss at *
   generalize (xAt l j).k = kk at *
   generalize (xAt l j).n = nn at *
   generalize (xAt l j).l.length = ll at *
   by_cases hj0 : j = 0
   ·
    subst hj0
    simp only [Nat.zero_mul, Nat.add_zero] at d0 d1 d2 d3
    have l2 : [Tk.mk 3 0 x].length ≤ 1 := Nat.le_refl 1
    have EE := hide (uh C1 rfl)
    rw [show cmT (l.take 0) = [] by simp [cmT]] at O2
    clear C1 C2 cl
    go_wp2_with fail
    refine (uh TE y2).mono ?_
    rintro r w3 ⟨vs, rfl, hS, hb⟩
    have O3 := hide ((uh O2).later hb)
    clear O2
    obtain ⟨y3, rfl⟩ := Sub.step (uh HZ) hb
    clear hb
    have SR := hide hS
    clear hS
    go_wp2_with (at_builtin; go_must (refine appT rfl (.tmp 22) (.tmp 27) rfl (uh HZ) y3.h rfl (uh O3) rfl (uh SR) tne (lsum l2 tle (by decide)) ?_; intro v4 y4 hO; obtain ⟨u4, hu⟩ : ∃ u, ([Tk.mk 3 0 x] ++ te) = u := ⟨_, rfl⟩; rw [hu] at hO; have l4 := lapp hu l2 tle; have O4 := hide hO; have H4 := hide hu; clear hO hu O3 SR))
    have EQ : u4 = Tk.mk 3 0 x :: cmT (l.take (0 + 1)) := by
     rw [uh EE]
     rw [← uh H4]
     simp [mkT, mkS]
    rw [EQ] at O4
    go_roundw
    case rel => exact ⟨0 + 1, y4, by omega, by go_num, uh O4, rfl⟩
    case measure => simp [intOf]; omega
   ·
    have hj1 : 0 < j := by omega
    have hj2 : (0 : Int) < (j : Int) := by omega
    have hj3 : ¬ ((j : Int) ≤ 0) := by omega
    have EE := hide (uh C2 hj1)
    clear C1 C2
    generalize cmT (l.take j) = cm at *
    have l2 : (Tk.mk 3 0 x :: cm).length ≤ 201201 := by simp only [List.length_cons]; omega
    clear cl
    go_wp2_with fail
    refine (uh MK ⟨#[44]⟩ y2.w).mono ?_
    rintro r w3 ⟨rfl, hb⟩
    have O3 := hide ((uh O2).later hb)
    clear O2
    obtain ⟨y3, rfl⟩ := Sub.step (uh HZ) hb
    clear hb
    obtain ⟨y4, hy4⟩ := Sub.step (uh HZ) (below_new y3.w (.cells #[.int .i64 4, .int .i64 0, .string ⟨#[44]⟩] 71))
    have S4 := hide (show OwnT y4.w W.heap.size (.slice (some ⟨y3.w.heap.size, 0, none⟩) 1 1) [(Tk.mk 4 0 ⟨#[44]⟩)] by rw [← hy4]; exact ownT_new y3.w (Tk.mk 4 0 ⟨#[44]⟩) W.heap.size (Nat.le_trans (uh HZ) y3.h.size))
    have O4 := hide (show OwnT y4.w W.heap.size (_) (Tk.mk 3 0 x :: cm) by rw [← hy4]; exact (uh O3).later (below_new _ _))
    clear O3
    go_wp2_with (at_builtin; go_must (refine appT rfl (.tmp 18) (.tmp 20) rfl (uh HZ) y4.h rfl (uh O4) rfl (uh S4) (one_ne _) (lsum l2 (one_le _) (by decide)) ?_; intro v5 y5 hO; obtain ⟨u5, hu⟩ : ∃ u, ((Tk.mk 3 0 x :: cm) ++ [(Tk.mk 4 0 ⟨#[44]⟩)]) = u := ⟨_, rfl⟩; rw [hu] at hO; have l5 := lapp hu l2 (one_le _); have O5 := hide hO; have H5 := hide hu; clear hO hu O4 S4))
    refine (uh TE y5).mono ?_
    rintro r w6 ⟨vs, rfl, hS, hb⟩
    have O6 := hide ((uh O5).later hb)
    clear O5
    obtain ⟨y6, rfl⟩ := Sub.step (uh HZ) hb
    clear hb
    have SR := hide hS
    clear hS
    go_wp2_with (at_builtin; go_must (refine appT rfl (.tmp 22) (.tmp 27) rfl (uh HZ) y6.h rfl (uh O6) rfl (uh SR) tne (lsum l5 tle (by decide)) ?_; intro v7 y7 hO; obtain ⟨u7, hu⟩ : ∃ u, (u5 ++ te) = u := ⟨_, rfl⟩; rw [hu] at hO; have l7 := lapp hu l5 tle; have O7 := hide hO; have H7 := hide hu; clear hO hu O6 SR))
    have EQ : u7 = Tk.mk 3 0 x :: cmT (l.take (j + 1)) := by
     rw [uh EE]
     rw [← uh H7, ← uh H5]
     simp [mkT, mkS]
    rw [EQ] at O7
    go_roundw
    case rel => exact ⟨j + 1, y7, by omega, by go_num, uh O7, rfl⟩
    case measure => simp [intOf]; omega
  ·
   obtain rfl : j = len := by omega
   have O3 := hide (uh O2)
   rw [← uh CE] at O3
   clear C1 C2 CL OKJ
   go_wp2
   go_ret
   exact ⟨_, rfl, uh O3, uh HB _⟩
theorem two_ne (t u : Tk) : [t, u] ≠ [] := by simp
theorem two_le (t u : Tk) : [t, u].length ≤ 2 := Nat.le_refl 2
def insT (x : Ln) : List Tk :=
 kpT (x.op - 1).toNat :: (if x.op ≤ 6 then agT x.src ++ mkT 44 :: agT x.dst else if x.op ≤ 14 then agT x.dst
  else if x.op = 15 then rgT x.n.toNat :: mkT 44 :: agT x.dst else if x.op = 16 then [rgT x.n.toNat] else if x.op = 22 then [] else toksF 6 (xAt x.l 0))
theorem ins_a (x : Ln) (p : La) (w : World) (hr : RdL w x p) (hop : 1 ≤ x.op ∧ x.op ≤ 6) (ok : agX x.src = true ∧ agX x.dst = true) : Calls Tryz.prog 154 #[.agg (x.cs p)] w fun r w' => ∃ v, r = .returned v ∧ OwnT w' w.heap.size v (kpT (x.op - 1).toNat :: (agT x.src ++ mkT 44 :: agT x.dst)) ∧ Below w.heap.size w w' := by
 have hbW := below_new w (.cells (x.cs p) 30)
 obtain ⟨W, hW⟩ : ∃ W, w.alloc (.cells (x.cs p) 30) = W := ⟨_, rfl⟩
 have hrW := hr.later hbW
 have xl : w.heap.size < W.heap.size := by rw [← hW]; simp
 have xc : ∀ (i : Nat) (v : Value), (x.cs p)[i]? = some v → ∀ w1, Below W.heap.size W w1 → w1.cell? ⟨w.heap.size, i, none⟩ = some v := fun i v h w1 hb => (hb.cell (p := ⟨w.heap.size, i, none⟩) xl).trans (by rw [← hW]; exact box17 w _ _ i v h)
 rw [hW] at hbW hrW
 obtain ⟨y0, hy0⟩ : ∃ z : Sub W.heap.size W, w.alloc (.cells (x.cs p) 30) = z.w := ⟨⟨W, Below.refl _ _⟩, hW⟩
 have ne := Sub.ne W.heap.size W
 have HZ := hide (Nat.le_refl W.heap.size)
 have HB := hide (fun y : Sub W.heap.size W => hbW.trans (y.h.mono hbW.size))
 have HO := hide (fun (y : Sub W.heap.size W) v ts (h : OwnT y.w W.heap.size v ts) => h.base hbW.size)
 have F0 : ∀ y : Sub W.heap.size W, y.w.cell? ⟨w.heap.size, 0, none⟩ = some (.int .i64 x.k) := fun y => xc 0 _ rfl y.w y.h
 have Y0 := hide (fun w1 (hb : Below W.heap.size W w1) => (show w1.cell? ⟨w.heap.size, 0, none⟩ = some (.int .i64 x.k) from xc 0 _ rfl w1 hb))
 have F1 : ∀ y : Sub W.heap.size W, y.w.cell? ⟨w.heap.size, 1, none⟩ = some (.string x.s) := fun y => xc 1 _ rfl y.w y.h
 have Y1 := hide (fun w1 (hb : Below W.heap.size W w1) => (show w1.cell? ⟨w.heap.size, 1, none⟩ = some (.string x.s) from xc 1 _ rfl w1 hb))
 have F2 : ∀ y : Sub W.heap.size W, y.w.cell? ⟨w.heap.size, 2, none⟩ = some (.int .i64 x.op) := fun y => xc 2 _ rfl y.w y.h
 have Y2 := hide (fun w1 (hb : Below W.heap.size W w1) => (show w1.cell? ⟨w.heap.size, 2, none⟩ = some (.int .i64 x.op) from xc 2 _ rfl w1 hb))
 have F3 : ∀ y : Sub W.heap.size W, y.w.cell? ⟨w.heap.size, 3, none⟩ = some (.int .i64 x.src.f) := fun y => xc 3 _ rfl y.w y.h
 have Y3 := hide (fun w1 (hb : Below W.heap.size W w1) => (show w1.cell? ⟨w.heap.size, 3, none⟩ = some (.int .i64 x.src.f) from xc 3 _ rfl w1 hb))
 have F4 : ∀ y : Sub W.heap.size W, y.w.cell? ⟨w.heap.size, 4, none⟩ = some (.int .i64 x.src.r) := fun y => xc 4 _ rfl y.w y.h
 have Y4 := hide (fun w1 (hb : Below W.heap.size W w1) => (show w1.cell? ⟨w.heap.size, 4, none⟩ = some (.int .i64 x.src.r) from xc 4 _ rfl w1 hb))
 have F5 : ∀ y : Sub W.heap.size W, y.w.cell? ⟨w.heap.size, 5, none⟩ = some (.int .i64 x.src.e.k) := fun y => xc 5 _ rfl y.w y.h
 have Y5 := hide (fun w1 (hb : Below W.heap.size W w1) => (show w1.cell? ⟨w.heap.size, 5, none⟩ = some (.int .i64 x.src.e.k) from xc 5 _ rfl w1 hb))
 have F6 : ∀ y : Sub W.heap.size W, y.w.cell? ⟨w.heap.size, 6, none⟩ = some (.int .i64 x.src.e.n) := fun y => xc 6 _ rfl y.w y.h
 have Y6 := hide (fun w1 (hb : Below W.heap.size W w1) => (show w1.cell? ⟨w.heap.size, 6, none⟩ = some (.int .i64 x.src.e.n) from xc 6 _ rfl w1 hb))
 have F7 : ∀ y : Sub W.heap.size W, y.w.cell? ⟨w.heap.size, 7, none⟩ = some (.string x.src.e.s) := fun y => xc 7 _ rfl y.w y.h
 have Y7 := hide (fun w1 (hb : Below W.heap.size W w1) => (show w1.cell? ⟨w.heap.size, 7, none⟩ = some (.string x.src.e.s) from xc 7 _ rfl w1 hb))
 have F8 : ∀ y : Sub W.heap.size W, y.w.cell? ⟨w.heap.size, 8, none⟩ = some (.slice p.b1 x.src.e.l.length p.c1) := fun y => xc 8 _ rfl y.w y.h
 have Y8 := hide (fun w1 (hb : Below W.heap.size W w1) => (show w1.cell? ⟨w.heap.size, 8, none⟩ = some (.slice p.b1 x.src.e.l.length p.c1) from xc 8 _ rfl w1 hb))
 have F9 : ∀ y : Sub W.heap.size W, y.w.cell? ⟨w.heap.size, 9, none⟩ = some (.int .i64 x.dst.f) := fun y => xc 9 _ rfl y.w y.h
 have Y9 := hide (fun w1 (hb : Below W.heap.size W w1) => (show w1.cell? ⟨w.heap.size, 9, none⟩ = some (.int .i64 x.dst.f) from xc 9 _ rfl w1 hb))
 have F10 : ∀ y : Sub W.heap.size W, y.w.cell? ⟨w.heap.size, 10, none⟩ = some (.int .i64 x.dst.r) := fun y => xc 10 _ rfl y.w y.h
 have Y10 := hide (fun w1 (hb : Below W.heap.size W w1) => (show w1.cell? ⟨w.heap.size, 10, none⟩ = some (.int .i64 x.dst.r) from xc 10 _ rfl w1 hb))
 have F11 : ∀ y : Sub W.heap.size W, y.w.cell? ⟨w.heap.size, 11, none⟩ = some (.int .i64 x.dst.e.k) := fun y => xc 11 _ rfl y.w y.h
 have Y11 := hide (fun w1 (hb : Below W.heap.size W w1) => (show w1.cell? ⟨w.heap.size, 11, none⟩ = some (.int .i64 x.dst.e.k) from xc 11 _ rfl w1 hb))
 have F12 : ∀ y : Sub W.heap.size W, y.w.cell? ⟨w.heap.size, 12, none⟩ = some (.int .i64 x.dst.e.n) := fun y => xc 12 _ rfl y.w y.h
 have Y12 := hide (fun w1 (hb : Below W.heap.size W w1) => (show w1.cell? ⟨w.heap.size, 12, none⟩ = some (.int .i64 x.dst.e.n) from xc 12 _ rfl w1 hb))
 have F13 : ∀ y : Sub W.heap.size W, y.w.cell? ⟨w.heap.size, 13, none⟩ = some (.string x.dst.e.s) := fun y => xc 13 _ rfl y.w y.h
 have Y13 := hide (fun w1 (hb : Below W.heap.size W w1) => (show w1.cell? ⟨w.heap.size, 13, none⟩ = some (.string x.dst.e.s) from xc 13 _ rfl w1 hb))
 have F14 : ∀ y : Sub W.heap.size W, y.w.cell? ⟨w.heap.size, 14, none⟩ = some (.slice p.b2 x.dst.e.l.length p.c2) := fun y => xc 14 _ rfl y.w y.h
 have Y14 := hide (fun w1 (hb : Below W.heap.size W w1) => (show w1.cell? ⟨w.heap.size, 14, none⟩ = some (.slice p.b2 x.dst.e.l.length p.c2) from xc 14 _ rfl w1 hb))
 have F15 : ∀ y : Sub W.heap.size W, y.w.cell? ⟨w.heap.size, 15, none⟩ = some (.int .i64 x.n) := fun y => xc 15 _ rfl y.w y.h
 have Y15 := hide (fun w1 (hb : Below W.heap.size W w1) => (show w1.cell? ⟨w.heap.size, 15, none⟩ = some (.int .i64 x.n) from xc 15 _ rfl w1 hb))
 have F16 : ∀ y : Sub W.heap.size W, y.w.cell? ⟨w.heap.size, 16, none⟩ = some (.slice p.b3 x.l.length p.c3) := fun y => xc 16 _ rfl y.w y.h
 have Y16 := hide (fun w1 (hb : Below W.heap.size W w1) => (show w1.cell? ⟨w.heap.size, 16, none⟩ = some (.slice p.b3 x.l.length p.c3) from xc 16 _ rfl w1 hb))
 have MK := hide (fun x w1 => markS_ex x w1)
 unfold Tk.v Tk.cs at MK
 simp only at MK
 have KP' := fun w1 => keptS (x.op - 1).toNat (by omega) w1
 rw [show (((x.op - 1).toNat : Nat) : Int) = x.op - 1 by omega] at KP'
 have KP := hide KP'
 clear KP'
 unfold kpT Tk.v Tk.cs at KP
 simp only at KP
 have hwr : IntKind.i64.wrap (x.op - 1) = x.op - 1 := by rw [IntKind.wrap_i64]; omega
 have o1 : x.op ≤ 6 := hop.2
 have A1 := hide (fun y : Sub W.heap.size W => agtS_any x.src p.b1 p.c1 y.w ok.1 (hrW.a.later y.h))
 obtain ⟨sne, sle⟩ := agT_ok ok.1
 unfold Ag.cs at A1
 generalize agT x.src = ta at *
 have A2 := hide (fun y : Sub W.heap.size W => agtS_any x.dst p.b2 p.c2 y.w ok.2 (hrW.b.later y.h))
 obtain ⟨dne, dle⟩ := agT_ok ok.2
 unfold Ag.cs at A2
 generalize agT x.dst = td at *
 obtain ⟨T, hT⟩ : ∃ T, (kpT (x.op - 1).toNat :: (ta ++ mkT 44 :: td)) = T := ⟨_, rfl⟩
 have HT := hide hT
 rw [hT]
 clear hT
 unfold kpT at HT
 generalize keptL.getD (x.op - 1).toNat E0 = ks at *
 unfold Ln.cs at hy0 ⊢
 clear hr hrW hW xc xl hbW ok hop
 generalize x.src.f = sf at *
 generalize x.src.r = sr at *
 generalize x.src.e.k = sk at *
 generalize x.src.e.n = sn at *
 generalize x.src.e.s = ss at *
 generalize x.src.e.l.length = sl at *
 generalize x.dst.f = df at *
 generalize x.dst.r = dr at *
 generalize x.dst.e.k = dk at *
 generalize x.dst.e.n = dn at *
 generalize x.dst.e.s = ds at *
 generalize x.dst.e.l.length = dl at *
 generalize x.k = k at *
 generalize x.s = s at *
 generalize x.op = op at *
 generalize x.n = n at *
 generalize x.l.length = ll at *
 generalize p.b1 = b1 at *
 generalize p.c1 = c1 at *
 generalize p.b2 = b2 at *
 generalize p.c2 = c2 at *
 generalize p.b3 = b3 at *
 generalize p.c3 = c3 at *
 go_enter Tryz.func154, Tryz.ntmps154
 go_wp2_with fail
 refine (uh KP y0.w).mono ?_
 rintro r w1 ⟨rfl, hb⟩
 obtain ⟨y1, rfl⟩ := Sub.step (uh HZ) hb
 clear hb
 obtain ⟨y2, hy2⟩ := Sub.step (uh HZ) (below_new y1.w (.cells #[.int .i64 5, .int .i64 0, .string ks] 71))
 have S2 := hide (show OwnT y2.w W.heap.size (.slice (some ⟨y1.w.heap.size, 0, none⟩) 1 1) [Tk.mk 5 0 ks] by rw [← hy2]; exact ownT_new y1.w (Tk.mk 5 0 ks) W.heap.size (Nat.le_trans (uh HZ) y1.h.size))
 have O2 := hide (uh S2)
 clear S2
 have l0 : [Tk.mk 5 0 ks].length ≤ 1 := Nat.le_refl 1
 go_wp2_with fail
 refine (uh A1 y2).mono ?_
 rintro r w3 ⟨vs, rfl, hS, hb⟩
 have O3 := hide ((uh O2).later hb)
 clear O2
 obtain ⟨y3, rfl⟩ := Sub.step (uh HZ) hb
 clear hb
 have SR := hide hS
 clear hS
 go_wp2_with (at_builtin; go_must (refine appT rfl (.tmp 13) (.tmp 16) rfl (uh HZ) y3.h rfl (uh O3) rfl (uh SR) sne (lsum l0 sle (by decide)) ?_; intro v4 y4 hO; obtain ⟨u4, hu⟩ : ∃ u, ([Tk.mk 5 0 ks] ++ ta) = u := ⟨_, rfl⟩; rw [hu] at hO; have l4 := lapp hu l0 sle; have O4 := hide hO; have H4 := hide hu; clear hO hu O3 SR))
 refine (uh MK ⟨#[44]⟩ y4.w).mono ?_
 rintro r w5 ⟨rfl, hb⟩
 have O5 := hide ((uh O4).later hb)
 clear O4
 obtain ⟨y5, rfl⟩ := Sub.step (uh HZ) hb
 clear hb
 obtain ⟨y6, hy6⟩ := Sub.step (uh HZ) (below_new y5.w (.cells #[.int .i64 4, .int .i64 0, .string ⟨#[44]⟩] 71))
 have S6 := hide (show OwnT y6.w W.heap.size (.slice (some ⟨y5.w.heap.size, 0, none⟩) 1 1) [(Tk.mk 4 0 ⟨#[44]⟩)] by rw [← hy6]; exact ownT_new y5.w (Tk.mk 4 0 ⟨#[44]⟩) W.heap.size (Nat.le_trans (uh HZ) y5.h.size))
 have O6 := hide (show OwnT y6.w W.heap.size (v4) u4 by rw [← hy6]; exact (uh O5).later (below_new _ _))
 clear O5
 go_wp2_with (at_builtin; go_must (refine appT rfl (.tmp 17) (.tmp 19) rfl (uh HZ) y6.h rfl (uh O6) rfl (uh S6) (one_ne _) (lsum l4 (one_le _) (by decide)) ?_; intro v7 y7 hO; obtain ⟨u7, hu⟩ : ∃ u, (u4 ++ [(Tk.mk 4 0 ⟨#[44]⟩)]) = u := ⟨_, rfl⟩; rw [hu] at hO; have l7 := lapp hu l4 (one_le _); have O7 := hide hO; have H7 := hide hu; clear hO hu O6 S6))
 refine (uh A2 y7).mono ?_
 rintro r w8 ⟨vs, rfl, hS, hb⟩
 have O8 := hide ((uh O7).later hb)
 clear O7
 obtain ⟨y8, rfl⟩ := Sub.step (uh HZ) hb
 clear hb
 have SR := hide hS
 clear hS
 go_wp2_with (at_builtin; go_must (refine appT rfl (.tmp 21) (.tmp 24) rfl (uh HZ) y8.h rfl (uh O8) rfl (uh SR) dne (lsum l7 dle (by decide)) ?_; intro v9 y9 hO; obtain ⟨u9, hu⟩ : ∃ u, (u7 ++ td) = u := ⟨_, rfl⟩; rw [hu] at hO; have l9 := lapp hu l7 dle; have O9 := hide hO; have H9 := hide hu; clear hO hu O8 SR))
 have EQ : u9 = T := by
  rw [← uh HT]
  rw [← uh H9, ← uh H7, ← uh H4]
  simp [mkT, mkS]
 rw [EQ] at O9
 go_ret
 exact ⟨_, rfl, uh HO y9 _ _ (uh O9), uh HB y9⟩
theorem ins_b (x : Ln) (p : La) (w : World) (hr : RdL w x p) (hop : 7 ≤ x.op ∧ x.op ≤ 14) (ok : agX x.dst = true) : Calls Tryz.prog 154 #[.agg (x.cs p)] w fun r w' => ∃ v, r = .returned v ∧ OwnT w' w.heap.size v (kpT (x.op - 1).toNat :: agT x.dst) ∧ Below w.heap.size w w' := by
 have hbW := below_new w (.cells (x.cs p) 30)
 obtain ⟨W, hW⟩ : ∃ W, w.alloc (.cells (x.cs p) 30) = W := ⟨_, rfl⟩
 have hrW := hr.later hbW
 have xl : w.heap.size < W.heap.size := by rw [← hW]; simp
 have xc : ∀ (i : Nat) (v : Value), (x.cs p)[i]? = some v → ∀ w1, Below W.heap.size W w1 → w1.cell? ⟨w.heap.size, i, none⟩ = some v := fun i v h w1 hb => (hb.cell (p := ⟨w.heap.size, i, none⟩) xl).trans (by rw [← hW]; exact box17 w _ _ i v h)
 rw [hW] at hbW hrW
 obtain ⟨y0, hy0⟩ : ∃ z : Sub W.heap.size W, w.alloc (.cells (x.cs p) 30) = z.w := ⟨⟨W, Below.refl _ _⟩, hW⟩
 have ne := Sub.ne W.heap.size W
 have HZ := hide (Nat.le_refl W.heap.size)
 have HB := hide (fun y : Sub W.heap.size W => hbW.trans (y.h.mono hbW.size))
 have HO := hide (fun (y : Sub W.heap.size W) v ts (h : OwnT y.w W.heap.size v ts) => h.base hbW.size)
 have F0 : ∀ y : Sub W.heap.size W, y.w.cell? ⟨w.heap.size, 0, none⟩ = some (.int .i64 x.k) := fun y => xc 0 _ rfl y.w y.h
 have Y0 := hide (fun w1 (hb : Below W.heap.size W w1) => (show w1.cell? ⟨w.heap.size, 0, none⟩ = some (.int .i64 x.k) from xc 0 _ rfl w1 hb))
 have F1 : ∀ y : Sub W.heap.size W, y.w.cell? ⟨w.heap.size, 1, none⟩ = some (.string x.s) := fun y => xc 1 _ rfl y.w y.h
 have Y1 := hide (fun w1 (hb : Below W.heap.size W w1) => (show w1.cell? ⟨w.heap.size, 1, none⟩ = some (.string x.s) from xc 1 _ rfl w1 hb))
 have F2 : ∀ y : Sub W.heap.size W, y.w.cell? ⟨w.heap.size, 2, none⟩ = some (.int .i64 x.op) := fun y => xc 2 _ rfl y.w y.h
 have Y2 := hide (fun w1 (hb : Below W.heap.size W w1) => (show w1.cell? ⟨w.heap.size, 2, none⟩ = some (.int .i64 x.op) from xc 2 _ rfl w1 hb))
 have F3 : ∀ y : Sub W.heap.size W, y.w.cell? ⟨w.heap.size, 3, none⟩ = some (.int .i64 x.src.f) := fun y => xc 3 _ rfl y.w y.h
 have Y3 := hide (fun w1 (hb : Below W.heap.size W w1) => (show w1.cell? ⟨w.heap.size, 3, none⟩ = some (.int .i64 x.src.f) from xc 3 _ rfl w1 hb))
 have F4 : ∀ y : Sub W.heap.size W, y.w.cell? ⟨w.heap.size, 4, none⟩ = some (.int .i64 x.src.r) := fun y => xc 4 _ rfl y.w y.h
 have Y4 := hide (fun w1 (hb : Below W.heap.size W w1) => (show w1.cell? ⟨w.heap.size, 4, none⟩ = some (.int .i64 x.src.r) from xc 4 _ rfl w1 hb))
 have F5 : ∀ y : Sub W.heap.size W, y.w.cell? ⟨w.heap.size, 5, none⟩ = some (.int .i64 x.src.e.k) := fun y => xc 5 _ rfl y.w y.h
 have Y5 := hide (fun w1 (hb : Below W.heap.size W w1) => (show w1.cell? ⟨w.heap.size, 5, none⟩ = some (.int .i64 x.src.e.k) from xc 5 _ rfl w1 hb))
 have F6 : ∀ y : Sub W.heap.size W, y.w.cell? ⟨w.heap.size, 6, none⟩ = some (.int .i64 x.src.e.n) := fun y => xc 6 _ rfl y.w y.h
 have Y6 := hide (fun w1 (hb : Below W.heap.size W w1) => (show w1.cell? ⟨w.heap.size, 6, none⟩ = some (.int .i64 x.src.e.n) from xc 6 _ rfl w1 hb))
 have F7 : ∀ y : Sub W.heap.size W, y.w.cell? ⟨w.heap.size, 7, none⟩ = some (.string x.src.e.s) := fun y => xc 7 _ rfl y.w y.h
 have Y7 := hide (fun w1 (hb : Below W.heap.size W w1) => (show w1.cell? ⟨w.heap.size, 7, none⟩ = some (.string x.src.e.s) from xc 7 _ rfl w1 hb))
 have F8 : ∀ y : Sub W.heap.size W, y.w.cell? ⟨w.heap.size, 8, none⟩ = some (.slice p.b1 x.src.e.l.length p.c1) := fun y => xc 8 _ rfl y.w y.h
 have Y8 := hide (fun w1 (hb : Below W.heap.size W w1) => (show w1.cell? ⟨w.heap.size, 8, none⟩ = some (.slice p.b1 x.src.e.l.length p.c1) from xc 8 _ rfl w1 hb))
 have F9 : ∀ y : Sub W.heap.size W, y.w.cell? ⟨w.heap.size, 9, none⟩ = some (.int .i64 x.dst.f) := fun y => xc 9 _ rfl y.w y.h
 have Y9 := hide (fun w1 (hb : Below W.heap.size W w1) => (show w1.cell? ⟨w.heap.size, 9, none⟩ = some (.int .i64 x.dst.f) from xc 9 _ rfl w1 hb))
 have F10 : ∀ y : Sub W.heap.size W, y.w.cell? ⟨w.heap.size, 10, none⟩ = some (.int .i64 x.dst.r) := fun y => xc 10 _ rfl y.w y.h
 have Y10 := hide (fun w1 (hb : Below W.heap.size W w1) => (show w1.cell? ⟨w.heap.size, 10, none⟩ = some (.int .i64 x.dst.r) from xc 10 _ rfl w1 hb))
 have F11 : ∀ y : Sub W.heap.size W, y.w.cell? ⟨w.heap.size, 11, none⟩ = some (.int .i64 x.dst.e.k) := fun y => xc 11 _ rfl y.w y.h
 have Y11 := hide (fun w1 (hb : Below W.heap.size W w1) => (show w1.cell? ⟨w.heap.size, 11, none⟩ = some (.int .i64 x.dst.e.k) from xc 11 _ rfl w1 hb))
 have F12 : ∀ y : Sub W.heap.size W, y.w.cell? ⟨w.heap.size, 12, none⟩ = some (.int .i64 x.dst.e.n) := fun y => xc 12 _ rfl y.w y.h
 have Y12 := hide (fun w1 (hb : Below W.heap.size W w1) => (show w1.cell? ⟨w.heap.size, 12, none⟩ = some (.int .i64 x.dst.e.n) from xc 12 _ rfl w1 hb))
 have F13 : ∀ y : Sub W.heap.size W, y.w.cell? ⟨w.heap.size, 13, none⟩ = some (.string x.dst.e.s) := fun y => xc 13 _ rfl y.w y.h
 have Y13 := hide (fun w1 (hb : Below W.heap.size W w1) => (show w1.cell? ⟨w.heap.size, 13, none⟩ = some (.string x.dst.e.s) from xc 13 _ rfl w1 hb))
 have F14 : ∀ y : Sub W.heap.size W, y.w.cell? ⟨w.heap.size, 14, none⟩ = some (.slice p.b2 x.dst.e.l.length p.c2) := fun y => xc 14 _ rfl y.w y.h
 have Y14 := hide (fun w1 (hb : Below W.heap.size W w1) => (show w1.cell? ⟨w.heap.size, 14, none⟩ = some (.slice p.b2 x.dst.e.l.length p.c2) from xc 14 _ rfl w1 hb))
 have F15 : ∀ y : Sub W.heap.size W, y.w.cell? ⟨w.heap.size, 15, none⟩ = some (.int .i64 x.n) := fun y => xc 15 _ rfl y.w y.h
 have Y15 := hide (fun w1 (hb : Below W.heap.size W w1) => (show w1.cell? ⟨w.heap.size, 15, none⟩ = some (.int .i64 x.n) from xc 15 _ rfl w1 hb))
 have F16 : ∀ y : Sub W.heap.size W, y.w.cell? ⟨w.heap.size, 16, none⟩ = some (.slice p.b3 x.l.length p.c3) := fun y => xc 16 _ rfl y.w y.h
 have Y16 := hide (fun w1 (hb : Below W.heap.size W w1) => (show w1.cell? ⟨w.heap.size, 16, none⟩ = some (.slice p.b3 x.l.length p.c3) from xc 16 _ rfl w1 hb))
 have MK := hide (fun x w1 => markS_ex x w1)
 unfold Tk.v Tk.cs at MK
 simp only at MK
 have KP' := fun w1 => keptS (x.op - 1).toNat (by omega) w1
 rw [show (((x.op - 1).toNat : Nat) : Int) = x.op - 1 by omega] at KP'
 have KP := hide KP'
 clear KP'
 unfold kpT Tk.v Tk.cs at KP
 simp only at KP
 have hwr : IntKind.i64.wrap (x.op - 1) = x.op - 1 := by rw [IntKind.wrap_i64]; omega
 have o1 : ¬ (x.op ≤ 6) := by omega
 have o2 : x.op ≤ 14 := hop.2
 have A2 := hide (fun y : Sub W.heap.size W => agtS_any x.dst p.b2 p.c2 y.w ok (hrW.b.later y.h))
 obtain ⟨dne, dle⟩ := agT_ok ok
 unfold Ag.cs at A2
 generalize agT x.dst = td at *
 obtain ⟨T, hT⟩ : ∃ T, (kpT (x.op - 1).toNat :: td) = T := ⟨_, rfl⟩
 have HT := hide hT
 rw [hT]
 clear hT
 unfold kpT at HT
 generalize keptL.getD (x.op - 1).toNat E0 = ks at *
 unfold Ln.cs at hy0 ⊢
 clear hr hrW hW xc xl hbW ok hop
 generalize x.src.f = sf at *
 generalize x.src.r = sr at *
 generalize x.src.e.k = sk at *
 generalize x.src.e.n = sn at *
 generalize x.src.e.s = ss at *
 generalize x.src.e.l.length = sl at *
 generalize x.dst.f = df at *
 generalize x.dst.r = dr at *
 generalize x.dst.e.k = dk at *
 generalize x.dst.e.n = dn at *
 generalize x.dst.e.s = ds at *
 generalize x.dst.e.l.length = dl at *
 generalize x.k = k at *
 generalize x.s = s at *
 generalize x.op = op at *
 generalize x.n = n at *
 generalize x.l.length = ll at *
 generalize p.b1 = b1 at *
 generalize p.c1 = c1 at *
 generalize p.b2 = b2 at *
 generalize p.c2 = c2 at *
 generalize p.b3 = b3 at *
 generalize p.c3 = c3 at *
 go_enter Tryz.func154, Tryz.ntmps154
 go_wp2_with fail
 refine (uh KP y0.w).mono ?_
 rintro r w1 ⟨rfl, hb⟩
 obtain ⟨y1, rfl⟩ := Sub.step (uh HZ) hb
 clear hb
 obtain ⟨y2, hy2⟩ := Sub.step (uh HZ) (below_new y1.w (.cells #[.int .i64 5, .int .i64 0, .string ks] 71))
 have S2 := hide (show OwnT y2.w W.heap.size (.slice (some ⟨y1.w.heap.size, 0, none⟩) 1 1) [Tk.mk 5 0 ks] by rw [← hy2]; exact ownT_new y1.w (Tk.mk 5 0 ks) W.heap.size (Nat.le_trans (uh HZ) y1.h.size))
 have O2 := hide (uh S2)
 clear S2
 have l0 : [Tk.mk 5 0 ks].length ≤ 1 := Nat.le_refl 1
 go_wp2_with fail
 refine (uh A2 y2).mono ?_
 rintro r w3 ⟨vs, rfl, hS, hb⟩
 have O3 := hide ((uh O2).later hb)
 clear O2
 obtain ⟨y3, rfl⟩ := Sub.step (uh HZ) hb
 clear hb
 have SR := hide hS
 clear hS
 go_wp2_with (at_builtin; go_must (refine appT rfl (.tmp 30) (.tmp 33) rfl (uh HZ) y3.h rfl (uh O3) rfl (uh SR) dne (lsum l0 dle (by decide)) ?_; intro v4 y4 hO; obtain ⟨u4, hu⟩ : ∃ u, ([Tk.mk 5 0 ks] ++ td) = u := ⟨_, rfl⟩; rw [hu] at hO; have l4 := lapp hu l0 dle; have O4 := hide hO; have H4 := hide hu; clear hO hu O3 SR))
 have EQ : u4 = T := by
  rw [← uh HT]
  rw [← uh H4]
  simp [mkT, mkS]
 rw [EQ] at O4
 go_ret
 exact ⟨_, rfl, uh HO y4 _ _ (uh O4), uh HB y4⟩
theorem ins_c (x : Ln) (p : La) (w : World) (hr : RdL w x p) (hop : x.op = 15) (ok : agX x.dst = true ∧ 0 ≤ x.n ∧ x.n ≤ 7) : Calls Tryz.prog 154 #[.agg (x.cs p)] w fun r w' => ∃ v, r = .returned v ∧ OwnT w' w.heap.size v (kpT (x.op - 1).toNat :: rgT x.n.toNat :: mkT 44 :: agT x.dst) ∧ Below w.heap.size w w' := by
 have hbW := below_new w (.cells (x.cs p) 30)
 obtain ⟨W, hW⟩ : ∃ W, w.alloc (.cells (x.cs p) 30) = W := ⟨_, rfl⟩
 have hrW := hr.later hbW
 have xl : w.heap.size < W.heap.size := by rw [← hW]; simp
 have xc : ∀ (i : Nat) (v : Value), (x.cs p)[i]? = some v → ∀ w1, Below W.heap.size W w1 → w1.cell? ⟨w.heap.size, i, none⟩ = some v := fun i v h w1 hb => (hb.cell (p := ⟨w.heap.size, i, none⟩) xl).trans (by rw [← hW]; exact box17 w _ _ i v h)
 rw [hW] at hbW hrW
 obtain ⟨y0, hy0⟩ : ∃ z : Sub W.heap.size W, w.alloc (.cells (x.cs p) 30) = z.w := ⟨⟨W, Below.refl _ _⟩, hW⟩
 have ne := Sub.ne W.heap.size W
 have HZ := hide (Nat.le_refl W.heap.size)
 have HB := hide (fun y : Sub W.heap.size W => hbW.trans (y.h.mono hbW.size))
 have HO := hide (fun (y : Sub W.heap.size W) v ts (h : OwnT y.w W.heap.size v ts) => h.base hbW.size)
 have F0 : ∀ y : Sub W.heap.size W, y.w.cell? ⟨w.heap.size, 0, none⟩ = some (.int .i64 x.k) := fun y => xc 0 _ rfl y.w y.h
 have Y0 := hide (fun w1 (hb : Below W.heap.size W w1) => (show w1.cell? ⟨w.heap.size, 0, none⟩ = some (.int .i64 x.k) from xc 0 _ rfl w1 hb))
 have F1 : ∀ y : Sub W.heap.size W, y.w.cell? ⟨w.heap.size, 1, none⟩ = some (.string x.s) := fun y => xc 1 _ rfl y.w y.h
 have Y1 := hide (fun w1 (hb : Below W.heap.size W w1) => (show w1.cell? ⟨w.heap.size, 1, none⟩ = some (.string x.s) from xc 1 _ rfl w1 hb))
 have F2 : ∀ y : Sub W.heap.size W, y.w.cell? ⟨w.heap.size, 2, none⟩ = some (.int .i64 x.op) := fun y => xc 2 _ rfl y.w y.h
 have Y2 := hide (fun w1 (hb : Below W.heap.size W w1) => (show w1.cell? ⟨w.heap.size, 2, none⟩ = some (.int .i64 x.op) from xc 2 _ rfl w1 hb))
 have F3 : ∀ y : Sub W.heap.size W, y.w.cell? ⟨w.heap.size, 3, none⟩ = some (.int .i64 x.src.f) := fun y => xc 3 _ rfl y.w y.h
 have Y3 := hide (fun w1 (hb : Below W.heap.size W w1) => (show w1.cell? ⟨w.heap.size, 3, none⟩ = some (.int .i64 x.src.f) from xc 3 _ rfl w1 hb))
 have F4 : ∀ y : Sub W.heap.size W, y.w.cell? ⟨w.heap.size, 4, none⟩ = some (.int .i64 x.src.r) := fun y => xc 4 _ rfl y.w y.h
 have Y4 := hide (fun w1 (hb : Below W.heap.size W w1) => (show w1.cell? ⟨w.heap.size, 4, none⟩ = some (.int .i64 x.src.r) from xc 4 _ rfl w1 hb))
 have F5 : ∀ y : Sub W.heap.size W, y.w.cell? ⟨w.heap.size, 5, none⟩ = some (.int .i64 x.src.e.k) := fun y => xc 5 _ rfl y.w y.h
 have Y5 := hide (fun w1 (hb : Below W.heap.size W w1) => (show w1.cell? ⟨w.heap.size, 5, none⟩ = some (.int .i64 x.src.e.k) from xc 5 _ rfl w1 hb))
 have F6 : ∀ y : Sub W.heap.size W, y.w.cell? ⟨w.heap.size, 6, none⟩ = some (.int .i64 x.src.e.n) := fun y => xc 6 _ rfl y.w y.h
 have Y6 := hide (fun w1 (hb : Below W.heap.size W w1) => (show w1.cell? ⟨w.heap.size, 6, none⟩ = some (.int .i64 x.src.e.n) from xc 6 _ rfl w1 hb))
 have F7 : ∀ y : Sub W.heap.size W, y.w.cell? ⟨w.heap.size, 7, none⟩ = some (.string x.src.e.s) := fun y => xc 7 _ rfl y.w y.h
 have Y7 := hide (fun w1 (hb : Below W.heap.size W w1) => (show w1.cell? ⟨w.heap.size, 7, none⟩ = some (.string x.src.e.s) from xc 7 _ rfl w1 hb))
 have F8 : ∀ y : Sub W.heap.size W, y.w.cell? ⟨w.heap.size, 8, none⟩ = some (.slice p.b1 x.src.e.l.length p.c1) := fun y => xc 8 _ rfl y.w y.h
 have Y8 := hide (fun w1 (hb : Below W.heap.size W w1) => (show w1.cell? ⟨w.heap.size, 8, none⟩ = some (.slice p.b1 x.src.e.l.length p.c1) from xc 8 _ rfl w1 hb))
 have F9 : ∀ y : Sub W.heap.size W, y.w.cell? ⟨w.heap.size, 9, none⟩ = some (.int .i64 x.dst.f) := fun y => xc 9 _ rfl y.w y.h
 have Y9 := hide (fun w1 (hb : Below W.heap.size W w1) => (show w1.cell? ⟨w.heap.size, 9, none⟩ = some (.int .i64 x.dst.f) from xc 9 _ rfl w1 hb))
 have F10 : ∀ y : Sub W.heap.size W, y.w.cell? ⟨w.heap.size, 10, none⟩ = some (.int .i64 x.dst.r) := fun y => xc 10 _ rfl y.w y.h
 have Y10 := hide (fun w1 (hb : Below W.heap.size W w1) => (show w1.cell? ⟨w.heap.size, 10, none⟩ = some (.int .i64 x.dst.r) from xc 10 _ rfl w1 hb))
 have F11 : ∀ y : Sub W.heap.size W, y.w.cell? ⟨w.heap.size, 11, none⟩ = some (.int .i64 x.dst.e.k) := fun y => xc 11 _ rfl y.w y.h
 have Y11 := hide (fun w1 (hb : Below W.heap.size W w1) => (show w1.cell? ⟨w.heap.size, 11, none⟩ = some (.int .i64 x.dst.e.k) from xc 11 _ rfl w1 hb))
 have F12 : ∀ y : Sub W.heap.size W, y.w.cell? ⟨w.heap.size, 12, none⟩ = some (.int .i64 x.dst.e.n) := fun y => xc 12 _ rfl y.w y.h
 have Y12 := hide (fun w1 (hb : Below W.heap.size W w1) => (show w1.cell? ⟨w.heap.size, 12, none⟩ = some (.int .i64 x.dst.e.n) from xc 12 _ rfl w1 hb))
 have F13 : ∀ y : Sub W.heap.size W, y.w.cell? ⟨w.heap.size, 13, none⟩ = some (.string x.dst.e.s) := fun y => xc 13 _ rfl y.w y.h
 have Y13 := hide (fun w1 (hb : Below W.heap.size W w1) => (show w1.cell? ⟨w.heap.size, 13, none⟩ = some (.string x.dst.e.s) from xc 13 _ rfl w1 hb))
 have F14 : ∀ y : Sub W.heap.size W, y.w.cell? ⟨w.heap.size, 14, none⟩ = some (.slice p.b2 x.dst.e.l.length p.c2) := fun y => xc 14 _ rfl y.w y.h
 have Y14 := hide (fun w1 (hb : Below W.heap.size W w1) => (show w1.cell? ⟨w.heap.size, 14, none⟩ = some (.slice p.b2 x.dst.e.l.length p.c2) from xc 14 _ rfl w1 hb))
 have F15 : ∀ y : Sub W.heap.size W, y.w.cell? ⟨w.heap.size, 15, none⟩ = some (.int .i64 x.n) := fun y => xc 15 _ rfl y.w y.h
 have Y15 := hide (fun w1 (hb : Below W.heap.size W w1) => (show w1.cell? ⟨w.heap.size, 15, none⟩ = some (.int .i64 x.n) from xc 15 _ rfl w1 hb))
 have F16 : ∀ y : Sub W.heap.size W, y.w.cell? ⟨w.heap.size, 16, none⟩ = some (.slice p.b3 x.l.length p.c3) := fun y => xc 16 _ rfl y.w y.h
 have Y16 := hide (fun w1 (hb : Below W.heap.size W w1) => (show w1.cell? ⟨w.heap.size, 16, none⟩ = some (.slice p.b3 x.l.length p.c3) from xc 16 _ rfl w1 hb))
 have MK := hide (fun x w1 => markS_ex x w1)
 unfold Tk.v Tk.cs at MK
 simp only at MK
 have KP' := fun w1 => keptS (x.op - 1).toNat (by omega) w1
 rw [show (((x.op - 1).toNat : Nat) : Int) = x.op - 1 by omega] at KP'
 have KP := hide KP'
 clear KP'
 unfold kpT Tk.v Tk.cs at KP
 simp only at KP
 have hwr : IntKind.i64.wrap (x.op - 1) = x.op - 1 := by rw [IntKind.wrap_i64]; omega
 rw [hop] at hwr KP F2 ⊢
 have A2 := hide (fun y : Sub W.heap.size W => agtS_any x.dst p.b2 p.c2 y.w ok.1 (hrW.b.later y.h))
 obtain ⟨dne, dle⟩ := agT_ok ok.1
 unfold Ag.cs at A2
 generalize agT x.dst = td at *
 obtain ⟨rn, hrn⟩ : ∃ n : Nat, x.n = (n : Int) := ⟨x.n.toNat, by omega⟩
 have hrn8 : rn < 8 := by omega
 rw [hrn] at F15 Y15 ⊢
 rw [show ((rn : Int)).toNat = rn from rfl]
 have RG := hide (fun w1 => regS rn hrn8 w1)
 unfold Tk.v Tk.cs at RG
 clear hrn hrn8
 obtain ⟨T, hT⟩ : ∃ T, (kpT ((15 : Int) - 1).toNat :: rgT rn :: mkT 44 :: td) = T := ⟨_, rfl⟩
 have HT := hide hT
 rw [hT]
 clear hT
 unfold kpT at HT
 generalize keptL.getD ((15 : Int) - 1).toNat E0 = ks at *
 unfold Ln.cs at hy0 ⊢
 clear hr hrW hW xc xl hbW ok
 rw [hop] at hy0 ⊢
 clear hop
 generalize x.src.f = sf at *
 generalize x.src.r = sr at *
 generalize x.src.e.k = sk at *
 generalize x.src.e.n = sn at *
 generalize x.src.e.s = ss at *
 generalize x.src.e.l.length = sl at *
 generalize x.dst.f = df at *
 generalize x.dst.r = dr at *
 generalize x.dst.e.k = dk at *
 generalize x.dst.e.n = dn at *
 generalize x.dst.e.s = ds at *
 generalize x.dst.e.l.length = dl at *
 generalize x.k = k at *
 generalize x.s = s at *
 generalize x.op = op at *
 generalize x.n = n at *
 generalize x.l.length = ll at *
 generalize p.b1 = b1 at *
 generalize p.c1 = c1 at *
 generalize p.b2 = b2 at *
 generalize p.c2 = c2 at *
 generalize p.b3 = b3 at *
 generalize p.c3 = c3 at *
 go_enter Tryz.func154, Tryz.ntmps154
 go_wp2_with fail
 refine (uh KP y0.w).mono ?_
 rintro r w1 ⟨rfl, hb⟩
 obtain ⟨y1, rfl⟩ := Sub.step (uh HZ) hb
 clear hb
 obtain ⟨y2, hy2⟩ := Sub.step (uh HZ) (below_new y1.w (.cells #[.int .i64 5, .int .i64 0, .string ks] 71))
 have S2 := hide (show OwnT y2.w W.heap.size (.slice (some ⟨y1.w.heap.size, 0, none⟩) 1 1) [Tk.mk 5 0 ks] by rw [← hy2]; exact ownT_new y1.w (Tk.mk 5 0 ks) W.heap.size (Nat.le_trans (uh HZ) y1.h.size))
 have O2 := hide (uh S2)
 clear S2
 have l0 : [Tk.mk 5 0 ks].length ≤ 1 := Nat.le_refl 1
 go_wp2_with fail
 obtain ⟨y3, hy3⟩ := Sub.step (uh HZ) (below_drew (w := y2.w))
 have O3 := hide (show OwnT y3.w W.heap.size (.slice (some ⟨y1.w.heap.size, 0, none⟩) 1 1) [Tk.mk 5 0 ks] by rw [← hy3]; exact (uh O2).later below_drew)
 have D0 := hide (show Below W.heap.size W y2.w.drew by rw [hy3]; exact y3.h)
 refine wp_region_held_drew (S := fun w' => Below W.heap.size W w') (by kernel_rfl) (uh D0) (fun hS => ?_)
 have HS := hide hS
 clear hS D0
 rw [hy3] at HS ⊢
 clear O2
 refine tkB 0 (.slice (some ⟨y1.w.heap.size, 0, none⟩) 1 1) rfl (uh HS) ?_
 go_simp
 refine tkB 1 (.pointer (some ⟨w.heap.size, 15, none⟩)) rfl (uh HS) ?_
 go_simp
 refine tkA 2 (.int .i64 (rn : Int)) rfl (.inl ⟨by rfl, fun w hc => ?_⟩) (uh HS) ?_
 · have q15 := uh Y15 _ hc; clear hc; go_simp
 go_simp
 refine tkB 7 (.pointer (some ⟨w.heap.size, 9, none⟩)) rfl (uh HS) ?_
 go_simp
 refine tkA 8 (.agg #[.int .i64 df, .int .i64 dr, .int .i64 dk, .int .i64 dn, .string ds, .slice b2 dl c2]) rfl (.inl ⟨by rfl, fun w hc => ?_⟩) (uh HS) ?_
 · have q9 := uh Y9 _ hc; have q10 := uh Y10 _ hc; have q11 := uh Y11 _ hc; have q12 := uh Y12 _ hc; have q13 := uh Y13 _ hc; have q14 := uh Y14 _ hc; clear hc; go_simp
 go_simp
 refine wpAnyH_ready (rs := [3]) (by kernel_rfl) (by simp) ?_
 refine AllReadyH.cons rfl (fun K2 hK => ?_) AllReadyH.nil
 go_simp
 refine (uh RG y3.w).mono ?_
 rintro r w4 ⟨rfl, hb⟩
 have O4 := hide ((uh O3).later hb)
 clear O3
 obtain ⟨y4, rfl⟩ := Sub.step (uh HZ) hb
 clear hb
 refine hK.out _ _ (y4.h) (fun hS => ?_)
 clear HS
 have HS := hide hS
 clear hS hK K2
 refine wpAnyH_ready (rs := [4]) (by kernel_rfl) (by simp) ?_
 refine AllReadyH.cons rfl (fun K2 hK => ?_) AllReadyH.nil
 go_simp
 refine (uh MK ⟨#[44]⟩ y4.w).mono ?_
 rintro r w5 ⟨rfl, hb⟩
 have O5 := hide ((uh O4).later hb)
 clear O4
 obtain ⟨y5, rfl⟩ := Sub.step (uh HZ) hb
 clear hb
 refine hK.out _ _ (y5.h) (fun hS => ?_)
 clear HS
 have HS := hide hS
 clear hS hK K2
 refine wpAnyH_ready (rs := [5]) (by kernel_rfl) (by simp) ?_
 refine AllReadyH.cons rfl (fun K2 hK => ?_) AllReadyH.nil
 obtain ⟨y6, hy6⟩ := Sub.step (uh HZ) (below_new y5.w (.cells #[.int .i64 (rgT rn).k, .int .i64 (rgT rn).n, .string (rgT rn).s, .int .i64 4, .int .i64 0, .string ⟨#[44]⟩] 71))
 have S6 := hide (show OwnT y6.w W.heap.size (.slice (some ⟨y5.w.heap.size, 0, none⟩) 2 2) [rgT rn, (Tk.mk 4 0 ⟨#[44]⟩)] by rw [← hy6]; exact ownT_two y5.w (rgT rn) (Tk.mk 4 0 ⟨#[44]⟩) W.heap.size (Nat.le_trans (uh HZ) y5.h.size))
 have O6 := hide (show OwnT y6.w W.heap.size (.slice (some ⟨y1.w.heap.size, 0, none⟩) 1 1) [Tk.mk 5 0 ks] by rw [← hy6]; exact (uh O5).later (below_new _ _))
 clear O5
 go_simp
 refine hK.out _ _ (y6.h) (fun hS => ?_)
 clear HS
 have HS := hide hS
 clear hS hK K2
 refine wpAnyH_ready (rs := [6]) (by kernel_rfl) (by simp) ?_
 refine AllReadyH.cons rfl (fun K2 hK => ?_) AllReadyH.nil
 rw [if_pos (by rfl)]
 refine wp_appT (.tmp 39) (.tmp 44) rfl (uh HZ) y6.h rfl (uh O6) rfl (uh S6) (two_ne _ _) (lsum l0 (two_le _ _) (by decide)) ?_
 intro v7 y7 hO
 obtain ⟨u7, hu⟩ : ∃ u, ([Tk.mk 5 0 ks] ++ [rgT rn, (Tk.mk 4 0 ⟨#[44]⟩)]) = u := ⟨_, rfl⟩
 rw [hu] at hO
 have l7 := lapp hu l0 (two_le _ _)
 have O7 := hide hO
 have H7 := hide hu
 clear hO hu O6 S6
 refine hK.out _ _ (y7.h) (fun hS => ?_)
 clear HS
 have HS := hide hS
 clear hS hK K2
 refine wpAnyH_ready (rs := [9]) (by kernel_rfl) (by simp) ?_
 refine AllReadyH.cons rfl (fun K2 hK => ?_) AllReadyH.nil
 go_simp
 refine (uh A2 y7).mono ?_
 rintro r w8 ⟨vs, rfl, hS, hb⟩
 have O8 := hide ((uh O7).later hb)
 clear O7
 obtain ⟨y8, rfl⟩ := Sub.step (uh HZ) hb
 clear hb
 have SR := hide hS
 clear hS
 refine hK.out _ _ (y8.h) (fun hS => ?_)
 clear HS
 have HS := hide hS
 clear hS hK K2
 refine wpAnyH_ready (rs := [10]) (by kernel_rfl) (by simp) ?_
 refine AllReadyH.cons rfl (fun K2 hK => ?_) AllReadyH.nil
 rw [if_pos (by rfl)]
 refine wp_appT (.tmp 45) (.tmp 48) rfl (uh HZ) y8.h rfl (uh O8) rfl (uh SR) dne (lsum l7 dle (by decide)) ?_
 intro v9 y9 hO
 obtain ⟨u9, hu⟩ : ∃ u, (u7 ++ td) = u := ⟨_, rfl⟩
 rw [hu] at hO
 have l9 := lapp hu l7 dle
 have O9 := hide hO
 have H9 := hide hu
 clear hO hu O8 SR
 refine hK.out _ _ (y9.h) (fun hS => ?_)
 clear HS
 have HS := hide hS
 clear hS hK K2
 refine tkB 11 (v9) rfl (uh HS) ?_
 go_simp
 refine wpAnyH_done (by kernel_rfl) ?_ _
 clear HS
 go_wp2_with fail
 have EQ : u9 = T := by
  rw [← uh HT]
  rw [← uh H9, ← uh H7]
  simp [mkT, mkS]
 rw [EQ] at O9
 go_ret
 exact ⟨_, rfl, uh HO y9 _ _ (uh O9), uh HB y9⟩
theorem ins_d (x : Ln) (p : La) (w : World) (hr : RdL w x p) (hop : x.op = 16) (ok : 0 ≤ x.n ∧ x.n ≤ 7) : Calls Tryz.prog 154 #[.agg (x.cs p)] w fun r w' => ∃ v, r = .returned v ∧ OwnT w' w.heap.size v ([kpT (x.op - 1).toNat, rgT x.n.toNat]) ∧ Below w.heap.size w w' := by
 have hbW := below_new w (.cells (x.cs p) 30)
 obtain ⟨W, hW⟩ : ∃ W, w.alloc (.cells (x.cs p) 30) = W := ⟨_, rfl⟩
 have hrW := hr.later hbW
 have xl : w.heap.size < W.heap.size := by rw [← hW]; simp
 have xc : ∀ (i : Nat) (v : Value), (x.cs p)[i]? = some v → ∀ w1, Below W.heap.size W w1 → w1.cell? ⟨w.heap.size, i, none⟩ = some v := fun i v h w1 hb => (hb.cell (p := ⟨w.heap.size, i, none⟩) xl).trans (by rw [← hW]; exact box17 w _ _ i v h)
 rw [hW] at hbW hrW
 obtain ⟨y0, hy0⟩ : ∃ z : Sub W.heap.size W, w.alloc (.cells (x.cs p) 30) = z.w := ⟨⟨W, Below.refl _ _⟩, hW⟩
 have ne := Sub.ne W.heap.size W
 have HZ := hide (Nat.le_refl W.heap.size)
 have HB := hide (fun y : Sub W.heap.size W => hbW.trans (y.h.mono hbW.size))
 have HO := hide (fun (y : Sub W.heap.size W) v ts (h : OwnT y.w W.heap.size v ts) => h.base hbW.size)
 have F0 : ∀ y : Sub W.heap.size W, y.w.cell? ⟨w.heap.size, 0, none⟩ = some (.int .i64 x.k) := fun y => xc 0 _ rfl y.w y.h
 have Y0 := hide (fun w1 (hb : Below W.heap.size W w1) => (show w1.cell? ⟨w.heap.size, 0, none⟩ = some (.int .i64 x.k) from xc 0 _ rfl w1 hb))
 have F1 : ∀ y : Sub W.heap.size W, y.w.cell? ⟨w.heap.size, 1, none⟩ = some (.string x.s) := fun y => xc 1 _ rfl y.w y.h
 have Y1 := hide (fun w1 (hb : Below W.heap.size W w1) => (show w1.cell? ⟨w.heap.size, 1, none⟩ = some (.string x.s) from xc 1 _ rfl w1 hb))
 have F2 : ∀ y : Sub W.heap.size W, y.w.cell? ⟨w.heap.size, 2, none⟩ = some (.int .i64 x.op) := fun y => xc 2 _ rfl y.w y.h
 have Y2 := hide (fun w1 (hb : Below W.heap.size W w1) => (show w1.cell? ⟨w.heap.size, 2, none⟩ = some (.int .i64 x.op) from xc 2 _ rfl w1 hb))
 have F3 : ∀ y : Sub W.heap.size W, y.w.cell? ⟨w.heap.size, 3, none⟩ = some (.int .i64 x.src.f) := fun y => xc 3 _ rfl y.w y.h
 have Y3 := hide (fun w1 (hb : Below W.heap.size W w1) => (show w1.cell? ⟨w.heap.size, 3, none⟩ = some (.int .i64 x.src.f) from xc 3 _ rfl w1 hb))
 have F4 : ∀ y : Sub W.heap.size W, y.w.cell? ⟨w.heap.size, 4, none⟩ = some (.int .i64 x.src.r) := fun y => xc 4 _ rfl y.w y.h
 have Y4 := hide (fun w1 (hb : Below W.heap.size W w1) => (show w1.cell? ⟨w.heap.size, 4, none⟩ = some (.int .i64 x.src.r) from xc 4 _ rfl w1 hb))
 have F5 : ∀ y : Sub W.heap.size W, y.w.cell? ⟨w.heap.size, 5, none⟩ = some (.int .i64 x.src.e.k) := fun y => xc 5 _ rfl y.w y.h
 have Y5 := hide (fun w1 (hb : Below W.heap.size W w1) => (show w1.cell? ⟨w.heap.size, 5, none⟩ = some (.int .i64 x.src.e.k) from xc 5 _ rfl w1 hb))
 have F6 : ∀ y : Sub W.heap.size W, y.w.cell? ⟨w.heap.size, 6, none⟩ = some (.int .i64 x.src.e.n) := fun y => xc 6 _ rfl y.w y.h
 have Y6 := hide (fun w1 (hb : Below W.heap.size W w1) => (show w1.cell? ⟨w.heap.size, 6, none⟩ = some (.int .i64 x.src.e.n) from xc 6 _ rfl w1 hb))
 have F7 : ∀ y : Sub W.heap.size W, y.w.cell? ⟨w.heap.size, 7, none⟩ = some (.string x.src.e.s) := fun y => xc 7 _ rfl y.w y.h
 have Y7 := hide (fun w1 (hb : Below W.heap.size W w1) => (show w1.cell? ⟨w.heap.size, 7, none⟩ = some (.string x.src.e.s) from xc 7 _ rfl w1 hb))
 have F8 : ∀ y : Sub W.heap.size W, y.w.cell? ⟨w.heap.size, 8, none⟩ = some (.slice p.b1 x.src.e.l.length p.c1) := fun y => xc 8 _ rfl y.w y.h
 have Y8 := hide (fun w1 (hb : Below W.heap.size W w1) => (show w1.cell? ⟨w.heap.size, 8, none⟩ = some (.slice p.b1 x.src.e.l.length p.c1) from xc 8 _ rfl w1 hb))
 have F9 : ∀ y : Sub W.heap.size W, y.w.cell? ⟨w.heap.size, 9, none⟩ = some (.int .i64 x.dst.f) := fun y => xc 9 _ rfl y.w y.h
 have Y9 := hide (fun w1 (hb : Below W.heap.size W w1) => (show w1.cell? ⟨w.heap.size, 9, none⟩ = some (.int .i64 x.dst.f) from xc 9 _ rfl w1 hb))
 have F10 : ∀ y : Sub W.heap.size W, y.w.cell? ⟨w.heap.size, 10, none⟩ = some (.int .i64 x.dst.r) := fun y => xc 10 _ rfl y.w y.h
 have Y10 := hide (fun w1 (hb : Below W.heap.size W w1) => (show w1.cell? ⟨w.heap.size, 10, none⟩ = some (.int .i64 x.dst.r) from xc 10 _ rfl w1 hb))
 have F11 : ∀ y : Sub W.heap.size W, y.w.cell? ⟨w.heap.size, 11, none⟩ = some (.int .i64 x.dst.e.k) := fun y => xc 11 _ rfl y.w y.h
 have Y11 := hide (fun w1 (hb : Below W.heap.size W w1) => (show w1.cell? ⟨w.heap.size, 11, none⟩ = some (.int .i64 x.dst.e.k) from xc 11 _ rfl w1 hb))
 have F12 : ∀ y : Sub W.heap.size W, y.w.cell? ⟨w.heap.size, 12, none⟩ = some (.int .i64 x.dst.e.n) := fun y => xc 12 _ rfl y.w y.h
 have Y12 := hide (fun w1 (hb : Below W.heap.size W w1) => (show w1.cell? ⟨w.heap.size, 12, none⟩ = some (.int .i64 x.dst.e.n) from xc 12 _ rfl w1 hb))
 have F13 : ∀ y : Sub W.heap.size W, y.w.cell? ⟨w.heap.size, 13, none⟩ = some (.string x.dst.e.s) := fun y => xc 13 _ rfl y.w y.h
 have Y13 := hide (fun w1 (hb : Below W.heap.size W w1) => (show w1.cell? ⟨w.heap.size, 13, none⟩ = some (.string x.dst.e.s) from xc 13 _ rfl w1 hb))
 have F14 : ∀ y : Sub W.heap.size W, y.w.cell? ⟨w.heap.size, 14, none⟩ = some (.slice p.b2 x.dst.e.l.length p.c2) := fun y => xc 14 _ rfl y.w y.h
 have Y14 := hide (fun w1 (hb : Below W.heap.size W w1) => (show w1.cell? ⟨w.heap.size, 14, none⟩ = some (.slice p.b2 x.dst.e.l.length p.c2) from xc 14 _ rfl w1 hb))
 have F15 : ∀ y : Sub W.heap.size W, y.w.cell? ⟨w.heap.size, 15, none⟩ = some (.int .i64 x.n) := fun y => xc 15 _ rfl y.w y.h
 have Y15 := hide (fun w1 (hb : Below W.heap.size W w1) => (show w1.cell? ⟨w.heap.size, 15, none⟩ = some (.int .i64 x.n) from xc 15 _ rfl w1 hb))
 have F16 : ∀ y : Sub W.heap.size W, y.w.cell? ⟨w.heap.size, 16, none⟩ = some (.slice p.b3 x.l.length p.c3) := fun y => xc 16 _ rfl y.w y.h
 have Y16 := hide (fun w1 (hb : Below W.heap.size W w1) => (show w1.cell? ⟨w.heap.size, 16, none⟩ = some (.slice p.b3 x.l.length p.c3) from xc 16 _ rfl w1 hb))
 have MK := hide (fun x w1 => markS_ex x w1)
 unfold Tk.v Tk.cs at MK
 simp only at MK
 have KP' := fun w1 => keptS (x.op - 1).toNat (by omega) w1
 rw [show (((x.op - 1).toNat : Nat) : Int) = x.op - 1 by omega] at KP'
 have KP := hide KP'
 clear KP'
 unfold kpT Tk.v Tk.cs at KP
 simp only at KP
 have hwr : IntKind.i64.wrap (x.op - 1) = x.op - 1 := by rw [IntKind.wrap_i64]; omega
 rw [hop] at hwr KP F2 ⊢
 obtain ⟨rn, hrn⟩ : ∃ n : Nat, x.n = (n : Int) := ⟨x.n.toNat, by omega⟩
 have hrn8 : rn < 8 := by omega
 rw [hrn] at F15 Y15 ⊢
 rw [show ((rn : Int)).toNat = rn from rfl]
 have RG := hide (fun w1 => regS rn hrn8 w1)
 unfold Tk.v Tk.cs at RG
 clear hrn hrn8
 obtain ⟨T, hT⟩ : ∃ T, ([kpT ((16 : Int) - 1).toNat, rgT rn]) = T := ⟨_, rfl⟩
 have HT := hide hT
 rw [hT]
 clear hT
 unfold kpT at HT
 generalize keptL.getD ((16 : Int) - 1).toNat E0 = ks at *
 unfold Ln.cs at hy0 ⊢
 clear hr hrW hW xc xl hbW ok
 rw [hop] at hy0 ⊢
 clear hop
 generalize x.src.f = sf at *
 generalize x.src.r = sr at *
 generalize x.src.e.k = sk at *
 generalize x.src.e.n = sn at *
 generalize x.src.e.s = ss at *
 generalize x.src.e.l.length = sl at *
 generalize x.dst.f = df at *
 generalize x.dst.r = dr at *
 generalize x.dst.e.k = dk at *
 generalize x.dst.e.n = dn at *
 generalize x.dst.e.s = ds at *
 generalize x.dst.e.l.length = dl at *
 generalize x.k = k at *
 generalize x.s = s at *
 generalize x.op = op at *
 generalize x.n = n at *
 generalize x.l.length = ll at *
 generalize p.b1 = b1 at *
 generalize p.c1 = c1 at *
 generalize p.b2 = b2 at *
 generalize p.c2 = c2 at *
 generalize p.b3 = b3 at *
 generalize p.c3 = c3 at *
 go_enter Tryz.func154, Tryz.ntmps154
 go_wp2_with fail
 refine (uh KP y0.w).mono ?_
 rintro r w1 ⟨rfl, hb⟩
 obtain ⟨y1, rfl⟩ := Sub.step (uh HZ) hb
 clear hb
 obtain ⟨y2, hy2⟩ := Sub.step (uh HZ) (below_new y1.w (.cells #[.int .i64 5, .int .i64 0, .string ks] 71))
 have S2 := hide (show OwnT y2.w W.heap.size (.slice (some ⟨y1.w.heap.size, 0, none⟩) 1 1) [Tk.mk 5 0 ks] by rw [← hy2]; exact ownT_new y1.w (Tk.mk 5 0 ks) W.heap.size (Nat.le_trans (uh HZ) y1.h.size))
 have O2 := hide (uh S2)
 clear S2
 have l0 : [Tk.mk 5 0 ks].length ≤ 1 := Nat.le_refl 1
 go_wp2_with fail
 refine (uh RG y2.w).mono ?_
 rintro r w3 ⟨rfl, hb⟩
 have O3 := hide ((uh O2).later hb)
 clear O2
 obtain ⟨y3, rfl⟩ := Sub.step (uh HZ) hb
 clear hb
 obtain ⟨y4, hy4⟩ := Sub.step (uh HZ) (below_new y3.w (.cells #[.int .i64 (rgT rn).k, .int .i64 (rgT rn).n, .string (rgT rn).s] 71))
 have S4 := hide (show OwnT y4.w W.heap.size (.slice (some ⟨y3.w.heap.size, 0, none⟩) 1 1) [rgT rn] by rw [← hy4]; exact ownT_new y3.w (rgT rn) W.heap.size (Nat.le_trans (uh HZ) y3.h.size))
 have O4 := hide (show OwnT y4.w W.heap.size (.slice (some ⟨y1.w.heap.size, 0, none⟩) 1 1) [Tk.mk 5 0 ks] by rw [← hy4]; exact (uh O3).later (below_new _ _))
 clear O3
 go_wp2_with (at_builtin; go_must (refine appT rfl (.tmp 54) (.tmp 58) rfl (uh HZ) y4.h rfl (uh O4) rfl (uh S4) (one_ne _) (lsum l0 (one_le _) (by decide)) ?_; intro v5 y5 hO; obtain ⟨u5, hu⟩ : ∃ u, ([Tk.mk 5 0 ks] ++ [rgT rn]) = u := ⟨_, rfl⟩; rw [hu] at hO; have l5 := lapp hu l0 (one_le _); have O5 := hide hO; have H5 := hide hu; clear hO hu O4 S4))
 have EQ : u5 = T := by
  rw [← uh HT]
  rw [← uh H5]
  simp [mkT, mkS]
 rw [EQ] at O5
 go_ret
 exact ⟨_, rfl, uh HO y5 _ _ (uh O5), uh HB y5⟩
theorem ins_e (x : Ln) (p : La) (w : World) (hr : RdL w x p) (hop : x.op = 22) (ok : True) : Calls Tryz.prog 154 #[.agg (x.cs p)] w fun r w' => ∃ v, r = .returned v ∧ OwnT w' w.heap.size v ([kpT (x.op - 1).toNat]) ∧ Below w.heap.size w w' := by
 have hbW := below_new w (.cells (x.cs p) 30)
 obtain ⟨W, hW⟩ : ∃ W, w.alloc (.cells (x.cs p) 30) = W := ⟨_, rfl⟩
 have hrW := hr.later hbW
 have xl : w.heap.size < W.heap.size := by rw [← hW]; simp
 have xc : ∀ (i : Nat) (v : Value), (x.cs p)[i]? = some v → ∀ w1, Below W.heap.size W w1 → w1.cell? ⟨w.heap.size, i, none⟩ = some v := fun i v h w1 hb => (hb.cell (p := ⟨w.heap.size, i, none⟩) xl).trans (by rw [← hW]; exact box17 w _ _ i v h)
 rw [hW] at hbW hrW
 obtain ⟨y0, hy0⟩ : ∃ z : Sub W.heap.size W, w.alloc (.cells (x.cs p) 30) = z.w := ⟨⟨W, Below.refl _ _⟩, hW⟩
 have ne := Sub.ne W.heap.size W
 have HZ := hide (Nat.le_refl W.heap.size)
 have HB := hide (fun y : Sub W.heap.size W => hbW.trans (y.h.mono hbW.size))
 have HO := hide (fun (y : Sub W.heap.size W) v ts (h : OwnT y.w W.heap.size v ts) => h.base hbW.size)
 have F0 : ∀ y : Sub W.heap.size W, y.w.cell? ⟨w.heap.size, 0, none⟩ = some (.int .i64 x.k) := fun y => xc 0 _ rfl y.w y.h
 have Y0 := hide (fun w1 (hb : Below W.heap.size W w1) => (show w1.cell? ⟨w.heap.size, 0, none⟩ = some (.int .i64 x.k) from xc 0 _ rfl w1 hb))
 have F1 : ∀ y : Sub W.heap.size W, y.w.cell? ⟨w.heap.size, 1, none⟩ = some (.string x.s) := fun y => xc 1 _ rfl y.w y.h
 have Y1 := hide (fun w1 (hb : Below W.heap.size W w1) => (show w1.cell? ⟨w.heap.size, 1, none⟩ = some (.string x.s) from xc 1 _ rfl w1 hb))
 have F2 : ∀ y : Sub W.heap.size W, y.w.cell? ⟨w.heap.size, 2, none⟩ = some (.int .i64 x.op) := fun y => xc 2 _ rfl y.w y.h
 have Y2 := hide (fun w1 (hb : Below W.heap.size W w1) => (show w1.cell? ⟨w.heap.size, 2, none⟩ = some (.int .i64 x.op) from xc 2 _ rfl w1 hb))
 have F3 : ∀ y : Sub W.heap.size W, y.w.cell? ⟨w.heap.size, 3, none⟩ = some (.int .i64 x.src.f) := fun y => xc 3 _ rfl y.w y.h
 have Y3 := hide (fun w1 (hb : Below W.heap.size W w1) => (show w1.cell? ⟨w.heap.size, 3, none⟩ = some (.int .i64 x.src.f) from xc 3 _ rfl w1 hb))
 have F4 : ∀ y : Sub W.heap.size W, y.w.cell? ⟨w.heap.size, 4, none⟩ = some (.int .i64 x.src.r) := fun y => xc 4 _ rfl y.w y.h
 have Y4 := hide (fun w1 (hb : Below W.heap.size W w1) => (show w1.cell? ⟨w.heap.size, 4, none⟩ = some (.int .i64 x.src.r) from xc 4 _ rfl w1 hb))
 have F5 : ∀ y : Sub W.heap.size W, y.w.cell? ⟨w.heap.size, 5, none⟩ = some (.int .i64 x.src.e.k) := fun y => xc 5 _ rfl y.w y.h
 have Y5 := hide (fun w1 (hb : Below W.heap.size W w1) => (show w1.cell? ⟨w.heap.size, 5, none⟩ = some (.int .i64 x.src.e.k) from xc 5 _ rfl w1 hb))
 have F6 : ∀ y : Sub W.heap.size W, y.w.cell? ⟨w.heap.size, 6, none⟩ = some (.int .i64 x.src.e.n) := fun y => xc 6 _ rfl y.w y.h
 have Y6 := hide (fun w1 (hb : Below W.heap.size W w1) => (show w1.cell? ⟨w.heap.size, 6, none⟩ = some (.int .i64 x.src.e.n) from xc 6 _ rfl w1 hb))
 have F7 : ∀ y : Sub W.heap.size W, y.w.cell? ⟨w.heap.size, 7, none⟩ = some (.string x.src.e.s) := fun y => xc 7 _ rfl y.w y.h
 have Y7 := hide (fun w1 (hb : Below W.heap.size W w1) => (show w1.cell? ⟨w.heap.size, 7, none⟩ = some (.string x.src.e.s) from xc 7 _ rfl w1 hb))
 have F8 : ∀ y : Sub W.heap.size W, y.w.cell? ⟨w.heap.size, 8, none⟩ = some (.slice p.b1 x.src.e.l.length p.c1) := fun y => xc 8 _ rfl y.w y.h
 have Y8 := hide (fun w1 (hb : Below W.heap.size W w1) => (show w1.cell? ⟨w.heap.size, 8, none⟩ = some (.slice p.b1 x.src.e.l.length p.c1) from xc 8 _ rfl w1 hb))
 have F9 : ∀ y : Sub W.heap.size W, y.w.cell? ⟨w.heap.size, 9, none⟩ = some (.int .i64 x.dst.f) := fun y => xc 9 _ rfl y.w y.h
 have Y9 := hide (fun w1 (hb : Below W.heap.size W w1) => (show w1.cell? ⟨w.heap.size, 9, none⟩ = some (.int .i64 x.dst.f) from xc 9 _ rfl w1 hb))
 have F10 : ∀ y : Sub W.heap.size W, y.w.cell? ⟨w.heap.size, 10, none⟩ = some (.int .i64 x.dst.r) := fun y => xc 10 _ rfl y.w y.h
 have Y10 := hide (fun w1 (hb : Below W.heap.size W w1) => (show w1.cell? ⟨w.heap.size, 10, none⟩ = some (.int .i64 x.dst.r) from xc 10 _ rfl w1 hb))
 have F11 : ∀ y : Sub W.heap.size W, y.w.cell? ⟨w.heap.size, 11, none⟩ = some (.int .i64 x.dst.e.k) := fun y => xc 11 _ rfl y.w y.h
 have Y11 := hide (fun w1 (hb : Below W.heap.size W w1) => (show w1.cell? ⟨w.heap.size, 11, none⟩ = some (.int .i64 x.dst.e.k) from xc 11 _ rfl w1 hb))
 have F12 : ∀ y : Sub W.heap.size W, y.w.cell? ⟨w.heap.size, 12, none⟩ = some (.int .i64 x.dst.e.n) := fun y => xc 12 _ rfl y.w y.h
 have Y12 := hide (fun w1 (hb : Below W.heap.size W w1) => (show w1.cell? ⟨w.heap.size, 12, none⟩ = some (.int .i64 x.dst.e.n) from xc 12 _ rfl w1 hb))
 have F13 : ∀ y : Sub W.heap.size W, y.w.cell? ⟨w.heap.size, 13, none⟩ = some (.string x.dst.e.s) := fun y => xc 13 _ rfl y.w y.h
 have Y13 := hide (fun w1 (hb : Below W.heap.size W w1) => (show w1.cell? ⟨w.heap.size, 13, none⟩ = some (.string x.dst.e.s) from xc 13 _ rfl w1 hb))
 have F14 : ∀ y : Sub W.heap.size W, y.w.cell? ⟨w.heap.size, 14, none⟩ = some (.slice p.b2 x.dst.e.l.length p.c2) := fun y => xc 14 _ rfl y.w y.h
 have Y14 := hide (fun w1 (hb : Below W.heap.size W w1) => (show w1.cell? ⟨w.heap.size, 14, none⟩ = some (.slice p.b2 x.dst.e.l.length p.c2) from xc 14 _ rfl w1 hb))
 have F15 : ∀ y : Sub W.heap.size W, y.w.cell? ⟨w.heap.size, 15, none⟩ = some (.int .i64 x.n) := fun y => xc 15 _ rfl y.w y.h
 have Y15 := hide (fun w1 (hb : Below W.heap.size W w1) => (show w1.cell? ⟨w.heap.size, 15, none⟩ = some (.int .i64 x.n) from xc 15 _ rfl w1 hb))
 have F16 : ∀ y : Sub W.heap.size W, y.w.cell? ⟨w.heap.size, 16, none⟩ = some (.slice p.b3 x.l.length p.c3) := fun y => xc 16 _ rfl y.w y.h
 have Y16 := hide (fun w1 (hb : Below W.heap.size W w1) => (show w1.cell? ⟨w.heap.size, 16, none⟩ = some (.slice p.b3 x.l.length p.c3) from xc 16 _ rfl w1 hb))
 have MK := hide (fun x w1 => markS_ex x w1)
 unfold Tk.v Tk.cs at MK
 simp only at MK
 have KP' := fun w1 => keptS (x.op - 1).toNat (by omega) w1
 rw [show (((x.op - 1).toNat : Nat) : Int) = x.op - 1 by omega] at KP'
 have KP := hide KP'
 clear KP'
 unfold kpT Tk.v Tk.cs at KP
 simp only at KP
 have hwr : IntKind.i64.wrap (x.op - 1) = x.op - 1 := by rw [IntKind.wrap_i64]; omega
 rw [hop] at hwr KP F2 ⊢
 obtain ⟨T, hT⟩ : ∃ T, ([kpT ((22 : Int) - 1).toNat]) = T := ⟨_, rfl⟩
 have HT := hide hT
 rw [hT]
 clear hT
 unfold kpT at HT
 generalize keptL.getD ((22 : Int) - 1).toNat E0 = ks at *
 unfold Ln.cs at hy0 ⊢
 clear hr hrW hW xc xl hbW ok
 rw [hop] at hy0 ⊢
 clear hop
 generalize x.src.f = sf at *
 generalize x.src.r = sr at *
 generalize x.src.e.k = sk at *
 generalize x.src.e.n = sn at *
 generalize x.src.e.s = ss at *
 generalize x.src.e.l.length = sl at *
 generalize x.dst.f = df at *
 generalize x.dst.r = dr at *
 generalize x.dst.e.k = dk at *
 generalize x.dst.e.n = dn at *
 generalize x.dst.e.s = ds at *
 generalize x.dst.e.l.length = dl at *
 generalize x.k = k at *
 generalize x.s = s at *
 generalize x.op = op at *
 generalize x.n = n at *
 generalize x.l.length = ll at *
 generalize p.b1 = b1 at *
 generalize p.c1 = c1 at *
 generalize p.b2 = b2 at *
 generalize p.c2 = c2 at *
 generalize p.b3 = b3 at *
 generalize p.c3 = c3 at *
 go_enter Tryz.func154, Tryz.ntmps154
 go_wp2_with fail
 refine (uh KP y0.w).mono ?_
 rintro r w1 ⟨rfl, hb⟩
 obtain ⟨y1, rfl⟩ := Sub.step (uh HZ) hb
 clear hb
 obtain ⟨y2, hy2⟩ := Sub.step (uh HZ) (below_new y1.w (.cells #[.int .i64 5, .int .i64 0, .string ks] 71))
 have S2 := hide (show OwnT y2.w W.heap.size (.slice (some ⟨y1.w.heap.size, 0, none⟩) 1 1) [Tk.mk 5 0 ks] by rw [← hy2]; exact ownT_new y1.w (Tk.mk 5 0 ks) W.heap.size (Nat.le_trans (uh HZ) y1.h.size))
 have O2 := hide (uh S2)
 clear S2
 have l0 : [Tk.mk 5 0 ks].length ≤ 1 := Nat.le_refl 1
 go_wp2_with fail
 have EQ : [Tk.mk 5 0 ks] = T := uh HT
 rw [EQ] at O2
 go_ret
 exact ⟨_, rfl, uh HO y2 _ _ (uh O2), uh HB y2⟩
theorem ins_f (x : Ln) (p : La) (w : World) (hr : RdL w x p) (hop : 17 ≤ x.op ∧ x.op ≤ 23 ∧ x.op ≠ 22) (ok : 0 < x.l.length ∧ okF 6 true (xAt x.l 0) = true) : Calls Tryz.prog 154 #[.agg (x.cs p)] w fun r w' => ∃ v, r = .returned v ∧ OwnT w' w.heap.size v (kpT (x.op - 1).toNat :: toksF 6 (xAt x.l 0)) ∧ Below w.heap.size w w' := by
 have hbW := below_new w (.cells (x.cs p) 30)
 obtain ⟨W, hW⟩ : ∃ W, w.alloc (.cells (x.cs p) 30) = W := ⟨_, rfl⟩
 have hrW := hr.later hbW
 have xl : w.heap.size < W.heap.size := by rw [← hW]; simp
 have xc : ∀ (i : Nat) (v : Value), (x.cs p)[i]? = some v → ∀ w1, Below W.heap.size W w1 → w1.cell? ⟨w.heap.size, i, none⟩ = some v := fun i v h w1 hb => (hb.cell (p := ⟨w.heap.size, i, none⟩) xl).trans (by rw [← hW]; exact box17 w _ _ i v h)
 rw [hW] at hbW hrW
 obtain ⟨y0, hy0⟩ : ∃ z : Sub W.heap.size W, w.alloc (.cells (x.cs p) 30) = z.w := ⟨⟨W, Below.refl _ _⟩, hW⟩
 have ne := Sub.ne W.heap.size W
 have HZ := hide (Nat.le_refl W.heap.size)
 have HB := hide (fun y : Sub W.heap.size W => hbW.trans (y.h.mono hbW.size))
 have HO := hide (fun (y : Sub W.heap.size W) v ts (h : OwnT y.w W.heap.size v ts) => h.base hbW.size)
 have F0 : ∀ y : Sub W.heap.size W, y.w.cell? ⟨w.heap.size, 0, none⟩ = some (.int .i64 x.k) := fun y => xc 0 _ rfl y.w y.h
 have Y0 := hide (fun w1 (hb : Below W.heap.size W w1) => (show w1.cell? ⟨w.heap.size, 0, none⟩ = some (.int .i64 x.k) from xc 0 _ rfl w1 hb))
 have F1 : ∀ y : Sub W.heap.size W, y.w.cell? ⟨w.heap.size, 1, none⟩ = some (.string x.s) := fun y => xc 1 _ rfl y.w y.h
 have Y1 := hide (fun w1 (hb : Below W.heap.size W w1) => (show w1.cell? ⟨w.heap.size, 1, none⟩ = some (.string x.s) from xc 1 _ rfl w1 hb))
 have F2 : ∀ y : Sub W.heap.size W, y.w.cell? ⟨w.heap.size, 2, none⟩ = some (.int .i64 x.op) := fun y => xc 2 _ rfl y.w y.h
 have Y2 := hide (fun w1 (hb : Below W.heap.size W w1) => (show w1.cell? ⟨w.heap.size, 2, none⟩ = some (.int .i64 x.op) from xc 2 _ rfl w1 hb))
 have F3 : ∀ y : Sub W.heap.size W, y.w.cell? ⟨w.heap.size, 3, none⟩ = some (.int .i64 x.src.f) := fun y => xc 3 _ rfl y.w y.h
 have Y3 := hide (fun w1 (hb : Below W.heap.size W w1) => (show w1.cell? ⟨w.heap.size, 3, none⟩ = some (.int .i64 x.src.f) from xc 3 _ rfl w1 hb))
 have F4 : ∀ y : Sub W.heap.size W, y.w.cell? ⟨w.heap.size, 4, none⟩ = some (.int .i64 x.src.r) := fun y => xc 4 _ rfl y.w y.h
 have Y4 := hide (fun w1 (hb : Below W.heap.size W w1) => (show w1.cell? ⟨w.heap.size, 4, none⟩ = some (.int .i64 x.src.r) from xc 4 _ rfl w1 hb))
 have F5 : ∀ y : Sub W.heap.size W, y.w.cell? ⟨w.heap.size, 5, none⟩ = some (.int .i64 x.src.e.k) := fun y => xc 5 _ rfl y.w y.h
 have Y5 := hide (fun w1 (hb : Below W.heap.size W w1) => (show w1.cell? ⟨w.heap.size, 5, none⟩ = some (.int .i64 x.src.e.k) from xc 5 _ rfl w1 hb))
 have F6 : ∀ y : Sub W.heap.size W, y.w.cell? ⟨w.heap.size, 6, none⟩ = some (.int .i64 x.src.e.n) := fun y => xc 6 _ rfl y.w y.h
 have Y6 := hide (fun w1 (hb : Below W.heap.size W w1) => (show w1.cell? ⟨w.heap.size, 6, none⟩ = some (.int .i64 x.src.e.n) from xc 6 _ rfl w1 hb))
 have F7 : ∀ y : Sub W.heap.size W, y.w.cell? ⟨w.heap.size, 7, none⟩ = some (.string x.src.e.s) := fun y => xc 7 _ rfl y.w y.h
 have Y7 := hide (fun w1 (hb : Below W.heap.size W w1) => (show w1.cell? ⟨w.heap.size, 7, none⟩ = some (.string x.src.e.s) from xc 7 _ rfl w1 hb))
 have F8 : ∀ y : Sub W.heap.size W, y.w.cell? ⟨w.heap.size, 8, none⟩ = some (.slice p.b1 x.src.e.l.length p.c1) := fun y => xc 8 _ rfl y.w y.h
 have Y8 := hide (fun w1 (hb : Below W.heap.size W w1) => (show w1.cell? ⟨w.heap.size, 8, none⟩ = some (.slice p.b1 x.src.e.l.length p.c1) from xc 8 _ rfl w1 hb))
 have F9 : ∀ y : Sub W.heap.size W, y.w.cell? ⟨w.heap.size, 9, none⟩ = some (.int .i64 x.dst.f) := fun y => xc 9 _ rfl y.w y.h
 have Y9 := hide (fun w1 (hb : Below W.heap.size W w1) => (show w1.cell? ⟨w.heap.size, 9, none⟩ = some (.int .i64 x.dst.f) from xc 9 _ rfl w1 hb))
 have F10 : ∀ y : Sub W.heap.size W, y.w.cell? ⟨w.heap.size, 10, none⟩ = some (.int .i64 x.dst.r) := fun y => xc 10 _ rfl y.w y.h
 have Y10 := hide (fun w1 (hb : Below W.heap.size W w1) => (show w1.cell? ⟨w.heap.size, 10, none⟩ = some (.int .i64 x.dst.r) from xc 10 _ rfl w1 hb))
 have F11 : ∀ y : Sub W.heap.size W, y.w.cell? ⟨w.heap.size, 11, none⟩ = some (.int .i64 x.dst.e.k) := fun y => xc 11 _ rfl y.w y.h
 have Y11 := hide (fun w1 (hb : Below W.heap.size W w1) => (show w1.cell? ⟨w.heap.size, 11, none⟩ = some (.int .i64 x.dst.e.k) from xc 11 _ rfl w1 hb))
 have F12 : ∀ y : Sub W.heap.size W, y.w.cell? ⟨w.heap.size, 12, none⟩ = some (.int .i64 x.dst.e.n) := fun y => xc 12 _ rfl y.w y.h
 have Y12 := hide (fun w1 (hb : Below W.heap.size W w1) => (show w1.cell? ⟨w.heap.size, 12, none⟩ = some (.int .i64 x.dst.e.n) from xc 12 _ rfl w1 hb))
 have F13 : ∀ y : Sub W.heap.size W, y.w.cell? ⟨w.heap.size, 13, none⟩ = some (.string x.dst.e.s) := fun y => xc 13 _ rfl y.w y.h
 have Y13 := hide (fun w1 (hb : Below W.heap.size W w1) => (show w1.cell? ⟨w.heap.size, 13, none⟩ = some (.string x.dst.e.s) from xc 13 _ rfl w1 hb))
 have F14 : ∀ y : Sub W.heap.size W, y.w.cell? ⟨w.heap.size, 14, none⟩ = some (.slice p.b2 x.dst.e.l.length p.c2) := fun y => xc 14 _ rfl y.w y.h
 have Y14 := hide (fun w1 (hb : Below W.heap.size W w1) => (show w1.cell? ⟨w.heap.size, 14, none⟩ = some (.slice p.b2 x.dst.e.l.length p.c2) from xc 14 _ rfl w1 hb))
 have F15 : ∀ y : Sub W.heap.size W, y.w.cell? ⟨w.heap.size, 15, none⟩ = some (.int .i64 x.n) := fun y => xc 15 _ rfl y.w y.h
 have Y15 := hide (fun w1 (hb : Below W.heap.size W w1) => (show w1.cell? ⟨w.heap.size, 15, none⟩ = some (.int .i64 x.n) from xc 15 _ rfl w1 hb))
 have F16 : ∀ y : Sub W.heap.size W, y.w.cell? ⟨w.heap.size, 16, none⟩ = some (.slice p.b3 x.l.length p.c3) := fun y => xc 16 _ rfl y.w y.h
 have Y16 := hide (fun w1 (hb : Below W.heap.size W w1) => (show w1.cell? ⟨w.heap.size, 16, none⟩ = some (.slice p.b3 x.l.length p.c3) from xc 16 _ rfl w1 hb))
 have MK := hide (fun x w1 => markS_ex x w1)
 unfold Tk.v Tk.cs at MK
 simp only at MK
 have KP' := fun w1 => keptS (x.op - 1).toNat (by omega) w1
 rw [show (((x.op - 1).toNat : Nat) : Int) = x.op - 1 by omega] at KP'
 have KP := hide KP'
 clear KP'
 unfold kpT Tk.v Tk.cs at KP
 simp only at KP
 have hwr : IntKind.i64.wrap (x.op - 1) = x.op - 1 := by rw [IntKind.wrap_i64]; omega
 have o1 : ¬ (x.op ≤ 6) := by omega
 have o2 : ¬ (x.op ≤ 14) := by omega
 have o3 : (x.op == 15) = false := beq_eq_false_iff_ne.2 (by omega)
 have o4 : (x.op == 16) = false := beq_eq_false_iff_ne.2 (by omega)
 have o5 : (x.op == 22) = false := beq_eq_false_iff_ne.2 (by omega)
 obtain ⟨hl1, okt⟩ := ok
 obtain ⟨p1, po, hb1, _, hp1, hpc⟩ := ((RdX_eq _ _ _ _).1 hrW.l).resolve_left (fun h => by have h : x.l = [] := h; rw [h] at hl1; simp at hl1)
 obtain ⟨e0, e1, e2, pc, pp, e3, e4⟩ := hpc 0 (show 0 < x.l.length by omega)
 simp only [Nat.zero_mul, Nat.add_zero] at e0 e1 e2 e3
 have d0 : ∀ y : Sub W.heap.size W, y.w.cell? ⟨p1, po, none⟩ = some (.int .i64 (xAt x.l 0).k) := fun y => (y.h.cell (p := ⟨p1, _, none⟩) hp1).trans e0
 have d1 : ∀ y : Sub W.heap.size W, y.w.cell? ⟨p1, po + 1, none⟩ = some (.int .i64 (xAt x.l 0).n) := fun y => (y.h.cell (p := ⟨p1, _, none⟩) hp1).trans e1
 have d2 : ∀ y : Sub W.heap.size W, y.w.cell? ⟨p1, po + 2, none⟩ = some (.string (xAt x.l 0).s) := fun y => (y.h.cell (p := ⟨p1, _, none⟩) hp1).trans e2
 have d3 : ∀ y : Sub W.heap.size W, y.w.cell? ⟨p1, po + 3, none⟩ = some (.slice pc (xAt x.l 0).l.length pp) := fun y => (y.h.cell (p := ⟨p1, _, none⟩) hp1).trans e3
 have Z0 := hide (fun w1 (hb : Below W.heap.size W w1) => (show w1.cell? ⟨p1, po, none⟩ = some (.int .i64 (xAt x.l 0).k) from (hb.cell (p := ⟨p1, _, none⟩) hp1).trans e0))
 have Z1 := hide (fun w1 (hb : Below W.heap.size W w1) => (show w1.cell? ⟨p1, po + 1, none⟩ = some (.int .i64 (xAt x.l 0).n) from (hb.cell (p := ⟨p1, _, none⟩) hp1).trans e1))
 have Z2 := hide (fun w1 (hb : Below W.heap.size W w1) => (show w1.cell? ⟨p1, po + 2, none⟩ = some (.string (xAt x.l 0).s) from (hb.cell (p := ⟨p1, _, none⟩) hp1).trans e2))
 have Z3 := hide (fun w1 (hb : Below W.heap.size W w1) => (show w1.cell? ⟨p1, po + 3, none⟩ = some (.slice pc (xAt x.l 0).l.length pp) from (hb.cell (p := ⟨p1, _, none⟩) hp1).trans e3))
 have TE := hide (fun y : Sub W.heap.size W => toksS_all 6 (by omega) (xAt x.l 0) pc pp y.w okt ((show RdX W 0 (xAt x.l 0) pc from e4).later y.h))
 have tne := toks_ne okt
 have tle := toks_le okt
 rw [hb1] at F16 Y16
 clear e0 e1 e2 e3 e4 hpc hb1 hp1 okt
 unfold Ex.cs at TE
 generalize toksF 6 (xAt x.l 0) = te at *
 generalize (xAt x.l 0).s = ts at *
 generalize (xAt x.l 0).k = tk at *
 generalize (xAt x.l 0).n = tn at *
 generalize (xAt x.l 0).l.length = tl at *
 obtain ⟨T, hT⟩ : ∃ T, (kpT (x.op - 1).toNat :: te) = T := ⟨_, rfl⟩
 have HT := hide hT
 rw [hT]
 clear hT
 unfold kpT at HT
 generalize keptL.getD (x.op - 1).toNat E0 = ks at *
 unfold Ln.cs at hy0 ⊢
 clear hr hrW hW xc xl hbW hop
 generalize x.src.f = sf at *
 generalize x.src.r = sr at *
 generalize x.src.e.k = sk at *
 generalize x.src.e.n = sn at *
 generalize x.src.e.s = ss at *
 generalize x.src.e.l.length = sl at *
 generalize x.dst.f = df at *
 generalize x.dst.r = dr at *
 generalize x.dst.e.k = dk at *
 generalize x.dst.e.n = dn at *
 generalize x.dst.e.s = ds at *
 generalize x.dst.e.l.length = dl at *
 generalize x.k = k at *
 generalize x.s = s at *
 generalize x.op = op at *
 generalize x.n = n at *
 generalize x.l.length = ll at *
 generalize p.b1 = b1 at *
 generalize p.c1 = c1 at *
 generalize p.b2 = b2 at *
 generalize p.c2 = c2 at *
 generalize p.b3 = b3 at *
 generalize p.c3 = c3 at *
 go_enter Tryz.func154, Tryz.ntmps154
 go_wp2_with fail
 refine (uh KP y0.w).mono ?_
 rintro r w1 ⟨rfl, hb⟩
 obtain ⟨y1, rfl⟩ := Sub.step (uh HZ) hb
 clear hb
 obtain ⟨y2, hy2⟩ := Sub.step (uh HZ) (below_new y1.w (.cells #[.int .i64 5, .int .i64 0, .string ks] 71))
 have S2 := hide (show OwnT y2.w W.heap.size (.slice (some ⟨y1.w.heap.size, 0, none⟩) 1 1) [Tk.mk 5 0 ks] by rw [← hy2]; exact ownT_new y1.w (Tk.mk 5 0 ks) W.heap.size (Nat.le_trans (uh HZ) y1.h.size))
 have O2 := hide (uh S2)
 clear S2
 have l0 : [Tk.mk 5 0 ks].length ≤ 1 := Nat.le_refl 1
 go_wp2_with fail
 refine (uh TE y2).mono ?_
 rintro r w3 ⟨vs, rfl, hS, hb⟩
 have O3 := hide ((uh O2).later hb)
 clear O2
 obtain ⟨y3, rfl⟩ := Sub.step (uh HZ) hb
 clear hb
 have SR := hide hS
 clear hS
 go_wp2_with (at_builtin; go_must (refine appT rfl (.tmp 65) (.tmp 70) rfl (uh HZ) y3.h rfl (uh O3) rfl (uh SR) tne (lsum l0 tle (by decide)) ?_; intro v4 y4 hO; obtain ⟨u4, hu⟩ : ∃ u, ([Tk.mk 5 0 ks] ++ te) = u := ⟨_, rfl⟩; rw [hu] at hO; have l4 := lapp hu l0 tle; have O4 := hide hO; have H4 := hide hu; clear hO hu O3 SR))
 have EQ : u4 = T := by
  rw [← uh HT]
  rw [← uh H4]
  simp [mkT, mkS]
 rw [EQ] at O4
 go_ret
 exact ⟨_, rfl, uh HO y4 _ _ (uh O4), uh HB y4⟩
theorem instS_any (x : Ln) (p : La) (w : World) (hr : RdL w x p) (ok : insX x = true) : Calls Tryz.prog 154 #[.agg (x.cs p)] w fun r w' => ∃ v, r = .returned v ∧ OwnT w' w.heap.size v (insT x) ∧ Below w.heap.size w w' := by
 unfold insX insV at ok
 unfold insT
 by_cases h1 : inB x.op 1 6 = true
 ·
  rw [if_pos h1] at ok
  simp only [Bool.and_eq_true] at ok
  obtain ⟨q1, q2⟩ := inB_of h1
  rw [if_pos q2]
  exact ins_a x p w hr ⟨q1, q2⟩ ⟨ok.1, ok.2.1⟩
 rw [if_neg h1] at ok
 by_cases h2 : inB x.op 7 14 = true
 ·
  rw [if_pos h2] at ok
  simp only [Bool.and_eq_true] at ok
  obtain ⟨q1, q2⟩ := inB_of h2
  rw [if_neg (by omega), if_pos q2]
  exact ins_b x p w hr ⟨q1, q2⟩ ok.2.1
 rw [if_neg h2] at ok
 by_cases h3 : x.op = 15
 ·
  rw [if_pos (by simp [h3])] at ok
  simp only [Bool.and_eq_true] at ok
  obtain ⟨q1, q2⟩ := inB_of ok.2.2.1
  rw [if_neg (by omega), if_neg (by omega), if_pos h3]
  exact ins_c x p w hr h3 ⟨ok.2.1, q1, q2⟩
 rw [if_neg (by simp [h3])] at ok
 by_cases h4 : (!nonX x.src || !nonX x.dst) = true
 ·
  rw [if_pos h4] at ok
  cases ok
 rw [if_neg h4] at ok
 by_cases h5 : x.op = 16
 ·
  rw [if_pos (by simp [h5])] at ok
  simp only [Bool.and_eq_true] at ok
  obtain ⟨q1, q2⟩ := inB_of ok.1
  rw [if_neg (by omega), if_neg (by omega), if_neg h3, if_pos h5]
  exact ins_d x p w hr h5 ⟨q1, q2⟩
 rw [if_neg (by simp [h5])] at ok
 by_cases h6 : x.op = 22
 ·
  rw [if_neg (by omega), if_neg (by omega), if_neg h3, if_neg h5, if_pos h6]
  exact ins_e x p w hr h6 trivial
 rw [if_neg (by simp [h6])] at ok
 by_cases h7 : (inB x.op 17 21 || x.op == 23) = true
 ·
  rw [if_pos h7] at ok
  simp only [Bool.and_eq_true, beq_iff_eq] at ok
  have h8 : 17 ≤ x.op ∧ x.op ≤ 23 ∧ x.op ≠ 22 := by
   rcases Bool.or_eq_true_iff.1 h7 with h | h
   · have := inB_of h; omega
   ·
    have : x.op = 23 := by simpa using h
    omega
  rw [if_neg (by omega), if_neg (by omega), if_neg h3, if_neg h5, if_neg h6]
  exact ins_f x p w hr h8 ⟨by omega, List.all_eq_true.1 ok.2.2 _ (xAt_mem (by omega))⟩
 rw [if_neg h7] at ok
 cases ok
def lnT (x : Ln) : List Tk :=
 if x.k = 1 then [⟨1, 0, x.s⟩, mkT 58] else if x.k = 2 then ⟨1, 0, x.s⟩ :: mkT 61 :: toksF 6 (xAt x.l 0) else if x.k = 3 then insT x
 else if x.k = 4 then tmT ⟨#[46, 119, 111, 114, 100]⟩ x.l else if x.k = 5 then tmT ⟨#[46, 98, 108, 107, 119]⟩ x.l else if x.k = 7 then tmT ⟨#[46, 103, 108, 111, 98, 108]⟩ x.l else if x.k = 8 then tmT ⟨#[46, 101, 110, 100]⟩ x.l
 else if x.k = 6 then (if x.n = 1 then [⟨3, 0, ⟨#[46, 115, 101, 99, 116]⟩⟩, ⟨1, 0, x.s⟩, mkT 44, ⟨1, 0, ⟨#[111, 118, 101, 114]⟩⟩] else [⟨3, 0, ⟨#[46, 115, 101, 99, 116]⟩⟩, ⟨1, 0, x.s⟩]) else []
theorem ln_1 (x : Ln) (p : La) (w : World) (hr : RdL w x p) (hk : x.k = 1) (ok : True) : Calls Tryz.prog 107 #[.agg (x.cs p)] w fun r w' => ∃ v, r = .returned v ∧ OwnT w' w.heap.size v ([⟨1, 0, x.s⟩, mkT 58]) ∧ Below w.heap.size w w' := by
 have hb1 := below_new w (.cells (x.cs p) 30)
 have hb2 := below_new (w.alloc (.cells (x.cs p) 30)) (.cells #[.int .i64 1, .int .i64 0, .string x.s] 71)
 have hbW := hb1.trans (hb2.mono hb1.size)
 obtain ⟨W, hW⟩ : ∃ W, (w.alloc (.cells (x.cs p) 30)).alloc (.cells #[.int .i64 1, .int .i64 0, .string x.s] 71) = W := ⟨_, rfl⟩
 have hrW := hr.later hbW
 have xl : w.heap.size + 1 < W.heap.size := by rw [← hW]; simp
 have xc : ∀ (i : Nat) (v : Value), (x.cs p)[i]? = some v → ∀ w1, Below W.heap.size W w1 → w1.cell? ⟨w.heap.size, i, none⟩ = some v := fun i v h w1 hb => (hb.cell (p := ⟨w.heap.size, i, none⟩) (by show w.heap.size < W.heap.size; omega)).trans (by rw [← hW]; exact (hb2.cell (p := ⟨w.heap.size, i, none⟩) (by simp)).trans (box17 w _ _ i v h))
 have xn : ∀ (i : Nat) (v : Value), (#[.int .i64 1, .int .i64 0, .string x.s] : Array Value)[i]? = some v → ∀ w1, Below W.heap.size W w1 → w1.cell? ⟨w.heap.size + 1, i, none⟩ = some v := fun i v h w1 hb => (hb.cell (p := ⟨w.heap.size + 1, i, none⟩) xl).trans (by rw [← hW]; have := box17 (w.alloc (.cells (x.cs p) 30)) #[.int .i64 1, .int .i64 0, .string x.s] 71 i v h; rw [show (w.alloc (.cells (x.cs p) 30)).heap.size = w.heap.size + 1 by simp] at this; exact this)
 rw [hW] at hbW hrW
 obtain ⟨y0, hy0⟩ : ∃ z : Sub W.heap.size W, (w.alloc (.cells (x.cs p) 30)).alloc (.cells #[.int .i64 1, .int .i64 0, .string x.s] 71) = z.w := ⟨⟨W, Below.refl _ _⟩, hW⟩
 clear hb1 hb2
 have ne := Sub.ne W.heap.size W
 have HZ := hide (Nat.le_refl W.heap.size)
 have HB := hide (fun y : Sub W.heap.size W => hbW.trans (y.h.mono hbW.size))
 have HO := hide (fun (y : Sub W.heap.size W) v ts (h : OwnT y.w W.heap.size v ts) => h.base hbW.size)
 have F0 : ∀ y : Sub W.heap.size W, y.w.cell? ⟨w.heap.size, 0, none⟩ = some (.int .i64 x.k) := fun y => xc 0 _ rfl y.w y.h
 have Y0 := hide (fun w1 (hb : Below W.heap.size W w1) => (show w1.cell? ⟨w.heap.size, 0, none⟩ = some (.int .i64 x.k) from xc 0 _ rfl w1 hb))
 have F1 : ∀ y : Sub W.heap.size W, y.w.cell? ⟨w.heap.size, 1, none⟩ = some (.string x.s) := fun y => xc 1 _ rfl y.w y.h
 have Y1 := hide (fun w1 (hb : Below W.heap.size W w1) => (show w1.cell? ⟨w.heap.size, 1, none⟩ = some (.string x.s) from xc 1 _ rfl w1 hb))
 have F2 : ∀ y : Sub W.heap.size W, y.w.cell? ⟨w.heap.size, 2, none⟩ = some (.int .i64 x.op) := fun y => xc 2 _ rfl y.w y.h
 have Y2 := hide (fun w1 (hb : Below W.heap.size W w1) => (show w1.cell? ⟨w.heap.size, 2, none⟩ = some (.int .i64 x.op) from xc 2 _ rfl w1 hb))
 have F3 : ∀ y : Sub W.heap.size W, y.w.cell? ⟨w.heap.size, 3, none⟩ = some (.int .i64 x.src.f) := fun y => xc 3 _ rfl y.w y.h
 have Y3 := hide (fun w1 (hb : Below W.heap.size W w1) => (show w1.cell? ⟨w.heap.size, 3, none⟩ = some (.int .i64 x.src.f) from xc 3 _ rfl w1 hb))
 have F4 : ∀ y : Sub W.heap.size W, y.w.cell? ⟨w.heap.size, 4, none⟩ = some (.int .i64 x.src.r) := fun y => xc 4 _ rfl y.w y.h
 have Y4 := hide (fun w1 (hb : Below W.heap.size W w1) => (show w1.cell? ⟨w.heap.size, 4, none⟩ = some (.int .i64 x.src.r) from xc 4 _ rfl w1 hb))
 have F5 : ∀ y : Sub W.heap.size W, y.w.cell? ⟨w.heap.size, 5, none⟩ = some (.int .i64 x.src.e.k) := fun y => xc 5 _ rfl y.w y.h
 have Y5 := hide (fun w1 (hb : Below W.heap.size W w1) => (show w1.cell? ⟨w.heap.size, 5, none⟩ = some (.int .i64 x.src.e.k) from xc 5 _ rfl w1 hb))
 have F6 : ∀ y : Sub W.heap.size W, y.w.cell? ⟨w.heap.size, 6, none⟩ = some (.int .i64 x.src.e.n) := fun y => xc 6 _ rfl y.w y.h
 have Y6 := hide (fun w1 (hb : Below W.heap.size W w1) => (show w1.cell? ⟨w.heap.size, 6, none⟩ = some (.int .i64 x.src.e.n) from xc 6 _ rfl w1 hb))
 have F7 : ∀ y : Sub W.heap.size W, y.w.cell? ⟨w.heap.size, 7, none⟩ = some (.string x.src.e.s) := fun y => xc 7 _ rfl y.w y.h
 have Y7 := hide (fun w1 (hb : Below W.heap.size W w1) => (show w1.cell? ⟨w.heap.size, 7, none⟩ = some (.string x.src.e.s) from xc 7 _ rfl w1 hb))
 have F8 : ∀ y : Sub W.heap.size W, y.w.cell? ⟨w.heap.size, 8, none⟩ = some (.slice p.b1 x.src.e.l.length p.c1) := fun y => xc 8 _ rfl y.w y.h
 have Y8 := hide (fun w1 (hb : Below W.heap.size W w1) => (show w1.cell? ⟨w.heap.size, 8, none⟩ = some (.slice p.b1 x.src.e.l.length p.c1) from xc 8 _ rfl w1 hb))
 have F9 : ∀ y : Sub W.heap.size W, y.w.cell? ⟨w.heap.size, 9, none⟩ = some (.int .i64 x.dst.f) := fun y => xc 9 _ rfl y.w y.h
 have Y9 := hide (fun w1 (hb : Below W.heap.size W w1) => (show w1.cell? ⟨w.heap.size, 9, none⟩ = some (.int .i64 x.dst.f) from xc 9 _ rfl w1 hb))
 have F10 : ∀ y : Sub W.heap.size W, y.w.cell? ⟨w.heap.size, 10, none⟩ = some (.int .i64 x.dst.r) := fun y => xc 10 _ rfl y.w y.h
 have Y10 := hide (fun w1 (hb : Below W.heap.size W w1) => (show w1.cell? ⟨w.heap.size, 10, none⟩ = some (.int .i64 x.dst.r) from xc 10 _ rfl w1 hb))
 have F11 : ∀ y : Sub W.heap.size W, y.w.cell? ⟨w.heap.size, 11, none⟩ = some (.int .i64 x.dst.e.k) := fun y => xc 11 _ rfl y.w y.h
 have Y11 := hide (fun w1 (hb : Below W.heap.size W w1) => (show w1.cell? ⟨w.heap.size, 11, none⟩ = some (.int .i64 x.dst.e.k) from xc 11 _ rfl w1 hb))
 have F12 : ∀ y : Sub W.heap.size W, y.w.cell? ⟨w.heap.size, 12, none⟩ = some (.int .i64 x.dst.e.n) := fun y => xc 12 _ rfl y.w y.h
 have Y12 := hide (fun w1 (hb : Below W.heap.size W w1) => (show w1.cell? ⟨w.heap.size, 12, none⟩ = some (.int .i64 x.dst.e.n) from xc 12 _ rfl w1 hb))
 have F13 : ∀ y : Sub W.heap.size W, y.w.cell? ⟨w.heap.size, 13, none⟩ = some (.string x.dst.e.s) := fun y => xc 13 _ rfl y.w y.h
 have Y13 := hide (fun w1 (hb : Below W.heap.size W w1) => (show w1.cell? ⟨w.heap.size, 13, none⟩ = some (.string x.dst.e.s) from xc 13 _ rfl w1 hb))
 have F14 : ∀ y : Sub W.heap.size W, y.w.cell? ⟨w.heap.size, 14, none⟩ = some (.slice p.b2 x.dst.e.l.length p.c2) := fun y => xc 14 _ rfl y.w y.h
 have Y14 := hide (fun w1 (hb : Below W.heap.size W w1) => (show w1.cell? ⟨w.heap.size, 14, none⟩ = some (.slice p.b2 x.dst.e.l.length p.c2) from xc 14 _ rfl w1 hb))
 have F15 : ∀ y : Sub W.heap.size W, y.w.cell? ⟨w.heap.size, 15, none⟩ = some (.int .i64 x.n) := fun y => xc 15 _ rfl y.w y.h
 have Y15 := hide (fun w1 (hb : Below W.heap.size W w1) => (show w1.cell? ⟨w.heap.size, 15, none⟩ = some (.int .i64 x.n) from xc 15 _ rfl w1 hb))
 have F16 : ∀ y : Sub W.heap.size W, y.w.cell? ⟨w.heap.size, 16, none⟩ = some (.slice p.b3 x.l.length p.c3) := fun y => xc 16 _ rfl y.w y.h
 have Y16 := hide (fun w1 (hb : Below W.heap.size W w1) => (show w1.cell? ⟨w.heap.size, 16, none⟩ = some (.slice p.b3 x.l.length p.c3) from xc 16 _ rfl w1 hb))
 have MK := hide (fun x w1 => markS_ex x w1)
 unfold Tk.v Tk.cs at MK
 simp only at MK
 have G0 : ∀ y : Sub W.heap.size W, y.w.cell? ⟨w.heap.size + 1, 0, none⟩ = some (.int .i64 1) := fun y => xn 0 _ rfl y.w y.h
 have X0 := hide (fun w1 (hb : Below W.heap.size W w1) => (show w1.cell? ⟨w.heap.size + 1, 0, none⟩ = some (.int .i64 1) from xn 0 _ rfl w1 hb))
 have G1 : ∀ y : Sub W.heap.size W, y.w.cell? ⟨w.heap.size + 1, 1, none⟩ = some (.int .i64 0) := fun y => xn 1 _ rfl y.w y.h
 have X1 := hide (fun w1 (hb : Below W.heap.size W w1) => (show w1.cell? ⟨w.heap.size + 1, 1, none⟩ = some (.int .i64 0) from xn 1 _ rfl w1 hb))
 have G2 : ∀ y : Sub W.heap.size W, y.w.cell? ⟨w.heap.size + 1, 2, none⟩ = some (.string x.s) := fun y => xn 2 _ rfl y.w y.h
 have X2 := hide (fun w1 (hb : Below W.heap.size W w1) => (show w1.cell? ⟨w.heap.size + 1, 2, none⟩ = some (.string x.s) from xn 2 _ rfl w1 hb))
 rw [hk] at F0
 obtain ⟨T, hT⟩ : ∃ T : List Tk, ([⟨1, 0, x.s⟩, mkT 58]) = T := ⟨_, rfl⟩
 have HT := hide hT
 rw [hT]
 clear hT
 unfold Ln.cs at hy0 ⊢
 rw [hk] at hy0 ⊢
 clear hr hrW hW xc xn xl hbW hk ok
 generalize x.src.f = sf at *
 generalize x.src.r = sr at *
 generalize x.src.e.k = sk at *
 generalize x.src.e.n = sn at *
 generalize x.src.e.s = ss at *
 generalize x.src.e.l.length = sl at *
 generalize x.dst.f = df at *
 generalize x.dst.r = dr at *
 generalize x.dst.e.k = dk at *
 generalize x.dst.e.n = dn at *
 generalize x.dst.e.s = ds at *
 generalize x.dst.e.l.length = dl at *
 generalize x.k = k at *
 generalize x.s = s at *
 generalize x.op = op at *
 generalize x.n = n at *
 generalize x.l.length = ll at *
 generalize p.b1 = b1 at *
 generalize p.c1 = c1 at *
 generalize p.b2 = b2 at *
 generalize p.c2 = c2 at *
 generalize p.b3 = b3 at *
 generalize p.c3 = c3 at *
 go_enter Tryz.func107, Tryz.ntmps107
 go_wp2_with fail
 obtain ⟨y1, hy1⟩ := Sub.step (uh HZ) (below_drew (w := y0.w))
 have D0 := hide (show Below W.heap.size W y0.w.drew by rw [hy1]; exact y1.h)
 refine wp_region_held_drew (S := fun w' => Below W.heap.size W w') (by kernel_rfl) (uh D0) (fun hS => ?_)
 have HS := hide hS
 clear hS D0
 rw [hy1] at HS ⊢
 refine tkA 0 (.agg #[.int .i64 1, .int .i64 0, .string s]) rfl (.inl ⟨by rfl, fun w hc => ?_⟩) (uh HS) ?_
 · have q0 := uh X0 _ hc; have q1 := uh X1 _ hc; have q2 := uh X2 _ hc; clear hc; go_simp
 go_simp
 refine wpAnyH_ready (rs := [1]) (by kernel_rfl) (by simp) ?_
 refine AllReadyH.cons rfl (fun K2 hK => ?_) AllReadyH.nil
 go_simp
 refine (uh MK ⟨#[58]⟩ y1.w).mono ?_
 rintro r w2 ⟨rfl, hb⟩
 obtain ⟨y2, rfl⟩ := Sub.step (uh HZ) hb
 clear hb
 refine hK.out _ _ (y2.h) (fun hS => ?_)
 clear HS
 have HS := hide hS
 clear hS hK K2
 refine wpAnyH_ready (rs := [2]) (by kernel_rfl) (by simp) ?_
 refine AllReadyH.cons rfl (fun K2 hK => ?_) AllReadyH.nil
 obtain ⟨y3, hy3⟩ := Sub.step (uh HZ) (below_new y2.w (.cells #[.int .i64 1, .int .i64 0, .string s, .int .i64 4, .int .i64 0, .string ⟨#[58]⟩] 71))
 have S3 := hide (show OwnT y3.w W.heap.size (.slice (some ⟨y2.w.heap.size, 0, none⟩) 2 2) [(Tk.mk 1 0 s), (Tk.mk 4 0 ⟨#[58]⟩)] by rw [← hy3]; exact ownT_two y2.w (Tk.mk 1 0 s) (Tk.mk 4 0 ⟨#[58]⟩) W.heap.size (Nat.le_trans (uh HZ) y2.h.size))
 go_simp
 refine hK.out _ _ (y3.h) (fun hS => ?_)
 clear HS
 have HS := hide hS
 clear hS hK K2
 have O3 := hide (uh S3)
 clear S3
 have l0 : ([(Tk.mk 1 0 s), (Tk.mk 4 0 ⟨#[58]⟩)]).length ≤ 2 := Nat.le_refl 2
 refine tkB 3 (.slice (some ⟨y2.w.heap.size, 0, none⟩) 2 2) rfl (uh HS) ?_
 go_simp
 refine wpAnyH_done (by kernel_rfl) ?_ _
 clear HS
 go_wp2_with fail
 have EQ : [(Tk.mk 1 0 s), (Tk.mk 4 0 ⟨#[58]⟩)] = T := uh HT
 rw [EQ] at O3
 go_ret
 exact ⟨_, rfl, uh HO y3 _ _ (uh O3), uh HB y3⟩
theorem ln_2 (x : Ln) (p : La) (w : World) (hr : RdL w x p) (hk : x.k = 2) (ok : 0 < x.l.length ∧ okF 6 true (xAt x.l 0) = true) : Calls Tryz.prog 107 #[.agg (x.cs p)] w fun r w' => ∃ v, r = .returned v ∧ OwnT w' w.heap.size v (⟨1, 0, x.s⟩ :: mkT 61 :: toksF 6 (xAt x.l 0)) ∧ Below w.heap.size w w' := by
 have hb1 := below_new w (.cells (x.cs p) 30)
 have hb2 := below_new (w.alloc (.cells (x.cs p) 30)) (.cells #[.int .i64 1, .int .i64 0, .string x.s] 71)
 have hbW := hb1.trans (hb2.mono hb1.size)
 obtain ⟨W, hW⟩ : ∃ W, (w.alloc (.cells (x.cs p) 30)).alloc (.cells #[.int .i64 1, .int .i64 0, .string x.s] 71) = W := ⟨_, rfl⟩
 have hrW := hr.later hbW
 have xl : w.heap.size + 1 < W.heap.size := by rw [← hW]; simp
 have xc : ∀ (i : Nat) (v : Value), (x.cs p)[i]? = some v → ∀ w1, Below W.heap.size W w1 → w1.cell? ⟨w.heap.size, i, none⟩ = some v := fun i v h w1 hb => (hb.cell (p := ⟨w.heap.size, i, none⟩) (by show w.heap.size < W.heap.size; omega)).trans (by rw [← hW]; exact (hb2.cell (p := ⟨w.heap.size, i, none⟩) (by simp)).trans (box17 w _ _ i v h))
 have xn : ∀ (i : Nat) (v : Value), (#[.int .i64 1, .int .i64 0, .string x.s] : Array Value)[i]? = some v → ∀ w1, Below W.heap.size W w1 → w1.cell? ⟨w.heap.size + 1, i, none⟩ = some v := fun i v h w1 hb => (hb.cell (p := ⟨w.heap.size + 1, i, none⟩) xl).trans (by rw [← hW]; have := box17 (w.alloc (.cells (x.cs p) 30)) #[.int .i64 1, .int .i64 0, .string x.s] 71 i v h; rw [show (w.alloc (.cells (x.cs p) 30)).heap.size = w.heap.size + 1 by simp] at this; exact this)
 rw [hW] at hbW hrW
 obtain ⟨y0, hy0⟩ : ∃ z : Sub W.heap.size W, (w.alloc (.cells (x.cs p) 30)).alloc (.cells #[.int .i64 1, .int .i64 0, .string x.s] 71) = z.w := ⟨⟨W, Below.refl _ _⟩, hW⟩
 clear hb1 hb2
 have ne := Sub.ne W.heap.size W
 have HZ := hide (Nat.le_refl W.heap.size)
 have HB := hide (fun y : Sub W.heap.size W => hbW.trans (y.h.mono hbW.size))
 have HO := hide (fun (y : Sub W.heap.size W) v ts (h : OwnT y.w W.heap.size v ts) => h.base hbW.size)
 have F0 : ∀ y : Sub W.heap.size W, y.w.cell? ⟨w.heap.size, 0, none⟩ = some (.int .i64 x.k) := fun y => xc 0 _ rfl y.w y.h
 have Y0 := hide (fun w1 (hb : Below W.heap.size W w1) => (show w1.cell? ⟨w.heap.size, 0, none⟩ = some (.int .i64 x.k) from xc 0 _ rfl w1 hb))
 have F1 : ∀ y : Sub W.heap.size W, y.w.cell? ⟨w.heap.size, 1, none⟩ = some (.string x.s) := fun y => xc 1 _ rfl y.w y.h
 have Y1 := hide (fun w1 (hb : Below W.heap.size W w1) => (show w1.cell? ⟨w.heap.size, 1, none⟩ = some (.string x.s) from xc 1 _ rfl w1 hb))
 have F2 : ∀ y : Sub W.heap.size W, y.w.cell? ⟨w.heap.size, 2, none⟩ = some (.int .i64 x.op) := fun y => xc 2 _ rfl y.w y.h
 have Y2 := hide (fun w1 (hb : Below W.heap.size W w1) => (show w1.cell? ⟨w.heap.size, 2, none⟩ = some (.int .i64 x.op) from xc 2 _ rfl w1 hb))
 have F3 : ∀ y : Sub W.heap.size W, y.w.cell? ⟨w.heap.size, 3, none⟩ = some (.int .i64 x.src.f) := fun y => xc 3 _ rfl y.w y.h
 have Y3 := hide (fun w1 (hb : Below W.heap.size W w1) => (show w1.cell? ⟨w.heap.size, 3, none⟩ = some (.int .i64 x.src.f) from xc 3 _ rfl w1 hb))
 have F4 : ∀ y : Sub W.heap.size W, y.w.cell? ⟨w.heap.size, 4, none⟩ = some (.int .i64 x.src.r) := fun y => xc 4 _ rfl y.w y.h
 have Y4 := hide (fun w1 (hb : Below W.heap.size W w1) => (show w1.cell? ⟨w.heap.size, 4, none⟩ = some (.int .i64 x.src.r) from xc 4 _ rfl w1 hb))
 have F5 : ∀ y : Sub W.heap.size W, y.w.cell? ⟨w.heap.size, 5, none⟩ = some (.int .i64 x.src.e.k) := fun y => xc 5 _ rfl y.w y.h
 have Y5 := hide (fun w1 (hb : Below W.heap.size W w1) => (show w1.cell? ⟨w.heap.size, 5, none⟩ = some (.int .i64 x.src.e.k) from xc 5 _ rfl w1 hb))
 have F6 : ∀ y : Sub W.heap.size W, y.w.cell? ⟨w.heap.size, 6, none⟩ = some (.int .i64 x.src.e.n) := fun y => xc 6 _ rfl y.w y.h
 have Y6 := hide (fun w1 (hb : Below W.heap.size W w1) => (show w1.cell? ⟨w.heap.size, 6, none⟩ = some (.int .i64 x.src.e.n) from xc 6 _ rfl w1 hb))
 have F7 : ∀ y : Sub W.heap.size W, y.w.cell? ⟨w.heap.size, 7, none⟩ = some (.string x.src.e.s) := fun y => xc 7 _ rfl y.w y.h
 have Y7 := hide (fun w1 (hb : Below W.heap.size W w1) => (show w1.cell? ⟨w.heap.size, 7, none⟩ = some (.string x.src.e.s) from xc 7 _ rfl w1 hb))
 have F8 : ∀ y : Sub W.heap.size W, y.w.cell? ⟨w.heap.size, 8, none⟩ = some (.slice p.b1 x.src.e.l.length p.c1) := fun y => xc 8 _ rfl y.w y.h
 have Y8 := hide (fun w1 (hb : Below W.heap.size W w1) => (show w1.cell? ⟨w.heap.size, 8, none⟩ = some (.slice p.b1 x.src.e.l.length p.c1) from xc 8 _ rfl w1 hb))
 have F9 : ∀ y : Sub W.heap.size W, y.w.cell? ⟨w.heap.size, 9, none⟩ = some (.int .i64 x.dst.f) := fun y => xc 9 _ rfl y.w y.h
 have Y9 := hide (fun w1 (hb : Below W.heap.size W w1) => (show w1.cell? ⟨w.heap.size, 9, none⟩ = some (.int .i64 x.dst.f) from xc 9 _ rfl w1 hb))
 have F10 : ∀ y : Sub W.heap.size W, y.w.cell? ⟨w.heap.size, 10, none⟩ = some (.int .i64 x.dst.r) := fun y => xc 10 _ rfl y.w y.h
 have Y10 := hide (fun w1 (hb : Below W.heap.size W w1) => (show w1.cell? ⟨w.heap.size, 10, none⟩ = some (.int .i64 x.dst.r) from xc 10 _ rfl w1 hb))
 have F11 : ∀ y : Sub W.heap.size W, y.w.cell? ⟨w.heap.size, 11, none⟩ = some (.int .i64 x.dst.e.k) := fun y => xc 11 _ rfl y.w y.h
 have Y11 := hide (fun w1 (hb : Below W.heap.size W w1) => (show w1.cell? ⟨w.heap.size, 11, none⟩ = some (.int .i64 x.dst.e.k) from xc 11 _ rfl w1 hb))
 have F12 : ∀ y : Sub W.heap.size W, y.w.cell? ⟨w.heap.size, 12, none⟩ = some (.int .i64 x.dst.e.n) := fun y => xc 12 _ rfl y.w y.h
 have Y12 := hide (fun w1 (hb : Below W.heap.size W w1) => (show w1.cell? ⟨w.heap.size, 12, none⟩ = some (.int .i64 x.dst.e.n) from xc 12 _ rfl w1 hb))
 have F13 : ∀ y : Sub W.heap.size W, y.w.cell? ⟨w.heap.size, 13, none⟩ = some (.string x.dst.e.s) := fun y => xc 13 _ rfl y.w y.h
 have Y13 := hide (fun w1 (hb : Below W.heap.size W w1) => (show w1.cell? ⟨w.heap.size, 13, none⟩ = some (.string x.dst.e.s) from xc 13 _ rfl w1 hb))
 have F14 : ∀ y : Sub W.heap.size W, y.w.cell? ⟨w.heap.size, 14, none⟩ = some (.slice p.b2 x.dst.e.l.length p.c2) := fun y => xc 14 _ rfl y.w y.h
 have Y14 := hide (fun w1 (hb : Below W.heap.size W w1) => (show w1.cell? ⟨w.heap.size, 14, none⟩ = some (.slice p.b2 x.dst.e.l.length p.c2) from xc 14 _ rfl w1 hb))
 have F15 : ∀ y : Sub W.heap.size W, y.w.cell? ⟨w.heap.size, 15, none⟩ = some (.int .i64 x.n) := fun y => xc 15 _ rfl y.w y.h
 have Y15 := hide (fun w1 (hb : Below W.heap.size W w1) => (show w1.cell? ⟨w.heap.size, 15, none⟩ = some (.int .i64 x.n) from xc 15 _ rfl w1 hb))
 have F16 : ∀ y : Sub W.heap.size W, y.w.cell? ⟨w.heap.size, 16, none⟩ = some (.slice p.b3 x.l.length p.c3) := fun y => xc 16 _ rfl y.w y.h
 have Y16 := hide (fun w1 (hb : Below W.heap.size W w1) => (show w1.cell? ⟨w.heap.size, 16, none⟩ = some (.slice p.b3 x.l.length p.c3) from xc 16 _ rfl w1 hb))
 have MK := hide (fun x w1 => markS_ex x w1)
 unfold Tk.v Tk.cs at MK
 simp only at MK
 have G0 : ∀ y : Sub W.heap.size W, y.w.cell? ⟨w.heap.size + 1, 0, none⟩ = some (.int .i64 1) := fun y => xn 0 _ rfl y.w y.h
 have X0 := hide (fun w1 (hb : Below W.heap.size W w1) => (show w1.cell? ⟨w.heap.size + 1, 0, none⟩ = some (.int .i64 1) from xn 0 _ rfl w1 hb))
 have G1 : ∀ y : Sub W.heap.size W, y.w.cell? ⟨w.heap.size + 1, 1, none⟩ = some (.int .i64 0) := fun y => xn 1 _ rfl y.w y.h
 have X1 := hide (fun w1 (hb : Below W.heap.size W w1) => (show w1.cell? ⟨w.heap.size + 1, 1, none⟩ = some (.int .i64 0) from xn 1 _ rfl w1 hb))
 have G2 : ∀ y : Sub W.heap.size W, y.w.cell? ⟨w.heap.size + 1, 2, none⟩ = some (.string x.s) := fun y => xn 2 _ rfl y.w y.h
 have X2 := hide (fun w1 (hb : Below W.heap.size W w1) => (show w1.cell? ⟨w.heap.size + 1, 2, none⟩ = some (.string x.s) from xn 2 _ rfl w1 hb))
 rw [hk] at F0
 obtain ⟨hl1, okt⟩ := ok
 obtain ⟨p1, po, hb1, _, hp1, hpc⟩ := ((RdX_eq _ _ _ _).1 hrW.l).resolve_left (fun h => by have h : x.l = [] := h; rw [h] at hl1; simp at hl1)
 obtain ⟨e0, e1, e2, pc, pp, e3, e4⟩ := hpc 0 (show 0 < x.l.length by omega)
 simp only [Nat.zero_mul, Nat.add_zero] at e0 e1 e2 e3
 have d0 : ∀ y : Sub W.heap.size W, y.w.cell? ⟨p1, po, none⟩ = some (.int .i64 (xAt x.l 0).k) := fun y => (y.h.cell (p := ⟨p1, _, none⟩) hp1).trans e0
 have d1 : ∀ y : Sub W.heap.size W, y.w.cell? ⟨p1, po + 1, none⟩ = some (.int .i64 (xAt x.l 0).n) := fun y => (y.h.cell (p := ⟨p1, _, none⟩) hp1).trans e1
 have d2 : ∀ y : Sub W.heap.size W, y.w.cell? ⟨p1, po + 2, none⟩ = some (.string (xAt x.l 0).s) := fun y => (y.h.cell (p := ⟨p1, _, none⟩) hp1).trans e2
 have d3 : ∀ y : Sub W.heap.size W, y.w.cell? ⟨p1, po + 3, none⟩ = some (.slice pc (xAt x.l 0).l.length pp) := fun y => (y.h.cell (p := ⟨p1, _, none⟩) hp1).trans e3
 have Z0 := hide (fun w1 (hb : Below W.heap.size W w1) => (show w1.cell? ⟨p1, po, none⟩ = some (.int .i64 (xAt x.l 0).k) from (hb.cell (p := ⟨p1, _, none⟩) hp1).trans e0))
 have Z1 := hide (fun w1 (hb : Below W.heap.size W w1) => (show w1.cell? ⟨p1, po + 1, none⟩ = some (.int .i64 (xAt x.l 0).n) from (hb.cell (p := ⟨p1, _, none⟩) hp1).trans e1))
 have Z2 := hide (fun w1 (hb : Below W.heap.size W w1) => (show w1.cell? ⟨p1, po + 2, none⟩ = some (.string (xAt x.l 0).s) from (hb.cell (p := ⟨p1, _, none⟩) hp1).trans e2))
 have Z3 := hide (fun w1 (hb : Below W.heap.size W w1) => (show w1.cell? ⟨p1, po + 3, none⟩ = some (.slice pc (xAt x.l 0).l.length pp) from (hb.cell (p := ⟨p1, _, none⟩) hp1).trans e3))
 have TE := hide (fun y : Sub W.heap.size W => toksS_all 6 (by omega) (xAt x.l 0) pc pp y.w okt ((show RdX W 0 (xAt x.l 0) pc from e4).later y.h))
 have tne := toks_ne okt
 have tle := toks_le okt
 rw [hb1] at F16 Y16
 clear e0 e1 e2 e3 e4 hpc hb1 hp1 okt
 unfold Ex.cs at TE
 generalize toksF 6 (xAt x.l 0) = te at *
 generalize (xAt x.l 0).s = ts at *
 generalize (xAt x.l 0).k = tk at *
 generalize (xAt x.l 0).n = tn at *
 generalize (xAt x.l 0).l.length = tl at *
 obtain ⟨T, hT⟩ : ∃ T : List Tk, (⟨1, 0, x.s⟩ :: mkT 61 :: te) = T := ⟨_, rfl⟩
 have HT := hide hT
 rw [hT]
 clear hT
 unfold Ln.cs at hy0 ⊢
 rw [hk] at hy0 ⊢
 clear hr hrW hW xc xn xl hbW hk
 generalize x.src.f = sf at *
 generalize x.src.r = sr at *
 generalize x.src.e.k = sk at *
 generalize x.src.e.n = sn at *
 generalize x.src.e.s = ss at *
 generalize x.src.e.l.length = sl at *
 generalize x.dst.f = df at *
 generalize x.dst.r = dr at *
 generalize x.dst.e.k = dk at *
 generalize x.dst.e.n = dn at *
 generalize x.dst.e.s = ds at *
 generalize x.dst.e.l.length = dl at *
 generalize x.k = k at *
 generalize x.s = s at *
 generalize x.op = op at *
 generalize x.n = n at *
 generalize x.l.length = ll at *
 generalize p.b1 = b1 at *
 generalize p.c1 = c1 at *
 generalize p.b2 = b2 at *
 generalize p.c2 = c2 at *
 generalize p.b3 = b3 at *
 generalize p.c3 = c3 at *
 go_enter Tryz.func107, Tryz.ntmps107
 go_wp2_with fail
 obtain ⟨y1, hy1⟩ := Sub.step (uh HZ) (below_drew (w := y0.w))
 have D0 := hide (show Below W.heap.size W y0.w.drew by rw [hy1]; exact y1.h)
 refine wp_region_held_drew (S := fun w' => Below W.heap.size W w') (by kernel_rfl) (uh D0) (fun hS => ?_)
 have HS := hide hS
 clear hS D0
 rw [hy1] at HS ⊢
 refine tkA 0 (.agg #[.int .i64 1, .int .i64 0, .string s]) rfl (.inl ⟨by rfl, fun w hc => ?_⟩) (uh HS) ?_
 · have q0 := uh X0 _ hc; have q1 := uh X1 _ hc; have q2 := uh X2 _ hc; clear hc; go_simp
 go_simp
 refine tkB 3 (.pointer (some ⟨w.heap.size, 16, none⟩)) rfl (uh HS) ?_
 go_simp
 refine tkA 4 (.slice (some ⟨p1, po, none⟩) ll c3) rfl (.inl ⟨by rfl, fun w hc => ?_⟩) (uh HS) ?_
 · have q16 := uh Y16 _ hc; clear hc; go_simp
 go_simp
 refine tkB 5 (.pointer (some ⟨p1, po, none⟩)) rfl (uh HS) ?_
 go_simp
 refine tkA 6 (.agg #[.int .i64 tk, .int .i64 tn, .string ts, .slice pc tl pp]) rfl (.inl ⟨by rfl, fun w hc => ?_⟩) (uh HS) ?_
 · have q0 := uh Z0 _ hc; have q1 := uh Z1 _ hc; have q2 := uh Z2 _ hc; have q3 := uh Z3 _ hc; clear hc; go_simp
 go_simp
 refine wpAnyH_ready (rs := [1]) (by kernel_rfl) (by simp) ?_
 refine AllReadyH.cons rfl (fun K2 hK => ?_) AllReadyH.nil
 go_simp
 refine (uh MK ⟨#[61]⟩ y1.w).mono ?_
 rintro r w2 ⟨rfl, hb⟩
 obtain ⟨y2, rfl⟩ := Sub.step (uh HZ) hb
 clear hb
 refine hK.out _ _ (y2.h) (fun hS => ?_)
 clear HS
 have HS := hide hS
 clear hS hK K2
 refine wpAnyH_ready (rs := [2, 7]) (by kernel_rfl) (by simp) ?_
 refine AllReadyH.cons rfl (fun K2 hK => ?_) (AllReadyH.cons rfl (fun K2 hK => ?_) AllReadyH.nil)
 ·
  obtain ⟨y3, hy3⟩ := Sub.step (uh HZ) (below_new y2.w (.cells #[.int .i64 1, .int .i64 0, .string s, .int .i64 4, .int .i64 0, .string ⟨#[61]⟩] 71))
  have S3 := hide (show OwnT y3.w W.heap.size (.slice (some ⟨y2.w.heap.size, 0, none⟩) 2 2) [(Tk.mk 1 0 s), (Tk.mk 4 0 ⟨#[61]⟩)] by rw [← hy3]; exact ownT_two y2.w (Tk.mk 1 0 s) (Tk.mk 4 0 ⟨#[61]⟩) W.heap.size (Nat.le_trans (uh HZ) y2.h.size))
  go_simp
  refine hK.out _ _ (y3.h) (fun hS => ?_)
  clear HS
  have HS := hide hS
  clear hS hK K2
  have O3 := hide (uh S3)
  clear S3
  have l0 : ([(Tk.mk 1 0 s), (Tk.mk 4 0 ⟨#[61]⟩)]).length ≤ 2 := Nat.le_refl 2
  refine wpAnyH_ready (rs := [7]) (by kernel_rfl) (by simp) ?_
  refine AllReadyH.cons rfl (fun K2 hK => ?_) AllReadyH.nil
  go_simp
  refine (uh TE y3).mono ?_
  rintro r w4 ⟨vs, rfl, hS, hb⟩
  have O4 := hide ((uh O3).later hb)
  clear O3
  obtain ⟨y4, rfl⟩ := Sub.step (uh HZ) hb
  clear hb
  have SR := hide hS
  clear hS
  refine hK.out _ _ (y4.h) (fun hS => ?_)
  clear HS
  have HS := hide hS
  clear hS hK K2
  refine wpAnyH_ready (rs := [8]) (by kernel_rfl) (by simp) ?_
  refine AllReadyH.cons rfl (fun K2 hK => ?_) AllReadyH.nil
  rw [if_pos (by rfl)]
  refine wp_appT (.tmp 19) (.tmp 24) rfl (uh HZ) y4.h rfl (uh O4) rfl (uh SR) tne (lsum l0 tle (by decide)) ?_
  intro v5 y5 hO
  obtain ⟨u5, hu⟩ : ∃ u, ([(Tk.mk 1 0 s), (Tk.mk 4 0 ⟨#[61]⟩)] ++ te) = u := ⟨_, rfl⟩
  rw [hu] at hO
  have l5 := lapp hu l0 tle
  have O5 := hide hO
  have H5 := hide hu
  clear hO hu O4 SR
  refine hK.out _ _ (y5.h) (fun hS => ?_)
  clear HS
  have HS := hide hS
  clear hS hK K2
  refine tkB 9 (v5) rfl (uh HS) ?_
  go_simp
  refine wpAnyH_done (by kernel_rfl) ?_ _
  clear HS
  go_wp2_with fail
  have EQ : u5 = T := by
   rw [← uh HT]
   rw [← uh H5]
   simp [mkT, mkS]
  rw [EQ] at O5
  go_ret
  exact ⟨_, rfl, uh HO y5 _ _ (uh O5), uh HB y5⟩
 ·
  go_simp
  refine (uh TE y2).mono ?_
  rintro r w3 ⟨vs, rfl, hS, hb⟩
  obtain ⟨y3, rfl⟩ := Sub.step (uh HZ) hb
  clear hb
  have SR := hide hS
  clear hS
  refine hK.out _ _ (y3.h) (fun hS => ?_)
  clear HS
  have HS := hide hS
  clear hS hK K2
  refine wpAnyH_ready (rs := [2]) (by kernel_rfl) (by simp) ?_
  refine AllReadyH.cons rfl (fun K2 hK => ?_) AllReadyH.nil
  obtain ⟨y4, hy4⟩ := Sub.step (uh HZ) (below_new y3.w (.cells #[.int .i64 1, .int .i64 0, .string s, .int .i64 4, .int .i64 0, .string ⟨#[61]⟩] 71))
  have S4 := hide (show OwnT y4.w W.heap.size (.slice (some ⟨y3.w.heap.size, 0, none⟩) 2 2) [(Tk.mk 1 0 s), (Tk.mk 4 0 ⟨#[61]⟩)] by rw [← hy4]; exact ownT_two y3.w (Tk.mk 1 0 s) (Tk.mk 4 0 ⟨#[61]⟩) W.heap.size (Nat.le_trans (uh HZ) y3.h.size))
  have SQ := hide (show OwnT y4.w _ vs te by rw [← hy4]; exact (uh SR).later (below_new _ _))
  clear SR
  go_simp
  refine hK.out _ _ (y4.h) (fun hS => ?_)
  clear HS
  have HS := hide hS
  clear hS hK K2
  have O4 := hide (uh S4)
  clear S4
  have l0 : ([(Tk.mk 1 0 s), (Tk.mk 4 0 ⟨#[61]⟩)]).length ≤ 2 := Nat.le_refl 2
  refine wpAnyH_ready (rs := [8]) (by kernel_rfl) (by simp) ?_
  refine AllReadyH.cons rfl (fun K2 hK => ?_) AllReadyH.nil
  rw [if_pos (by rfl)]
  refine wp_appT (.tmp 19) (.tmp 24) rfl (uh HZ) y4.h rfl (uh O4) rfl (uh SQ) tne (lsum l0 tle (by decide)) ?_
  intro v5 y5 hO
  obtain ⟨u5, hu⟩ : ∃ u, ([(Tk.mk 1 0 s), (Tk.mk 4 0 ⟨#[61]⟩)] ++ te) = u := ⟨_, rfl⟩
  rw [hu] at hO
  have l5 := lapp hu l0 tle
  have O5 := hide hO
  have H5 := hide hu
  clear hO hu O4 SQ
  refine hK.out _ _ (y5.h) (fun hS => ?_)
  clear HS
  have HS := hide hS
  clear hS hK K2
  refine tkB 9 (v5) rfl (uh HS) ?_
  go_simp
  refine wpAnyH_done (by kernel_rfl) ?_ _
  clear HS
  go_wp2_with fail
  have EQ : u5 = T := by
   rw [← uh HT]
   rw [← uh H5]
   simp [mkT, mkS]
  rw [EQ] at O5
  go_ret
  exact ⟨_, rfl, uh HO y5 _ _ (uh O5), uh HB y5⟩
theorem ln_3 (x : Ln) (p : La) (w : World) (hr : RdL w x p) (hk : x.k = 3) (ok : insX x = true) : Calls Tryz.prog 107 #[.agg (x.cs p)] w fun r w' => ∃ v, r = .returned v ∧ OwnT w' w.heap.size v (insT x) ∧ Below w.heap.size w w' := by
 have hb1 := below_new w (.cells (x.cs p) 30)
 have hb2 := below_new (w.alloc (.cells (x.cs p) 30)) (.cells #[.int .i64 1, .int .i64 0, .string x.s] 71)
 have hbW := hb1.trans (hb2.mono hb1.size)
 obtain ⟨W, hW⟩ : ∃ W, (w.alloc (.cells (x.cs p) 30)).alloc (.cells #[.int .i64 1, .int .i64 0, .string x.s] 71) = W := ⟨_, rfl⟩
 have hrW := hr.later hbW
 have xl : w.heap.size + 1 < W.heap.size := by rw [← hW]; simp
 have xc : ∀ (i : Nat) (v : Value), (x.cs p)[i]? = some v → ∀ w1, Below W.heap.size W w1 → w1.cell? ⟨w.heap.size, i, none⟩ = some v := fun i v h w1 hb => (hb.cell (p := ⟨w.heap.size, i, none⟩) (by show w.heap.size < W.heap.size; omega)).trans (by rw [← hW]; exact (hb2.cell (p := ⟨w.heap.size, i, none⟩) (by simp)).trans (box17 w _ _ i v h))
 have xn : ∀ (i : Nat) (v : Value), (#[.int .i64 1, .int .i64 0, .string x.s] : Array Value)[i]? = some v → ∀ w1, Below W.heap.size W w1 → w1.cell? ⟨w.heap.size + 1, i, none⟩ = some v := fun i v h w1 hb => (hb.cell (p := ⟨w.heap.size + 1, i, none⟩) xl).trans (by rw [← hW]; have := box17 (w.alloc (.cells (x.cs p) 30)) #[.int .i64 1, .int .i64 0, .string x.s] 71 i v h; rw [show (w.alloc (.cells (x.cs p) 30)).heap.size = w.heap.size + 1 by simp] at this; exact this)
 rw [hW] at hbW hrW
 obtain ⟨y0, hy0⟩ : ∃ z : Sub W.heap.size W, (w.alloc (.cells (x.cs p) 30)).alloc (.cells #[.int .i64 1, .int .i64 0, .string x.s] 71) = z.w := ⟨⟨W, Below.refl _ _⟩, hW⟩
 clear hb1 hb2
 have ne := Sub.ne W.heap.size W
 have HZ := hide (Nat.le_refl W.heap.size)
 have HB := hide (fun y : Sub W.heap.size W => hbW.trans (y.h.mono hbW.size))
 have HO := hide (fun (y : Sub W.heap.size W) v ts (h : OwnT y.w W.heap.size v ts) => h.base hbW.size)
 have F0 : ∀ y : Sub W.heap.size W, y.w.cell? ⟨w.heap.size, 0, none⟩ = some (.int .i64 x.k) := fun y => xc 0 _ rfl y.w y.h
 have Y0 := hide (fun w1 (hb : Below W.heap.size W w1) => (show w1.cell? ⟨w.heap.size, 0, none⟩ = some (.int .i64 x.k) from xc 0 _ rfl w1 hb))
 have F1 : ∀ y : Sub W.heap.size W, y.w.cell? ⟨w.heap.size, 1, none⟩ = some (.string x.s) := fun y => xc 1 _ rfl y.w y.h
 have Y1 := hide (fun w1 (hb : Below W.heap.size W w1) => (show w1.cell? ⟨w.heap.size, 1, none⟩ = some (.string x.s) from xc 1 _ rfl w1 hb))
 have F2 : ∀ y : Sub W.heap.size W, y.w.cell? ⟨w.heap.size, 2, none⟩ = some (.int .i64 x.op) := fun y => xc 2 _ rfl y.w y.h
 have Y2 := hide (fun w1 (hb : Below W.heap.size W w1) => (show w1.cell? ⟨w.heap.size, 2, none⟩ = some (.int .i64 x.op) from xc 2 _ rfl w1 hb))
 have F3 : ∀ y : Sub W.heap.size W, y.w.cell? ⟨w.heap.size, 3, none⟩ = some (.int .i64 x.src.f) := fun y => xc 3 _ rfl y.w y.h
 have Y3 := hide (fun w1 (hb : Below W.heap.size W w1) => (show w1.cell? ⟨w.heap.size, 3, none⟩ = some (.int .i64 x.src.f) from xc 3 _ rfl w1 hb))
 have F4 : ∀ y : Sub W.heap.size W, y.w.cell? ⟨w.heap.size, 4, none⟩ = some (.int .i64 x.src.r) := fun y => xc 4 _ rfl y.w y.h
 have Y4 := hide (fun w1 (hb : Below W.heap.size W w1) => (show w1.cell? ⟨w.heap.size, 4, none⟩ = some (.int .i64 x.src.r) from xc 4 _ rfl w1 hb))
 have F5 : ∀ y : Sub W.heap.size W, y.w.cell? ⟨w.heap.size, 5, none⟩ = some (.int .i64 x.src.e.k) := fun y => xc 5 _ rfl y.w y.h
 have Y5 := hide (fun w1 (hb : Below W.heap.size W w1) => (show w1.cell? ⟨w.heap.size, 5, none⟩ = some (.int .i64 x.src.e.k) from xc 5 _ rfl w1 hb))
 have F6 : ∀ y : Sub W.heap.size W, y.w.cell? ⟨w.heap.size, 6, none⟩ = some (.int .i64 x.src.e.n) := fun y => xc 6 _ rfl y.w y.h
 have Y6 := hide (fun w1 (hb : Below W.heap.size W w1) => (show w1.cell? ⟨w.heap.size, 6, none⟩ = some (.int .i64 x.src.e.n) from xc 6 _ rfl w1 hb))
 have F7 : ∀ y : Sub W.heap.size W, y.w.cell? ⟨w.heap.size, 7, none⟩ = some (.string x.src.e.s) := fun y => xc 7 _ rfl y.w y.h
 have Y7 := hide (fun w1 (hb : Below W.heap.size W w1) => (show w1.cell? ⟨w.heap.size, 7, none⟩ = some (.string x.src.e.s) from xc 7 _ rfl w1 hb))
 have F8 : ∀ y : Sub W.heap.size W, y.w.cell? ⟨w.heap.size, 8, none⟩ = some (.slice p.b1 x.src.e.l.length p.c1) := fun y => xc 8 _ rfl y.w y.h
 have Y8 := hide (fun w1 (hb : Below W.heap.size W w1) => (show w1.cell? ⟨w.heap.size, 8, none⟩ = some (.slice p.b1 x.src.e.l.length p.c1) from xc 8 _ rfl w1 hb))
 have F9 : ∀ y : Sub W.heap.size W, y.w.cell? ⟨w.heap.size, 9, none⟩ = some (.int .i64 x.dst.f) := fun y => xc 9 _ rfl y.w y.h
 have Y9 := hide (fun w1 (hb : Below W.heap.size W w1) => (show w1.cell? ⟨w.heap.size, 9, none⟩ = some (.int .i64 x.dst.f) from xc 9 _ rfl w1 hb))
 have F10 : ∀ y : Sub W.heap.size W, y.w.cell? ⟨w.heap.size, 10, none⟩ = some (.int .i64 x.dst.r) := fun y => xc 10 _ rfl y.w y.h
 have Y10 := hide (fun w1 (hb : Below W.heap.size W w1) => (show w1.cell? ⟨w.heap.size, 10, none⟩ = some (.int .i64 x.dst.r) from xc 10 _ rfl w1 hb))
 have F11 : ∀ y : Sub W.heap.size W, y.w.cell? ⟨w.heap.size, 11, none⟩ = some (.int .i64 x.dst.e.k) := fun y => xc 11 _ rfl y.w y.h
 have Y11 := hide (fun w1 (hb : Below W.heap.size W w1) => (show w1.cell? ⟨w.heap.size, 11, none⟩ = some (.int .i64 x.dst.e.k) from xc 11 _ rfl w1 hb))
 have F12 : ∀ y : Sub W.heap.size W, y.w.cell? ⟨w.heap.size, 12, none⟩ = some (.int .i64 x.dst.e.n) := fun y => xc 12 _ rfl y.w y.h
 have Y12 := hide (fun w1 (hb : Below W.heap.size W w1) => (show w1.cell? ⟨w.heap.size, 12, none⟩ = some (.int .i64 x.dst.e.n) from xc 12 _ rfl w1 hb))
 have F13 : ∀ y : Sub W.heap.size W, y.w.cell? ⟨w.heap.size, 13, none⟩ = some (.string x.dst.e.s) := fun y => xc 13 _ rfl y.w y.h
 have Y13 := hide (fun w1 (hb : Below W.heap.size W w1) => (show w1.cell? ⟨w.heap.size, 13, none⟩ = some (.string x.dst.e.s) from xc 13 _ rfl w1 hb))
 have F14 : ∀ y : Sub W.heap.size W, y.w.cell? ⟨w.heap.size, 14, none⟩ = some (.slice p.b2 x.dst.e.l.length p.c2) := fun y => xc 14 _ rfl y.w y.h
 have Y14 := hide (fun w1 (hb : Below W.heap.size W w1) => (show w1.cell? ⟨w.heap.size, 14, none⟩ = some (.slice p.b2 x.dst.e.l.length p.c2) from xc 14 _ rfl w1 hb))
 have F15 : ∀ y : Sub W.heap.size W, y.w.cell? ⟨w.heap.size, 15, none⟩ = some (.int .i64 x.n) := fun y => xc 15 _ rfl y.w y.h
 have Y15 := hide (fun w1 (hb : Below W.heap.size W w1) => (show w1.cell? ⟨w.heap.size, 15, none⟩ = some (.int .i64 x.n) from xc 15 _ rfl w1 hb))
 have F16 : ∀ y : Sub W.heap.size W, y.w.cell? ⟨w.heap.size, 16, none⟩ = some (.slice p.b3 x.l.length p.c3) := fun y => xc 16 _ rfl y.w y.h
 have Y16 := hide (fun w1 (hb : Below W.heap.size W w1) => (show w1.cell? ⟨w.heap.size, 16, none⟩ = some (.slice p.b3 x.l.length p.c3) from xc 16 _ rfl w1 hb))
 have MK := hide (fun x w1 => markS_ex x w1)
 unfold Tk.v Tk.cs at MK
 simp only at MK
 have G0 : ∀ y : Sub W.heap.size W, y.w.cell? ⟨w.heap.size + 1, 0, none⟩ = some (.int .i64 1) := fun y => xn 0 _ rfl y.w y.h
 have X0 := hide (fun w1 (hb : Below W.heap.size W w1) => (show w1.cell? ⟨w.heap.size + 1, 0, none⟩ = some (.int .i64 1) from xn 0 _ rfl w1 hb))
 have G1 : ∀ y : Sub W.heap.size W, y.w.cell? ⟨w.heap.size + 1, 1, none⟩ = some (.int .i64 0) := fun y => xn 1 _ rfl y.w y.h
 have X1 := hide (fun w1 (hb : Below W.heap.size W w1) => (show w1.cell? ⟨w.heap.size + 1, 1, none⟩ = some (.int .i64 0) from xn 1 _ rfl w1 hb))
 have G2 : ∀ y : Sub W.heap.size W, y.w.cell? ⟨w.heap.size + 1, 2, none⟩ = some (.string x.s) := fun y => xn 2 _ rfl y.w y.h
 have X2 := hide (fun w1 (hb : Below W.heap.size W w1) => (show w1.cell? ⟨w.heap.size + 1, 2, none⟩ = some (.string x.s) from xn 2 _ rfl w1 hb))
 rw [hk] at F0
 have IT := hide (fun y : Sub W.heap.size W => instS_any x p y.w (hrW.later y.h) ok)
 unfold Ln.cs at IT
 rw [hk] at IT
 generalize insT x = it at *
 obtain ⟨T, hT⟩ : ∃ T : List Tk, (it) = T := ⟨_, rfl⟩
 have HT := hide hT
 rw [hT]
 clear hT
 unfold Ln.cs at hy0 ⊢
 rw [hk] at hy0 ⊢
 clear hr hrW hW xc xn xl hbW hk ok
 generalize x.src.f = sf at *
 generalize x.src.r = sr at *
 generalize x.src.e.k = sk at *
 generalize x.src.e.n = sn at *
 generalize x.src.e.s = ss at *
 generalize x.src.e.l.length = sl at *
 generalize x.dst.f = df at *
 generalize x.dst.r = dr at *
 generalize x.dst.e.k = dk at *
 generalize x.dst.e.n = dn at *
 generalize x.dst.e.s = ds at *
 generalize x.dst.e.l.length = dl at *
 generalize x.k = k at *
 generalize x.s = s at *
 generalize x.op = op at *
 generalize x.n = n at *
 generalize x.l.length = ll at *
 generalize p.b1 = b1 at *
 generalize p.c1 = c1 at *
 generalize p.b2 = b2 at *
 generalize p.c2 = c2 at *
 generalize p.b3 = b3 at *
 generalize p.c3 = c3 at *
 go_enter Tryz.func107, Tryz.ntmps107
 go_wp2_with fail
 refine (uh IT y0).mono ?_
 rintro r w1 ⟨vs, rfl, hS, hb⟩
 obtain ⟨y1, rfl⟩ := Sub.step (uh HZ) hb
 clear hb
 have O9 := hide (hS.base (Nat.le_trans (uh HZ) y0.h.size))
 clear hS
 go_wp2_with fail
 have EQ : it = T := uh HT
 rw [EQ] at O9
 go_ret
 exact ⟨_, rfl, uh HO y1 _ _ (uh O9), uh HB y1⟩
theorem ln_4 (x : Ln) (p : La) (w : World) (hr : RdL w x p) (hk : x.k = 4) (ok : x.l.length ≤ 1000 ∧ x.l.all (okF 6 true) = true) : Calls Tryz.prog 107 #[.agg (x.cs p)] w fun r w' => ∃ v, r = .returned v ∧ OwnT w' w.heap.size v (tmT ⟨#[46, 119, 111, 114, 100]⟩ x.l) ∧ Below w.heap.size w w' := by
 have hb1 := below_new w (.cells (x.cs p) 30)
 have hb2 := below_new (w.alloc (.cells (x.cs p) 30)) (.cells #[.int .i64 1, .int .i64 0, .string x.s] 71)
 have hbW := hb1.trans (hb2.mono hb1.size)
 obtain ⟨W, hW⟩ : ∃ W, (w.alloc (.cells (x.cs p) 30)).alloc (.cells #[.int .i64 1, .int .i64 0, .string x.s] 71) = W := ⟨_, rfl⟩
 have hrW := hr.later hbW
 have xl : w.heap.size + 1 < W.heap.size := by rw [← hW]; simp
 have xc : ∀ (i : Nat) (v : Value), (x.cs p)[i]? = some v → ∀ w1, Below W.heap.size W w1 → w1.cell? ⟨w.heap.size, i, none⟩ = some v := fun i v h w1 hb => (hb.cell (p := ⟨w.heap.size, i, none⟩) (by show w.heap.size < W.heap.size; omega)).trans (by rw [← hW]; exact (hb2.cell (p := ⟨w.heap.size, i, none⟩) (by simp)).trans (box17 w _ _ i v h))
 have xn : ∀ (i : Nat) (v : Value), (#[.int .i64 1, .int .i64 0, .string x.s] : Array Value)[i]? = some v → ∀ w1, Below W.heap.size W w1 → w1.cell? ⟨w.heap.size + 1, i, none⟩ = some v := fun i v h w1 hb => (hb.cell (p := ⟨w.heap.size + 1, i, none⟩) xl).trans (by rw [← hW]; have := box17 (w.alloc (.cells (x.cs p) 30)) #[.int .i64 1, .int .i64 0, .string x.s] 71 i v h; rw [show (w.alloc (.cells (x.cs p) 30)).heap.size = w.heap.size + 1 by simp] at this; exact this)
 rw [hW] at hbW hrW
 obtain ⟨y0, hy0⟩ : ∃ z : Sub W.heap.size W, (w.alloc (.cells (x.cs p) 30)).alloc (.cells #[.int .i64 1, .int .i64 0, .string x.s] 71) = z.w := ⟨⟨W, Below.refl _ _⟩, hW⟩
 clear hb1 hb2
 have ne := Sub.ne W.heap.size W
 have HZ := hide (Nat.le_refl W.heap.size)
 have HB := hide (fun y : Sub W.heap.size W => hbW.trans (y.h.mono hbW.size))
 have HO := hide (fun (y : Sub W.heap.size W) v ts (h : OwnT y.w W.heap.size v ts) => h.base hbW.size)
 have F0 : ∀ y : Sub W.heap.size W, y.w.cell? ⟨w.heap.size, 0, none⟩ = some (.int .i64 x.k) := fun y => xc 0 _ rfl y.w y.h
 have Y0 := hide (fun w1 (hb : Below W.heap.size W w1) => (show w1.cell? ⟨w.heap.size, 0, none⟩ = some (.int .i64 x.k) from xc 0 _ rfl w1 hb))
 have F1 : ∀ y : Sub W.heap.size W, y.w.cell? ⟨w.heap.size, 1, none⟩ = some (.string x.s) := fun y => xc 1 _ rfl y.w y.h
 have Y1 := hide (fun w1 (hb : Below W.heap.size W w1) => (show w1.cell? ⟨w.heap.size, 1, none⟩ = some (.string x.s) from xc 1 _ rfl w1 hb))
 have F2 : ∀ y : Sub W.heap.size W, y.w.cell? ⟨w.heap.size, 2, none⟩ = some (.int .i64 x.op) := fun y => xc 2 _ rfl y.w y.h
 have Y2 := hide (fun w1 (hb : Below W.heap.size W w1) => (show w1.cell? ⟨w.heap.size, 2, none⟩ = some (.int .i64 x.op) from xc 2 _ rfl w1 hb))
 have F3 : ∀ y : Sub W.heap.size W, y.w.cell? ⟨w.heap.size, 3, none⟩ = some (.int .i64 x.src.f) := fun y => xc 3 _ rfl y.w y.h
 have Y3 := hide (fun w1 (hb : Below W.heap.size W w1) => (show w1.cell? ⟨w.heap.size, 3, none⟩ = some (.int .i64 x.src.f) from xc 3 _ rfl w1 hb))
 have F4 : ∀ y : Sub W.heap.size W, y.w.cell? ⟨w.heap.size, 4, none⟩ = some (.int .i64 x.src.r) := fun y => xc 4 _ rfl y.w y.h
 have Y4 := hide (fun w1 (hb : Below W.heap.size W w1) => (show w1.cell? ⟨w.heap.size, 4, none⟩ = some (.int .i64 x.src.r) from xc 4 _ rfl w1 hb))
 have F5 : ∀ y : Sub W.heap.size W, y.w.cell? ⟨w.heap.size, 5, none⟩ = some (.int .i64 x.src.e.k) := fun y => xc 5 _ rfl y.w y.h
 have Y5 := hide (fun w1 (hb : Below W.heap.size W w1) => (show w1.cell? ⟨w.heap.size, 5, none⟩ = some (.int .i64 x.src.e.k) from xc 5 _ rfl w1 hb))
 have F6 : ∀ y : Sub W.heap.size W, y.w.cell? ⟨w.heap.size, 6, none⟩ = some (.int .i64 x.src.e.n) := fun y => xc 6 _ rfl y.w y.h
 have Y6 := hide (fun w1 (hb : Below W.heap.size W w1) => (show w1.cell? ⟨w.heap.size, 6, none⟩ = some (.int .i64 x.src.e.n) from xc 6 _ rfl w1 hb))
 have F7 : ∀ y : Sub W.heap.size W, y.w.cell? ⟨w.heap.size, 7, none⟩ = some (.string x.src.e.s) := fun y => xc 7 _ rfl y.w y.h
 have Y7 := hide (fun w1 (hb : Below W.heap.size W w1) => (show w1.cell? ⟨w.heap.size, 7, none⟩ = some (.string x.src.e.s) from xc 7 _ rfl w1 hb))
 have F8 : ∀ y : Sub W.heap.size W, y.w.cell? ⟨w.heap.size, 8, none⟩ = some (.slice p.b1 x.src.e.l.length p.c1) := fun y => xc 8 _ rfl y.w y.h
 have Y8 := hide (fun w1 (hb : Below W.heap.size W w1) => (show w1.cell? ⟨w.heap.size, 8, none⟩ = some (.slice p.b1 x.src.e.l.length p.c1) from xc 8 _ rfl w1 hb))
 have F9 : ∀ y : Sub W.heap.size W, y.w.cell? ⟨w.heap.size, 9, none⟩ = some (.int .i64 x.dst.f) := fun y => xc 9 _ rfl y.w y.h
 have Y9 := hide (fun w1 (hb : Below W.heap.size W w1) => (show w1.cell? ⟨w.heap.size, 9, none⟩ = some (.int .i64 x.dst.f) from xc 9 _ rfl w1 hb))
 have F10 : ∀ y : Sub W.heap.size W, y.w.cell? ⟨w.heap.size, 10, none⟩ = some (.int .i64 x.dst.r) := fun y => xc 10 _ rfl y.w y.h
 have Y10 := hide (fun w1 (hb : Below W.heap.size W w1) => (show w1.cell? ⟨w.heap.size, 10, none⟩ = some (.int .i64 x.dst.r) from xc 10 _ rfl w1 hb))
 have F11 : ∀ y : Sub W.heap.size W, y.w.cell? ⟨w.heap.size, 11, none⟩ = some (.int .i64 x.dst.e.k) := fun y => xc 11 _ rfl y.w y.h
 have Y11 := hide (fun w1 (hb : Below W.heap.size W w1) => (show w1.cell? ⟨w.heap.size, 11, none⟩ = some (.int .i64 x.dst.e.k) from xc 11 _ rfl w1 hb))
 have F12 : ∀ y : Sub W.heap.size W, y.w.cell? ⟨w.heap.size, 12, none⟩ = some (.int .i64 x.dst.e.n) := fun y => xc 12 _ rfl y.w y.h
 have Y12 := hide (fun w1 (hb : Below W.heap.size W w1) => (show w1.cell? ⟨w.heap.size, 12, none⟩ = some (.int .i64 x.dst.e.n) from xc 12 _ rfl w1 hb))
 have F13 : ∀ y : Sub W.heap.size W, y.w.cell? ⟨w.heap.size, 13, none⟩ = some (.string x.dst.e.s) := fun y => xc 13 _ rfl y.w y.h
 have Y13 := hide (fun w1 (hb : Below W.heap.size W w1) => (show w1.cell? ⟨w.heap.size, 13, none⟩ = some (.string x.dst.e.s) from xc 13 _ rfl w1 hb))
 have F14 : ∀ y : Sub W.heap.size W, y.w.cell? ⟨w.heap.size, 14, none⟩ = some (.slice p.b2 x.dst.e.l.length p.c2) := fun y => xc 14 _ rfl y.w y.h
 have Y14 := hide (fun w1 (hb : Below W.heap.size W w1) => (show w1.cell? ⟨w.heap.size, 14, none⟩ = some (.slice p.b2 x.dst.e.l.length p.c2) from xc 14 _ rfl w1 hb))
 have F15 : ∀ y : Sub W.heap.size W, y.w.cell? ⟨w.heap.size, 15, none⟩ = some (.int .i64 x.n) := fun y => xc 15 _ rfl y.w y.h
 have Y15 := hide (fun w1 (hb : Below W.heap.size W w1) => (show w1.cell? ⟨w.heap.size, 15, none⟩ = some (.int .i64 x.n) from xc 15 _ rfl w1 hb))
 have F16 : ∀ y : Sub W.heap.size W, y.w.cell? ⟨w.heap.size, 16, none⟩ = some (.slice p.b3 x.l.length p.c3) := fun y => xc 16 _ rfl y.w y.h
 have Y16 := hide (fun w1 (hb : Below W.heap.size W w1) => (show w1.cell? ⟨w.heap.size, 16, none⟩ = some (.slice p.b3 x.l.length p.c3) from xc 16 _ rfl w1 hb))
 have MK := hide (fun x w1 => markS_ex x w1)
 unfold Tk.v Tk.cs at MK
 simp only at MK
 have G0 : ∀ y : Sub W.heap.size W, y.w.cell? ⟨w.heap.size + 1, 0, none⟩ = some (.int .i64 1) := fun y => xn 0 _ rfl y.w y.h
 have X0 := hide (fun w1 (hb : Below W.heap.size W w1) => (show w1.cell? ⟨w.heap.size + 1, 0, none⟩ = some (.int .i64 1) from xn 0 _ rfl w1 hb))
 have G1 : ∀ y : Sub W.heap.size W, y.w.cell? ⟨w.heap.size + 1, 1, none⟩ = some (.int .i64 0) := fun y => xn 1 _ rfl y.w y.h
 have X1 := hide (fun w1 (hb : Below W.heap.size W w1) => (show w1.cell? ⟨w.heap.size + 1, 1, none⟩ = some (.int .i64 0) from xn 1 _ rfl w1 hb))
 have G2 : ∀ y : Sub W.heap.size W, y.w.cell? ⟨w.heap.size + 1, 2, none⟩ = some (.string x.s) := fun y => xn 2 _ rfl y.w y.h
 have X2 := hide (fun w1 (hb : Below W.heap.size W w1) => (show w1.cell? ⟨w.heap.size + 1, 2, none⟩ = some (.string x.s) from xn 2 _ rfl w1 hb))
 rw [hk] at F0
 have TM := hide (fun y : Sub W.heap.size W => tmtS ⟨#[46, 119, 111, 114, 100]⟩ x.l p.b3 p.c3 y.w (hrW.l.later y.h) ok.1 ok.2)
 generalize tmT ⟨#[46, 119, 111, 114, 100]⟩ x.l = it at *
 obtain ⟨T, hT⟩ : ∃ T : List Tk, (it) = T := ⟨_, rfl⟩
 have HT := hide hT
 rw [hT]
 clear hT
 unfold Ln.cs at hy0 ⊢
 rw [hk] at hy0 ⊢
 clear hr hrW hW xc xn xl hbW hk ok
 generalize x.src.f = sf at *
 generalize x.src.r = sr at *
 generalize x.src.e.k = sk at *
 generalize x.src.e.n = sn at *
 generalize x.src.e.s = ss at *
 generalize x.src.e.l.length = sl at *
 generalize x.dst.f = df at *
 generalize x.dst.r = dr at *
 generalize x.dst.e.k = dk at *
 generalize x.dst.e.n = dn at *
 generalize x.dst.e.s = ds at *
 generalize x.dst.e.l.length = dl at *
 generalize x.k = k at *
 generalize x.s = s at *
 generalize x.op = op at *
 generalize x.n = n at *
 generalize x.l.length = ll at *
 generalize p.b1 = b1 at *
 generalize p.c1 = c1 at *
 generalize p.b2 = b2 at *
 generalize p.c2 = c2 at *
 generalize p.b3 = b3 at *
 generalize p.c3 = c3 at *
 go_enter Tryz.func107, Tryz.ntmps107
 go_wp2_with fail
 refine (uh TM y0).mono ?_
 rintro r w1 ⟨vs, rfl, hS, hb⟩
 obtain ⟨y1, rfl⟩ := Sub.step (uh HZ) hb
 clear hb
 have O9 := hide (hS.base (Nat.le_trans (uh HZ) y0.h.size))
 clear hS
 go_wp2_with fail
 have EQ : it = T := uh HT
 rw [EQ] at O9
 go_ret
 exact ⟨_, rfl, uh HO y1 _ _ (uh O9), uh HB y1⟩
theorem ln_5 (x : Ln) (p : La) (w : World) (hr : RdL w x p) (hk : x.k = 5) (ok : x.l.length ≤ 1000 ∧ x.l.all (okF 6 true) = true) : Calls Tryz.prog 107 #[.agg (x.cs p)] w fun r w' => ∃ v, r = .returned v ∧ OwnT w' w.heap.size v (tmT ⟨#[46, 98, 108, 107, 119]⟩ x.l) ∧ Below w.heap.size w w' := by
 have hb1 := below_new w (.cells (x.cs p) 30)
 have hb2 := below_new (w.alloc (.cells (x.cs p) 30)) (.cells #[.int .i64 1, .int .i64 0, .string x.s] 71)
 have hbW := hb1.trans (hb2.mono hb1.size)
 obtain ⟨W, hW⟩ : ∃ W, (w.alloc (.cells (x.cs p) 30)).alloc (.cells #[.int .i64 1, .int .i64 0, .string x.s] 71) = W := ⟨_, rfl⟩
 have hrW := hr.later hbW
 have xl : w.heap.size + 1 < W.heap.size := by rw [← hW]; simp
 have xc : ∀ (i : Nat) (v : Value), (x.cs p)[i]? = some v → ∀ w1, Below W.heap.size W w1 → w1.cell? ⟨w.heap.size, i, none⟩ = some v := fun i v h w1 hb => (hb.cell (p := ⟨w.heap.size, i, none⟩) (by show w.heap.size < W.heap.size; omega)).trans (by rw [← hW]; exact (hb2.cell (p := ⟨w.heap.size, i, none⟩) (by simp)).trans (box17 w _ _ i v h))
 have xn : ∀ (i : Nat) (v : Value), (#[.int .i64 1, .int .i64 0, .string x.s] : Array Value)[i]? = some v → ∀ w1, Below W.heap.size W w1 → w1.cell? ⟨w.heap.size + 1, i, none⟩ = some v := fun i v h w1 hb => (hb.cell (p := ⟨w.heap.size + 1, i, none⟩) xl).trans (by rw [← hW]; have := box17 (w.alloc (.cells (x.cs p) 30)) #[.int .i64 1, .int .i64 0, .string x.s] 71 i v h; rw [show (w.alloc (.cells (x.cs p) 30)).heap.size = w.heap.size + 1 by simp] at this; exact this)
 rw [hW] at hbW hrW
 obtain ⟨y0, hy0⟩ : ∃ z : Sub W.heap.size W, (w.alloc (.cells (x.cs p) 30)).alloc (.cells #[.int .i64 1, .int .i64 0, .string x.s] 71) = z.w := ⟨⟨W, Below.refl _ _⟩, hW⟩
 clear hb1 hb2
 have ne := Sub.ne W.heap.size W
 have HZ := hide (Nat.le_refl W.heap.size)
 have HB := hide (fun y : Sub W.heap.size W => hbW.trans (y.h.mono hbW.size))
 have HO := hide (fun (y : Sub W.heap.size W) v ts (h : OwnT y.w W.heap.size v ts) => h.base hbW.size)
 have F0 : ∀ y : Sub W.heap.size W, y.w.cell? ⟨w.heap.size, 0, none⟩ = some (.int .i64 x.k) := fun y => xc 0 _ rfl y.w y.h
 have Y0 := hide (fun w1 (hb : Below W.heap.size W w1) => (show w1.cell? ⟨w.heap.size, 0, none⟩ = some (.int .i64 x.k) from xc 0 _ rfl w1 hb))
 have F1 : ∀ y : Sub W.heap.size W, y.w.cell? ⟨w.heap.size, 1, none⟩ = some (.string x.s) := fun y => xc 1 _ rfl y.w y.h
 have Y1 := hide (fun w1 (hb : Below W.heap.size W w1) => (show w1.cell? ⟨w.heap.size, 1, none⟩ = some (.string x.s) from xc 1 _ rfl w1 hb))
 have F2 : ∀ y : Sub W.heap.size W, y.w.cell? ⟨w.heap.size, 2, none⟩ = some (.int .i64 x.op) := fun y => xc 2 _ rfl y.w y.h
 have Y2 := hide (fun w1 (hb : Below W.heap.size W w1) => (show w1.cell? ⟨w.heap.size, 2, none⟩ = some (.int .i64 x.op) from xc 2 _ rfl w1 hb))
 have F3 : ∀ y : Sub W.heap.size W, y.w.cell? ⟨w.heap.size, 3, none⟩ = some (.int .i64 x.src.f) := fun y => xc 3 _ rfl y.w y.h
 have Y3 := hide (fun w1 (hb : Below W.heap.size W w1) => (show w1.cell? ⟨w.heap.size, 3, none⟩ = some (.int .i64 x.src.f) from xc 3 _ rfl w1 hb))
 have F4 : ∀ y : Sub W.heap.size W, y.w.cell? ⟨w.heap.size, 4, none⟩ = some (.int .i64 x.src.r) := fun y => xc 4 _ rfl y.w y.h
 have Y4 := hide (fun w1 (hb : Below W.heap.size W w1) => (show w1.cell? ⟨w.heap.size, 4, none⟩ = some (.int .i64 x.src.r) from xc 4 _ rfl w1 hb))
 have F5 : ∀ y : Sub W.heap.size W, y.w.cell? ⟨w.heap.size, 5, none⟩ = some (.int .i64 x.src.e.k) := fun y => xc 5 _ rfl y.w y.h
 have Y5 := hide (fun w1 (hb : Below W.heap.size W w1) => (show w1.cell? ⟨w.heap.size, 5, none⟩ = some (.int .i64 x.src.e.k) from xc 5 _ rfl w1 hb))
 have F6 : ∀ y : Sub W.heap.size W, y.w.cell? ⟨w.heap.size, 6, none⟩ = some (.int .i64 x.src.e.n) := fun y => xc 6 _ rfl y.w y.h
 have Y6 := hide (fun w1 (hb : Below W.heap.size W w1) => (show w1.cell? ⟨w.heap.size, 6, none⟩ = some (.int .i64 x.src.e.n) from xc 6 _ rfl w1 hb))
 have F7 : ∀ y : Sub W.heap.size W, y.w.cell? ⟨w.heap.size, 7, none⟩ = some (.string x.src.e.s) := fun y => xc 7 _ rfl y.w y.h
 have Y7 := hide (fun w1 (hb : Below W.heap.size W w1) => (show w1.cell? ⟨w.heap.size, 7, none⟩ = some (.string x.src.e.s) from xc 7 _ rfl w1 hb))
 have F8 : ∀ y : Sub W.heap.size W, y.w.cell? ⟨w.heap.size, 8, none⟩ = some (.slice p.b1 x.src.e.l.length p.c1) := fun y => xc 8 _ rfl y.w y.h
 have Y8 := hide (fun w1 (hb : Below W.heap.size W w1) => (show w1.cell? ⟨w.heap.size, 8, none⟩ = some (.slice p.b1 x.src.e.l.length p.c1) from xc 8 _ rfl w1 hb))
 have F9 : ∀ y : Sub W.heap.size W, y.w.cell? ⟨w.heap.size, 9, none⟩ = some (.int .i64 x.dst.f) := fun y => xc 9 _ rfl y.w y.h
 have Y9 := hide (fun w1 (hb : Below W.heap.size W w1) => (show w1.cell? ⟨w.heap.size, 9, none⟩ = some (.int .i64 x.dst.f) from xc 9 _ rfl w1 hb))
 have F10 : ∀ y : Sub W.heap.size W, y.w.cell? ⟨w.heap.size, 10, none⟩ = some (.int .i64 x.dst.r) := fun y => xc 10 _ rfl y.w y.h
 have Y10 := hide (fun w1 (hb : Below W.heap.size W w1) => (show w1.cell? ⟨w.heap.size, 10, none⟩ = some (.int .i64 x.dst.r) from xc 10 _ rfl w1 hb))
 have F11 : ∀ y : Sub W.heap.size W, y.w.cell? ⟨w.heap.size, 11, none⟩ = some (.int .i64 x.dst.e.k) := fun y => xc 11 _ rfl y.w y.h
 have Y11 := hide (fun w1 (hb : Below W.heap.size W w1) => (show w1.cell? ⟨w.heap.size, 11, none⟩ = some (.int .i64 x.dst.e.k) from xc 11 _ rfl w1 hb))
 have F12 : ∀ y : Sub W.heap.size W, y.w.cell? ⟨w.heap.size, 12, none⟩ = some (.int .i64 x.dst.e.n) := fun y => xc 12 _ rfl y.w y.h
 have Y12 := hide (fun w1 (hb : Below W.heap.size W w1) => (show w1.cell? ⟨w.heap.size, 12, none⟩ = some (.int .i64 x.dst.e.n) from xc 12 _ rfl w1 hb))
 have F13 : ∀ y : Sub W.heap.size W, y.w.cell? ⟨w.heap.size, 13, none⟩ = some (.string x.dst.e.s) := fun y => xc 13 _ rfl y.w y.h
 have Y13 := hide (fun w1 (hb : Below W.heap.size W w1) => (show w1.cell? ⟨w.heap.size, 13, none⟩ = some (.string x.dst.e.s) from xc 13 _ rfl w1 hb))
 have F14 : ∀ y : Sub W.heap.size W, y.w.cell? ⟨w.heap.size, 14, none⟩ = some (.slice p.b2 x.dst.e.l.length p.c2) := fun y => xc 14 _ rfl y.w y.h
 have Y14 := hide (fun w1 (hb : Below W.heap.size W w1) => (show w1.cell? ⟨w.heap.size, 14, none⟩ = some (.slice p.b2 x.dst.e.l.length p.c2) from xc 14 _ rfl w1 hb))
 have F15 : ∀ y : Sub W.heap.size W, y.w.cell? ⟨w.heap.size, 15, none⟩ = some (.int .i64 x.n) := fun y => xc 15 _ rfl y.w y.h
 have Y15 := hide (fun w1 (hb : Below W.heap.size W w1) => (show w1.cell? ⟨w.heap.size, 15, none⟩ = some (.int .i64 x.n) from xc 15 _ rfl w1 hb))
 have F16 : ∀ y : Sub W.heap.size W, y.w.cell? ⟨w.heap.size, 16, none⟩ = some (.slice p.b3 x.l.length p.c3) := fun y => xc 16 _ rfl y.w y.h
 have Y16 := hide (fun w1 (hb : Below W.heap.size W w1) => (show w1.cell? ⟨w.heap.size, 16, none⟩ = some (.slice p.b3 x.l.length p.c3) from xc 16 _ rfl w1 hb))
 have MK := hide (fun x w1 => markS_ex x w1)
 unfold Tk.v Tk.cs at MK
 simp only at MK
 have G0 : ∀ y : Sub W.heap.size W, y.w.cell? ⟨w.heap.size + 1, 0, none⟩ = some (.int .i64 1) := fun y => xn 0 _ rfl y.w y.h
 have X0 := hide (fun w1 (hb : Below W.heap.size W w1) => (show w1.cell? ⟨w.heap.size + 1, 0, none⟩ = some (.int .i64 1) from xn 0 _ rfl w1 hb))
 have G1 : ∀ y : Sub W.heap.size W, y.w.cell? ⟨w.heap.size + 1, 1, none⟩ = some (.int .i64 0) := fun y => xn 1 _ rfl y.w y.h
 have X1 := hide (fun w1 (hb : Below W.heap.size W w1) => (show w1.cell? ⟨w.heap.size + 1, 1, none⟩ = some (.int .i64 0) from xn 1 _ rfl w1 hb))
 have G2 : ∀ y : Sub W.heap.size W, y.w.cell? ⟨w.heap.size + 1, 2, none⟩ = some (.string x.s) := fun y => xn 2 _ rfl y.w y.h
 have X2 := hide (fun w1 (hb : Below W.heap.size W w1) => (show w1.cell? ⟨w.heap.size + 1, 2, none⟩ = some (.string x.s) from xn 2 _ rfl w1 hb))
 rw [hk] at F0
 have TM := hide (fun y : Sub W.heap.size W => tmtS ⟨#[46, 98, 108, 107, 119]⟩ x.l p.b3 p.c3 y.w (hrW.l.later y.h) ok.1 ok.2)
 generalize tmT ⟨#[46, 98, 108, 107, 119]⟩ x.l = it at *
 obtain ⟨T, hT⟩ : ∃ T : List Tk, (it) = T := ⟨_, rfl⟩
 have HT := hide hT
 rw [hT]
 clear hT
 unfold Ln.cs at hy0 ⊢
 rw [hk] at hy0 ⊢
 clear hr hrW hW xc xn xl hbW hk ok
 generalize x.src.f = sf at *
 generalize x.src.r = sr at *
 generalize x.src.e.k = sk at *
 generalize x.src.e.n = sn at *
 generalize x.src.e.s = ss at *
 generalize x.src.e.l.length = sl at *
 generalize x.dst.f = df at *
 generalize x.dst.r = dr at *
 generalize x.dst.e.k = dk at *
 generalize x.dst.e.n = dn at *
 generalize x.dst.e.s = ds at *
 generalize x.dst.e.l.length = dl at *
 generalize x.k = k at *
 generalize x.s = s at *
 generalize x.op = op at *
 generalize x.n = n at *
 generalize x.l.length = ll at *
 generalize p.b1 = b1 at *
 generalize p.c1 = c1 at *
 generalize p.b2 = b2 at *
 generalize p.c2 = c2 at *
 generalize p.b3 = b3 at *
 generalize p.c3 = c3 at *
 go_enter Tryz.func107, Tryz.ntmps107
 go_wp2_with fail
 refine (uh TM y0).mono ?_
 rintro r w1 ⟨vs, rfl, hS, hb⟩
 obtain ⟨y1, rfl⟩ := Sub.step (uh HZ) hb
 clear hb
 have O9 := hide (hS.base (Nat.le_trans (uh HZ) y0.h.size))
 clear hS
 go_wp2_with fail
 have EQ : it = T := uh HT
 rw [EQ] at O9
 go_ret
 exact ⟨_, rfl, uh HO y1 _ _ (uh O9), uh HB y1⟩
theorem ln_7 (x : Ln) (p : La) (w : World) (hr : RdL w x p) (hk : x.k = 7) (ok : x.l.length ≤ 1000 ∧ x.l.all (okF 6 true) = true) : Calls Tryz.prog 107 #[.agg (x.cs p)] w fun r w' => ∃ v, r = .returned v ∧ OwnT w' w.heap.size v (tmT ⟨#[46, 103, 108, 111, 98, 108]⟩ x.l) ∧ Below w.heap.size w w' := by
 have hb1 := below_new w (.cells (x.cs p) 30)
 have hb2 := below_new (w.alloc (.cells (x.cs p) 30)) (.cells #[.int .i64 1, .int .i64 0, .string x.s] 71)
 have hbW := hb1.trans (hb2.mono hb1.size)
 obtain ⟨W, hW⟩ : ∃ W, (w.alloc (.cells (x.cs p) 30)).alloc (.cells #[.int .i64 1, .int .i64 0, .string x.s] 71) = W := ⟨_, rfl⟩
 have hrW := hr.later hbW
 have xl : w.heap.size + 1 < W.heap.size := by rw [← hW]; simp
 have xc : ∀ (i : Nat) (v : Value), (x.cs p)[i]? = some v → ∀ w1, Below W.heap.size W w1 → w1.cell? ⟨w.heap.size, i, none⟩ = some v := fun i v h w1 hb => (hb.cell (p := ⟨w.heap.size, i, none⟩) (by show w.heap.size < W.heap.size; omega)).trans (by rw [← hW]; exact (hb2.cell (p := ⟨w.heap.size, i, none⟩) (by simp)).trans (box17 w _ _ i v h))
 have xn : ∀ (i : Nat) (v : Value), (#[.int .i64 1, .int .i64 0, .string x.s] : Array Value)[i]? = some v → ∀ w1, Below W.heap.size W w1 → w1.cell? ⟨w.heap.size + 1, i, none⟩ = some v := fun i v h w1 hb => (hb.cell (p := ⟨w.heap.size + 1, i, none⟩) xl).trans (by rw [← hW]; have := box17 (w.alloc (.cells (x.cs p) 30)) #[.int .i64 1, .int .i64 0, .string x.s] 71 i v h; rw [show (w.alloc (.cells (x.cs p) 30)).heap.size = w.heap.size + 1 by simp] at this; exact this)
 rw [hW] at hbW hrW
 obtain ⟨y0, hy0⟩ : ∃ z : Sub W.heap.size W, (w.alloc (.cells (x.cs p) 30)).alloc (.cells #[.int .i64 1, .int .i64 0, .string x.s] 71) = z.w := ⟨⟨W, Below.refl _ _⟩, hW⟩
 clear hb1 hb2
 have ne := Sub.ne W.heap.size W
 have HZ := hide (Nat.le_refl W.heap.size)
 have HB := hide (fun y : Sub W.heap.size W => hbW.trans (y.h.mono hbW.size))
 have HO := hide (fun (y : Sub W.heap.size W) v ts (h : OwnT y.w W.heap.size v ts) => h.base hbW.size)
 have F0 : ∀ y : Sub W.heap.size W, y.w.cell? ⟨w.heap.size, 0, none⟩ = some (.int .i64 x.k) := fun y => xc 0 _ rfl y.w y.h
 have Y0 := hide (fun w1 (hb : Below W.heap.size W w1) => (show w1.cell? ⟨w.heap.size, 0, none⟩ = some (.int .i64 x.k) from xc 0 _ rfl w1 hb))
 have F1 : ∀ y : Sub W.heap.size W, y.w.cell? ⟨w.heap.size, 1, none⟩ = some (.string x.s) := fun y => xc 1 _ rfl y.w y.h
 have Y1 := hide (fun w1 (hb : Below W.heap.size W w1) => (show w1.cell? ⟨w.heap.size, 1, none⟩ = some (.string x.s) from xc 1 _ rfl w1 hb))
 have F2 : ∀ y : Sub W.heap.size W, y.w.cell? ⟨w.heap.size, 2, none⟩ = some (.int .i64 x.op) := fun y => xc 2 _ rfl y.w y.h
 have Y2 := hide (fun w1 (hb : Below W.heap.size W w1) => (show w1.cell? ⟨w.heap.size, 2, none⟩ = some (.int .i64 x.op) from xc 2 _ rfl w1 hb))
 have F3 : ∀ y : Sub W.heap.size W, y.w.cell? ⟨w.heap.size, 3, none⟩ = some (.int .i64 x.src.f) := fun y => xc 3 _ rfl y.w y.h
 have Y3 := hide (fun w1 (hb : Below W.heap.size W w1) => (show w1.cell? ⟨w.heap.size, 3, none⟩ = some (.int .i64 x.src.f) from xc 3 _ rfl w1 hb))
 have F4 : ∀ y : Sub W.heap.size W, y.w.cell? ⟨w.heap.size, 4, none⟩ = some (.int .i64 x.src.r) := fun y => xc 4 _ rfl y.w y.h
 have Y4 := hide (fun w1 (hb : Below W.heap.size W w1) => (show w1.cell? ⟨w.heap.size, 4, none⟩ = some (.int .i64 x.src.r) from xc 4 _ rfl w1 hb))
 have F5 : ∀ y : Sub W.heap.size W, y.w.cell? ⟨w.heap.size, 5, none⟩ = some (.int .i64 x.src.e.k) := fun y => xc 5 _ rfl y.w y.h
 have Y5 := hide (fun w1 (hb : Below W.heap.size W w1) => (show w1.cell? ⟨w.heap.size, 5, none⟩ = some (.int .i64 x.src.e.k) from xc 5 _ rfl w1 hb))
 have F6 : ∀ y : Sub W.heap.size W, y.w.cell? ⟨w.heap.size, 6, none⟩ = some (.int .i64 x.src.e.n) := fun y => xc 6 _ rfl y.w y.h
 have Y6 := hide (fun w1 (hb : Below W.heap.size W w1) => (show w1.cell? ⟨w.heap.size, 6, none⟩ = some (.int .i64 x.src.e.n) from xc 6 _ rfl w1 hb))
 have F7 : ∀ y : Sub W.heap.size W, y.w.cell? ⟨w.heap.size, 7, none⟩ = some (.string x.src.e.s) := fun y => xc 7 _ rfl y.w y.h
 have Y7 := hide (fun w1 (hb : Below W.heap.size W w1) => (show w1.cell? ⟨w.heap.size, 7, none⟩ = some (.string x.src.e.s) from xc 7 _ rfl w1 hb))
 have F8 : ∀ y : Sub W.heap.size W, y.w.cell? ⟨w.heap.size, 8, none⟩ = some (.slice p.b1 x.src.e.l.length p.c1) := fun y => xc 8 _ rfl y.w y.h
 have Y8 := hide (fun w1 (hb : Below W.heap.size W w1) => (show w1.cell? ⟨w.heap.size, 8, none⟩ = some (.slice p.b1 x.src.e.l.length p.c1) from xc 8 _ rfl w1 hb))
 have F9 : ∀ y : Sub W.heap.size W, y.w.cell? ⟨w.heap.size, 9, none⟩ = some (.int .i64 x.dst.f) := fun y => xc 9 _ rfl y.w y.h
 have Y9 := hide (fun w1 (hb : Below W.heap.size W w1) => (show w1.cell? ⟨w.heap.size, 9, none⟩ = some (.int .i64 x.dst.f) from xc 9 _ rfl w1 hb))
 have F10 : ∀ y : Sub W.heap.size W, y.w.cell? ⟨w.heap.size, 10, none⟩ = some (.int .i64 x.dst.r) := fun y => xc 10 _ rfl y.w y.h
 have Y10 := hide (fun w1 (hb : Below W.heap.size W w1) => (show w1.cell? ⟨w.heap.size, 10, none⟩ = some (.int .i64 x.dst.r) from xc 10 _ rfl w1 hb))
 have F11 : ∀ y : Sub W.heap.size W, y.w.cell? ⟨w.heap.size, 11, none⟩ = some (.int .i64 x.dst.e.k) := fun y => xc 11 _ rfl y.w y.h
 have Y11 := hide (fun w1 (hb : Below W.heap.size W w1) => (show w1.cell? ⟨w.heap.size, 11, none⟩ = some (.int .i64 x.dst.e.k) from xc 11 _ rfl w1 hb))
 have F12 : ∀ y : Sub W.heap.size W, y.w.cell? ⟨w.heap.size, 12, none⟩ = some (.int .i64 x.dst.e.n) := fun y => xc 12 _ rfl y.w y.h
 have Y12 := hide (fun w1 (hb : Below W.heap.size W w1) => (show w1.cell? ⟨w.heap.size, 12, none⟩ = some (.int .i64 x.dst.e.n) from xc 12 _ rfl w1 hb))
 have F13 : ∀ y : Sub W.heap.size W, y.w.cell? ⟨w.heap.size, 13, none⟩ = some (.string x.dst.e.s) := fun y => xc 13 _ rfl y.w y.h
 have Y13 := hide (fun w1 (hb : Below W.heap.size W w1) => (show w1.cell? ⟨w.heap.size, 13, none⟩ = some (.string x.dst.e.s) from xc 13 _ rfl w1 hb))
 have F14 : ∀ y : Sub W.heap.size W, y.w.cell? ⟨w.heap.size, 14, none⟩ = some (.slice p.b2 x.dst.e.l.length p.c2) := fun y => xc 14 _ rfl y.w y.h
 have Y14 := hide (fun w1 (hb : Below W.heap.size W w1) => (show w1.cell? ⟨w.heap.size, 14, none⟩ = some (.slice p.b2 x.dst.e.l.length p.c2) from xc 14 _ rfl w1 hb))
 have F15 : ∀ y : Sub W.heap.size W, y.w.cell? ⟨w.heap.size, 15, none⟩ = some (.int .i64 x.n) := fun y => xc 15 _ rfl y.w y.h
 have Y15 := hide (fun w1 (hb : Below W.heap.size W w1) => (show w1.cell? ⟨w.heap.size, 15, none⟩ = some (.int .i64 x.n) from xc 15 _ rfl w1 hb))
 have F16 : ∀ y : Sub W.heap.size W, y.w.cell? ⟨w.heap.size, 16, none⟩ = some (.slice p.b3 x.l.length p.c3) := fun y => xc 16 _ rfl y.w y.h
 have Y16 := hide (fun w1 (hb : Below W.heap.size W w1) => (show w1.cell? ⟨w.heap.size, 16, none⟩ = some (.slice p.b3 x.l.length p.c3) from xc 16 _ rfl w1 hb))
 have MK := hide (fun x w1 => markS_ex x w1)
 unfold Tk.v Tk.cs at MK
 simp only at MK
 have G0 : ∀ y : Sub W.heap.size W, y.w.cell? ⟨w.heap.size + 1, 0, none⟩ = some (.int .i64 1) := fun y => xn 0 _ rfl y.w y.h
 have X0 := hide (fun w1 (hb : Below W.heap.size W w1) => (show w1.cell? ⟨w.heap.size + 1, 0, none⟩ = some (.int .i64 1) from xn 0 _ rfl w1 hb))
 have G1 : ∀ y : Sub W.heap.size W, y.w.cell? ⟨w.heap.size + 1, 1, none⟩ = some (.int .i64 0) := fun y => xn 1 _ rfl y.w y.h
 have X1 := hide (fun w1 (hb : Below W.heap.size W w1) => (show w1.cell? ⟨w.heap.size + 1, 1, none⟩ = some (.int .i64 0) from xn 1 _ rfl w1 hb))
 have G2 : ∀ y : Sub W.heap.size W, y.w.cell? ⟨w.heap.size + 1, 2, none⟩ = some (.string x.s) := fun y => xn 2 _ rfl y.w y.h
 have X2 := hide (fun w1 (hb : Below W.heap.size W w1) => (show w1.cell? ⟨w.heap.size + 1, 2, none⟩ = some (.string x.s) from xn 2 _ rfl w1 hb))
 rw [hk] at F0
 have TM := hide (fun y : Sub W.heap.size W => tmtS ⟨#[46, 103, 108, 111, 98, 108]⟩ x.l p.b3 p.c3 y.w (hrW.l.later y.h) ok.1 ok.2)
 generalize tmT ⟨#[46, 103, 108, 111, 98, 108]⟩ x.l = it at *
 obtain ⟨T, hT⟩ : ∃ T : List Tk, (it) = T := ⟨_, rfl⟩
 have HT := hide hT
 rw [hT]
 clear hT
 unfold Ln.cs at hy0 ⊢
 rw [hk] at hy0 ⊢
 clear hr hrW hW xc xn xl hbW hk ok
 generalize x.src.f = sf at *
 generalize x.src.r = sr at *
 generalize x.src.e.k = sk at *
 generalize x.src.e.n = sn at *
 generalize x.src.e.s = ss at *
 generalize x.src.e.l.length = sl at *
 generalize x.dst.f = df at *
 generalize x.dst.r = dr at *
 generalize x.dst.e.k = dk at *
 generalize x.dst.e.n = dn at *
 generalize x.dst.e.s = ds at *
 generalize x.dst.e.l.length = dl at *
 generalize x.k = k at *
 generalize x.s = s at *
 generalize x.op = op at *
 generalize x.n = n at *
 generalize x.l.length = ll at *
 generalize p.b1 = b1 at *
 generalize p.c1 = c1 at *
 generalize p.b2 = b2 at *
 generalize p.c2 = c2 at *
 generalize p.b3 = b3 at *
 generalize p.c3 = c3 at *
 go_enter Tryz.func107, Tryz.ntmps107
 go_wp2_with fail
 refine (uh TM y0).mono ?_
 rintro r w1 ⟨vs, rfl, hS, hb⟩
 obtain ⟨y1, rfl⟩ := Sub.step (uh HZ) hb
 clear hb
 have O9 := hide (hS.base (Nat.le_trans (uh HZ) y0.h.size))
 clear hS
 go_wp2_with fail
 have EQ : it = T := uh HT
 rw [EQ] at O9
 go_ret
 exact ⟨_, rfl, uh HO y1 _ _ (uh O9), uh HB y1⟩
theorem ln_8 (x : Ln) (p : La) (w : World) (hr : RdL w x p) (hk : x.k = 8) (ok : x.l.length ≤ 1000 ∧ x.l.all (okF 6 true) = true) : Calls Tryz.prog 107 #[.agg (x.cs p)] w fun r w' => ∃ v, r = .returned v ∧ OwnT w' w.heap.size v (tmT ⟨#[46, 101, 110, 100]⟩ x.l) ∧ Below w.heap.size w w' := by
 have hb1 := below_new w (.cells (x.cs p) 30)
 have hb2 := below_new (w.alloc (.cells (x.cs p) 30)) (.cells #[.int .i64 1, .int .i64 0, .string x.s] 71)
 have hbW := hb1.trans (hb2.mono hb1.size)
 obtain ⟨W, hW⟩ : ∃ W, (w.alloc (.cells (x.cs p) 30)).alloc (.cells #[.int .i64 1, .int .i64 0, .string x.s] 71) = W := ⟨_, rfl⟩
 have hrW := hr.later hbW
 have xl : w.heap.size + 1 < W.heap.size := by rw [← hW]; simp
 have xc : ∀ (i : Nat) (v : Value), (x.cs p)[i]? = some v → ∀ w1, Below W.heap.size W w1 → w1.cell? ⟨w.heap.size, i, none⟩ = some v := fun i v h w1 hb => (hb.cell (p := ⟨w.heap.size, i, none⟩) (by show w.heap.size < W.heap.size; omega)).trans (by rw [← hW]; exact (hb2.cell (p := ⟨w.heap.size, i, none⟩) (by simp)).trans (box17 w _ _ i v h))
 have xn : ∀ (i : Nat) (v : Value), (#[.int .i64 1, .int .i64 0, .string x.s] : Array Value)[i]? = some v → ∀ w1, Below W.heap.size W w1 → w1.cell? ⟨w.heap.size + 1, i, none⟩ = some v := fun i v h w1 hb => (hb.cell (p := ⟨w.heap.size + 1, i, none⟩) xl).trans (by rw [← hW]; have := box17 (w.alloc (.cells (x.cs p) 30)) #[.int .i64 1, .int .i64 0, .string x.s] 71 i v h; rw [show (w.alloc (.cells (x.cs p) 30)).heap.size = w.heap.size + 1 by simp] at this; exact this)
 rw [hW] at hbW hrW
 obtain ⟨y0, hy0⟩ : ∃ z : Sub W.heap.size W, (w.alloc (.cells (x.cs p) 30)).alloc (.cells #[.int .i64 1, .int .i64 0, .string x.s] 71) = z.w := ⟨⟨W, Below.refl _ _⟩, hW⟩
 clear hb1 hb2
 have ne := Sub.ne W.heap.size W
 have HZ := hide (Nat.le_refl W.heap.size)
 have HB := hide (fun y : Sub W.heap.size W => hbW.trans (y.h.mono hbW.size))
 have HO := hide (fun (y : Sub W.heap.size W) v ts (h : OwnT y.w W.heap.size v ts) => h.base hbW.size)
 have F0 : ∀ y : Sub W.heap.size W, y.w.cell? ⟨w.heap.size, 0, none⟩ = some (.int .i64 x.k) := fun y => xc 0 _ rfl y.w y.h
 have Y0 := hide (fun w1 (hb : Below W.heap.size W w1) => (show w1.cell? ⟨w.heap.size, 0, none⟩ = some (.int .i64 x.k) from xc 0 _ rfl w1 hb))
 have F1 : ∀ y : Sub W.heap.size W, y.w.cell? ⟨w.heap.size, 1, none⟩ = some (.string x.s) := fun y => xc 1 _ rfl y.w y.h
 have Y1 := hide (fun w1 (hb : Below W.heap.size W w1) => (show w1.cell? ⟨w.heap.size, 1, none⟩ = some (.string x.s) from xc 1 _ rfl w1 hb))
 have F2 : ∀ y : Sub W.heap.size W, y.w.cell? ⟨w.heap.size, 2, none⟩ = some (.int .i64 x.op) := fun y => xc 2 _ rfl y.w y.h
 have Y2 := hide (fun w1 (hb : Below W.heap.size W w1) => (show w1.cell? ⟨w.heap.size, 2, none⟩ = some (.int .i64 x.op) from xc 2 _ rfl w1 hb))
 have F3 : ∀ y : Sub W.heap.size W, y.w.cell? ⟨w.heap.size, 3, none⟩ = some (.int .i64 x.src.f) := fun y => xc 3 _ rfl y.w y.h
 have Y3 := hide (fun w1 (hb : Below W.heap.size W w1) => (show w1.cell? ⟨w.heap.size, 3, none⟩ = some (.int .i64 x.src.f) from xc 3 _ rfl w1 hb))
 have F4 : ∀ y : Sub W.heap.size W, y.w.cell? ⟨w.heap.size, 4, none⟩ = some (.int .i64 x.src.r) := fun y => xc 4 _ rfl y.w y.h
 have Y4 := hide (fun w1 (hb : Below W.heap.size W w1) => (show w1.cell? ⟨w.heap.size, 4, none⟩ = some (.int .i64 x.src.r) from xc 4 _ rfl w1 hb))
 have F5 : ∀ y : Sub W.heap.size W, y.w.cell? ⟨w.heap.size, 5, none⟩ = some (.int .i64 x.src.e.k) := fun y => xc 5 _ rfl y.w y.h
 have Y5 := hide (fun w1 (hb : Below W.heap.size W w1) => (show w1.cell? ⟨w.heap.size, 5, none⟩ = some (.int .i64 x.src.e.k) from xc 5 _ rfl w1 hb))
 have F6 : ∀ y : Sub W.heap.size W, y.w.cell? ⟨w.heap.size, 6, none⟩ = some (.int .i64 x.src.e.n) := fun y => xc 6 _ rfl y.w y.h
 have Y6 := hide (fun w1 (hb : Below W.heap.size W w1) => (show w1.cell? ⟨w.heap.size, 6, none⟩ = some (.int .i64 x.src.e.n) from xc 6 _ rfl w1 hb))
 have F7 : ∀ y : Sub W.heap.size W, y.w.cell? ⟨w.heap.size, 7, none⟩ = some (.string x.src.e.s) := fun y => xc 7 _ rfl y.w y.h
 have Y7 := hide (fun w1 (hb : Below W.heap.size W w1) => (show w1.cell? ⟨w.heap.size, 7, none⟩ = some (.string x.src.e.s) from xc 7 _ rfl w1 hb))
 have F8 : ∀ y : Sub W.heap.size W, y.w.cell? ⟨w.heap.size, 8, none⟩ = some (.slice p.b1 x.src.e.l.length p.c1) := fun y => xc 8 _ rfl y.w y.h
 have Y8 := hide (fun w1 (hb : Below W.heap.size W w1) => (show w1.cell? ⟨w.heap.size, 8, none⟩ = some (.slice p.b1 x.src.e.l.length p.c1) from xc 8 _ rfl w1 hb))
 have F9 : ∀ y : Sub W.heap.size W, y.w.cell? ⟨w.heap.size, 9, none⟩ = some (.int .i64 x.dst.f) := fun y => xc 9 _ rfl y.w y.h
 have Y9 := hide (fun w1 (hb : Below W.heap.size W w1) => (show w1.cell? ⟨w.heap.size, 9, none⟩ = some (.int .i64 x.dst.f) from xc 9 _ rfl w1 hb))
 have F10 : ∀ y : Sub W.heap.size W, y.w.cell? ⟨w.heap.size, 10, none⟩ = some (.int .i64 x.dst.r) := fun y => xc 10 _ rfl y.w y.h
 have Y10 := hide (fun w1 (hb : Below W.heap.size W w1) => (show w1.cell? ⟨w.heap.size, 10, none⟩ = some (.int .i64 x.dst.r) from xc 10 _ rfl w1 hb))
 have F11 : ∀ y : Sub W.heap.size W, y.w.cell? ⟨w.heap.size, 11, none⟩ = some (.int .i64 x.dst.e.k) := fun y => xc 11 _ rfl y.w y.h
 have Y11 := hide (fun w1 (hb : Below W.heap.size W w1) => (show w1.cell? ⟨w.heap.size, 11, none⟩ = some (.int .i64 x.dst.e.k) from xc 11 _ rfl w1 hb))
 have F12 : ∀ y : Sub W.heap.size W, y.w.cell? ⟨w.heap.size, 12, none⟩ = some (.int .i64 x.dst.e.n) := fun y => xc 12 _ rfl y.w y.h
 have Y12 := hide (fun w1 (hb : Below W.heap.size W w1) => (show w1.cell? ⟨w.heap.size, 12, none⟩ = some (.int .i64 x.dst.e.n) from xc 12 _ rfl w1 hb))
 have F13 : ∀ y : Sub W.heap.size W, y.w.cell? ⟨w.heap.size, 13, none⟩ = some (.string x.dst.e.s) := fun y => xc 13 _ rfl y.w y.h
 have Y13 := hide (fun w1 (hb : Below W.heap.size W w1) => (show w1.cell? ⟨w.heap.size, 13, none⟩ = some (.string x.dst.e.s) from xc 13 _ rfl w1 hb))
 have F14 : ∀ y : Sub W.heap.size W, y.w.cell? ⟨w.heap.size, 14, none⟩ = some (.slice p.b2 x.dst.e.l.length p.c2) := fun y => xc 14 _ rfl y.w y.h
 have Y14 := hide (fun w1 (hb : Below W.heap.size W w1) => (show w1.cell? ⟨w.heap.size, 14, none⟩ = some (.slice p.b2 x.dst.e.l.length p.c2) from xc 14 _ rfl w1 hb))
 have F15 : ∀ y : Sub W.heap.size W, y.w.cell? ⟨w.heap.size, 15, none⟩ = some (.int .i64 x.n) := fun y => xc 15 _ rfl y.w y.h
 have Y15 := hide (fun w1 (hb : Below W.heap.size W w1) => (show w1.cell? ⟨w.heap.size, 15, none⟩ = some (.int .i64 x.n) from xc 15 _ rfl w1 hb))
 have F16 : ∀ y : Sub W.heap.size W, y.w.cell? ⟨w.heap.size, 16, none⟩ = some (.slice p.b3 x.l.length p.c3) := fun y => xc 16 _ rfl y.w y.h
 have Y16 := hide (fun w1 (hb : Below W.heap.size W w1) => (show w1.cell? ⟨w.heap.size, 16, none⟩ = some (.slice p.b3 x.l.length p.c3) from xc 16 _ rfl w1 hb))
 have MK := hide (fun x w1 => markS_ex x w1)
 unfold Tk.v Tk.cs at MK
 simp only at MK
 have G0 : ∀ y : Sub W.heap.size W, y.w.cell? ⟨w.heap.size + 1, 0, none⟩ = some (.int .i64 1) := fun y => xn 0 _ rfl y.w y.h
 have X0 := hide (fun w1 (hb : Below W.heap.size W w1) => (show w1.cell? ⟨w.heap.size + 1, 0, none⟩ = some (.int .i64 1) from xn 0 _ rfl w1 hb))
 have G1 : ∀ y : Sub W.heap.size W, y.w.cell? ⟨w.heap.size + 1, 1, none⟩ = some (.int .i64 0) := fun y => xn 1 _ rfl y.w y.h
 have X1 := hide (fun w1 (hb : Below W.heap.size W w1) => (show w1.cell? ⟨w.heap.size + 1, 1, none⟩ = some (.int .i64 0) from xn 1 _ rfl w1 hb))
 have G2 : ∀ y : Sub W.heap.size W, y.w.cell? ⟨w.heap.size + 1, 2, none⟩ = some (.string x.s) := fun y => xn 2 _ rfl y.w y.h
 have X2 := hide (fun w1 (hb : Below W.heap.size W w1) => (show w1.cell? ⟨w.heap.size + 1, 2, none⟩ = some (.string x.s) from xn 2 _ rfl w1 hb))
 rw [hk] at F0
 have TM := hide (fun y : Sub W.heap.size W => tmtS ⟨#[46, 101, 110, 100]⟩ x.l p.b3 p.c3 y.w (hrW.l.later y.h) ok.1 ok.2)
 generalize tmT ⟨#[46, 101, 110, 100]⟩ x.l = it at *
 obtain ⟨T, hT⟩ : ∃ T : List Tk, (it) = T := ⟨_, rfl⟩
 have HT := hide hT
 rw [hT]
 clear hT
 unfold Ln.cs at hy0 ⊢
 rw [hk] at hy0 ⊢
 clear hr hrW hW xc xn xl hbW hk ok
 generalize x.src.f = sf at *
 generalize x.src.r = sr at *
 generalize x.src.e.k = sk at *
 generalize x.src.e.n = sn at *
 generalize x.src.e.s = ss at *
 generalize x.src.e.l.length = sl at *
 generalize x.dst.f = df at *
 generalize x.dst.r = dr at *
 generalize x.dst.e.k = dk at *
 generalize x.dst.e.n = dn at *
 generalize x.dst.e.s = ds at *
 generalize x.dst.e.l.length = dl at *
 generalize x.k = k at *
 generalize x.s = s at *
 generalize x.op = op at *
 generalize x.n = n at *
 generalize x.l.length = ll at *
 generalize p.b1 = b1 at *
 generalize p.c1 = c1 at *
 generalize p.b2 = b2 at *
 generalize p.c2 = c2 at *
 generalize p.b3 = b3 at *
 generalize p.c3 = c3 at *
 go_enter Tryz.func107, Tryz.ntmps107
 go_wp2_with fail
 refine (uh TM y0).mono ?_
 rintro r w1 ⟨vs, rfl, hS, hb⟩
 obtain ⟨y1, rfl⟩ := Sub.step (uh HZ) hb
 clear hb
 have O9 := hide (hS.base (Nat.le_trans (uh HZ) y0.h.size))
 clear hS
 go_wp2_with fail
 have EQ : it = T := uh HT
 rw [EQ] at O9
 go_ret
 exact ⟨_, rfl, uh HO y1 _ _ (uh O9), uh HB y1⟩
theorem ln_6n (x : Ln) (p : La) (w : World) (hr : RdL w x p) (hk : x.k = 6) (ok : x.n = 1) : Calls Tryz.prog 107 #[.agg (x.cs p)] w fun r w' => ∃ v, r = .returned v ∧ OwnT w' w.heap.size v ([⟨3, 0, ⟨#[46, 115, 101, 99, 116]⟩⟩, ⟨1, 0, x.s⟩, mkT 44, ⟨1, 0, ⟨#[111, 118, 101, 114]⟩⟩]) ∧ Below w.heap.size w w' := by
 have hb1 := below_new w (.cells (x.cs p) 30)
 have hb2 := below_new (w.alloc (.cells (x.cs p) 30)) (.cells #[.int .i64 1, .int .i64 0, .string x.s] 71)
 have hbW := hb1.trans (hb2.mono hb1.size)
 obtain ⟨W, hW⟩ : ∃ W, (w.alloc (.cells (x.cs p) 30)).alloc (.cells #[.int .i64 1, .int .i64 0, .string x.s] 71) = W := ⟨_, rfl⟩
 have hrW := hr.later hbW
 have xl : w.heap.size + 1 < W.heap.size := by rw [← hW]; simp
 have xc : ∀ (i : Nat) (v : Value), (x.cs p)[i]? = some v → ∀ w1, Below W.heap.size W w1 → w1.cell? ⟨w.heap.size, i, none⟩ = some v := fun i v h w1 hb => (hb.cell (p := ⟨w.heap.size, i, none⟩) (by show w.heap.size < W.heap.size; omega)).trans (by rw [← hW]; exact (hb2.cell (p := ⟨w.heap.size, i, none⟩) (by simp)).trans (box17 w _ _ i v h))
 have xn : ∀ (i : Nat) (v : Value), (#[.int .i64 1, .int .i64 0, .string x.s] : Array Value)[i]? = some v → ∀ w1, Below W.heap.size W w1 → w1.cell? ⟨w.heap.size + 1, i, none⟩ = some v := fun i v h w1 hb => (hb.cell (p := ⟨w.heap.size + 1, i, none⟩) xl).trans (by rw [← hW]; have := box17 (w.alloc (.cells (x.cs p) 30)) #[.int .i64 1, .int .i64 0, .string x.s] 71 i v h; rw [show (w.alloc (.cells (x.cs p) 30)).heap.size = w.heap.size + 1 by simp] at this; exact this)
 rw [hW] at hbW hrW
 obtain ⟨y0, hy0⟩ : ∃ z : Sub W.heap.size W, (w.alloc (.cells (x.cs p) 30)).alloc (.cells #[.int .i64 1, .int .i64 0, .string x.s] 71) = z.w := ⟨⟨W, Below.refl _ _⟩, hW⟩
 clear hb1 hb2
 have ne := Sub.ne W.heap.size W
 have HZ := hide (Nat.le_refl W.heap.size)
 have HB := hide (fun y : Sub W.heap.size W => hbW.trans (y.h.mono hbW.size))
 have HO := hide (fun (y : Sub W.heap.size W) v ts (h : OwnT y.w W.heap.size v ts) => h.base hbW.size)
 have F0 : ∀ y : Sub W.heap.size W, y.w.cell? ⟨w.heap.size, 0, none⟩ = some (.int .i64 x.k) := fun y => xc 0 _ rfl y.w y.h
 have Y0 := hide (fun w1 (hb : Below W.heap.size W w1) => (show w1.cell? ⟨w.heap.size, 0, none⟩ = some (.int .i64 x.k) from xc 0 _ rfl w1 hb))
 have F1 : ∀ y : Sub W.heap.size W, y.w.cell? ⟨w.heap.size, 1, none⟩ = some (.string x.s) := fun y => xc 1 _ rfl y.w y.h
 have Y1 := hide (fun w1 (hb : Below W.heap.size W w1) => (show w1.cell? ⟨w.heap.size, 1, none⟩ = some (.string x.s) from xc 1 _ rfl w1 hb))
 have F2 : ∀ y : Sub W.heap.size W, y.w.cell? ⟨w.heap.size, 2, none⟩ = some (.int .i64 x.op) := fun y => xc 2 _ rfl y.w y.h
 have Y2 := hide (fun w1 (hb : Below W.heap.size W w1) => (show w1.cell? ⟨w.heap.size, 2, none⟩ = some (.int .i64 x.op) from xc 2 _ rfl w1 hb))
 have F3 : ∀ y : Sub W.heap.size W, y.w.cell? ⟨w.heap.size, 3, none⟩ = some (.int .i64 x.src.f) := fun y => xc 3 _ rfl y.w y.h
 have Y3 := hide (fun w1 (hb : Below W.heap.size W w1) => (show w1.cell? ⟨w.heap.size, 3, none⟩ = some (.int .i64 x.src.f) from xc 3 _ rfl w1 hb))
 have F4 : ∀ y : Sub W.heap.size W, y.w.cell? ⟨w.heap.size, 4, none⟩ = some (.int .i64 x.src.r) := fun y => xc 4 _ rfl y.w y.h
 have Y4 := hide (fun w1 (hb : Below W.heap.size W w1) => (show w1.cell? ⟨w.heap.size, 4, none⟩ = some (.int .i64 x.src.r) from xc 4 _ rfl w1 hb))
 have F5 : ∀ y : Sub W.heap.size W, y.w.cell? ⟨w.heap.size, 5, none⟩ = some (.int .i64 x.src.e.k) := fun y => xc 5 _ rfl y.w y.h
 have Y5 := hide (fun w1 (hb : Below W.heap.size W w1) => (show w1.cell? ⟨w.heap.size, 5, none⟩ = some (.int .i64 x.src.e.k) from xc 5 _ rfl w1 hb))
 have F6 : ∀ y : Sub W.heap.size W, y.w.cell? ⟨w.heap.size, 6, none⟩ = some (.int .i64 x.src.e.n) := fun y => xc 6 _ rfl y.w y.h
 have Y6 := hide (fun w1 (hb : Below W.heap.size W w1) => (show w1.cell? ⟨w.heap.size, 6, none⟩ = some (.int .i64 x.src.e.n) from xc 6 _ rfl w1 hb))
 have F7 : ∀ y : Sub W.heap.size W, y.w.cell? ⟨w.heap.size, 7, none⟩ = some (.string x.src.e.s) := fun y => xc 7 _ rfl y.w y.h
 have Y7 := hide (fun w1 (hb : Below W.heap.size W w1) => (show w1.cell? ⟨w.heap.size, 7, none⟩ = some (.string x.src.e.s) from xc 7 _ rfl w1 hb))
 have F8 : ∀ y : Sub W.heap.size W, y.w.cell? ⟨w.heap.size, 8, none⟩ = some (.slice p.b1 x.src.e.l.length p.c1) := fun y => xc 8 _ rfl y.w y.h
 have Y8 := hide (fun w1 (hb : Below W.heap.size W w1) => (show w1.cell? ⟨w.heap.size, 8, none⟩ = some (.slice p.b1 x.src.e.l.length p.c1) from xc 8 _ rfl w1 hb))
 have F9 : ∀ y : Sub W.heap.size W, y.w.cell? ⟨w.heap.size, 9, none⟩ = some (.int .i64 x.dst.f) := fun y => xc 9 _ rfl y.w y.h
 have Y9 := hide (fun w1 (hb : Below W.heap.size W w1) => (show w1.cell? ⟨w.heap.size, 9, none⟩ = some (.int .i64 x.dst.f) from xc 9 _ rfl w1 hb))
 have F10 : ∀ y : Sub W.heap.size W, y.w.cell? ⟨w.heap.size, 10, none⟩ = some (.int .i64 x.dst.r) := fun y => xc 10 _ rfl y.w y.h
 have Y10 := hide (fun w1 (hb : Below W.heap.size W w1) => (show w1.cell? ⟨w.heap.size, 10, none⟩ = some (.int .i64 x.dst.r) from xc 10 _ rfl w1 hb))
 have F11 : ∀ y : Sub W.heap.size W, y.w.cell? ⟨w.heap.size, 11, none⟩ = some (.int .i64 x.dst.e.k) := fun y => xc 11 _ rfl y.w y.h
 have Y11 := hide (fun w1 (hb : Below W.heap.size W w1) => (show w1.cell? ⟨w.heap.size, 11, none⟩ = some (.int .i64 x.dst.e.k) from xc 11 _ rfl w1 hb))
 have F12 : ∀ y : Sub W.heap.size W, y.w.cell? ⟨w.heap.size, 12, none⟩ = some (.int .i64 x.dst.e.n) := fun y => xc 12 _ rfl y.w y.h
 have Y12 := hide (fun w1 (hb : Below W.heap.size W w1) => (show w1.cell? ⟨w.heap.size, 12, none⟩ = some (.int .i64 x.dst.e.n) from xc 12 _ rfl w1 hb))
 have F13 : ∀ y : Sub W.heap.size W, y.w.cell? ⟨w.heap.size, 13, none⟩ = some (.string x.dst.e.s) := fun y => xc 13 _ rfl y.w y.h
 have Y13 := hide (fun w1 (hb : Below W.heap.size W w1) => (show w1.cell? ⟨w.heap.size, 13, none⟩ = some (.string x.dst.e.s) from xc 13 _ rfl w1 hb))
 have F14 : ∀ y : Sub W.heap.size W, y.w.cell? ⟨w.heap.size, 14, none⟩ = some (.slice p.b2 x.dst.e.l.length p.c2) := fun y => xc 14 _ rfl y.w y.h
 have Y14 := hide (fun w1 (hb : Below W.heap.size W w1) => (show w1.cell? ⟨w.heap.size, 14, none⟩ = some (.slice p.b2 x.dst.e.l.length p.c2) from xc 14 _ rfl w1 hb))
 have F15 : ∀ y : Sub W.heap.size W, y.w.cell? ⟨w.heap.size, 15, none⟩ = some (.int .i64 x.n) := fun y => xc 15 _ rfl y.w y.h
 have Y15 := hide (fun w1 (hb : Below W.heap.size W w1) => (show w1.cell? ⟨w.heap.size, 15, none⟩ = some (.int .i64 x.n) from xc 15 _ rfl w1 hb))
 have F16 : ∀ y : Sub W.heap.size W, y.w.cell? ⟨w.heap.size, 16, none⟩ = some (.slice p.b3 x.l.length p.c3) := fun y => xc 16 _ rfl y.w y.h
 have Y16 := hide (fun w1 (hb : Below W.heap.size W w1) => (show w1.cell? ⟨w.heap.size, 16, none⟩ = some (.slice p.b3 x.l.length p.c3) from xc 16 _ rfl w1 hb))
 have MK := hide (fun x w1 => markS_ex x w1)
 unfold Tk.v Tk.cs at MK
 simp only at MK
 have G0 : ∀ y : Sub W.heap.size W, y.w.cell? ⟨w.heap.size + 1, 0, none⟩ = some (.int .i64 1) := fun y => xn 0 _ rfl y.w y.h
 have X0 := hide (fun w1 (hb : Below W.heap.size W w1) => (show w1.cell? ⟨w.heap.size + 1, 0, none⟩ = some (.int .i64 1) from xn 0 _ rfl w1 hb))
 have G1 : ∀ y : Sub W.heap.size W, y.w.cell? ⟨w.heap.size + 1, 1, none⟩ = some (.int .i64 0) := fun y => xn 1 _ rfl y.w y.h
 have X1 := hide (fun w1 (hb : Below W.heap.size W w1) => (show w1.cell? ⟨w.heap.size + 1, 1, none⟩ = some (.int .i64 0) from xn 1 _ rfl w1 hb))
 have G2 : ∀ y : Sub W.heap.size W, y.w.cell? ⟨w.heap.size + 1, 2, none⟩ = some (.string x.s) := fun y => xn 2 _ rfl y.w y.h
 have X2 := hide (fun w1 (hb : Below W.heap.size W w1) => (show w1.cell? ⟨w.heap.size + 1, 2, none⟩ = some (.string x.s) from xn 2 _ rfl w1 hb))
 rw [hk] at F0
 rw [ok] at F15
 obtain ⟨T, hT⟩ : ∃ T : List Tk, ([⟨3, 0, ⟨#[46, 115, 101, 99, 116]⟩⟩, ⟨1, 0, x.s⟩, mkT 44, ⟨1, 0, ⟨#[111, 118, 101, 114]⟩⟩]) = T := ⟨_, rfl⟩
 have HT := hide hT
 rw [hT]
 clear hT
 unfold Ln.cs at hy0 ⊢
 rw [hk] at hy0 ⊢
 rw [ok] at hy0 ⊢
 clear hr hrW hW xc xn xl hbW hk ok
 generalize x.src.f = sf at *
 generalize x.src.r = sr at *
 generalize x.src.e.k = sk at *
 generalize x.src.e.n = sn at *
 generalize x.src.e.s = ss at *
 generalize x.src.e.l.length = sl at *
 generalize x.dst.f = df at *
 generalize x.dst.r = dr at *
 generalize x.dst.e.k = dk at *
 generalize x.dst.e.n = dn at *
 generalize x.dst.e.s = ds at *
 generalize x.dst.e.l.length = dl at *
 generalize x.k = k at *
 generalize x.s = s at *
 generalize x.op = op at *
 generalize x.n = n at *
 generalize x.l.length = ll at *
 generalize p.b1 = b1 at *
 generalize p.c1 = c1 at *
 generalize p.b2 = b2 at *
 generalize p.c2 = c2 at *
 generalize p.b3 = b3 at *
 generalize p.c3 = c3 at *
 go_enter Tryz.func107, Tryz.ntmps107
 obtain ⟨y1, hy1⟩ := Sub.step (uh HZ) (below_new y0.w (.cells #[.int .i64 3, .int .i64 0, .string ⟨#[46, 115, 101, 99, 116]⟩, .int .i64 1, .int .i64 0, .string s] 71))
 have S1 := hide (show OwnT y1.w W.heap.size (.slice (some ⟨y0.w.heap.size, 0, none⟩) 2 2) [(Tk.mk 3 0 ⟨#[46, 115, 101, 99, 116]⟩), (Tk.mk 1 0 s)] by rw [← hy1]; exact ownT_two y0.w (Tk.mk 3 0 ⟨#[46, 115, 101, 99, 116]⟩) (Tk.mk 1 0 s) W.heap.size (Nat.le_trans (uh HZ) y0.h.size))
 have O1 := hide (uh S1)
 clear S1
 have l0 : ([(Tk.mk 3 0 ⟨#[46, 115, 101, 99, 116]⟩), (Tk.mk 1 0 s)]).length ≤ 2 := Nat.le_refl 2
 go_wp2_with fail
 refine (uh MK ⟨#[44]⟩ y1.w).mono ?_
 rintro r w2 ⟨rfl, hb⟩
 have O2 := hide ((uh O1).later hb)
 clear O1
 obtain ⟨y2, rfl⟩ := Sub.step (uh HZ) hb
 clear hb
 obtain ⟨y3, hy3⟩ := Sub.step (uh HZ) (below_new y2.w (.cells #[.int .i64 4, .int .i64 0, .string ⟨#[44]⟩, .int .i64 1, .int .i64 0, .string ⟨#[111, 118, 101, 114]⟩] 71))
 have S3 := hide (show OwnT y3.w W.heap.size (.slice (some ⟨y2.w.heap.size, 0, none⟩) 2 2) [(Tk.mk 4 0 ⟨#[44]⟩), (Tk.mk 1 0 ⟨#[111, 118, 101, 114]⟩)] by rw [← hy3]; exact ownT_two y2.w (Tk.mk 4 0 ⟨#[44]⟩) (Tk.mk 1 0 ⟨#[111, 118, 101, 114]⟩) W.heap.size (Nat.le_trans (uh HZ) y2.h.size))
 have O3 := hide (show OwnT y3.w W.heap.size (.slice (some ⟨y0.w.heap.size, 0, none⟩) 2 2) [(Tk.mk 3 0 ⟨#[46, 115, 101, 99, 116]⟩), (Tk.mk 1 0 s)] by rw [← hy3]; exact (uh O2).later (below_new _ _))
 clear O2
 go_wp2_with (at_builtin; go_must (refine appT rfl (.tmp 58) (.tmp 61) rfl (uh HZ) y3.h rfl (uh O3) rfl (uh S3) (two_ne _ _) (lsum l0 (two_le _ _) (by decide)) ?_; intro v4 y4 hO; obtain ⟨u4, hu⟩ : ∃ u, ([(Tk.mk 3 0 ⟨#[46, 115, 101, 99, 116]⟩), (Tk.mk 1 0 s)] ++ [(Tk.mk 4 0 ⟨#[44]⟩), (Tk.mk 1 0 ⟨#[111, 118, 101, 114]⟩)]) = u := ⟨_, rfl⟩; rw [hu] at hO; have l4 := lapp hu l0 (two_le _ _); have O4 := hide hO; have H4 := hide hu; clear hO hu O3 S3))
 have EQ : u4 = T := by
  rw [← uh HT]
  rw [← uh H4]
  simp [mkT, mkS]
 rw [EQ] at O4
 go_ret
 exact ⟨_, rfl, uh HO y4 _ _ (uh O4), uh HB y4⟩
theorem ln_6 (x : Ln) (p : La) (w : World) (hr : RdL w x p) (hk : x.k = 6) (ok : x.n ≠ 1) : Calls Tryz.prog 107 #[.agg (x.cs p)] w fun r w' => ∃ v, r = .returned v ∧ OwnT w' w.heap.size v ([⟨3, 0, ⟨#[46, 115, 101, 99, 116]⟩⟩, ⟨1, 0, x.s⟩]) ∧ Below w.heap.size w w' := by
 have hb1 := below_new w (.cells (x.cs p) 30)
 have hb2 := below_new (w.alloc (.cells (x.cs p) 30)) (.cells #[.int .i64 1, .int .i64 0, .string x.s] 71)
 have hbW := hb1.trans (hb2.mono hb1.size)
 obtain ⟨W, hW⟩ : ∃ W, (w.alloc (.cells (x.cs p) 30)).alloc (.cells #[.int .i64 1, .int .i64 0, .string x.s] 71) = W := ⟨_, rfl⟩
 have hrW := hr.later hbW
 have xl : w.heap.size + 1 < W.heap.size := by rw [← hW]; simp
 have xc : ∀ (i : Nat) (v : Value), (x.cs p)[i]? = some v → ∀ w1, Below W.heap.size W w1 → w1.cell? ⟨w.heap.size, i, none⟩ = some v := fun i v h w1 hb => (hb.cell (p := ⟨w.heap.size, i, none⟩) (by show w.heap.size < W.heap.size; omega)).trans (by rw [← hW]; exact (hb2.cell (p := ⟨w.heap.size, i, none⟩) (by simp)).trans (box17 w _ _ i v h))
 have xn : ∀ (i : Nat) (v : Value), (#[.int .i64 1, .int .i64 0, .string x.s] : Array Value)[i]? = some v → ∀ w1, Below W.heap.size W w1 → w1.cell? ⟨w.heap.size + 1, i, none⟩ = some v := fun i v h w1 hb => (hb.cell (p := ⟨w.heap.size + 1, i, none⟩) xl).trans (by rw [← hW]; have := box17 (w.alloc (.cells (x.cs p) 30)) #[.int .i64 1, .int .i64 0, .string x.s] 71 i v h; rw [show (w.alloc (.cells (x.cs p) 30)).heap.size = w.heap.size + 1 by simp] at this; exact this)
 rw [hW] at hbW hrW
 obtain ⟨y0, hy0⟩ : ∃ z : Sub W.heap.size W, (w.alloc (.cells (x.cs p) 30)).alloc (.cells #[.int .i64 1, .int .i64 0, .string x.s] 71) = z.w := ⟨⟨W, Below.refl _ _⟩, hW⟩
 clear hb1 hb2
 have ne := Sub.ne W.heap.size W
 have HZ := hide (Nat.le_refl W.heap.size)
 have HB := hide (fun y : Sub W.heap.size W => hbW.trans (y.h.mono hbW.size))
 have HO := hide (fun (y : Sub W.heap.size W) v ts (h : OwnT y.w W.heap.size v ts) => h.base hbW.size)
 have F0 : ∀ y : Sub W.heap.size W, y.w.cell? ⟨w.heap.size, 0, none⟩ = some (.int .i64 x.k) := fun y => xc 0 _ rfl y.w y.h
 have Y0 := hide (fun w1 (hb : Below W.heap.size W w1) => (show w1.cell? ⟨w.heap.size, 0, none⟩ = some (.int .i64 x.k) from xc 0 _ rfl w1 hb))
 have F1 : ∀ y : Sub W.heap.size W, y.w.cell? ⟨w.heap.size, 1, none⟩ = some (.string x.s) := fun y => xc 1 _ rfl y.w y.h
 have Y1 := hide (fun w1 (hb : Below W.heap.size W w1) => (show w1.cell? ⟨w.heap.size, 1, none⟩ = some (.string x.s) from xc 1 _ rfl w1 hb))
 have F2 : ∀ y : Sub W.heap.size W, y.w.cell? ⟨w.heap.size, 2, none⟩ = some (.int .i64 x.op) := fun y => xc 2 _ rfl y.w y.h
 have Y2 := hide (fun w1 (hb : Below W.heap.size W w1) => (show w1.cell? ⟨w.heap.size, 2, none⟩ = some (.int .i64 x.op) from xc 2 _ rfl w1 hb))
 have F3 : ∀ y : Sub W.heap.size W, y.w.cell? ⟨w.heap.size, 3, none⟩ = some (.int .i64 x.src.f) := fun y => xc 3 _ rfl y.w y.h
 have Y3 := hide (fun w1 (hb : Below W.heap.size W w1) => (show w1.cell? ⟨w.heap.size, 3, none⟩ = some (.int .i64 x.src.f) from xc 3 _ rfl w1 hb))
 have F4 : ∀ y : Sub W.heap.size W, y.w.cell? ⟨w.heap.size, 4, none⟩ = some (.int .i64 x.src.r) := fun y => xc 4 _ rfl y.w y.h
 have Y4 := hide (fun w1 (hb : Below W.heap.size W w1) => (show w1.cell? ⟨w.heap.size, 4, none⟩ = some (.int .i64 x.src.r) from xc 4 _ rfl w1 hb))
 have F5 : ∀ y : Sub W.heap.size W, y.w.cell? ⟨w.heap.size, 5, none⟩ = some (.int .i64 x.src.e.k) := fun y => xc 5 _ rfl y.w y.h
 have Y5 := hide (fun w1 (hb : Below W.heap.size W w1) => (show w1.cell? ⟨w.heap.size, 5, none⟩ = some (.int .i64 x.src.e.k) from xc 5 _ rfl w1 hb))
 have F6 : ∀ y : Sub W.heap.size W, y.w.cell? ⟨w.heap.size, 6, none⟩ = some (.int .i64 x.src.e.n) := fun y => xc 6 _ rfl y.w y.h
 have Y6 := hide (fun w1 (hb : Below W.heap.size W w1) => (show w1.cell? ⟨w.heap.size, 6, none⟩ = some (.int .i64 x.src.e.n) from xc 6 _ rfl w1 hb))
 have F7 : ∀ y : Sub W.heap.size W, y.w.cell? ⟨w.heap.size, 7, none⟩ = some (.string x.src.e.s) := fun y => xc 7 _ rfl y.w y.h
 have Y7 := hide (fun w1 (hb : Below W.heap.size W w1) => (show w1.cell? ⟨w.heap.size, 7, none⟩ = some (.string x.src.e.s) from xc 7 _ rfl w1 hb))
 have F8 : ∀ y : Sub W.heap.size W, y.w.cell? ⟨w.heap.size, 8, none⟩ = some (.slice p.b1 x.src.e.l.length p.c1) := fun y => xc 8 _ rfl y.w y.h
 have Y8 := hide (fun w1 (hb : Below W.heap.size W w1) => (show w1.cell? ⟨w.heap.size, 8, none⟩ = some (.slice p.b1 x.src.e.l.length p.c1) from xc 8 _ rfl w1 hb))
 have F9 : ∀ y : Sub W.heap.size W, y.w.cell? ⟨w.heap.size, 9, none⟩ = some (.int .i64 x.dst.f) := fun y => xc 9 _ rfl y.w y.h
 have Y9 := hide (fun w1 (hb : Below W.heap.size W w1) => (show w1.cell? ⟨w.heap.size, 9, none⟩ = some (.int .i64 x.dst.f) from xc 9 _ rfl w1 hb))
 have F10 : ∀ y : Sub W.heap.size W, y.w.cell? ⟨w.heap.size, 10, none⟩ = some (.int .i64 x.dst.r) := fun y => xc 10 _ rfl y.w y.h
 have Y10 := hide (fun w1 (hb : Below W.heap.size W w1) => (show w1.cell? ⟨w.heap.size, 10, none⟩ = some (.int .i64 x.dst.r) from xc 10 _ rfl w1 hb))
 have F11 : ∀ y : Sub W.heap.size W, y.w.cell? ⟨w.heap.size, 11, none⟩ = some (.int .i64 x.dst.e.k) := fun y => xc 11 _ rfl y.w y.h
 have Y11 := hide (fun w1 (hb : Below W.heap.size W w1) => (show w1.cell? ⟨w.heap.size, 11, none⟩ = some (.int .i64 x.dst.e.k) from xc 11 _ rfl w1 hb))
 have F12 : ∀ y : Sub W.heap.size W, y.w.cell? ⟨w.heap.size, 12, none⟩ = some (.int .i64 x.dst.e.n) := fun y => xc 12 _ rfl y.w y.h
 have Y12 := hide (fun w1 (hb : Below W.heap.size W w1) => (show w1.cell? ⟨w.heap.size, 12, none⟩ = some (.int .i64 x.dst.e.n) from xc 12 _ rfl w1 hb))
 have F13 : ∀ y : Sub W.heap.size W, y.w.cell? ⟨w.heap.size, 13, none⟩ = some (.string x.dst.e.s) := fun y => xc 13 _ rfl y.w y.h
 have Y13 := hide (fun w1 (hb : Below W.heap.size W w1) => (show w1.cell? ⟨w.heap.size, 13, none⟩ = some (.string x.dst.e.s) from xc 13 _ rfl w1 hb))
 have F14 : ∀ y : Sub W.heap.size W, y.w.cell? ⟨w.heap.size, 14, none⟩ = some (.slice p.b2 x.dst.e.l.length p.c2) := fun y => xc 14 _ rfl y.w y.h
 have Y14 := hide (fun w1 (hb : Below W.heap.size W w1) => (show w1.cell? ⟨w.heap.size, 14, none⟩ = some (.slice p.b2 x.dst.e.l.length p.c2) from xc 14 _ rfl w1 hb))
 have F15 : ∀ y : Sub W.heap.size W, y.w.cell? ⟨w.heap.size, 15, none⟩ = some (.int .i64 x.n) := fun y => xc 15 _ rfl y.w y.h
 have Y15 := hide (fun w1 (hb : Below W.heap.size W w1) => (show w1.cell? ⟨w.heap.size, 15, none⟩ = some (.int .i64 x.n) from xc 15 _ rfl w1 hb))
 have F16 : ∀ y : Sub W.heap.size W, y.w.cell? ⟨w.heap.size, 16, none⟩ = some (.slice p.b3 x.l.length p.c3) := fun y => xc 16 _ rfl y.w y.h
 have Y16 := hide (fun w1 (hb : Below W.heap.size W w1) => (show w1.cell? ⟨w.heap.size, 16, none⟩ = some (.slice p.b3 x.l.length p.c3) from xc 16 _ rfl w1 hb))
 have MK := hide (fun x w1 => markS_ex x w1)
 unfold Tk.v Tk.cs at MK
 simp only at MK
 have G0 : ∀ y : Sub W.heap.size W, y.w.cell? ⟨w.heap.size + 1, 0, none⟩ = some (.int .i64 1) := fun y => xn 0 _ rfl y.w y.h
 have X0 := hide (fun w1 (hb : Below W.heap.size W w1) => (show w1.cell? ⟨w.heap.size + 1, 0, none⟩ = some (.int .i64 1) from xn 0 _ rfl w1 hb))
 have G1 : ∀ y : Sub W.heap.size W, y.w.cell? ⟨w.heap.size + 1, 1, none⟩ = some (.int .i64 0) := fun y => xn 1 _ rfl y.w y.h
 have X1 := hide (fun w1 (hb : Below W.heap.size W w1) => (show w1.cell? ⟨w.heap.size + 1, 1, none⟩ = some (.int .i64 0) from xn 1 _ rfl w1 hb))
 have G2 : ∀ y : Sub W.heap.size W, y.w.cell? ⟨w.heap.size + 1, 2, none⟩ = some (.string x.s) := fun y => xn 2 _ rfl y.w y.h
 have X2 := hide (fun w1 (hb : Below W.heap.size W w1) => (show w1.cell? ⟨w.heap.size + 1, 2, none⟩ = some (.string x.s) from xn 2 _ rfl w1 hb))
 rw [hk] at F0
 have okn : (x.n == 1) = false := beq_eq_false_iff_ne.2 ok
 obtain ⟨T, hT⟩ : ∃ T : List Tk, ([⟨3, 0, ⟨#[46, 115, 101, 99, 116]⟩⟩, ⟨1, 0, x.s⟩]) = T := ⟨_, rfl⟩
 have HT := hide hT
 rw [hT]
 clear hT
 unfold Ln.cs at hy0 ⊢
 rw [hk] at hy0 ⊢
 clear hr hrW hW xc xn xl hbW hk ok
 generalize x.src.f = sf at *
 generalize x.src.r = sr at *
 generalize x.src.e.k = sk at *
 generalize x.src.e.n = sn at *
 generalize x.src.e.s = ss at *
 generalize x.src.e.l.length = sl at *
 generalize x.dst.f = df at *
 generalize x.dst.r = dr at *
 generalize x.dst.e.k = dk at *
 generalize x.dst.e.n = dn at *
 generalize x.dst.e.s = ds at *
 generalize x.dst.e.l.length = dl at *
 generalize x.k = k at *
 generalize x.s = s at *
 generalize x.op = op at *
 generalize x.n = n at *
 generalize x.l.length = ll at *
 generalize p.b1 = b1 at *
 generalize p.c1 = c1 at *
 generalize p.b2 = b2 at *
 generalize p.c2 = c2 at *
 generalize p.b3 = b3 at *
 generalize p.c3 = c3 at *
 go_enter Tryz.func107, Tryz.ntmps107
 obtain ⟨y1, hy1⟩ := Sub.step (uh HZ) (below_new y0.w (.cells #[.int .i64 3, .int .i64 0, .string ⟨#[46, 115, 101, 99, 116]⟩, .int .i64 1, .int .i64 0, .string s] 71))
 have S1 := hide (show OwnT y1.w W.heap.size (.slice (some ⟨y0.w.heap.size, 0, none⟩) 2 2) [(Tk.mk 3 0 ⟨#[46, 115, 101, 99, 116]⟩), (Tk.mk 1 0 s)] by rw [← hy1]; exact ownT_two y0.w (Tk.mk 3 0 ⟨#[46, 115, 101, 99, 116]⟩) (Tk.mk 1 0 s) W.heap.size (Nat.le_trans (uh HZ) y0.h.size))
 have O1 := hide (uh S1)
 clear S1
 have l0 : ([(Tk.mk 3 0 ⟨#[46, 115, 101, 99, 116]⟩), (Tk.mk 1 0 s)]).length ≤ 2 := Nat.le_refl 2
 go_wp2_with fail
 have EQ : [(Tk.mk 3 0 ⟨#[46, 115, 101, 99, 116]⟩), (Tk.mk 1 0 s)] = T := uh HT
 rw [EQ] at O1
 go_ret
 exact ⟨_, rfl, uh HO y1 _ _ (uh O1), uh HB y1⟩
theorem ln_0 (x : Ln) (p : La) (w : World) (hr : RdL w x p) (hk : x.k = 0) (ok : True) : Calls Tryz.prog 107 #[.agg (x.cs p)] w fun r w' => ∃ v, r = .returned v ∧ OwnT w' w.heap.size v ([]) ∧ Below w.heap.size w w' := by
 have hb1 := below_new w (.cells (x.cs p) 30)
 have hb2 := below_new (w.alloc (.cells (x.cs p) 30)) (.cells #[.int .i64 1, .int .i64 0, .string x.s] 71)
 have hbW := hb1.trans (hb2.mono hb1.size)
 obtain ⟨W, hW⟩ : ∃ W, (w.alloc (.cells (x.cs p) 30)).alloc (.cells #[.int .i64 1, .int .i64 0, .string x.s] 71) = W := ⟨_, rfl⟩
 have hrW := hr.later hbW
 have xl : w.heap.size + 1 < W.heap.size := by rw [← hW]; simp
 have xc : ∀ (i : Nat) (v : Value), (x.cs p)[i]? = some v → ∀ w1, Below W.heap.size W w1 → w1.cell? ⟨w.heap.size, i, none⟩ = some v := fun i v h w1 hb => (hb.cell (p := ⟨w.heap.size, i, none⟩) (by show w.heap.size < W.heap.size; omega)).trans (by rw [← hW]; exact (hb2.cell (p := ⟨w.heap.size, i, none⟩) (by simp)).trans (box17 w _ _ i v h))
 have xn : ∀ (i : Nat) (v : Value), (#[.int .i64 1, .int .i64 0, .string x.s] : Array Value)[i]? = some v → ∀ w1, Below W.heap.size W w1 → w1.cell? ⟨w.heap.size + 1, i, none⟩ = some v := fun i v h w1 hb => (hb.cell (p := ⟨w.heap.size + 1, i, none⟩) xl).trans (by rw [← hW]; have := box17 (w.alloc (.cells (x.cs p) 30)) #[.int .i64 1, .int .i64 0, .string x.s] 71 i v h; rw [show (w.alloc (.cells (x.cs p) 30)).heap.size = w.heap.size + 1 by simp] at this; exact this)
 rw [hW] at hbW hrW
 obtain ⟨y0, hy0⟩ : ∃ z : Sub W.heap.size W, (w.alloc (.cells (x.cs p) 30)).alloc (.cells #[.int .i64 1, .int .i64 0, .string x.s] 71) = z.w := ⟨⟨W, Below.refl _ _⟩, hW⟩
 clear hb1 hb2
 have ne := Sub.ne W.heap.size W
 have HZ := hide (Nat.le_refl W.heap.size)
 have HB := hide (fun y : Sub W.heap.size W => hbW.trans (y.h.mono hbW.size))
 have HO := hide (fun (y : Sub W.heap.size W) v ts (h : OwnT y.w W.heap.size v ts) => h.base hbW.size)
 have F0 : ∀ y : Sub W.heap.size W, y.w.cell? ⟨w.heap.size, 0, none⟩ = some (.int .i64 x.k) := fun y => xc 0 _ rfl y.w y.h
 have Y0 := hide (fun w1 (hb : Below W.heap.size W w1) => (show w1.cell? ⟨w.heap.size, 0, none⟩ = some (.int .i64 x.k) from xc 0 _ rfl w1 hb))
 have F1 : ∀ y : Sub W.heap.size W, y.w.cell? ⟨w.heap.size, 1, none⟩ = some (.string x.s) := fun y => xc 1 _ rfl y.w y.h
 have Y1 := hide (fun w1 (hb : Below W.heap.size W w1) => (show w1.cell? ⟨w.heap.size, 1, none⟩ = some (.string x.s) from xc 1 _ rfl w1 hb))
 have F2 : ∀ y : Sub W.heap.size W, y.w.cell? ⟨w.heap.size, 2, none⟩ = some (.int .i64 x.op) := fun y => xc 2 _ rfl y.w y.h
 have Y2 := hide (fun w1 (hb : Below W.heap.size W w1) => (show w1.cell? ⟨w.heap.size, 2, none⟩ = some (.int .i64 x.op) from xc 2 _ rfl w1 hb))
 have F3 : ∀ y : Sub W.heap.size W, y.w.cell? ⟨w.heap.size, 3, none⟩ = some (.int .i64 x.src.f) := fun y => xc 3 _ rfl y.w y.h
 have Y3 := hide (fun w1 (hb : Below W.heap.size W w1) => (show w1.cell? ⟨w.heap.size, 3, none⟩ = some (.int .i64 x.src.f) from xc 3 _ rfl w1 hb))
 have F4 : ∀ y : Sub W.heap.size W, y.w.cell? ⟨w.heap.size, 4, none⟩ = some (.int .i64 x.src.r) := fun y => xc 4 _ rfl y.w y.h
 have Y4 := hide (fun w1 (hb : Below W.heap.size W w1) => (show w1.cell? ⟨w.heap.size, 4, none⟩ = some (.int .i64 x.src.r) from xc 4 _ rfl w1 hb))
 have F5 : ∀ y : Sub W.heap.size W, y.w.cell? ⟨w.heap.size, 5, none⟩ = some (.int .i64 x.src.e.k) := fun y => xc 5 _ rfl y.w y.h
 have Y5 := hide (fun w1 (hb : Below W.heap.size W w1) => (show w1.cell? ⟨w.heap.size, 5, none⟩ = some (.int .i64 x.src.e.k) from xc 5 _ rfl w1 hb))
 have F6 : ∀ y : Sub W.heap.size W, y.w.cell? ⟨w.heap.size, 6, none⟩ = some (.int .i64 x.src.e.n) := fun y => xc 6 _ rfl y.w y.h
 have Y6 := hide (fun w1 (hb : Below W.heap.size W w1) => (show w1.cell? ⟨w.heap.size, 6, none⟩ = some (.int .i64 x.src.e.n) from xc 6 _ rfl w1 hb))
 have F7 : ∀ y : Sub W.heap.size W, y.w.cell? ⟨w.heap.size, 7, none⟩ = some (.string x.src.e.s) := fun y => xc 7 _ rfl y.w y.h
 have Y7 := hide (fun w1 (hb : Below W.heap.size W w1) => (show w1.cell? ⟨w.heap.size, 7, none⟩ = some (.string x.src.e.s) from xc 7 _ rfl w1 hb))
 have F8 : ∀ y : Sub W.heap.size W, y.w.cell? ⟨w.heap.size, 8, none⟩ = some (.slice p.b1 x.src.e.l.length p.c1) := fun y => xc 8 _ rfl y.w y.h
 have Y8 := hide (fun w1 (hb : Below W.heap.size W w1) => (show w1.cell? ⟨w.heap.size, 8, none⟩ = some (.slice p.b1 x.src.e.l.length p.c1) from xc 8 _ rfl w1 hb))
 have F9 : ∀ y : Sub W.heap.size W, y.w.cell? ⟨w.heap.size, 9, none⟩ = some (.int .i64 x.dst.f) := fun y => xc 9 _ rfl y.w y.h
 have Y9 := hide (fun w1 (hb : Below W.heap.size W w1) => (show w1.cell? ⟨w.heap.size, 9, none⟩ = some (.int .i64 x.dst.f) from xc 9 _ rfl w1 hb))
 have F10 : ∀ y : Sub W.heap.size W, y.w.cell? ⟨w.heap.size, 10, none⟩ = some (.int .i64 x.dst.r) := fun y => xc 10 _ rfl y.w y.h
 have Y10 := hide (fun w1 (hb : Below W.heap.size W w1) => (show w1.cell? ⟨w.heap.size, 10, none⟩ = some (.int .i64 x.dst.r) from xc 10 _ rfl w1 hb))
 have F11 : ∀ y : Sub W.heap.size W, y.w.cell? ⟨w.heap.size, 11, none⟩ = some (.int .i64 x.dst.e.k) := fun y => xc 11 _ rfl y.w y.h
 have Y11 := hide (fun w1 (hb : Below W.heap.size W w1) => (show w1.cell? ⟨w.heap.size, 11, none⟩ = some (.int .i64 x.dst.e.k) from xc 11 _ rfl w1 hb))
 have F12 : ∀ y : Sub W.heap.size W, y.w.cell? ⟨w.heap.size, 12, none⟩ = some (.int .i64 x.dst.e.n) := fun y => xc 12 _ rfl y.w y.h
 have Y12 := hide (fun w1 (hb : Below W.heap.size W w1) => (show w1.cell? ⟨w.heap.size, 12, none⟩ = some (.int .i64 x.dst.e.n) from xc 12 _ rfl w1 hb))
 have F13 : ∀ y : Sub W.heap.size W, y.w.cell? ⟨w.heap.size, 13, none⟩ = some (.string x.dst.e.s) := fun y => xc 13 _ rfl y.w y.h
 have Y13 := hide (fun w1 (hb : Below W.heap.size W w1) => (show w1.cell? ⟨w.heap.size, 13, none⟩ = some (.string x.dst.e.s) from xc 13 _ rfl w1 hb))
 have F14 : ∀ y : Sub W.heap.size W, y.w.cell? ⟨w.heap.size, 14, none⟩ = some (.slice p.b2 x.dst.e.l.length p.c2) := fun y => xc 14 _ rfl y.w y.h
 have Y14 := hide (fun w1 (hb : Below W.heap.size W w1) => (show w1.cell? ⟨w.heap.size, 14, none⟩ = some (.slice p.b2 x.dst.e.l.length p.c2) from xc 14 _ rfl w1 hb))
 have F15 : ∀ y : Sub W.heap.size W, y.w.cell? ⟨w.heap.size, 15, none⟩ = some (.int .i64 x.n) := fun y => xc 15 _ rfl y.w y.h
 have Y15 := hide (fun w1 (hb : Below W.heap.size W w1) => (show w1.cell? ⟨w.heap.size, 15, none⟩ = some (.int .i64 x.n) from xc 15 _ rfl w1 hb))
 have F16 : ∀ y : Sub W.heap.size W, y.w.cell? ⟨w.heap.size, 16, none⟩ = some (.slice p.b3 x.l.length p.c3) := fun y => xc 16 _ rfl y.w y.h
 have Y16 := hide (fun w1 (hb : Below W.heap.size W w1) => (show w1.cell? ⟨w.heap.size, 16, none⟩ = some (.slice p.b3 x.l.length p.c3) from xc 16 _ rfl w1 hb))
 have MK := hide (fun x w1 => markS_ex x w1)
 unfold Tk.v Tk.cs at MK
 simp only at MK
 have G0 : ∀ y : Sub W.heap.size W, y.w.cell? ⟨w.heap.size + 1, 0, none⟩ = some (.int .i64 1) := fun y => xn 0 _ rfl y.w y.h
 have X0 := hide (fun w1 (hb : Below W.heap.size W w1) => (show w1.cell? ⟨w.heap.size + 1, 0, none⟩ = some (.int .i64 1) from xn 0 _ rfl w1 hb))
 have G1 : ∀ y : Sub W.heap.size W, y.w.cell? ⟨w.heap.size + 1, 1, none⟩ = some (.int .i64 0) := fun y => xn 1 _ rfl y.w y.h
 have X1 := hide (fun w1 (hb : Below W.heap.size W w1) => (show w1.cell? ⟨w.heap.size + 1, 1, none⟩ = some (.int .i64 0) from xn 1 _ rfl w1 hb))
 have G2 : ∀ y : Sub W.heap.size W, y.w.cell? ⟨w.heap.size + 1, 2, none⟩ = some (.string x.s) := fun y => xn 2 _ rfl y.w y.h
 have X2 := hide (fun w1 (hb : Below W.heap.size W w1) => (show w1.cell? ⟨w.heap.size + 1, 2, none⟩ = some (.string x.s) from xn 2 _ rfl w1 hb))
 rw [hk] at F0
 obtain ⟨T, hT⟩ : ∃ T : List Tk, ([]) = T := ⟨_, rfl⟩
 have HT := hide hT
 rw [hT]
 clear hT
 unfold Ln.cs at hy0 ⊢
 rw [hk] at hy0 ⊢
 clear hr hrW hW xc xn xl hbW hk ok
 generalize x.src.f = sf at *
 generalize x.src.r = sr at *
 generalize x.src.e.k = sk at *
 generalize x.src.e.n = sn at *
 generalize x.src.e.s = ss at *
 generalize x.src.e.l.length = sl at *
 generalize x.dst.f = df at *
 generalize x.dst.r = dr at *
 generalize x.dst.e.k = dk at *
 generalize x.dst.e.n = dn at *
 generalize x.dst.e.s = ds at *
 generalize x.dst.e.l.length = dl at *
 generalize x.k = k at *
 generalize x.s = s at *
 generalize x.op = op at *
 generalize x.n = n at *
 generalize x.l.length = ll at *
 generalize p.b1 = b1 at *
 generalize p.c1 = c1 at *
 generalize p.b2 = b2 at *
 generalize p.c2 = c2 at *
 generalize p.b3 = b3 at *
 generalize p.c3 = c3 at *
 go_enter Tryz.func107, Tryz.ntmps107
 obtain ⟨y1, hy1⟩ := Sub.step (uh HZ) (below_new y0.w (.cells #[] 71))
 have O1 := hide (show OwnT y1.w W.heap.size (.slice (some ⟨y0.w.heap.size, 0, none⟩) 0 0) [] by rw [← hy1]; exact ownT_empty y0.w W.heap.size (Nat.le_trans (uh HZ) y0.h.size))
 go_wp2_with fail
 have EQ : [] = T := uh HT
 rw [EQ] at O1
 go_ret
 exact ⟨_, rfl, uh HO y1 _ _ (uh O1), uh HB y1⟩
theorem wordI_any (x : ByteArray) (w : World) (ht : TabK w) : Calls Tryz.prog 68 #[.string x] w fun e w' => e = .returned (wordT x).v ∧ Below w.heap.size w w' := by
 have WT := hide (wordT_v x)
 have B0 := hide (below_new w (.cells T0c 71))
 have R0 := hide (heap_alloc_new w (.cells T0c 71))
 have HK := hide (keptI_any x (w.alloc (.cells T0c 71)) (ht.next (uh B0)))
 unfold T0c at B0 R0 HK
 generalize keptB x = q at *
 clear ht
 cases q
 ·
  have W1 := hide ((uh WT).2 rfl)
  rw [uh W1]
  unfold Tk.v Tk.cs
  simp only
  clear WT
  go_enter Tryz.func68, Tryz.ntmps68
  go_wp2_with (first | (go_at_call 128; refine (uh HK).mono ?_; rintro e w' ⟨rfl, hw'⟩; rw [hw']; clear hw' w') | (refine wpList_store_row rfl 71 _ _ rfl w.heap.size #[.int .i64 1, .int .i64 0, .string x] rfl rfl 71 _ (uh R0) szK rfl (tk_one _ _ _) ?_))
  refine bodyPost_ret (results_cell_row (P := Tryz.prog) rfl _ _ w.heap.size 71 #[.int .i64 1, .int .i64 0, .string x] (0, 0) _ rfl (setRow_heap _ _ _ _ _ _ (uh R0)) Tryz.underlying71 rfl szK) rfl ?_
  exact ⟨rfl, below_row (uh B0)⟩
 ·
  have W1 := hide ((uh WT).1 rfl)
  rw [uh W1]
  unfold Tk.v Tk.cs
  simp only
  clear WT
  go_enter Tryz.func68, Tryz.ntmps68
  go_wp2_with (first | (go_at_call 128; refine (uh HK).mono ?_; rintro e w' ⟨rfl, hw'⟩; rw [hw']; clear hw' w') | (refine wpList_store_row rfl 71 _ _ rfl w.heap.size #[.int .i64 5, .int .i64 0, .string x] rfl rfl 71 _ (uh R0) szK rfl (tk_one _ _ _) ?_))
  refine bodyPost_ret (results_cell_row (P := Tryz.prog) rfl _ _ w.heap.size 71 #[.int .i64 5, .int .i64 0, .string x] (0, 0) _ rfl (setRow_heap _ _ _ _ _ _ (uh R0)) Tryz.underlying71 rfl szK) rfl ?_
  exact ⟨rfl, below_row (uh B0)⟩
def pairT (k : Int) : TypeId := if k = 5 then 228 else if k = 6 then 229 else if k = 7 then 230 else if k = 8 then 231 else if k = 9 then 232 else 233
def tvC (k n : Int) (s : ByteArray) (vs : List Value) : Value :=
 if k = 1 then .iface 182 (.agg #[.int .i64 n]) else if k = 2 then .iface 184 (.agg #[.string s]) else if k = 3 then .iface 186 (.agg #[])
 else if k = 4 then .iface 188 (.agg vs.toArray) else if k = 11 then .iface 234 (.agg #[.int .i64 n]) else if k = 12 then .iface 235 (.agg #[.string s]) else .iface (pairT k) (.agg vs.toArray)
def tv : Ex → Value
 | ⟨k, n, s, l⟩ => tvC k n s (l.map tv)
theorem tv_num (n : Int) (s : ByteArray) : tv ⟨1, n, s, []⟩ = .iface 182 (.agg #[.int .i64 n]) := by rw [tv]; rfl
theorem tv_sym (n : Int) (s : ByteArray) : tv ⟨2, n, s, []⟩ = .iface 184 (.agg #[.string s]) := by rw [tv]; rfl
theorem tv_here (n : Int) (s : ByteArray) : tv ⟨3, n, s, []⟩ = .iface 186 (.agg #[]) := by rw [tv]; rfl
theorem tv_neg (n : Int) (s : ByteArray) (a : Ex) : tv ⟨4, n, s, [a]⟩ = .iface 188 (.agg #[tv a]) := by rw [tv]; rfl
theorem tv_sect (n : Int) (s : ByteArray) : tv ⟨11, n, s, []⟩ = .iface 234 (.agg #[.int .i64 n]) := by rw [tv]; rfl
theorem tv_glob (n : Int) (s : ByteArray) : tv ⟨12, n, s, []⟩ = .iface 235 (.agg #[.string s]) := by rw [tv]; rfl
theorem tv_two {k : Int} (hk : 5 ≤ k ∧ k ≤ 10) (n : Int) (s : ByteArray) (a b : Ex) : tv ⟨k, n, s, [a, b]⟩ = .iface (pairT k) (.agg #[tv a, tv b]) := by
 rw [tv]
 unfold tvC
 rw [if_neg (by omega), if_neg (by omega), if_neg (by omega), if_neg (by omega), if_neg (by omega), if_neg (by omega)]
 rfl
def IfV (v : Value) : Prop := v = .nilIface ∨ ∃ t x, v = .iface t x
theorem IfV.of {v : Value} {p : Prop} (h : v = .nilIface ∨ ∃ t x, v = .iface t x) (hp : p) : IfV v ∧ p := ⟨h, hp⟩
theorem IfV.one {v : Value} (h : IfV v) : v.oneCell' = true := by
 rcases h with rfl | ⟨t, x, rfl⟩ <;> rfl
def LeafR (k n : Int) (s : ByteArray) (w : World) (r : Ending) (w' : World) : Prop := ∃ v, r = .returned (.tuple #[v, .bool (hereV k n s 0)]) ∧ (IfV v ∧ (hereV k n s 0 = true → v = tvC k n s [])) ∧ Below w.heap.size w w'
def LeafG (k n : Int) (s : ByteArray) : Prop := ∀ (b : Option Addr) (ll cap : Nat) (w : World), TabK w → Calls Tryz.prog 209 #[.agg #[.int .i64 k, .int .i64 n, .string s, .slice b ll cap]] w (LeafR k n s w)
theorem nil_val {r : Ending} {k n : Int} {s : ByteArray} {w w' : World} {v : Value} {q : Bool} (h : hereV k n s 0 = q) (hr : r = .returned (.tuple #[v, .bool q])) (hv : IfV v ∧ (q = true → v = tvC k n s [])) (hb : Below w.heap.size w w') : LeafR k n s w r w' := ⟨v, by rw [h]; exact hr, ⟨hv.1, fun e => hv.2 (by rw [← h]; exact e)⟩, hb⟩
theorem leaf1_0 (n : Int) (s : ByteArray) : LeafG 1 n ⟨#[]⟩ := by
 intro b ll cap w ht
 obtain ⟨W, hW⟩ : ∃ W, w.alloc (.cells #[.int .i64 1, .int .i64 n, .string ⟨#[]⟩, .slice b ll cap] 26) = W := ⟨_, rfl⟩
 have B0 := hide (below_new w (.cells #[.int .i64 1, .int .i64 n, .string ⟨#[]⟩, .slice b ll cap] 26))
 have hg : W.heap[w.heap.size]? = some (.cells #[.int .i64 1, .int .i64 n, .string ⟨#[]⟩, .slice b ll cap] 26 (0, 0)) := by rw [← hW]; exact Array.getElem?_push_size
 rw [hW] at B0
 have x0 := Lib.cell_of_heap hg 0
 have x1 := Lib.cell_of_heap hg 1
 have x2 := Lib.cell_of_heap hg 2
 have xl : w.heap.size < W.heap.size := (Array.getElem?_eq_some_iff.1 hg).1
 have y0 : ∀ y : Sub W.heap.size W, y.w.cell? ⟨w.heap.size, 0, none⟩ = some (.int .i64 1) := fun y => (y.h.cell (p := ⟨w.heap.size, _, none⟩) xl).trans x0
 have y1 : ∀ y : Sub W.heap.size W, y.w.cell? ⟨w.heap.size, 1, none⟩ = some (.int .i64 n) := fun y => (y.h.cell (p := ⟨w.heap.size, _, none⟩) xl).trans x1
 have y2 : ∀ y : Sub W.heap.size W, y.w.cell? ⟨w.heap.size, 2, none⟩ = some (.string ⟨#[]⟩) := fun y => (y.h.cell (p := ⟨w.heap.size, _, none⟩) xl).trans x2
 have ne := Sub.ne W.heap.size W
 have HZ := hide (Nat.le_refl W.heap.size)
 have TB := hide (fun y : Sub W.heap.size W => (ht.next (uh B0)).next y.h)
 have HB := hide (fun y : Sub W.heap.size W => (uh B0).trans (y.h.mono (uh B0).size))
 clear hg xl ht
 have V := hide (show hereV 1 n ⟨#[]⟩ 0 = inB n 0 65535 by simp [hereV, Ex.here, eqE, eqE1, *])
 have FN := hide (fun r w' (v : Value) => nil_val (r := r) (w := w) (w' := w') (v := v) (uh V))
 have Q := hide (fun y : Sub W.heap.size W => isWord_any n y.w)
 generalize inB n 0 65535 = q at *
 generalize LeafR 1 n ⟨#[]⟩ w = R at *
 cases q <;> (go_enter Tryz.func209, Tryz.ntmps209; go_wp2_with fail; refine wp_region_sub (⟨W, Below.refl _ _⟩ : Sub W.heap.size W) (by kernel_rfl) (by kernel_rfl) ?_; (repeat (go_big_quiet_step (first | (go_at_call 130; exact Sub.same (uh Q _))))); refine wpQuiet_nil ?_; intro y; go_wp2; (try go_ret2); exact uh FN _ _ _ rfl (IfV.of (by first | exact .inl rfl | exact .inr ⟨_, _, rfl⟩) (fun h => by first | rfl | cases h)) (uh HB _))
theorem leaf1_s (n : Int) (s : ByteArray) (h : s ≠ E0) : LeafG 1 n s := by
 intro b ll cap w ht
 obtain ⟨W, hW⟩ : ∃ W, w.alloc (.cells #[.int .i64 1, .int .i64 n, .string s, .slice b ll cap] 26) = W := ⟨_, rfl⟩
 have B0 := hide (below_new w (.cells #[.int .i64 1, .int .i64 n, .string s, .slice b ll cap] 26))
 have hg : W.heap[w.heap.size]? = some (.cells #[.int .i64 1, .int .i64 n, .string s, .slice b ll cap] 26 (0, 0)) := by rw [← hW]; exact Array.getElem?_push_size
 rw [hW] at B0
 have x0 := Lib.cell_of_heap hg 0
 have x1 := Lib.cell_of_heap hg 1
 have x2 := Lib.cell_of_heap hg 2
 have xl : w.heap.size < W.heap.size := (Array.getElem?_eq_some_iff.1 hg).1
 have y0 : ∀ y : Sub W.heap.size W, y.w.cell? ⟨w.heap.size, 0, none⟩ = some (.int .i64 1) := fun y => (y.h.cell (p := ⟨w.heap.size, _, none⟩) xl).trans x0
 have y1 : ∀ y : Sub W.heap.size W, y.w.cell? ⟨w.heap.size, 1, none⟩ = some (.int .i64 n) := fun y => (y.h.cell (p := ⟨w.heap.size, _, none⟩) xl).trans x1
 have y2 : ∀ y : Sub W.heap.size W, y.w.cell? ⟨w.heap.size, 2, none⟩ = some (.string s) := fun y => (y.h.cell (p := ⟨w.heap.size, _, none⟩) xl).trans x2
 have ne := Sub.ne W.heap.size W
 have HZ := hide (Nat.le_refl W.heap.size)
 have TB := hide (fun y : Sub W.heap.size W => (ht.next (uh B0)).next y.h)
 have HB := hide (fun y : Sub W.heap.size W => (uh B0).trans (y.h.mono (uh B0).size))
 clear hg xl ht
 obtain ⟨h1, h2⟩ := emp_E s h
 have V := hide (show hereV 1 n s 0 = false by simp [hereV, Ex.here, eqE, eqE1, *])
 have FN := hide (fun r w' (v : Value) => nil_val (r := r) (w := w) (w' := w') (v := v) (uh V))
 have Q := hide (fun y : Sub W.heap.size W => isWord_any n y.w)
 generalize inB n 0 65535 = q at *
 generalize LeafR 1 n s w = R at *
 cases q <;> (go_enter Tryz.func209, Tryz.ntmps209; go_wp2_with fail; refine wp_region_sub (⟨W, Below.refl _ _⟩ : Sub W.heap.size W) (by kernel_rfl) (by kernel_rfl) ?_; (repeat (go_big_quiet_step (first | (go_at_call 130; exact Sub.same (uh Q _))))); refine wpQuiet_nil ?_; intro y; go_wp2; (try go_ret2); exact uh FN _ _ _ rfl (IfV.of (by first | exact .inl rfl | exact .inr ⟨_, _, rfl⟩) (fun h => by first | rfl | cases h)) (uh HB _))
theorem leaf2_0 (n : Int) (s : ByteArray) (hs : s.size ≤ 1099511627776) : LeafG 2 0 s := by
 intro b ll cap w ht
 obtain ⟨W, hW⟩ : ∃ W, w.alloc (.cells #[.int .i64 2, .int .i64 0, .string s, .slice b ll cap] 26) = W := ⟨_, rfl⟩
 have B0 := hide (below_new w (.cells #[.int .i64 2, .int .i64 0, .string s, .slice b ll cap] 26))
 have hg : W.heap[w.heap.size]? = some (.cells #[.int .i64 2, .int .i64 0, .string s, .slice b ll cap] 26 (0, 0)) := by rw [← hW]; exact Array.getElem?_push_size
 rw [hW] at B0
 have x0 := Lib.cell_of_heap hg 0
 have x1 := Lib.cell_of_heap hg 1
 have x2 := Lib.cell_of_heap hg 2
 have xl : w.heap.size < W.heap.size := (Array.getElem?_eq_some_iff.1 hg).1
 have y0 : ∀ y : Sub W.heap.size W, y.w.cell? ⟨w.heap.size, 0, none⟩ = some (.int .i64 2) := fun y => (y.h.cell (p := ⟨w.heap.size, _, none⟩) xl).trans x0
 have y1 : ∀ y : Sub W.heap.size W, y.w.cell? ⟨w.heap.size, 1, none⟩ = some (.int .i64 0) := fun y => (y.h.cell (p := ⟨w.heap.size, _, none⟩) xl).trans x1
 have y2 : ∀ y : Sub W.heap.size W, y.w.cell? ⟨w.heap.size, 2, none⟩ = some (.string s) := fun y => (y.h.cell (p := ⟨w.heap.size, _, none⟩) xl).trans x2
 have ne := Sub.ne W.heap.size W
 have HZ := hide (Nat.le_refl W.heap.size)
 have TB := hide (fun y : Sub W.heap.size W => (ht.next (uh B0)).next y.h)
 have HB := hide (fun y : Sub W.heap.size W => (uh B0).trans (y.h.mono (uh B0).size))
 clear hg xl ht
 have V := hide (show hereV 2 0 s 0 = nameB s by simp [hereV, Ex.here, eqE, eqE1, *])
 have FN := hide (fun r w' (v : Value) => nil_val (r := r) (w := w) (w' := w') (v := v) (uh V))
 have Q := hide (fun y : Sub W.heap.size W => nameI_any s y.w hs (uh TB y))
 generalize nameB s = q at *
 generalize LeafR 2 0 s w = R at *
 cases q <;> (go_enter Tryz.func209, Tryz.ntmps209; go_wp2_with fail; refine wp_region_sub (⟨W, Below.refl _ _⟩ : Sub W.heap.size W) (by kernel_rfl) (by kernel_rfl) ?_; (repeat (go_big_quiet_step (first | (go_at_call 131; exact Sub.same (uh Q _))))); refine wpQuiet_nil ?_; intro y; go_wp2; (try go_ret2); exact uh FN _ _ _ rfl (IfV.of (by first | exact .inl rfl | exact .inr ⟨_, _, rfl⟩) (fun h => by first | rfl | cases h)) (uh HB _))
theorem leaf2_n (n : Int) (s : ByteArray) (h : n ≠ 0) (hs : s.size ≤ 1099511627776) : LeafG 2 n s := by
 intro b ll cap w ht
 obtain ⟨W, hW⟩ : ∃ W, w.alloc (.cells #[.int .i64 2, .int .i64 n, .string s, .slice b ll cap] 26) = W := ⟨_, rfl⟩
 have B0 := hide (below_new w (.cells #[.int .i64 2, .int .i64 n, .string s, .slice b ll cap] 26))
 have hg : W.heap[w.heap.size]? = some (.cells #[.int .i64 2, .int .i64 n, .string s, .slice b ll cap] 26 (0, 0)) := by rw [← hW]; exact Array.getElem?_push_size
 rw [hW] at B0
 have x0 := Lib.cell_of_heap hg 0
 have x1 := Lib.cell_of_heap hg 1
 have x2 := Lib.cell_of_heap hg 2
 have xl : w.heap.size < W.heap.size := (Array.getElem?_eq_some_iff.1 hg).1
 have y0 : ∀ y : Sub W.heap.size W, y.w.cell? ⟨w.heap.size, 0, none⟩ = some (.int .i64 2) := fun y => (y.h.cell (p := ⟨w.heap.size, _, none⟩) xl).trans x0
 have y1 : ∀ y : Sub W.heap.size W, y.w.cell? ⟨w.heap.size, 1, none⟩ = some (.int .i64 n) := fun y => (y.h.cell (p := ⟨w.heap.size, _, none⟩) xl).trans x1
 have y2 : ∀ y : Sub W.heap.size W, y.w.cell? ⟨w.heap.size, 2, none⟩ = some (.string s) := fun y => (y.h.cell (p := ⟨w.heap.size, _, none⟩) xl).trans x2
 have ne := Sub.ne W.heap.size W
 have HZ := hide (Nat.le_refl W.heap.size)
 have TB := hide (fun y : Sub W.heap.size W => (ht.next (uh B0)).next y.h)
 have HB := hide (fun y : Sub W.heap.size W => (uh B0).trans (y.h.mono (uh B0).size))
 clear hg xl ht
 have hn : (n == 0) = false := beq_eq_false_iff_ne.2 h
 have V := hide (show hereV 2 n s 0 = false by simp [hereV, Ex.here, eqE, eqE1, *])
 have FN := hide (fun r w' (v : Value) => nil_val (r := r) (w := w) (w' := w') (v := v) (uh V))
 have Q := hide (fun y : Sub W.heap.size W => nameI_any s y.w hs (uh TB y))
 generalize nameB s = q at *
 generalize LeafR 2 n s w = R at *
 cases q <;> (go_enter Tryz.func209, Tryz.ntmps209; go_wp2_with fail; refine wp_region_sub (⟨W, Below.refl _ _⟩ : Sub W.heap.size W) (by kernel_rfl) (by kernel_rfl) ?_; (repeat (go_big_quiet_step (first | (go_at_call 131; exact Sub.same (uh Q _))))); refine wpQuiet_nil ?_; intro y; go_wp2; (try go_ret2); exact uh FN _ _ _ rfl (IfV.of (by first | exact .inl rfl | exact .inr ⟨_, _, rfl⟩) (fun h => by first | rfl | cases h)) (uh HB _))
theorem leaf12_0 (n : Int) (s : ByteArray) (hs : s.size ≤ 1099511627776) : LeafG 12 0 s := by
 intro b ll cap w ht
 obtain ⟨W, hW⟩ : ∃ W, w.alloc (.cells #[.int .i64 12, .int .i64 0, .string s, .slice b ll cap] 26) = W := ⟨_, rfl⟩
 have B0 := hide (below_new w (.cells #[.int .i64 12, .int .i64 0, .string s, .slice b ll cap] 26))
 have hg : W.heap[w.heap.size]? = some (.cells #[.int .i64 12, .int .i64 0, .string s, .slice b ll cap] 26 (0, 0)) := by rw [← hW]; exact Array.getElem?_push_size
 rw [hW] at B0
 have x0 := Lib.cell_of_heap hg 0
 have x1 := Lib.cell_of_heap hg 1
 have x2 := Lib.cell_of_heap hg 2
 have xl : w.heap.size < W.heap.size := (Array.getElem?_eq_some_iff.1 hg).1
 have y0 : ∀ y : Sub W.heap.size W, y.w.cell? ⟨w.heap.size, 0, none⟩ = some (.int .i64 12) := fun y => (y.h.cell (p := ⟨w.heap.size, _, none⟩) xl).trans x0
 have y1 : ∀ y : Sub W.heap.size W, y.w.cell? ⟨w.heap.size, 1, none⟩ = some (.int .i64 0) := fun y => (y.h.cell (p := ⟨w.heap.size, _, none⟩) xl).trans x1
 have y2 : ∀ y : Sub W.heap.size W, y.w.cell? ⟨w.heap.size, 2, none⟩ = some (.string s) := fun y => (y.h.cell (p := ⟨w.heap.size, _, none⟩) xl).trans x2
 have ne := Sub.ne W.heap.size W
 have HZ := hide (Nat.le_refl W.heap.size)
 have TB := hide (fun y : Sub W.heap.size W => (ht.next (uh B0)).next y.h)
 have HB := hide (fun y : Sub W.heap.size W => (uh B0).trans (y.h.mono (uh B0).size))
 clear hg xl ht
 have V := hide (show hereV 12 0 s 0 = nameB s by simp [hereV, Ex.here, eqE, eqE1, *])
 have FN := hide (fun r w' (v : Value) => nil_val (r := r) (w := w) (w' := w') (v := v) (uh V))
 have Q := hide (fun y : Sub W.heap.size W => nameI_any s y.w hs (uh TB y))
 generalize nameB s = q at *
 generalize LeafR 12 0 s w = R at *
 cases q <;> (go_enter Tryz.func209, Tryz.ntmps209; go_wp2_with fail; refine wp_region_sub (⟨W, Below.refl _ _⟩ : Sub W.heap.size W) (by kernel_rfl) (by kernel_rfl) ?_; (repeat (go_big_quiet_step (first | (go_at_call 131; exact Sub.same (uh Q _))))); refine wpQuiet_nil ?_; intro y; go_wp2; (try go_ret2); exact uh FN _ _ _ rfl (IfV.of (by first | exact .inl rfl | exact .inr ⟨_, _, rfl⟩) (fun h => by first | rfl | cases h)) (uh HB _))
theorem leaf12_n (n : Int) (s : ByteArray) (h : n ≠ 0) (hs : s.size ≤ 1099511627776) : LeafG 12 n s := by
 intro b ll cap w ht
 obtain ⟨W, hW⟩ : ∃ W, w.alloc (.cells #[.int .i64 12, .int .i64 n, .string s, .slice b ll cap] 26) = W := ⟨_, rfl⟩
 have B0 := hide (below_new w (.cells #[.int .i64 12, .int .i64 n, .string s, .slice b ll cap] 26))
 have hg : W.heap[w.heap.size]? = some (.cells #[.int .i64 12, .int .i64 n, .string s, .slice b ll cap] 26 (0, 0)) := by rw [← hW]; exact Array.getElem?_push_size
 rw [hW] at B0
 have x0 := Lib.cell_of_heap hg 0
 have x1 := Lib.cell_of_heap hg 1
 have x2 := Lib.cell_of_heap hg 2
 have xl : w.heap.size < W.heap.size := (Array.getElem?_eq_some_iff.1 hg).1
 have y0 : ∀ y : Sub W.heap.size W, y.w.cell? ⟨w.heap.size, 0, none⟩ = some (.int .i64 12) := fun y => (y.h.cell (p := ⟨w.heap.size, _, none⟩) xl).trans x0
 have y1 : ∀ y : Sub W.heap.size W, y.w.cell? ⟨w.heap.size, 1, none⟩ = some (.int .i64 n) := fun y => (y.h.cell (p := ⟨w.heap.size, _, none⟩) xl).trans x1
 have y2 : ∀ y : Sub W.heap.size W, y.w.cell? ⟨w.heap.size, 2, none⟩ = some (.string s) := fun y => (y.h.cell (p := ⟨w.heap.size, _, none⟩) xl).trans x2
 have ne := Sub.ne W.heap.size W
 have HZ := hide (Nat.le_refl W.heap.size)
 have TB := hide (fun y : Sub W.heap.size W => (ht.next (uh B0)).next y.h)
 have HB := hide (fun y : Sub W.heap.size W => (uh B0).trans (y.h.mono (uh B0).size))
 clear hg xl ht
 have hn : (n == 0) = false := beq_eq_false_iff_ne.2 h
 have V := hide (show hereV 12 n s 0 = false by simp [hereV, Ex.here, eqE, eqE1, *])
 have FN := hide (fun r w' (v : Value) => nil_val (r := r) (w := w) (w' := w') (v := v) (uh V))
 have Q := hide (fun y : Sub W.heap.size W => nameI_any s y.w hs (uh TB y))
 generalize nameB s = q at *
 generalize LeafR 12 n s w = R at *
 cases q <;> (go_enter Tryz.func209, Tryz.ntmps209; go_wp2_with fail; refine wp_region_sub (⟨W, Below.refl _ _⟩ : Sub W.heap.size W) (by kernel_rfl) (by kernel_rfl) ?_; (repeat (go_big_quiet_step (first | (go_at_call 131; exact Sub.same (uh Q _))))); refine wpQuiet_nil ?_; intro y; go_wp2; (try go_ret2); exact uh FN _ _ _ rfl (IfV.of (by first | exact .inl rfl | exact .inr ⟨_, _, rfl⟩) (fun h => by first | rfl | cases h)) (uh HB _))
theorem leaf3_0 (n : Int) (s : ByteArray) : LeafG 3 0 ⟨#[]⟩ := by
 intro b ll cap w ht
 obtain ⟨W, hW⟩ : ∃ W, w.alloc (.cells #[.int .i64 3, .int .i64 0, .string ⟨#[]⟩, .slice b ll cap] 26) = W := ⟨_, rfl⟩
 have B0 := hide (below_new w (.cells #[.int .i64 3, .int .i64 0, .string ⟨#[]⟩, .slice b ll cap] 26))
 have hg : W.heap[w.heap.size]? = some (.cells #[.int .i64 3, .int .i64 0, .string ⟨#[]⟩, .slice b ll cap] 26 (0, 0)) := by rw [← hW]; exact Array.getElem?_push_size
 rw [hW] at B0
 have x0 := Lib.cell_of_heap hg 0
 have x1 := Lib.cell_of_heap hg 1
 have x2 := Lib.cell_of_heap hg 2
 have xl : w.heap.size < W.heap.size := (Array.getElem?_eq_some_iff.1 hg).1
 have y0 : ∀ y : Sub W.heap.size W, y.w.cell? ⟨w.heap.size, 0, none⟩ = some (.int .i64 3) := fun y => (y.h.cell (p := ⟨w.heap.size, _, none⟩) xl).trans x0
 have y1 : ∀ y : Sub W.heap.size W, y.w.cell? ⟨w.heap.size, 1, none⟩ = some (.int .i64 0) := fun y => (y.h.cell (p := ⟨w.heap.size, _, none⟩) xl).trans x1
 have y2 : ∀ y : Sub W.heap.size W, y.w.cell? ⟨w.heap.size, 2, none⟩ = some (.string ⟨#[]⟩) := fun y => (y.h.cell (p := ⟨w.heap.size, _, none⟩) xl).trans x2
 have ne := Sub.ne W.heap.size W
 have HZ := hide (Nat.le_refl W.heap.size)
 have TB := hide (fun y : Sub W.heap.size W => (ht.next (uh B0)).next y.h)
 have HB := hide (fun y : Sub W.heap.size W => (uh B0).trans (y.h.mono (uh B0).size))
 clear hg xl ht
 have V := hide (show hereV 3 0 ⟨#[]⟩ 0 = true by simp [hereV, Ex.here, eqE, eqE1, *])
 have FN := hide (fun r w' (v : Value) => nil_val (r := r) (w := w) (w' := w') (v := v) (uh V))
 generalize LeafR 3 0 ⟨#[]⟩ w = R at *
 (go_enter Tryz.func209, Tryz.ntmps209; go_wp2_with fail; refine wp_region_sub (⟨W, Below.refl _ _⟩ : Sub W.heap.size W) (by kernel_rfl) (by kernel_rfl) ?_; (repeat (go_big_quiet_step (first | fail))); refine wpQuiet_nil ?_; intro y; go_wp2; (try go_ret2); exact uh FN _ _ _ rfl (IfV.of (by first | exact .inl rfl | exact .inr ⟨_, _, rfl⟩) (fun h => by first | rfl | cases h)) (uh HB _))
theorem leaf3_n (n : Int) (s : ByteArray) (h : n ≠ 0) : LeafG 3 n s := by
 intro b ll cap w ht
 obtain ⟨W, hW⟩ : ∃ W, w.alloc (.cells #[.int .i64 3, .int .i64 n, .string s, .slice b ll cap] 26) = W := ⟨_, rfl⟩
 have B0 := hide (below_new w (.cells #[.int .i64 3, .int .i64 n, .string s, .slice b ll cap] 26))
 have hg : W.heap[w.heap.size]? = some (.cells #[.int .i64 3, .int .i64 n, .string s, .slice b ll cap] 26 (0, 0)) := by rw [← hW]; exact Array.getElem?_push_size
 rw [hW] at B0
 have x0 := Lib.cell_of_heap hg 0
 have x1 := Lib.cell_of_heap hg 1
 have x2 := Lib.cell_of_heap hg 2
 have xl : w.heap.size < W.heap.size := (Array.getElem?_eq_some_iff.1 hg).1
 have y0 : ∀ y : Sub W.heap.size W, y.w.cell? ⟨w.heap.size, 0, none⟩ = some (.int .i64 3) := fun y => (y.h.cell (p := ⟨w.heap.size, _, none⟩) xl).trans x0
 have y1 : ∀ y : Sub W.heap.size W, y.w.cell? ⟨w.heap.size, 1, none⟩ = some (.int .i64 n) := fun y => (y.h.cell (p := ⟨w.heap.size, _, none⟩) xl).trans x1
 have y2 : ∀ y : Sub W.heap.size W, y.w.cell? ⟨w.heap.size, 2, none⟩ = some (.string s) := fun y => (y.h.cell (p := ⟨w.heap.size, _, none⟩) xl).trans x2
 have ne := Sub.ne W.heap.size W
 have HZ := hide (Nat.le_refl W.heap.size)
 have TB := hide (fun y : Sub W.heap.size W => (ht.next (uh B0)).next y.h)
 have HB := hide (fun y : Sub W.heap.size W => (uh B0).trans (y.h.mono (uh B0).size))
 clear hg xl ht
 have hn : (n == 0) = false := beq_eq_false_iff_ne.2 h
 have V := hide (show hereV 3 n s 0 = false by simp [hereV, Ex.here, eqE, eqE1, *])
 have FN := hide (fun r w' (v : Value) => nil_val (r := r) (w := w) (w' := w') (v := v) (uh V))
 generalize LeafR 3 n s w = R at *
 (go_enter Tryz.func209, Tryz.ntmps209; go_wp2_with fail; refine wp_region_sub (⟨W, Below.refl _ _⟩ : Sub W.heap.size W) (by kernel_rfl) (by kernel_rfl) ?_; (repeat (go_big_quiet_step (first | fail))); refine wpQuiet_nil ?_; intro y; go_wp2; (try go_ret2); exact uh FN _ _ _ rfl (IfV.of (by first | exact .inl rfl | exact .inr ⟨_, _, rfl⟩) (fun h => by first | rfl | cases h)) (uh HB _))
theorem leaf3_s (n : Int) (s : ByteArray) (h : s ≠ E0) : LeafG 3 0 s := by
 intro b ll cap w ht
 obtain ⟨W, hW⟩ : ∃ W, w.alloc (.cells #[.int .i64 3, .int .i64 0, .string s, .slice b ll cap] 26) = W := ⟨_, rfl⟩
 have B0 := hide (below_new w (.cells #[.int .i64 3, .int .i64 0, .string s, .slice b ll cap] 26))
 have hg : W.heap[w.heap.size]? = some (.cells #[.int .i64 3, .int .i64 0, .string s, .slice b ll cap] 26 (0, 0)) := by rw [← hW]; exact Array.getElem?_push_size
 rw [hW] at B0
 have x0 := Lib.cell_of_heap hg 0
 have x1 := Lib.cell_of_heap hg 1
 have x2 := Lib.cell_of_heap hg 2
 have xl : w.heap.size < W.heap.size := (Array.getElem?_eq_some_iff.1 hg).1
 have y0 : ∀ y : Sub W.heap.size W, y.w.cell? ⟨w.heap.size, 0, none⟩ = some (.int .i64 3) := fun y => (y.h.cell (p := ⟨w.heap.size, _, none⟩) xl).trans x0
 have y1 : ∀ y : Sub W.heap.size W, y.w.cell? ⟨w.heap.size, 1, none⟩ = some (.int .i64 0) := fun y => (y.h.cell (p := ⟨w.heap.size, _, none⟩) xl).trans x1
 have y2 : ∀ y : Sub W.heap.size W, y.w.cell? ⟨w.heap.size, 2, none⟩ = some (.string s) := fun y => (y.h.cell (p := ⟨w.heap.size, _, none⟩) xl).trans x2
 have ne := Sub.ne W.heap.size W
 have HZ := hide (Nat.le_refl W.heap.size)
 have TB := hide (fun y : Sub W.heap.size W => (ht.next (uh B0)).next y.h)
 have HB := hide (fun y : Sub W.heap.size W => (uh B0).trans (y.h.mono (uh B0).size))
 clear hg xl ht
 obtain ⟨h1, h2⟩ := emp_E s h
 have V := hide (show hereV 3 0 s 0 = false by simp [hereV, Ex.here, eqE, eqE1, *])
 have FN := hide (fun r w' (v : Value) => nil_val (r := r) (w := w) (w' := w') (v := v) (uh V))
 generalize LeafR 3 0 s w = R at *
 (go_enter Tryz.func209, Tryz.ntmps209; go_wp2_with fail; refine wp_region_sub (⟨W, Below.refl _ _⟩ : Sub W.heap.size W) (by kernel_rfl) (by kernel_rfl) ?_; (repeat (go_big_quiet_step (first | fail))); refine wpQuiet_nil ?_; intro y; go_wp2; (try go_ret2); exact uh FN _ _ _ rfl (IfV.of (by first | exact .inl rfl | exact .inr ⟨_, _, rfl⟩) (fun h => by first | rfl | cases h)) (uh HB _))
theorem leaf11_s (n : Int) (s : ByteArray) (h : s ≠ E0) : LeafG 11 n s := by
 intro b ll cap w ht
 obtain ⟨W, hW⟩ : ∃ W, w.alloc (.cells #[.int .i64 11, .int .i64 n, .string s, .slice b ll cap] 26) = W := ⟨_, rfl⟩
 have B0 := hide (below_new w (.cells #[.int .i64 11, .int .i64 n, .string s, .slice b ll cap] 26))
 have hg : W.heap[w.heap.size]? = some (.cells #[.int .i64 11, .int .i64 n, .string s, .slice b ll cap] 26 (0, 0)) := by rw [← hW]; exact Array.getElem?_push_size
 rw [hW] at B0
 have x0 := Lib.cell_of_heap hg 0
 have x1 := Lib.cell_of_heap hg 1
 have x2 := Lib.cell_of_heap hg 2
 have xl : w.heap.size < W.heap.size := (Array.getElem?_eq_some_iff.1 hg).1
 have y0 : ∀ y : Sub W.heap.size W, y.w.cell? ⟨w.heap.size, 0, none⟩ = some (.int .i64 11) := fun y => (y.h.cell (p := ⟨w.heap.size, _, none⟩) xl).trans x0
 have y1 : ∀ y : Sub W.heap.size W, y.w.cell? ⟨w.heap.size, 1, none⟩ = some (.int .i64 n) := fun y => (y.h.cell (p := ⟨w.heap.size, _, none⟩) xl).trans x1
 have y2 : ∀ y : Sub W.heap.size W, y.w.cell? ⟨w.heap.size, 2, none⟩ = some (.string s) := fun y => (y.h.cell (p := ⟨w.heap.size, _, none⟩) xl).trans x2
 have ne := Sub.ne W.heap.size W
 have HZ := hide (Nat.le_refl W.heap.size)
 have TB := hide (fun y : Sub W.heap.size W => (ht.next (uh B0)).next y.h)
 have HB := hide (fun y : Sub W.heap.size W => (uh B0).trans (y.h.mono (uh B0).size))
 clear hg xl ht
 obtain ⟨h1, h2⟩ := emp_E s h
 have V := hide (show hereV 11 n s 0 = false by simp [hereV, Ex.here, eqE, eqE1, *])
 have FN := hide (fun r w' (v : Value) => nil_val (r := r) (w := w) (w' := w') (v := v) (uh V))
 generalize LeafR 11 n s w = R at *
 by_cases g1 : 0 ≤ n
 ·
  by_cases g2 : n ≤ 9
  · (go_enter Tryz.func209, Tryz.ntmps209; go_wp2_with fail; refine wp_region_sub (⟨W, Below.refl _ _⟩ : Sub W.heap.size W) (by kernel_rfl) (by kernel_rfl) ?_; (repeat (go_big_quiet_step (first | fail))); refine wpQuiet_nil ?_; intro y; go_wp2; (try go_ret2); exact uh FN _ _ _ rfl (IfV.of (by first | exact .inl rfl | exact .inr ⟨_, _, rfl⟩) (fun h => by first | rfl | cases h)) (uh HB _))
  ·
   have g4 : decide (n ≤ 9) = false := decide_eq_false g2
   (go_enter Tryz.func209, Tryz.ntmps209; go_wp2_with fail; refine wp_region_sub (⟨W, Below.refl _ _⟩ : Sub W.heap.size W) (by kernel_rfl) (by kernel_rfl) ?_; (repeat (go_big_quiet_step (first | fail))); refine wpQuiet_nil ?_; intro y; go_wp2; (try go_ret2); exact uh FN _ _ _ rfl (IfV.of (by first | exact .inl rfl | exact .inr ⟨_, _, rfl⟩) (fun h => by first | rfl | cases h)) (uh HB _))
 ·
  have g3 : decide (0 ≤ n) = false := decide_eq_false g1
  (go_enter Tryz.func209, Tryz.ntmps209; go_wp2_with fail; refine wp_region_sub (⟨W, Below.refl _ _⟩ : Sub W.heap.size W) (by kernel_rfl) (by kernel_rfl) ?_; (repeat (go_big_quiet_step (first | fail))); refine wpQuiet_nil ?_; intro y; go_wp2; (try go_ret2); exact uh FN _ _ _ rfl (IfV.of (by first | exact .inl rfl | exact .inr ⟨_, _, rfl⟩) (fun h => by first | rfl | cases h)) (uh HB _))
theorem leaf11_0 (n : Int) (s : ByteArray) : LeafG 11 n ⟨#[]⟩ := by
 intro b ll cap w ht
 obtain ⟨W, hW⟩ : ∃ W, w.alloc (.cells #[.int .i64 11, .int .i64 n, .string ⟨#[]⟩, .slice b ll cap] 26) = W := ⟨_, rfl⟩
 have B0 := hide (below_new w (.cells #[.int .i64 11, .int .i64 n, .string ⟨#[]⟩, .slice b ll cap] 26))
 have hg : W.heap[w.heap.size]? = some (.cells #[.int .i64 11, .int .i64 n, .string ⟨#[]⟩, .slice b ll cap] 26 (0, 0)) := by rw [← hW]; exact Array.getElem?_push_size
 rw [hW] at B0
 have x0 := Lib.cell_of_heap hg 0
 have x1 := Lib.cell_of_heap hg 1
 have x2 := Lib.cell_of_heap hg 2
 have xl : w.heap.size < W.heap.size := (Array.getElem?_eq_some_iff.1 hg).1
 have y0 : ∀ y : Sub W.heap.size W, y.w.cell? ⟨w.heap.size, 0, none⟩ = some (.int .i64 11) := fun y => (y.h.cell (p := ⟨w.heap.size, _, none⟩) xl).trans x0
 have y1 : ∀ y : Sub W.heap.size W, y.w.cell? ⟨w.heap.size, 1, none⟩ = some (.int .i64 n) := fun y => (y.h.cell (p := ⟨w.heap.size, _, none⟩) xl).trans x1
 have y2 : ∀ y : Sub W.heap.size W, y.w.cell? ⟨w.heap.size, 2, none⟩ = some (.string ⟨#[]⟩) := fun y => (y.h.cell (p := ⟨w.heap.size, _, none⟩) xl).trans x2
 have ne := Sub.ne W.heap.size W
 have HZ := hide (Nat.le_refl W.heap.size)
 have TB := hide (fun y : Sub W.heap.size W => (ht.next (uh B0)).next y.h)
 have HB := hide (fun y : Sub W.heap.size W => (uh B0).trans (y.h.mono (uh B0).size))
 clear hg xl ht
 by_cases g1 : 0 ≤ n
 ·
  by_cases g2 : n ≤ 9
  ·
   have e : inB n 0 9 = true := by unfold inB; simp <;> omega
   have V := hide (show hereV 11 n ⟨#[]⟩ 0 = true by simp [hereV, Ex.here, eqE, eqE1, e])
   have FN := hide (fun r w' (v : Value) => nil_val (r := r) (w := w) (w' := w') (v := v) (uh V))
   generalize LeafR 11 n ⟨#[]⟩ w = R at *
   clear e
   (go_enter Tryz.func209, Tryz.ntmps209; go_wp2_with fail; refine wp_region_sub (⟨W, Below.refl _ _⟩ : Sub W.heap.size W) (by kernel_rfl) (by kernel_rfl) ?_; (repeat (go_big_quiet_step (first | fail))); refine wpQuiet_nil ?_; intro y; go_wp2; (try go_ret2); exact uh FN _ _ _ rfl (IfV.of (by first | exact .inl rfl | exact .inr ⟨_, _, rfl⟩) (fun h => by first | rfl | cases h)) (uh HB _))
  ·
   have g4 : decide (n ≤ 9) = false := decide_eq_false g2
   have e : inB n 0 9 = false := by unfold inB; simp <;> omega
   have V := hide (show hereV 11 n ⟨#[]⟩ 0 = false by simp [hereV, Ex.here, eqE, eqE1, e])
   have FN := hide (fun r w' (v : Value) => nil_val (r := r) (w := w) (w' := w') (v := v) (uh V))
   generalize LeafR 11 n ⟨#[]⟩ w = R at *
   clear e
   (go_enter Tryz.func209, Tryz.ntmps209; go_wp2_with fail; refine wp_region_sub (⟨W, Below.refl _ _⟩ : Sub W.heap.size W) (by kernel_rfl) (by kernel_rfl) ?_; (repeat (go_big_quiet_step (first | fail))); refine wpQuiet_nil ?_; intro y; go_wp2; (try go_ret2); exact uh FN _ _ _ rfl (IfV.of (by first | exact .inl rfl | exact .inr ⟨_, _, rfl⟩) (fun h => by first | rfl | cases h)) (uh HB _))
 ·
  have g3 : decide (0 ≤ n) = false := decide_eq_false g1
  have e : inB n 0 9 = false := by unfold inB; simp <;> omega
  have V := hide (show hereV 11 n ⟨#[]⟩ 0 = false by simp [hereV, Ex.here, eqE, eqE1, e])
  have FN := hide (fun r w' (v : Value) => nil_val (r := r) (w := w) (w' := w') (v := v) (uh V))
  generalize LeafR 11 n ⟨#[]⟩ w = R at *
  clear e
  (go_enter Tryz.func209, Tryz.ntmps209; go_wp2_with fail; refine wp_region_sub (⟨W, Below.refl _ _⟩ : Sub W.heap.size W) (by kernel_rfl) (by kernel_rfl) ?_; (repeat (go_big_quiet_step (first | fail))); refine wpQuiet_nil ?_; intro y; go_wp2; (try go_ret2); exact uh FN _ _ _ rfl (IfV.of (by first | exact .inl rfl | exact .inr ⟨_, _, rfl⟩) (fun h => by first | rfl | cases h)) (uh HB _))
theorem leaf_no (k n : Int) (s : ByteArray) (h1 : k ≠ 1) (h2 : k ≠ 2) (h3 : k ≠ 3) (h11 : k ≠ 11) (h12 : k ≠ 12) : LeafG k n s := by
 intro b ll cap w ht
 obtain ⟨W, hW⟩ : ∃ W, w.alloc (.cells #[.int .i64 k, .int .i64 n, .string s, .slice b ll cap] 26) = W := ⟨_, rfl⟩
 have B0 := hide (below_new w (.cells #[.int .i64 k, .int .i64 n, .string s, .slice b ll cap] 26))
 have hg : W.heap[w.heap.size]? = some (.cells #[.int .i64 k, .int .i64 n, .string s, .slice b ll cap] 26 (0, 0)) := by rw [← hW]; exact Array.getElem?_push_size
 rw [hW] at B0
 have x0 := Lib.cell_of_heap hg 0
 have x1 := Lib.cell_of_heap hg 1
 have x2 := Lib.cell_of_heap hg 2
 have xl : w.heap.size < W.heap.size := (Array.getElem?_eq_some_iff.1 hg).1
 have y0 : ∀ y : Sub W.heap.size W, y.w.cell? ⟨w.heap.size, 0, none⟩ = some (.int .i64 k) := fun y => (y.h.cell (p := ⟨w.heap.size, _, none⟩) xl).trans x0
 have y1 : ∀ y : Sub W.heap.size W, y.w.cell? ⟨w.heap.size, 1, none⟩ = some (.int .i64 n) := fun y => (y.h.cell (p := ⟨w.heap.size, _, none⟩) xl).trans x1
 have y2 : ∀ y : Sub W.heap.size W, y.w.cell? ⟨w.heap.size, 2, none⟩ = some (.string s) := fun y => (y.h.cell (p := ⟨w.heap.size, _, none⟩) xl).trans x2
 have ne := Sub.ne W.heap.size W
 have HZ := hide (Nat.le_refl W.heap.size)
 have TB := hide (fun y : Sub W.heap.size W => (ht.next (uh B0)).next y.h)
 have HB := hide (fun y : Sub W.heap.size W => (uh B0).trans (y.h.mono (uh B0).size))
 clear hg xl ht
 have g1 : (k == 1) = false := beq_eq_false_iff_ne.2 h1
 have g2 : (k == 2) = false := beq_eq_false_iff_ne.2 h2
 have g3 : (k == 3) = false := beq_eq_false_iff_ne.2 h3
 have g11 : (k == 11) = false := beq_eq_false_iff_ne.2 h11
 have g12 : (k == 12) = false := beq_eq_false_iff_ne.2 h12
 have V := hide (show hereV k n s 0 = false by unfold hereV Ex.here; simp only [List.length_replicate]; split; rfl; rw [if_neg (by omega)]; (repeat' (first | rfl | split)); all_goals first | rfl | omega)
 have FN := hide (fun r w' (v : Value) => nil_val (r := r) (w := w) (w' := w') (v := v) (uh V))
 generalize LeafR k n s w = R at *
 (go_enter Tryz.func209, Tryz.ntmps209; go_wp2; (try go_ret2); exact uh FN _ _ _ rfl (IfV.of (by first | exact .inl rfl | exact .inr ⟨_, _, rfl⟩) (fun h => by cases h)) (uh B0))
theorem leaf_any (k n : Int) (s : ByteArray) (b : Option Addr) (ll cap : Nat) (w : World) (hs : s.size ≤ 1099511627776) (ht : TabK w) : Calls Tryz.prog 209 #[.agg #[.int .i64 k, .int .i64 n, .string s, .slice b ll cap]] w (LeafR k n s w) := by
 revert b ll cap w
 show ∀ b ll cap w, TabK w → _
 by_cases c1 : k = 1
 ·
  subst c1
  by_cases h : s = E0
  · subst h; exact leaf1_0 n E0
  · exact leaf1_s n s h
 by_cases c2 : k = 2
 ·
  subst c2
  by_cases h : n = 0
  · subst h; exact leaf2_0 0 s hs
  · exact leaf2_n n s h hs
 by_cases c12 : k = 12
 ·
  subst c12
  by_cases h : n = 0
  · subst h; exact leaf12_0 0 s hs
  · exact leaf12_n n s h hs
 by_cases c3 : k = 3
 ·
  subst c3
  by_cases h : n = 0
  ·
   subst h
   by_cases h : s = E0
   · subst h; exact leaf3_0 0 E0
   · exact leaf3_s 0 s h
  · exact leaf3_n n s h
 by_cases c11 : k = 11
 ·
  subst c11
  by_cases h : s = E0
  · subst h; exact leaf11_0 n E0
  · exact leaf11_s n s h
 exact leaf_no k n s c1 c2 c3 c11 c12
theorem pair_any (k : Int) (u v : Value) (w : World) : Calls Tryz.prog 210 #[.int .i64 k, .agg #[u, v]] w fun r w' => ∃ x, r = .returned (.tuple #[x, .bool (inB k 5 10)]) ∧ (IfV x ∧ (inB k 5 10 = true → x = .iface (pairT k) (.agg #[u, v]))) ∧ Below w.heap.size w w' := by
 have B0 := hide (below_new w (.cells #[u, v] 226))
 by_cases h5 : k = 5
 ·
  subst h5
  rw [show inB 5 5 10 = true by decide]
  go_enter Tryz.func210, Tryz.ntmps210
  go_wp2
  go_ret2
  exact ⟨_, rfl, IfV.of (.inr ⟨_, _, rfl⟩) (fun _ => rfl), uh B0⟩
 by_cases h6 : k = 6
 ·
  subst h6
  rw [show inB 6 5 10 = true by decide]
  go_enter Tryz.func210, Tryz.ntmps210
  go_wp2
  go_ret2
  exact ⟨_, rfl, IfV.of (.inr ⟨_, _, rfl⟩) (fun _ => rfl), uh B0⟩
 by_cases h7 : k = 7
 ·
  subst h7
  rw [show inB 7 5 10 = true by decide]
  go_enter Tryz.func210, Tryz.ntmps210
  go_wp2
  go_ret2
  exact ⟨_, rfl, IfV.of (.inr ⟨_, _, rfl⟩) (fun _ => rfl), uh B0⟩
 by_cases h8 : k = 8
 ·
  subst h8
  rw [show inB 8 5 10 = true by decide]
  go_enter Tryz.func210, Tryz.ntmps210
  go_wp2
  go_ret2
  exact ⟨_, rfl, IfV.of (.inr ⟨_, _, rfl⟩) (fun _ => rfl), uh B0⟩
 by_cases h9 : k = 9
 ·
  subst h9
  rw [show inB 9 5 10 = true by decide]
  go_enter Tryz.func210, Tryz.ntmps210
  go_wp2
  go_ret2
  exact ⟨_, rfl, IfV.of (.inr ⟨_, _, rfl⟩) (fun _ => rfl), uh B0⟩
 by_cases h10 : k = 10
 ·
  subst h10
  rw [show inB 10 5 10 = true by decide]
  go_enter Tryz.func210, Tryz.ntmps210
  go_wp2
  go_ret2
  exact ⟨_, rfl, IfV.of (.inr ⟨_, _, rfl⟩) (fun _ => rfl), uh B0⟩
 have g5 : (k == 5) = false := beq_eq_false_iff_ne.2 h5
 have g6 : (k == 6) = false := beq_eq_false_iff_ne.2 h6
 have g7 : (k == 7) = false := beq_eq_false_iff_ne.2 h7
 have g8 : (k == 8) = false := beq_eq_false_iff_ne.2 h8
 have g9 : (k == 9) = false := beq_eq_false_iff_ne.2 h9
 have g10 : (k == 10) = false := beq_eq_false_iff_ne.2 h10
 rw [show inB k 5 10 = false by unfold inB; simp; omega]
 go_enter Tryz.func210, Tryz.ntmps210
 go_wp2
 go_ret2
 exact ⟨_, rfl, IfV.of (.inl rfl) (fun h => by cases h), uh B0⟩
theorem here_one (k : Int) : hereV k 0 ⟨#[]⟩ 1 = (k == 4) := by
 unfold hereV Ex.here
 simp only [List.length_replicate, eqE1]
 by_cases h1 : k = 1
 · subst h1; rfl
 by_cases h2 : k = 2
 · subst h2; simp
 by_cases h12 : k = 12
 · subst h12; simp
 by_cases h11 : k = 11
 · subst h11; simp
 by_cases h3 : k = 3
 · subst h3; rfl
 by_cases h4 : k = 4
 · subst h4; rfl
 rw [if_neg (by simp), if_neg h1, if_neg (by omega), if_neg h3, if_neg h4, show (k == 4) = false from beq_eq_false_iff_ne.2 h4]
 split
 · rfl
 · rfl
theorem here_two (k : Int) : hereV k 0 ⟨#[]⟩ 2 = inB k 5 10 := by
 unfold hereV Ex.here
 simp only [List.length_replicate, eqE1]
 by_cases h1 : k = 1
 · subst h1; rfl
 by_cases h2 : k = 2
 · subst h2; simp [inB]
 by_cases h12 : k = 12
 · subst h12; simp [inB]
 by_cases h11 : k = 11
 · subst h11; simp [inB]
 by_cases h3 : k = 3
 · subst h3; rfl
 by_cases h4 : k = 4
 · subst h4; rfl
 rw [if_neg (by simp), if_neg h1, if_neg (by omega), if_neg h3, if_neg h4]
 split
 · rename_i h; rw [inB_t _ _ _ h.1 h.2]; rfl
 · rename_i h; rw [inB_f _ _ _ h]
theorem here_more (k n : Int) (s : ByteArray) (ll : Nat) (h : 3 ≤ ll) : hereV k n s ll = false := by
 have e0 : (ll == 0) = false := beq_eq_false_iff_ne.2 (by omega)
 have e1 : (ll == 1) = false := beq_eq_false_iff_ne.2 (by omega)
 have e2 : (ll == 2) = false := beq_eq_false_iff_ne.2 (by omega)
 unfold hereV Ex.here
 simp only [List.length_replicate, e0, e1, e2, Bool.and_false]
 repeat' split
 all_goals rfl
theorem hereV_n (k n : Int) (s : ByteArray) (ll : Nat) (h : 1 ≤ ll) (hn : n ≠ 0) : hereV k n s ll = false := by
 have e0 : (ll == 0) = false := beq_eq_false_iff_ne.2 (by omega)
 have en : (n != 0) = true := by simp [hn]
 unfold hereV Ex.here
 simp only [List.length_replicate, e0, Bool.and_false, en, Bool.and_true]
 by_cases h1 : k = 1
 ·
  subst h1; repeat' split
  all_goals first | rfl | omega
 by_cases h11 : k = 11
 ·
  subst h11; repeat' split
  all_goals first | rfl | omega
 rw [if_pos (by simp [h1, h11])]
theorem hereV_s (k n : Int) (s : ByteArray) (ll : Nat) (h : 1 ≤ ll) (hs : s ≠ E0) : hereV k n s ll = false := by
 have e0 : (ll == 0) = false := beq_eq_false_iff_ne.2 (by omega)
 have es := (emp_E s hs).2
 unfold hereV Ex.here
 simp only [List.length_replicate, e0, Bool.and_false, es, Bool.not_false, Bool.and_true]
 by_cases h1 : k = 2
 ·
  subst h1; repeat' split
  all_goals first | rfl | omega
 by_cases h11 : k = 12
 ·
  subst h11; repeat' split
  all_goals first | rfl | omega
 rw [if_pos (by simp [h1, h11])]
theorem okf_v (d : Nat) (k n : Int) (s : ByteArray) (l : List Ex) : okF (d + 1) false ⟨k, n, s, l⟩ = (hereV k n s l.length && l.all (okF d false)) := by
 rw [okF_s, here_is]
 rfl
theorem tv_if (e : Ex) : ∃ t x, tv e = .iface t x := by
 obtain ⟨k, n, s, l⟩ := e
 rw [tv]
 unfold tvC
 repeat' split
 all_goals exact ⟨_, _, rfl⟩
def TermR (d : Nat) (e : Ex) (w : World) (r : Ending) (w' : World) : Prop := ∃ v, r = .returned (.tuple #[v, .bool (okF d false e)]) ∧ (IfV v ∧ (okF d false e = true → v = tv e)) ∧ Below w.heap.size w w'
theorem termR_of {d : Nat} {e : Ex} {w : World} {r : Ending} {w' : World} {v : Value} {q : Bool} (h : okF d false e = q) (hr : r = .returned (.tuple #[v, .bool q])) (hv : IfV v ∧ (q = true → v = tv e)) (hb : Below w.heap.size w w') : TermR d e w r w' := ⟨v, by rw [h]; exact hr, ⟨hv.1, fun x => hv.2 (h.symm.trans x)⟩, hb⟩
def TermP (d : Nat) : Prop := ∀ (e : Ex) (b : Option Addr) (cap : Nat) (w : World), RdX w 0 e b → e.sz ≤ 1048576 → TabK w → Calls Tryz.prog 180 #[.agg (e.cs b cap), .int .i64 d] w (TermR d e w)
theorem rd_at {w : World} {e : Ex} {b : Option Addr} (h : RdX w 0 e b) {i : Nat} (hi : i < e.l.length) : ∃ p po, b = some ⟨p, po, none⟩ ∧ p < w.heap.size ∧ OneX w 0 p (po + i * 4) (xAt e.l i) := by
 rw [RdX_eq] at h
 rcases h with h | ⟨p, po, rfl, _, hp, hc⟩
 · rw [h] at hi; simp at hi
 · exact ⟨p, po, rfl, hp, hc i hi⟩
theorem term_zero : TermP 0 := by
 intro e b cap w hr hz ht
 have B0 := hide (below_new w (.cells (e.cs b cap) 26))
 have FN := hide (fun r w' v => termR_of (d := 0) (e := e) (w := w) (r := r) (w' := w') (v := v) rfl)
 generalize TermR 0 e w = R at *
 unfold Ex.cs at B0 ⊢
 go_enter Tryz.func180, Tryz.ntmps180
 go_wp2
 (try go_ret2)
 exact uh FN _ _ _ rfl (IfV.of (by first | exact .inl rfl | exact .inr ⟨_, _, rfl⟩) (fun h => by cases h)) (uh B0)
theorem term_nil (d : Nat) (h6 : d ≤ 6) (k n : Int) (s : ByteArray) (b : Option Addr) (cap : Nat) (w : World) (hs : s.size ≤ 1048576) (ht : TabK w) : Calls Tryz.prog 180 #[.agg #[.int .i64 k, .int .i64 n, .string s, .slice b 0 cap], .int .i64 ((d + 1 : Nat) : Int)] w (TermR (d + 1) ⟨k, n, s, []⟩ w) := by
 obtain ⟨W, hW⟩ : ∃ W, w.alloc (.cells #[.int .i64 k, .int .i64 n, .string s, .slice b 0 cap] 26) = W := ⟨_, rfl⟩
 have B0 := hide (below_new w (.cells #[.int .i64 k, .int .i64 n, .string s, .slice b 0 cap] 26))
 have hg : W.heap[w.heap.size]? = some (.cells #[.int .i64 k, .int .i64 n, .string s, .slice b 0 cap] 26 (0, 0)) := by rw [← hW]; exact Array.getElem?_push_size
 rw [hW] at B0
 have x0 := Lib.cell_of_heap hg 0
 have x1 := Lib.cell_of_heap hg 1
 have x2 := Lib.cell_of_heap hg 2
 have x3 := Lib.cell_of_heap hg 3
 have xl : w.heap.size < W.heap.size := (Array.getElem?_eq_some_iff.1 hg).1
 have hd0 : (((d + 1 : Nat) : Int) == 0) = false := beq_eq_false_iff_ne.2 (by omega)
 have hd1 : ((d + 1 : Nat) : Int) - 1 = (d : Int) := by omega
 have hdb : 0 ≤ ((d + 1 : Nat) : Int) ∧ ((d + 1 : Nat) : Int) ≤ 100 := by omega
 have LF := hide (leaf_any k n s b 0 cap W (by omega) (ht.next (uh B0)))
 have FN := hide (fun r w' v q (h : hereV k n s 0 = q) => termR_of (d := d + 1) (e := ⟨k, n, s, []⟩) (w := w) (r := r) (w' := w') (v := v) ((okf_v d k n s []).trans ((Bool.and_true _).trans h)))
 have TV := hide (show tv ⟨k, n, s, []⟩ = tvC k n s [] by rw [tv]; rfl)
 rw [uh TV] at FN
 generalize TermR (d + 1) ⟨k, n, s, []⟩ w = R at *
 clear hg xl ht TV
 generalize hDD : ((d + 1 : Nat) : Int) = DD at *
 go_enter Tryz.func180, Tryz.ntmps180
 go_wp2_with fail
 refine (uh LF).mono ?_
 rintro r w1 ⟨v, rfl, hv, hb1⟩
 have F2 := hide (uh FN (.returned (.tuple #[v, .bool (hereV k n s 0)])) w1 v _ rfl rfl hv ((uh B0).trans (hb1.mono (uh B0).size)))
 generalize hereV k n s 0 = q at *
 clear FN hv hb1
 go_wp2
 (try go_ret2)
 exact uh F2
theorem term_bad (d : Nat) (h6 : d ≤ 6) (k n : Int) (s : ByteArray) (l : List Ex) (b : Option Addr) (cap : Nat) (w : World) (hz : l.length ≤ 1048576) (h1 : 1 ≤ l.length) (h : 3 ≤ l.length ∨ n ≠ 0 ∨ s ≠ E0) : Calls Tryz.prog 180 #[.agg #[.int .i64 k, .int .i64 n, .string s, .slice b l.length cap], .int .i64 ((d + 1 : Nat) : Int)] w (TermR (d + 1) ⟨k, n, s, l⟩ w) := by
 have V : hereV k n s l.length = false := by
  rcases h with h | h | h
  · exact here_more k n s _ h
  · exact hereV_n k n s _ h1 h
  · exact hereV_s k n s _ h1 h
 have FN := hide (fun r w' v => termR_of (d := d + 1) (e := ⟨k, n, s, l⟩) (w := w) (r := r) (w' := w') (v := v) (q := false) (by rw [okf_v, V]; rfl))
 generalize TermR (d + 1) ⟨k, n, s, l⟩ w = R at *
 clear V
 generalize l.length = ll at *
 obtain ⟨W, hW⟩ : ∃ W, w.alloc (.cells #[.int .i64 k, .int .i64 n, .string s, .slice b ll cap] 26) = W := ⟨_, rfl⟩
 have B0 := hide (below_new w (.cells #[.int .i64 k, .int .i64 n, .string s, .slice b ll cap] 26))
 have hg : W.heap[w.heap.size]? = some (.cells #[.int .i64 k, .int .i64 n, .string s, .slice b ll cap] 26 (0, 0)) := by rw [← hW]; exact Array.getElem?_push_size
 rw [hW] at B0
 have x0 := Lib.cell_of_heap hg 0
 have x1 := Lib.cell_of_heap hg 1
 have x2 := Lib.cell_of_heap hg 2
 have x3 := Lib.cell_of_heap hg 3
 have xl : w.heap.size < W.heap.size := (Array.getElem?_eq_some_iff.1 hg).1
 have hd0 : (((d + 1 : Nat) : Int) == 0) = false := beq_eq_false_iff_ne.2 (by omega)
 have hd1 : ((d + 1 : Nat) : Int) - 1 = (d : Int) := by omega
 have hdb : 0 ≤ ((d + 1 : Nat) : Int) ∧ ((d + 1 : Nat) : Int) ≤ 100 := by omega
 clear hg xl
 have h0 : ((ll : Int) == 0) = false := beq_eq_false_iff_ne.2 (by omega)
 generalize hDD : ((d + 1 : Nat) : Int) = DD at *
 by_cases h3 : 3 ≤ ll
 ·
  have g3 : (2 : Int) < (ll : Int) := by omega
  clear h
  go_enter Tryz.func180, Tryz.ntmps180
  go_wp2
  (try go_ret2)
  exact uh FN _ _ _ rfl (IfV.of (by first | exact .inl rfl | exact .inr ⟨_, _, rfl⟩) (fun h => by cases h)) (uh B0)
 ·
  have g3 : decide ((2 : Int) < (ll : Int)) = false := decide_eq_false (by omega)
  have g4 : decide (2 < ll) = false := decide_eq_false (by omega)
  by_cases hn : n = 0
  ·
   subst hn
   have hs : s ≠ E0 := by rcases h with h | h | h; omega; exact absurd rfl h; exact h
   obtain ⟨e1, e2⟩ := emp_E s hs
   clear h
   go_enter Tryz.func180, Tryz.ntmps180
   go_wp2
   (try go_ret2)
   exact uh FN _ _ _ rfl (IfV.of (by first | exact .inl rfl | exact .inr ⟨_, _, rfl⟩) (fun h => by cases h)) (uh B0)
  ·
   have en : (n == 0) = false := beq_eq_false_iff_ne.2 hn
   clear h
   go_enter Tryz.func180, Tryz.ntmps180
   go_wp2
   (try go_ret2)
   exact uh FN _ _ _ rfl (IfV.of (by first | exact .inl rfl | exact .inr ⟨_, _, rfl⟩) (fun h => by cases h)) (uh B0)
theorem term_one (d : Nat) (h6 : d ≤ 6) (ih : TermP d) (k : Int) (a : Ex) (b : Option Addr) (cap : Nat) (w : World) (hr : RdX w 0 ⟨k, 0, ⟨#[]⟩, [a]⟩ b) (hz : a.sz ≤ 1048576) (ht : TabK w) : Calls Tryz.prog 180 #[.agg #[.int .i64 k, .int .i64 0, .string ⟨#[]⟩, .slice b 1 cap], .int .i64 ((d + 1 : Nat) : Int)] w (TermR (d + 1) ⟨k, 0, ⟨#[]⟩, [a]⟩ w) := by
 obtain ⟨W, hW⟩ : ∃ W, w.alloc (.cells #[.int .i64 k, .int .i64 0, .string ⟨#[]⟩, .slice b 1 cap] 26) = W := ⟨_, rfl⟩
 have B0 := hide (below_new w (.cells #[.int .i64 k, .int .i64 0, .string ⟨#[]⟩, .slice b 1 cap] 26))
 have hg : W.heap[w.heap.size]? = some (.cells #[.int .i64 k, .int .i64 0, .string ⟨#[]⟩, .slice b 1 cap] 26 (0, 0)) := by rw [← hW]; exact Array.getElem?_push_size
 rw [hW] at B0
 have x0 := Lib.cell_of_heap hg 0
 have x1 := Lib.cell_of_heap hg 1
 have x2 := Lib.cell_of_heap hg 2
 have x3 := Lib.cell_of_heap hg 3
 have xl : w.heap.size < W.heap.size := (Array.getElem?_eq_some_iff.1 hg).1
 have hd0 : (((d + 1 : Nat) : Int) == 0) = false := beq_eq_false_iff_ne.2 (by omega)
 have hd1 : ((d + 1 : Nat) : Int) - 1 = (d : Int) := by omega
 have hdb : 0 ≤ ((d + 1 : Nat) : Int) ∧ ((d + 1 : Nat) : Int) ≤ 100 := by omega
 obtain ⟨p, po, rfl, hp, o0⟩ := rd_at (hr.later (uh B0)) (i := 0) (show 0 < [a].length by simp)
 obtain ⟨e00, e01, e02, c0, cp0, e03, e04⟩ := o0
 simp only [show xAt [a] 0 = a from rfl] at e00 e01 e02 e03 e04
 rw [Nat.zero_mul, Nat.add_zero] at e00 e01 e02 e03
 have IH := hide (ih a c0 cp0 W e04 hz (ht.next (uh B0)))
 have FN := hide (fun r w' v q (h : (k == 4 && okF d false a) = q) => termR_of (d := d + 1) (e := ⟨k, 0, ⟨#[]⟩, [a]⟩) (w := w) (r := r) (w' := w') (v := v) (q := q) (by rw [okf_v, ← h, show [a].length = 1 from rfl, here_one]; simp))
 have TV := hide (show k = 4 → tv ⟨k, 0, ⟨#[]⟩, [a]⟩ = .iface 188 (.agg #[tv a]) by rintro rfl; exact tv_neg _ _ _)
 generalize tv ⟨k, 0, ⟨#[]⟩, [a]⟩ = tve at *
 generalize TermR (d + 1) ⟨k, 0, ⟨#[]⟩, [a]⟩ w = R at *
 unfold Ex.cs at IH
 generalize a.k = ak at *
 generalize a.n = an at *
 generalize a.s = asv at *
 generalize a.l.length = al at *
 have y0 : ∀ w1, Below W.heap.size W w1 → w1.cell? ⟨w.heap.size, 0, none⟩ = some (.int .i64 k) := fun w1 hb => (hb.cell (p := ⟨w.heap.size, _, none⟩) xl).trans x0
 have y3 : ∀ w1, Below W.heap.size W w1 → w1.cell? ⟨w.heap.size, 3, none⟩ = some (.slice (some ⟨p, po, none⟩) 1 cap) := fun w1 hb => (hb.cell (p := ⟨w.heap.size, _, none⟩) xl).trans x3
 have Y0 := hide y0
 have Y3 := hide y3
 have KQ : k = 4 ∨ k ≠ 4 := by omega
 clear hg xl ht hr hz ih e04 y0 y3 hp
 generalize hDD : ((d + 1 : Nat) : Int) = DD at *
 go_enter Tryz.func180, Tryz.ntmps180
 go_wp2_with fail
 refine (uh IH).mono ?_
 rintro r w1 ⟨v, rfl, hv, hb1⟩
 have BB := hide ((uh B0).trans (hb1.mono (uh B0).size))
 have z0 := uh Y0 w1 hb1
 have z3 := uh Y3 w1 hb1
 have HV := hide hv
 generalize okF d false a = q at *
 clear hv hb1 Y0 Y3 IH x0 x1 x2 x3 e00 e01 e02 e03
 cases q with
 | false =>
  have F2 := hide (fun r w' v => uh FN r w' v false (Bool.and_false _))
  clear FN
  go_wp2
  (try go_ret2)
  exact uh F2 _ _ _ rfl (IfV.of (by first | exact .inl rfl | exact .inr ⟨_, _, rfl⟩) (fun h => by cases h)) (uh BB)
 | true =>
  obtain ⟨t1, x1, e1⟩ := tv_if a
  have hve := (uh HV).2 rfl
  rw [e1] at hve TV
  subst hve
  clear HV e1
  have xl1 : w.heap.size < w1.heap.size := World.block_lt_of_cell? w1 _ z0
  have q0 : ∀ y : Sub w1.heap.size w1, y.w.cell? ⟨w.heap.size, 0, none⟩ = some (.int .i64 k) := fun y => (y.h.cell (p := ⟨w.heap.size, _, none⟩) xl1).trans z0
  have ne := Sub.ne w1.heap.size w1
  have BY := hide (fun y : Sub w1.heap.size w1 => (uh BB).trans (y.h.mono (uh BB).size))
  clear xl1
  rcases KQ with rfl | hk
  ·
   have F2 := hide (fun r w' (hr : r = .returned (.tuple #[.iface 188 (.agg #[.iface t1 x1]), .bool true])) hb => uh FN r w' _ true rfl hr (IfV.of (.inr ⟨_, _, rfl⟩) (fun _ => (uh TV rfl).symm)) hb)
   clear FN TV
   go_wp2_with fail
   refine wp_region_sub (⟨w1, Below.refl _ _⟩ : Sub w1.heap.size w1) (by kernel_rfl) (by kernel_rfl) ?_
   repeat (go_big_quiet_step (first | fail))
   refine wpQuiet_nil ?_
   intro y
   go_wp2
   (try go_ret2)
   exact uh F2 _ _ rfl (uh BY _)
  ·
   have hk4 : (k == 4) = false := beq_eq_false_iff_ne.2 hk
   have F2 := hide (fun r w' v => uh FN r w' v false (by rw [hk4]; rfl))
   clear FN TV
   go_wp2_with fail
   refine wp_region_sub (⟨w1, Below.refl _ _⟩ : Sub w1.heap.size w1) (by kernel_rfl) (by kernel_rfl) ?_
   repeat (go_big_quiet_step (first | fail))
   refine wpQuiet_nil ?_
   intro y
   go_wp2
   (try go_ret2)
   exact uh F2 _ _ _ rfl (IfV.of (by first | exact .inl rfl | exact .inr ⟨_, _, rfl⟩) (fun h => by cases h)) (uh BY _)
theorem term_two (d : Nat) (h6 : d ≤ 6) (ih : TermP d) (k : Int) (a a2 : Ex) (b : Option Addr) (cap : Nat) (w : World) (hr : RdX w 0 ⟨k, 0, ⟨#[]⟩, [a, a2]⟩ b) (hz : a.sz ≤ 1048576) (hz2 : a2.sz ≤ 1048576) (ht : TabK w) : Calls Tryz.prog 180 #[.agg #[.int .i64 k, .int .i64 0, .string ⟨#[]⟩, .slice b 2 cap], .int .i64 ((d + 1 : Nat) : Int)] w (TermR (d + 1) ⟨k, 0, ⟨#[]⟩, [a, a2]⟩ w) := by
 obtain ⟨W, hW⟩ : ∃ W, w.alloc (.cells #[.int .i64 k, .int .i64 0, .string ⟨#[]⟩, .slice b 2 cap] 26) = W := ⟨_, rfl⟩
 have B0 := hide (below_new w (.cells #[.int .i64 k, .int .i64 0, .string ⟨#[]⟩, .slice b 2 cap] 26))
 have hg : W.heap[w.heap.size]? = some (.cells #[.int .i64 k, .int .i64 0, .string ⟨#[]⟩, .slice b 2 cap] 26 (0, 0)) := by rw [← hW]; exact Array.getElem?_push_size
 rw [hW] at B0
 have x0 := Lib.cell_of_heap hg 0
 have x1 := Lib.cell_of_heap hg 1
 have x2 := Lib.cell_of_heap hg 2
 have x3 := Lib.cell_of_heap hg 3
 have xl : w.heap.size < W.heap.size := (Array.getElem?_eq_some_iff.1 hg).1
 have hd0 : (((d + 1 : Nat) : Int) == 0) = false := beq_eq_false_iff_ne.2 (by omega)
 have hd1 : ((d + 1 : Nat) : Int) - 1 = (d : Int) := by omega
 have hdb : 0 ≤ ((d + 1 : Nat) : Int) ∧ ((d + 1 : Nat) : Int) ≤ 100 := by omega
 obtain ⟨p, po, rfl, hp, o0⟩ := rd_at (hr.later (uh B0)) (i := 0) (show 0 < [a, a2].length by simp)
 obtain ⟨_, _, hpe, _, o1⟩ := rd_at (hr.later (uh B0)) (i := 1) (show 1 < [a, a2].length by simp)
 cases hpe
 obtain ⟨e00, e01, e02, c0, cp0, e03, e04⟩ := o0
 simp only [show xAt [a, a2] 0 = a from rfl] at e00 e01 e02 e03 e04
 obtain ⟨e10, e11, e12, c1, cp1, e13, e14⟩ := o1
 simp only [show xAt [a, a2] 1 = a2 from rfl] at e10 e11 e12 e13 e14
 rw [Nat.zero_mul, Nat.add_zero] at e00 e01 e02 e03
 rw [Nat.one_mul] at e10 e11 e12 e13
 have IH := hide (ih a c0 cp0 W e04 hz (ht.next (uh B0)))
 have IH2 := hide (fun w1 (hb : Below W.heap.size W w1) => ih a2 c1 cp1 w1 (e14.later hb) hz2 ((ht.next (uh B0)).next hb))
 have FN := hide (fun r w' v q (h : (inB k 5 10 && (okF d false a && okF d false a2)) = q) => termR_of (d := d + 1) (e := ⟨k, 0, ⟨#[]⟩, [a, a2]⟩) (w := w) (r := r) (w' := w') (v := v) (q := q) (by rw [okf_v, ← h, show [a, a2].length = 2 from rfl, here_two]; simp))
 have TV := hide (show inB k 5 10 = true → tv ⟨k, 0, ⟨#[]⟩, [a, a2]⟩ = .iface (pairT k) (.agg #[tv a, tv a2]) by intro h; exact tv_two ((inB_iff _ _ _).1 h) _ _ _ _)
 generalize tv ⟨k, 0, ⟨#[]⟩, [a, a2]⟩ = tve at *
 generalize TermR (d + 1) ⟨k, 0, ⟨#[]⟩, [a, a2]⟩ w = R at *
 unfold Ex.cs at IH IH2
 generalize a.k = ak at *
 generalize a.n = an at *
 generalize a.s = asv at *
 generalize a.l.length = al at *
 generalize a2.k = bk at *
 generalize a2.n = bn at *
 generalize a2.s = bs at *
 generalize a2.l.length = bl at *
 have Y0 := hide (fun w1 (hb : Below W.heap.size W w1) => (hb.cell (p := ⟨w.heap.size, 0, none⟩) xl).trans x0)
 have Y3 := hide (fun w1 (hb : Below W.heap.size W w1) => (hb.cell (p := ⟨w.heap.size, 3, none⟩) xl).trans x3)
 have U0 := hide (fun w1 (hb : Below W.heap.size W w1) => (hb.cell (p := ⟨p, po + 4, none⟩) hp).trans e10)
 have U1 := hide (fun w1 (hb : Below W.heap.size W w1) => (hb.cell (p := ⟨p, po + 4 + 1, none⟩) hp).trans e11)
 have U2 := hide (fun w1 (hb : Below W.heap.size W w1) => (hb.cell (p := ⟨p, po + 4 + 2, none⟩) hp).trans e12)
 have U3 := hide (fun w1 (hb : Below W.heap.size W w1) => (hb.cell (p := ⟨p, po + 4 + 3, none⟩) hp).trans e13)
 clear hg xl ht hr hz hz2 ih e04 e14 e10 e11 e12 e13 hp
 generalize hDD : ((d + 1 : Nat) : Int) = DD at *
 go_enter Tryz.func180, Tryz.ntmps180
 go_wp2_with fail
 refine (uh IH).mono ?_
 rintro r w1 ⟨v, rfl, hv, hb1⟩
 have HB1 := hide hb1
 have BB := hide ((uh B0).trans (hb1.mono (uh B0).size))
 have z0 := uh Y0 w1 hb1
 have z3 := uh Y3 w1 hb1
 have u0 := uh U0 w1 hb1
 have u1 := uh U1 w1 hb1
 have u2 := uh U2 w1 hb1
 have u3 := uh U3 w1 hb1
 have HV := hide hv
 have J2 := hide (uh IH2 w1 hb1)
 generalize okF d false a = q at *
 clear hv hb1 U0 U1 U2 U3 IH IH2 x0 x1 x2 x3 e00 e01 e02 e03
 cases q with
 | false =>
  have F2 := hide (fun r w' v => uh FN r w' v false (by rw [Bool.false_and, Bool.and_false]))
  clear FN
  go_wp2
  (try go_ret2)
  exact uh F2 _ _ _ rfl (IfV.of (by first | exact .inl rfl | exact .inr ⟨_, _, rfl⟩) (fun h => by cases h)) (uh BB)
 | true =>
  obtain ⟨t1, x1, e1⟩ := tv_if a
  have hve := (uh HV).2 rfl
  rw [e1] at hve TV
  subst hve
  clear HV e1
  go_wp2_with fail
  refine (uh J2).mono ?_
  rintro r w2 ⟨v2, rfl, hv2, hb2⟩
  have HB2 := hide ((uh HB1).trans (hb2.mono (uh HB1).size))
  have B2 := hide ((uh BB).trans (hb2.mono (uh BB).size))
  have t0 := uh Y0 w2 (uh HB2)
  have HV2 := hide hv2
  generalize okF d false a2 = q2 at *
  clear hv2 hb2 u0 u1 u2 u3 z0 z3 Y0 Y3 J2
  cases q2 with
  | false =>
   have F2 := hide (fun r w' v => uh FN r w' v false (Bool.and_false _))
   clear FN
   go_wp2
   (try go_ret2)
   exact uh F2 _ _ _ rfl (IfV.of (by first | exact .inl rfl | exact .inr ⟨_, _, rfl⟩) (fun h => by cases h)) (uh B2)
  | true =>
   obtain ⟨t2, x2, e2⟩ := tv_if a2
   have hve := (uh HV2).2 rfl
   rw [e2] at hve TV
   subst hve
   clear HV2 e2
   have F2 := hide (fun r w' v q (h : inB k 5 10 = q) => uh FN r w' v q ((Bool.and_true _).trans h))
   have P2 := hide (pair_any k (.iface t1 x1) (.iface t2 x2) w2)
   clear FN
   go_wp2_with fail
   refine (uh P2).mono ?_
   rintro r w3 ⟨x, rfl, hx, hb3⟩
   have F3 := hide (uh F2 (.returned (.tuple #[x, .bool (inB k 5 10)])) w3 x _ rfl rfl ⟨hx.1, fun h => by rw [hx.2 h, uh TV h]⟩ ((uh B2).trans (hb3.mono (uh B2).size)))
   generalize inB k 5 10 = qq at *
   clear F2 hx hb3 P2
   go_wp2
   (try go_ret2)
   exact uh F3
theorem term_all : ∀ d : Nat, d ≤ 6 → TermP d := by
 intro d
 induction d with
 | zero => intro _; exact term_zero
 | succ d ih =>
  intro hd e b cap w hr hz ht
  obtain ⟨k, n, s, l⟩ := e
  have hsz := sz_is ⟨k, n, s, l⟩
  simp only at hsz
  unfold Ex.cs
  simp only
  by_cases hbad : 1 ≤ l.length ∧ (3 ≤ l.length ∨ n ≠ 0 ∨ s ≠ E0)
  · exact term_bad d (by omega) k n s l b cap w (by omega) hbad.1 hbad.2
  ·
   match l, hr, hz, hsz, hbad with
   | [], hr, hz, hsz, hbad => exact term_nil d (by omega) k n s b cap w (by omega) ht
   | [a], hr, hz, hsz, hbad =>
    have hn : n = 0 := Classical.byContradiction fun h => hbad ⟨by simp, .inr (.inl h)⟩
    have hs : s = E0 := Classical.byContradiction fun h => hbad ⟨by simp, .inr (.inr h)⟩
    subst hn hs
    exact term_one d (by omega) (ih (by omega)) k a b cap w hr (by simp [szX] at hsz; omega) ht
   | [a, a2], hr, hz, hsz, hbad =>
    have hn : n = 0 := Classical.byContradiction fun h => hbad ⟨by simp, .inr (.inl h)⟩
    have hs : s = E0 := Classical.byContradiction fun h => hbad ⟨by simp, .inr (.inr h)⟩
    subst hn hs
    exact term_two d (by omega) (ih (by omega)) k a a2 b cap w hr (by simp [szX] at hsz; omega) (by simp [szX] at hsz; omega) ht
   | a :: a2 :: a3 :: r, hr, hz, hsz, hbad => exact absurd ⟨by simp, .inl (by simp)⟩ hbad
end Go.Proofs.YtjnblcgekpgkoaaGreatDoor
