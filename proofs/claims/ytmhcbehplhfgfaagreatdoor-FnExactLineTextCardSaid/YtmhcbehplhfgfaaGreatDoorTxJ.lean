/- Contracts over this seat's translation, laid together; conditions stand as hypotheses of each. -/
import Derived.Test.YtmhcbehplhfgfaaGreatDoorTxF

namespace Go.Proofs.YtmhcbehplhfgfaaGreatDoor
open Go.ChangeShapes Go.WideShapes Go.ChangeAt Go.RowKit
set_option linter.unusedVariables false
set_option maxRecDepth 8000
set_option linter.unusedSimpArgs false
theorem lapp {ts us u : List Tk} {a b : Nat} (h : ts ++ us = u) (h1 : ts.length ≤ a) (h2 : us.length ≤ b) : u.length ≤ a + b := by rw [← h, List.length_append]; omega
theorem lsum {ts us : List Tk} {a b : Nat} (h1 : ts.length ≤ a) (h2 : us.length ≤ b) (h : a + b ≤ 1000000) : ts.length + us.length ≤ 1000000 := by omega
/-- The tokens of an operand. -/
def agT (a : Ag) : List Tk :=
  if a.f = 0 then [rgT a.r.toNat] else if a.f = 1 then rnT a.r.toNat else if a.f = 2 then rnT a.r.toNat ++ [mkT 43] else if a.f = 3 then mkT 64 :: (rnT a.r.toNat ++ [mkT 43])
  else if a.f = 4 then mkT 45 :: rnT a.r.toNat else if a.f = 5 then mkT 64 :: mkT 45 :: rnT a.r.toNat else if a.f = 6 then toksF 6 a.e ++ rnT a.r.toNat else if a.f = 7 then mkT 64 :: (toksF 6 a.e ++ rnT a.r.toNat)
  else if a.f = 8 then mkT 35 :: toksF 6 a.e else if a.f = 9 then mkT 64 :: mkT 35 :: toksF 6 a.e else if a.f = 10 then toksF 6 a.e else mkT 64 :: toksF 6 a.e
theorem rnT_ne (n : Nat) : rnT n ≠ [] := by unfold rnT; simp
theorem rnT_le (n : Nat) : (rnT n).length ≤ 3 := Nat.le_refl 3
theorem one_ne (t : Tk) : [t] ≠ [] := by simp
theorem one_le (t : Tk) : [t].length ≤ 1 := Nat.le_refl 1
set_option maxHeartbeats 8000000 in
theorem agt0 (rn : Nat) (hrn : rn < 8) (e : Ex) (ok : True) (b : Option Addr) (cap : Nat) (w : World) (hr : RdX w 0 e b) : Calls Tryz.prog 60 #[.agg #[.int .i64 0, .int .i64 (rn : Int), .int .i64 e.k, .int .i64 e.n, .string e.s, .slice b e.l.length cap]] w fun r w' => ∃ v, r = .returned v ∧ OwnT w' w.heap.size v (agT ⟨0, (rn : Int), e⟩) ∧ Below w.heap.size w w' := by
  have hbW := below_new w (.cells #[.int .i64 0, .int .i64 (rn : Int), .int .i64 e.k, .int .i64 e.n, .string e.s, .slice b e.l.length cap] 35)
  obtain ⟨W, hW⟩ : ∃ W, w.alloc (.cells #[.int .i64 0, .int .i64 (rn : Int), .int .i64 e.k, .int .i64 e.n, .string e.s, .slice b e.l.length cap] 35) = W := ⟨_, rfl⟩
  have xl : w.heap.size < W.heap.size := by rw [← hW]; simp
  have hrW := hr.later hbW
  have xc : ∀ (i : Nat) (v : Value), (#[.int .i64 0, .int .i64 (rn : Int), .int .i64 e.k, .int .i64 e.n, .string e.s, .slice b e.l.length cap] : Array Value)[i]? = some v → ∀ w1, Below W.heap.size W w1 → w1.cell? ⟨w.heap.size, i, none⟩ = some v := fun i v h w1 hb => (hb.cell (p := ⟨w.heap.size, i, none⟩) xl).trans (by rw [← hW]; exact box17 w _ _ i v h)
  rw [hW] at hbW hrW
  obtain ⟨y0, hy0⟩ : ∃ z : Sub W.heap.size W, w.alloc (.cells #[.int .i64 0, .int .i64 (rn : Int), .int .i64 e.k, .int .i64 e.n, .string e.s, .slice b e.l.length cap] 35) = z.w := ⟨⟨W, Below.refl _ _⟩, hW⟩
  have ne := Sub.ne W.heap.size W
  have HZ := hide (Nat.le_refl W.heap.size)
  have HB := hide (fun y : Sub W.heap.size W => hbW.trans (y.h.mono hbW.size))
  have HO := hide (fun (y : Sub W.heap.size W) v ts (h : OwnT y.w W.heap.size v ts) => h.base hbW.size)
  have E0 : ∀ y : Sub W.heap.size W, y.w.cell? ⟨w.heap.size, 0, none⟩ = some (.int .i64 0) := fun y => xc 0 _ rfl y.w y.h
  have E1 : ∀ y : Sub W.heap.size W, y.w.cell? ⟨w.heap.size, 1, none⟩ = some (.int .i64 (rn : Int)) := fun y => xc 1 _ rfl y.w y.h
  have E2 : ∀ y : Sub W.heap.size W, y.w.cell? ⟨w.heap.size, 2, none⟩ = some (.int .i64 e.k) := fun y => xc 2 _ rfl y.w y.h
  have E3 : ∀ y : Sub W.heap.size W, y.w.cell? ⟨w.heap.size, 3, none⟩ = some (.int .i64 e.n) := fun y => xc 3 _ rfl y.w y.h
  have E4 : ∀ y : Sub W.heap.size W, y.w.cell? ⟨w.heap.size, 4, none⟩ = some (.string e.s) := fun y => xc 4 _ rfl y.w y.h
  have E5 : ∀ y : Sub W.heap.size W, y.w.cell? ⟨w.heap.size, 5, none⟩ = some (.slice b e.l.length cap) := fun y => xc 5 _ rfl y.w y.h
  have Y1 := hide (xc 1 _ rfl)
  have Y2 := hide (xc 2 _ rfl)
  have Y3 := hide (xc 3 _ rfl)
  have Y4 := hide (xc 4 _ rfl)
  have Y5 := hide (xc 5 _ rfl)
  have MK := hide (fun x w1 => markS_ex x w1)
  have RG := hide (fun w1 => regS rn hrn w1)
  have RN := hide (fun w1 => rndS rn hrn w1)
  have AT : agT ⟨0, (rn : Int), e⟩ = [rgT rn] := rfl
  rw [AT]
  clear AT ok hr hrW hW xc xl hbW hrn
  generalize e.k = ek at *
  generalize e.n = en at *
  generalize e.s = es at *
  generalize e.l.length = el at *
  unfold Tk.v Tk.cs at MK RG
  simp only at MK RG
  have rl := rnT_le rn
  have rne := rnT_ne rn
  generalize rnT rn = rt at *
  obtain ⟨T, hT⟩ : ∃ T, [rgT rn] = T := ⟨_, rfl⟩
  have HT := hide hT
  rw [hT]
  clear hT
  have l0 : ([] : List Tk).length ≤ 0 := Nat.le_refl 0
  obtain ⟨y1, hy1⟩ := Sub.step (unhide HZ) (below_new y0.w (.cells #[] 59))
  have O1 := hide (show OwnT y1.w W.heap.size (.slice (some ⟨y0.w.heap.size, 0, none⟩) 0 0) [] by rw [← hy1]; exact ownT_empty y0.w W.heap.size (Nat.le_trans (unhide HZ) y0.h.size))
  go_enter Tryz.func60, Tryz.ntmps60
  go_wp2_with fail
  refine (unhide RG y1.w).mono ?_
  rintro r w2 ⟨rfl, hb⟩
  have O2 := hide ((unhide O1).later hb)
  clear O1
  obtain ⟨y2, rfl⟩ := Sub.step (unhide HZ) hb
  clear hb
  obtain ⟨y3, hy3⟩ := Sub.step (unhide HZ) (below_new y2.w (.cells #[.int .i64 (rgT rn).k, .int .i64 (rgT rn).n, .string (rgT rn).s] 59))
  have S3 := hide (show OwnT y3.w W.heap.size (.slice (some ⟨y2.w.heap.size, 0, none⟩) 1 1) [rgT rn] by rw [← hy3]; exact ownT_new y2.w (rgT rn) W.heap.size (Nat.le_trans (unhide HZ) y2.h.size))
  have O3 := hide (show OwnT y3.w W.heap.size (.slice (some ⟨y0.w.heap.size, 0, none⟩) 0 0) [] by rw [← hy3]; exact (unhide O2).later (below_new _ _))
  clear O2
  go_wp2_with (at_builtin; go_must (refine appT rfl (.tmp 21) (.tmp 25) rfl (unhide HZ) y3.h rfl (unhide O3) rfl (unhide S3) (one_ne _) (lsum l0 (one_le _) (by decide)) ?_; intro v4 y4 hO; obtain ⟨u4, hu⟩ : ∃ u, ([] ++ [rgT rn]) = u := ⟨_, rfl⟩; rw [hu] at hO; have l4 := lapp hu l0 (one_le _); have O4 := hide hO; have H4 := hide hu; clear hO hu O3 S3))
  have EQ : u4 = T := by
    rw [← unhide HT]
    rw [← unhide H4]
    simp [mkT, mkS]
  rw [EQ] at O4
  go_ret
  exact ⟨_, rfl, unhide HO y4 _ _ (unhide O4), unhide HB y4⟩
set_option maxHeartbeats 8000000 in
theorem agt1 (rn : Nat) (hrn : rn < 8) (e : Ex) (ok : True) (b : Option Addr) (cap : Nat) (w : World) (hr : RdX w 0 e b) : Calls Tryz.prog 60 #[.agg #[.int .i64 1, .int .i64 (rn : Int), .int .i64 e.k, .int .i64 e.n, .string e.s, .slice b e.l.length cap]] w fun r w' => ∃ v, r = .returned v ∧ OwnT w' w.heap.size v (agT ⟨1, (rn : Int), e⟩) ∧ Below w.heap.size w w' := by
  have hbW := below_new w (.cells #[.int .i64 1, .int .i64 (rn : Int), .int .i64 e.k, .int .i64 e.n, .string e.s, .slice b e.l.length cap] 35)
  obtain ⟨W, hW⟩ : ∃ W, w.alloc (.cells #[.int .i64 1, .int .i64 (rn : Int), .int .i64 e.k, .int .i64 e.n, .string e.s, .slice b e.l.length cap] 35) = W := ⟨_, rfl⟩
  have xl : w.heap.size < W.heap.size := by rw [← hW]; simp
  have hrW := hr.later hbW
  have xc : ∀ (i : Nat) (v : Value), (#[.int .i64 1, .int .i64 (rn : Int), .int .i64 e.k, .int .i64 e.n, .string e.s, .slice b e.l.length cap] : Array Value)[i]? = some v → ∀ w1, Below W.heap.size W w1 → w1.cell? ⟨w.heap.size, i, none⟩ = some v := fun i v h w1 hb => (hb.cell (p := ⟨w.heap.size, i, none⟩) xl).trans (by rw [← hW]; exact box17 w _ _ i v h)
  rw [hW] at hbW hrW
  obtain ⟨y0, hy0⟩ : ∃ z : Sub W.heap.size W, w.alloc (.cells #[.int .i64 1, .int .i64 (rn : Int), .int .i64 e.k, .int .i64 e.n, .string e.s, .slice b e.l.length cap] 35) = z.w := ⟨⟨W, Below.refl _ _⟩, hW⟩
  have ne := Sub.ne W.heap.size W
  have HZ := hide (Nat.le_refl W.heap.size)
  have HB := hide (fun y : Sub W.heap.size W => hbW.trans (y.h.mono hbW.size))
  have HO := hide (fun (y : Sub W.heap.size W) v ts (h : OwnT y.w W.heap.size v ts) => h.base hbW.size)
  have E0 : ∀ y : Sub W.heap.size W, y.w.cell? ⟨w.heap.size, 0, none⟩ = some (.int .i64 1) := fun y => xc 0 _ rfl y.w y.h
  have E1 : ∀ y : Sub W.heap.size W, y.w.cell? ⟨w.heap.size, 1, none⟩ = some (.int .i64 (rn : Int)) := fun y => xc 1 _ rfl y.w y.h
  have E2 : ∀ y : Sub W.heap.size W, y.w.cell? ⟨w.heap.size, 2, none⟩ = some (.int .i64 e.k) := fun y => xc 2 _ rfl y.w y.h
  have E3 : ∀ y : Sub W.heap.size W, y.w.cell? ⟨w.heap.size, 3, none⟩ = some (.int .i64 e.n) := fun y => xc 3 _ rfl y.w y.h
  have E4 : ∀ y : Sub W.heap.size W, y.w.cell? ⟨w.heap.size, 4, none⟩ = some (.string e.s) := fun y => xc 4 _ rfl y.w y.h
  have E5 : ∀ y : Sub W.heap.size W, y.w.cell? ⟨w.heap.size, 5, none⟩ = some (.slice b e.l.length cap) := fun y => xc 5 _ rfl y.w y.h
  have Y1 := hide (xc 1 _ rfl)
  have Y2 := hide (xc 2 _ rfl)
  have Y3 := hide (xc 3 _ rfl)
  have Y4 := hide (xc 4 _ rfl)
  have Y5 := hide (xc 5 _ rfl)
  have MK := hide (fun x w1 => markS_ex x w1)
  have RG := hide (fun w1 => regS rn hrn w1)
  have RN := hide (fun w1 => rndS rn hrn w1)
  have AT : agT ⟨1, (rn : Int), e⟩ = rnT rn := rfl
  rw [AT]
  clear AT ok hr hrW hW xc xl hbW hrn
  generalize e.k = ek at *
  generalize e.n = en at *
  generalize e.s = es at *
  generalize e.l.length = el at *
  unfold Tk.v Tk.cs at MK RG
  simp only at MK RG
  have rl := rnT_le rn
  have rne := rnT_ne rn
  generalize rnT rn = rt at *
  obtain ⟨T, hT⟩ : ∃ T, rt = T := ⟨_, rfl⟩
  have HT := hide hT
  rw [hT]
  clear hT
  have l0 : ([] : List Tk).length ≤ 0 := Nat.le_refl 0
  obtain ⟨y1, hy1⟩ := Sub.step (unhide HZ) (below_new y0.w (.cells #[] 59))
  have O1 := hide (show OwnT y1.w W.heap.size (.slice (some ⟨y0.w.heap.size, 0, none⟩) 0 0) [] by rw [← hy1]; exact ownT_empty y0.w W.heap.size (Nat.le_trans (unhide HZ) y0.h.size))
  go_enter Tryz.func60, Tryz.ntmps60
  go_wp2_with fail
  refine (unhide RN y1.w).mono ?_
  rintro r w2 ⟨vs, rfl, hS, hb⟩
  have O2 := hide ((unhide O1).later hb)
  clear O1
  obtain ⟨y2, rfl⟩ := Sub.step (unhide HZ) hb
  clear hb
  have SR := hide hS
  clear hS
  go_wp2_with (at_builtin; go_must (refine appT rfl (.tmp 29) (.tmp 32) rfl (unhide HZ) y2.h rfl (unhide O2) rfl (unhide SR) rne (lsum l0 rl (by decide)) ?_; intro v3 y3 hO; obtain ⟨u3, hu⟩ : ∃ u, ([] ++ rt) = u := ⟨_, rfl⟩; rw [hu] at hO; have l3 := lapp hu l0 rl; have O3 := hide hO; have H3 := hide hu; clear hO hu O2 SR))
  have EQ : u3 = T := by
    rw [← unhide HT]
    rw [← unhide H3]
    simp [mkT, mkS]
  rw [EQ] at O3
  go_ret
  exact ⟨_, rfl, unhide HO y3 _ _ (unhide O3), unhide HB y3⟩
set_option maxHeartbeats 8000000 in
theorem agt2 (rn : Nat) (hrn : rn < 8) (e : Ex) (ok : True) (b : Option Addr) (cap : Nat) (w : World) (hr : RdX w 0 e b) : Calls Tryz.prog 60 #[.agg #[.int .i64 2, .int .i64 (rn : Int), .int .i64 e.k, .int .i64 e.n, .string e.s, .slice b e.l.length cap]] w fun r w' => ∃ v, r = .returned v ∧ OwnT w' w.heap.size v (agT ⟨2, (rn : Int), e⟩) ∧ Below w.heap.size w w' := by
  have hbW := below_new w (.cells #[.int .i64 2, .int .i64 (rn : Int), .int .i64 e.k, .int .i64 e.n, .string e.s, .slice b e.l.length cap] 35)
  obtain ⟨W, hW⟩ : ∃ W, w.alloc (.cells #[.int .i64 2, .int .i64 (rn : Int), .int .i64 e.k, .int .i64 e.n, .string e.s, .slice b e.l.length cap] 35) = W := ⟨_, rfl⟩
  have xl : w.heap.size < W.heap.size := by rw [← hW]; simp
  have hrW := hr.later hbW
  have xc : ∀ (i : Nat) (v : Value), (#[.int .i64 2, .int .i64 (rn : Int), .int .i64 e.k, .int .i64 e.n, .string e.s, .slice b e.l.length cap] : Array Value)[i]? = some v → ∀ w1, Below W.heap.size W w1 → w1.cell? ⟨w.heap.size, i, none⟩ = some v := fun i v h w1 hb => (hb.cell (p := ⟨w.heap.size, i, none⟩) xl).trans (by rw [← hW]; exact box17 w _ _ i v h)
  rw [hW] at hbW hrW
  obtain ⟨y0, hy0⟩ : ∃ z : Sub W.heap.size W, w.alloc (.cells #[.int .i64 2, .int .i64 (rn : Int), .int .i64 e.k, .int .i64 e.n, .string e.s, .slice b e.l.length cap] 35) = z.w := ⟨⟨W, Below.refl _ _⟩, hW⟩
  have ne := Sub.ne W.heap.size W
  have HZ := hide (Nat.le_refl W.heap.size)
  have HB := hide (fun y : Sub W.heap.size W => hbW.trans (y.h.mono hbW.size))
  have HO := hide (fun (y : Sub W.heap.size W) v ts (h : OwnT y.w W.heap.size v ts) => h.base hbW.size)
  have E0 : ∀ y : Sub W.heap.size W, y.w.cell? ⟨w.heap.size, 0, none⟩ = some (.int .i64 2) := fun y => xc 0 _ rfl y.w y.h
  have E1 : ∀ y : Sub W.heap.size W, y.w.cell? ⟨w.heap.size, 1, none⟩ = some (.int .i64 (rn : Int)) := fun y => xc 1 _ rfl y.w y.h
  have E2 : ∀ y : Sub W.heap.size W, y.w.cell? ⟨w.heap.size, 2, none⟩ = some (.int .i64 e.k) := fun y => xc 2 _ rfl y.w y.h
  have E3 : ∀ y : Sub W.heap.size W, y.w.cell? ⟨w.heap.size, 3, none⟩ = some (.int .i64 e.n) := fun y => xc 3 _ rfl y.w y.h
  have E4 : ∀ y : Sub W.heap.size W, y.w.cell? ⟨w.heap.size, 4, none⟩ = some (.string e.s) := fun y => xc 4 _ rfl y.w y.h
  have E5 : ∀ y : Sub W.heap.size W, y.w.cell? ⟨w.heap.size, 5, none⟩ = some (.slice b e.l.length cap) := fun y => xc 5 _ rfl y.w y.h
  have Y1 := hide (xc 1 _ rfl)
  have Y2 := hide (xc 2 _ rfl)
  have Y3 := hide (xc 3 _ rfl)
  have Y4 := hide (xc 4 _ rfl)
  have Y5 := hide (xc 5 _ rfl)
  have MK := hide (fun x w1 => markS_ex x w1)
  have RG := hide (fun w1 => regS rn hrn w1)
  have RN := hide (fun w1 => rndS rn hrn w1)
  have AT : agT ⟨2, (rn : Int), e⟩ = rnT rn ++ [mkT 43] := rfl
  rw [AT]
  clear AT ok hr hrW hW xc xl hbW hrn
  generalize e.k = ek at *
  generalize e.n = en at *
  generalize e.s = es at *
  generalize e.l.length = el at *
  unfold Tk.v Tk.cs at MK RG
  simp only at MK RG
  have rl := rnT_le rn
  have rne := rnT_ne rn
  generalize rnT rn = rt at *
  obtain ⟨T, hT⟩ : ∃ T, rt ++ [mkT 43] = T := ⟨_, rfl⟩
  have HT := hide hT
  rw [hT]
  clear hT
  have l0 : ([] : List Tk).length ≤ 0 := Nat.le_refl 0
  obtain ⟨y1, hy1⟩ := Sub.step (unhide HZ) (below_new y0.w (.cells #[] 59))
  have O1 := hide (show OwnT y1.w W.heap.size (.slice (some ⟨y0.w.heap.size, 0, none⟩) 0 0) [] by rw [← hy1]; exact ownT_empty y0.w W.heap.size (Nat.le_trans (unhide HZ) y0.h.size))
  go_enter Tryz.func60, Tryz.ntmps60
  go_wp2_with fail
  refine (unhide RN y1.w).mono ?_
  rintro r w2 ⟨vs, rfl, hS, hb⟩
  have O2 := hide ((unhide O1).later hb)
  clear O1
  obtain ⟨y2, rfl⟩ := Sub.step (unhide HZ) hb
  clear hb
  have SR := hide hS
  clear hS
  go_wp2_with (at_builtin; go_must (refine appT rfl (.tmp 37) (.tmp 40) rfl (unhide HZ) y2.h rfl (unhide O2) rfl (unhide SR) rne (lsum l0 rl (by decide)) ?_; intro v3 y3 hO; obtain ⟨u3, hu⟩ : ∃ u, ([] ++ rt) = u := ⟨_, rfl⟩; rw [hu] at hO; have l3 := lapp hu l0 rl; have O3 := hide hO; have H3 := hide hu; clear hO hu O2 SR))
  refine (unhide MK ⟨#[43]⟩ y3.w).mono ?_
  rintro r w4 ⟨rfl, hb⟩
  have O4 := hide ((unhide O3).later hb)
  clear O3
  obtain ⟨y4, rfl⟩ := Sub.step (unhide HZ) hb
  clear hb
  obtain ⟨y5, hy5⟩ := Sub.step (unhide HZ) (below_new y4.w (.cells #[.int .i64 4, .int .i64 0, .string ⟨#[43]⟩] 59))
  have S5 := hide (show OwnT y5.w W.heap.size (.slice (some ⟨y4.w.heap.size, 0, none⟩) 1 1) [(Tk.mk 4 0 ⟨#[43]⟩)] by rw [← hy5]; exact ownT_new y4.w (Tk.mk 4 0 ⟨#[43]⟩) W.heap.size (Nat.le_trans (unhide HZ) y4.h.size))
  have O5 := hide (show OwnT y5.w W.heap.size (v3) u3 by rw [← hy5]; exact (unhide O4).later (below_new _ _))
  clear O4
  go_wp2_with (at_builtin; go_must (refine appT rfl (.tmp 41) (.tmp 43) rfl (unhide HZ) y5.h rfl (unhide O5) rfl (unhide S5) (one_ne _) (lsum l3 (one_le _) (by decide)) ?_; intro v6 y6 hO; obtain ⟨u6, hu⟩ : ∃ u, (u3 ++ [(Tk.mk 4 0 ⟨#[43]⟩)]) = u := ⟨_, rfl⟩; rw [hu] at hO; have l6 := lapp hu l3 (one_le _); have O6 := hide hO; have H6 := hide hu; clear hO hu O5 S5))
  have EQ : u6 = T := by
    rw [← unhide HT]
    rw [← unhide H6, ← unhide H3]
    simp [mkT, mkS]
  rw [EQ] at O6
  go_ret
  exact ⟨_, rfl, unhide HO y6 _ _ (unhide O6), unhide HB y6⟩
set_option maxHeartbeats 8000000 in
theorem agt3 (rn : Nat) (hrn : rn < 8) (e : Ex) (ok : True) (b : Option Addr) (cap : Nat) (w : World) (hr : RdX w 0 e b) : Calls Tryz.prog 60 #[.agg #[.int .i64 3, .int .i64 (rn : Int), .int .i64 e.k, .int .i64 e.n, .string e.s, .slice b e.l.length cap]] w fun r w' => ∃ v, r = .returned v ∧ OwnT w' w.heap.size v (agT ⟨3, (rn : Int), e⟩) ∧ Below w.heap.size w w' := by
  have hbW := below_new w (.cells #[.int .i64 3, .int .i64 (rn : Int), .int .i64 e.k, .int .i64 e.n, .string e.s, .slice b e.l.length cap] 35)
  obtain ⟨W, hW⟩ : ∃ W, w.alloc (.cells #[.int .i64 3, .int .i64 (rn : Int), .int .i64 e.k, .int .i64 e.n, .string e.s, .slice b e.l.length cap] 35) = W := ⟨_, rfl⟩
  have xl : w.heap.size < W.heap.size := by rw [← hW]; simp
  have hrW := hr.later hbW
  have xc : ∀ (i : Nat) (v : Value), (#[.int .i64 3, .int .i64 (rn : Int), .int .i64 e.k, .int .i64 e.n, .string e.s, .slice b e.l.length cap] : Array Value)[i]? = some v → ∀ w1, Below W.heap.size W w1 → w1.cell? ⟨w.heap.size, i, none⟩ = some v := fun i v h w1 hb => (hb.cell (p := ⟨w.heap.size, i, none⟩) xl).trans (by rw [← hW]; exact box17 w _ _ i v h)
  rw [hW] at hbW hrW
  obtain ⟨y0, hy0⟩ : ∃ z : Sub W.heap.size W, w.alloc (.cells #[.int .i64 3, .int .i64 (rn : Int), .int .i64 e.k, .int .i64 e.n, .string e.s, .slice b e.l.length cap] 35) = z.w := ⟨⟨W, Below.refl _ _⟩, hW⟩
  have ne := Sub.ne W.heap.size W
  have HZ := hide (Nat.le_refl W.heap.size)
  have HB := hide (fun y : Sub W.heap.size W => hbW.trans (y.h.mono hbW.size))
  have HO := hide (fun (y : Sub W.heap.size W) v ts (h : OwnT y.w W.heap.size v ts) => h.base hbW.size)
  have E0 : ∀ y : Sub W.heap.size W, y.w.cell? ⟨w.heap.size, 0, none⟩ = some (.int .i64 3) := fun y => xc 0 _ rfl y.w y.h
  have E1 : ∀ y : Sub W.heap.size W, y.w.cell? ⟨w.heap.size, 1, none⟩ = some (.int .i64 (rn : Int)) := fun y => xc 1 _ rfl y.w y.h
  have E2 : ∀ y : Sub W.heap.size W, y.w.cell? ⟨w.heap.size, 2, none⟩ = some (.int .i64 e.k) := fun y => xc 2 _ rfl y.w y.h
  have E3 : ∀ y : Sub W.heap.size W, y.w.cell? ⟨w.heap.size, 3, none⟩ = some (.int .i64 e.n) := fun y => xc 3 _ rfl y.w y.h
  have E4 : ∀ y : Sub W.heap.size W, y.w.cell? ⟨w.heap.size, 4, none⟩ = some (.string e.s) := fun y => xc 4 _ rfl y.w y.h
  have E5 : ∀ y : Sub W.heap.size W, y.w.cell? ⟨w.heap.size, 5, none⟩ = some (.slice b e.l.length cap) := fun y => xc 5 _ rfl y.w y.h
  have Y1 := hide (xc 1 _ rfl)
  have Y2 := hide (xc 2 _ rfl)
  have Y3 := hide (xc 3 _ rfl)
  have Y4 := hide (xc 4 _ rfl)
  have Y5 := hide (xc 5 _ rfl)
  have MK := hide (fun x w1 => markS_ex x w1)
  have RG := hide (fun w1 => regS rn hrn w1)
  have RN := hide (fun w1 => rndS rn hrn w1)
  have AT : agT ⟨3, (rn : Int), e⟩ = mkT 64 :: (rnT rn ++ [mkT 43]) := rfl
  rw [AT]
  clear AT ok hr hrW hW xc xl hbW hrn
  generalize e.k = ek at *
  generalize e.n = en at *
  generalize e.s = es at *
  generalize e.l.length = el at *
  unfold Tk.v Tk.cs at MK RG
  simp only at MK RG
  have rl := rnT_le rn
  have rne := rnT_ne rn
  generalize rnT rn = rt at *
  obtain ⟨T, hT⟩ : ∃ T, mkT 64 :: (rt ++ [mkT 43]) = T := ⟨_, rfl⟩
  have HT := hide hT
  rw [hT]
  clear hT
  have l0 : ([] : List Tk).length ≤ 0 := Nat.le_refl 0
  obtain ⟨y1, hy1⟩ := Sub.step (unhide HZ) (below_new y0.w (.cells #[] 59))
  have O1 := hide (show OwnT y1.w W.heap.size (.slice (some ⟨y0.w.heap.size, 0, none⟩) 0 0) [] by rw [← hy1]; exact ownT_empty y0.w W.heap.size (Nat.le_trans (unhide HZ) y0.h.size))
  go_enter Tryz.func60, Tryz.ntmps60
  go_wp2_with fail
  refine (unhide MK ⟨#[64]⟩ y1.w).mono ?_
  rintro r w2 ⟨rfl, hb⟩
  have O2 := hide ((unhide O1).later hb)
  clear O1
  obtain ⟨y2, rfl⟩ := Sub.step (unhide HZ) hb
  clear hb
  obtain ⟨y3, hy3⟩ := Sub.step (unhide HZ) (below_new y2.w (.cells #[.int .i64 4, .int .i64 0, .string ⟨#[64]⟩] 59))
  have S3 := hide (show OwnT y3.w W.heap.size (.slice (some ⟨y2.w.heap.size, 0, none⟩) 1 1) [(Tk.mk 4 0 ⟨#[64]⟩)] by rw [← hy3]; exact ownT_new y2.w (Tk.mk 4 0 ⟨#[64]⟩) W.heap.size (Nat.le_trans (unhide HZ) y2.h.size))
  have O3 := hide (show OwnT y3.w W.heap.size (.slice (some ⟨y0.w.heap.size, 0, none⟩) 0 0) [] by rw [← hy3]; exact (unhide O2).later (below_new _ _))
  clear O2
  go_wp2_with (at_builtin; go_must (refine appT rfl (.tmp 13) (.tmp 15) rfl (unhide HZ) y3.h rfl (unhide O3) rfl (unhide S3) (one_ne _) (lsum l0 (one_le _) (by decide)) ?_; intro v4 y4 hO; obtain ⟨u4, hu⟩ : ∃ u, ([] ++ [(Tk.mk 4 0 ⟨#[64]⟩)]) = u := ⟨_, rfl⟩; rw [hu] at hO; have l4 := lapp hu l0 (one_le _); have O4 := hide hO; have H4 := hide hu; clear hO hu O3 S3))
  refine (unhide RN y4.w).mono ?_
  rintro r w5 ⟨vs, rfl, hS, hb⟩
  have O5 := hide ((unhide O4).later hb)
  clear O4
  obtain ⟨y5, rfl⟩ := Sub.step (unhide HZ) hb
  clear hb
  have SR := hide hS
  clear hS
  go_wp2_with (at_builtin; go_must (refine appT rfl (.tmp 37) (.tmp 40) rfl (unhide HZ) y5.h rfl (unhide O5) rfl (unhide SR) rne (lsum l4 rl (by decide)) ?_; intro v6 y6 hO; obtain ⟨u6, hu⟩ : ∃ u, (u4 ++ rt) = u := ⟨_, rfl⟩; rw [hu] at hO; have l6 := lapp hu l4 rl; have O6 := hide hO; have H6 := hide hu; clear hO hu O5 SR))
  refine (unhide MK ⟨#[43]⟩ y6.w).mono ?_
  rintro r w7 ⟨rfl, hb⟩
  have O7 := hide ((unhide O6).later hb)
  clear O6
  obtain ⟨y7, rfl⟩ := Sub.step (unhide HZ) hb
  clear hb
  obtain ⟨y8, hy8⟩ := Sub.step (unhide HZ) (below_new y7.w (.cells #[.int .i64 4, .int .i64 0, .string ⟨#[43]⟩] 59))
  have S8 := hide (show OwnT y8.w W.heap.size (.slice (some ⟨y7.w.heap.size, 0, none⟩) 1 1) [(Tk.mk 4 0 ⟨#[43]⟩)] by rw [← hy8]; exact ownT_new y7.w (Tk.mk 4 0 ⟨#[43]⟩) W.heap.size (Nat.le_trans (unhide HZ) y7.h.size))
  have O8 := hide (show OwnT y8.w W.heap.size (v6) u6 by rw [← hy8]; exact (unhide O7).later (below_new _ _))
  clear O7
  go_wp2_with (at_builtin; go_must (refine appT rfl (.tmp 41) (.tmp 43) rfl (unhide HZ) y8.h rfl (unhide O8) rfl (unhide S8) (one_ne _) (lsum l6 (one_le _) (by decide)) ?_; intro v9 y9 hO; obtain ⟨u9, hu⟩ : ∃ u, (u6 ++ [(Tk.mk 4 0 ⟨#[43]⟩)]) = u := ⟨_, rfl⟩; rw [hu] at hO; have l9 := lapp hu l6 (one_le _); have O9 := hide hO; have H9 := hide hu; clear hO hu O8 S8))
  have EQ : u9 = T := by
    rw [← unhide HT]
    rw [← unhide H9, ← unhide H6, ← unhide H4]
    simp [mkT, mkS]
  rw [EQ] at O9
  go_ret
  exact ⟨_, rfl, unhide HO y9 _ _ (unhide O9), unhide HB y9⟩
set_option maxHeartbeats 8000000 in
theorem agt4 (rn : Nat) (hrn : rn < 8) (e : Ex) (ok : True) (b : Option Addr) (cap : Nat) (w : World) (hr : RdX w 0 e b) : Calls Tryz.prog 60 #[.agg #[.int .i64 4, .int .i64 (rn : Int), .int .i64 e.k, .int .i64 e.n, .string e.s, .slice b e.l.length cap]] w fun r w' => ∃ v, r = .returned v ∧ OwnT w' w.heap.size v (agT ⟨4, (rn : Int), e⟩) ∧ Below w.heap.size w w' := by
  have hbW := below_new w (.cells #[.int .i64 4, .int .i64 (rn : Int), .int .i64 e.k, .int .i64 e.n, .string e.s, .slice b e.l.length cap] 35)
  obtain ⟨W, hW⟩ : ∃ W, w.alloc (.cells #[.int .i64 4, .int .i64 (rn : Int), .int .i64 e.k, .int .i64 e.n, .string e.s, .slice b e.l.length cap] 35) = W := ⟨_, rfl⟩
  have xl : w.heap.size < W.heap.size := by rw [← hW]; simp
  have hrW := hr.later hbW
  have xc : ∀ (i : Nat) (v : Value), (#[.int .i64 4, .int .i64 (rn : Int), .int .i64 e.k, .int .i64 e.n, .string e.s, .slice b e.l.length cap] : Array Value)[i]? = some v → ∀ w1, Below W.heap.size W w1 → w1.cell? ⟨w.heap.size, i, none⟩ = some v := fun i v h w1 hb => (hb.cell (p := ⟨w.heap.size, i, none⟩) xl).trans (by rw [← hW]; exact box17 w _ _ i v h)
  rw [hW] at hbW hrW
  obtain ⟨y0, hy0⟩ : ∃ z : Sub W.heap.size W, w.alloc (.cells #[.int .i64 4, .int .i64 (rn : Int), .int .i64 e.k, .int .i64 e.n, .string e.s, .slice b e.l.length cap] 35) = z.w := ⟨⟨W, Below.refl _ _⟩, hW⟩
  have ne := Sub.ne W.heap.size W
  have HZ := hide (Nat.le_refl W.heap.size)
  have HB := hide (fun y : Sub W.heap.size W => hbW.trans (y.h.mono hbW.size))
  have HO := hide (fun (y : Sub W.heap.size W) v ts (h : OwnT y.w W.heap.size v ts) => h.base hbW.size)
  have E0 : ∀ y : Sub W.heap.size W, y.w.cell? ⟨w.heap.size, 0, none⟩ = some (.int .i64 4) := fun y => xc 0 _ rfl y.w y.h
  have E1 : ∀ y : Sub W.heap.size W, y.w.cell? ⟨w.heap.size, 1, none⟩ = some (.int .i64 (rn : Int)) := fun y => xc 1 _ rfl y.w y.h
  have E2 : ∀ y : Sub W.heap.size W, y.w.cell? ⟨w.heap.size, 2, none⟩ = some (.int .i64 e.k) := fun y => xc 2 _ rfl y.w y.h
  have E3 : ∀ y : Sub W.heap.size W, y.w.cell? ⟨w.heap.size, 3, none⟩ = some (.int .i64 e.n) := fun y => xc 3 _ rfl y.w y.h
  have E4 : ∀ y : Sub W.heap.size W, y.w.cell? ⟨w.heap.size, 4, none⟩ = some (.string e.s) := fun y => xc 4 _ rfl y.w y.h
  have E5 : ∀ y : Sub W.heap.size W, y.w.cell? ⟨w.heap.size, 5, none⟩ = some (.slice b e.l.length cap) := fun y => xc 5 _ rfl y.w y.h
  have Y1 := hide (xc 1 _ rfl)
  have Y2 := hide (xc 2 _ rfl)
  have Y3 := hide (xc 3 _ rfl)
  have Y4 := hide (xc 4 _ rfl)
  have Y5 := hide (xc 5 _ rfl)
  have MK := hide (fun x w1 => markS_ex x w1)
  have RG := hide (fun w1 => regS rn hrn w1)
  have RN := hide (fun w1 => rndS rn hrn w1)
  have AT : agT ⟨4, (rn : Int), e⟩ = mkT 45 :: rnT rn := rfl
  rw [AT]
  clear AT ok hr hrW hW xc xl hbW hrn
  generalize e.k = ek at *
  generalize e.n = en at *
  generalize e.s = es at *
  generalize e.l.length = el at *
  unfold Tk.v Tk.cs at MK RG
  simp only at MK RG
  have rl := rnT_le rn
  have rne := rnT_ne rn
  generalize rnT rn = rt at *
  obtain ⟨T, hT⟩ : ∃ T, mkT 45 :: rt = T := ⟨_, rfl⟩
  have HT := hide hT
  rw [hT]
  clear hT
  have l0 : ([] : List Tk).length ≤ 0 := Nat.le_refl 0
  obtain ⟨y1, hy1⟩ := Sub.step (unhide HZ) (below_new y0.w (.cells #[] 59))
  have O1 := hide (show OwnT y1.w W.heap.size (.slice (some ⟨y0.w.heap.size, 0, none⟩) 0 0) [] by rw [← hy1]; exact ownT_empty y0.w W.heap.size (Nat.le_trans (unhide HZ) y0.h.size))
  go_enter Tryz.func60, Tryz.ntmps60
  go_wp2_with fail
  obtain ⟨y2, hy2⟩ := Sub.step (unhide HZ) (below_drew (w := y1.w))
  have O2 := hide (show OwnT y2.w W.heap.size (.slice (some ⟨y0.w.heap.size, 0, none⟩) 0 0) [] by rw [← hy2]; exact (unhide O1).later below_drew)
  have D0 := hide (show Below W.heap.size W y1.w.drew by rw [hy2]; exact y2.h)
  refine wp_region_held_drew (S := fun w' => Below W.heap.size W w') (by kernel_rfl) (unhide D0) (fun hS => ?_)
  have HS := hide hS
  clear hS D0 O1
  rw [hy2] at HS ⊢
  refine wpAnyH_take (i := 0) (v := .slice (some ⟨y0.w.heap.size, 0, none⟩) 0 0) rfl (by kernel_rfl) (by kernel_rfl) (by kernel_rfl) (fun _ _ _ h => h) (Or.inl ⟨by rfl, fun w hc => ?_⟩) (unhide HS) ?_
  · clear hc; go_simp
  go_simp
  refine wpAnyH_take (i := 4) (v := .pointer (some ⟨w.heap.size, 1, none⟩)) rfl (by kernel_rfl) (by kernel_rfl) (by kernel_rfl) (fun _ _ _ h => h) (Or.inl ⟨by rfl, fun w hc => ?_⟩) (unhide HS) ?_
  · clear hc; go_simp
  go_simp
  refine wpAnyH_take (i := 5) (v := .int .i64 (rn : Int)) rfl (by kernel_rfl) (by kernel_rfl) (by kernel_rfl) (fun _ _ _ h => h) (Or.inl ⟨by rfl, fun w hc => ?_⟩) (unhide HS) ?_
  · have q := unhide Y1 _ hc; clear hc; go_simp
  go_simp
  refine wpAnyH_ready (rs := [1]) (by kernel_rfl) (by simp) ?_
  refine AllReadyH.cons rfl (fun K2 hK => ?_) AllReadyH.nil
  go_simp
  refine (unhide MK ⟨#[45]⟩ y2.w).mono ?_
  rintro r w3 ⟨rfl, hb⟩
  have O3 := hide ((unhide O2).later hb)
  clear O2
  obtain ⟨y3, rfl⟩ := Sub.step (unhide HZ) hb
  clear hb
  refine hK.out _ _ (y3.h) (fun hS => ?_)
  clear HS
  have HS := hide hS
  clear hS hK K2
  refine wpAnyH_ready (rs := [2]) (by kernel_rfl) (by simp) ?_
  refine AllReadyH.cons rfl (fun K2 hK => ?_) AllReadyH.nil
  obtain ⟨y4, hy4⟩ := Sub.step (unhide HZ) (below_new y3.w (.cells #[.int .i64 4, .int .i64 0, .string ⟨#[45]⟩] 59))
  have S4 := hide (show OwnT y4.w W.heap.size (.slice (some ⟨y3.w.heap.size, 0, none⟩) 1 1) [(Tk.mk 4 0 ⟨#[45]⟩)] by rw [← hy4]; exact ownT_new y3.w (Tk.mk 4 0 ⟨#[45]⟩) W.heap.size (Nat.le_trans (unhide HZ) y3.h.size))
  have O4 := hide (show OwnT y4.w W.heap.size (.slice (some ⟨y0.w.heap.size, 0, none⟩) 0 0) [] by rw [← hy4]; exact (unhide O3).later (below_new _ _))
  clear O3
  go_simp
  refine hK.out _ _ (y4.h) (fun hS => ?_)
  clear HS
  have HS := hide hS
  clear hS hK K2
  refine wpAnyH_ready (rs := [3]) (by kernel_rfl) (by simp) ?_
  refine AllReadyH.cons rfl (fun K2 hK => ?_) AllReadyH.nil
  rw [if_pos (by rfl)]
  refine wp_appT (.tmp 48) (.tmp 50) rfl (unhide HZ) y4.h rfl (unhide O4) rfl (unhide S4) (one_ne _) (lsum l0 (one_le _) (by decide)) ?_
  intro v5 y5 hO
  obtain ⟨u5, hu⟩ : ∃ u, ([] ++ [(Tk.mk 4 0 ⟨#[45]⟩)]) = u := ⟨_, rfl⟩
  rw [hu] at hO
  have l5 := lapp hu l0 (one_le _)
  have O5 := hide hO
  have H5 := hide hu
  clear hO hu O4 S4
  refine hK.out _ _ (y5.h) (fun hS => ?_)
  clear HS
  have HS := hide hS
  clear hS hK K2
  refine wpAnyH_ready (rs := [6]) (by kernel_rfl) (by simp) ?_
  refine AllReadyH.cons rfl (fun K2 hK => ?_) AllReadyH.nil
  go_simp
  refine (unhide RN y5.w).mono ?_
  rintro r w6 ⟨vs, rfl, hS, hb⟩
  have O6 := hide ((unhide O5).later hb)
  clear O5
  obtain ⟨y6, rfl⟩ := Sub.step (unhide HZ) hb
  clear hb
  have SR := hide hS
  clear hS
  refine hK.out _ _ (y6.h) (fun hS => ?_)
  clear HS
  have HS := hide hS
  clear hS hK K2
  refine wpAnyH_ready (rs := [7]) (by kernel_rfl) (by simp) ?_
  refine AllReadyH.cons rfl (fun K2 hK => ?_) AllReadyH.nil
  rw [if_pos (by rfl)]
  refine wp_appT (.tmp 51) (.tmp 54) rfl (unhide HZ) y6.h rfl (unhide O6) rfl (unhide SR) rne (lsum l5 rl (by decide)) ?_
  intro v7 y7 hO
  obtain ⟨u7, hu⟩ : ∃ u, (u5 ++ rt) = u := ⟨_, rfl⟩
  rw [hu] at hO
  have l7 := lapp hu l5 rl
  have O7 := hide hO
  have H7 := hide hu
  clear hO hu O6 SR
  refine hK.out _ _ (y7.h) (fun hS => ?_)
  clear HS
  have HS := hide hS
  clear hS hK K2
  refine wpAnyH_take (i := 8) (v := v7) rfl (by kernel_rfl) (by kernel_rfl) (by kernel_rfl) (fun _ _ _ h => h) (Or.inl ⟨by rfl, fun w hc => ?_⟩) (unhide HS) ?_
  · clear hc; go_simp
  go_simp
  refine wpAnyH_done (by kernel_rfl) ?_ _
  clear HS
  go_wp2_with fail
  have EQ : u7 = T := by
    rw [← unhide HT]
    rw [← unhide H7, ← unhide H5]
    simp [mkT, mkS]
  rw [EQ] at O7
  go_ret
  exact ⟨_, rfl, unhide HO y7 _ _ (unhide O7), unhide HB y7⟩
set_option maxHeartbeats 8000000 in
theorem agt5 (rn : Nat) (hrn : rn < 8) (e : Ex) (ok : True) (b : Option Addr) (cap : Nat) (w : World) (hr : RdX w 0 e b) : Calls Tryz.prog 60 #[.agg #[.int .i64 5, .int .i64 (rn : Int), .int .i64 e.k, .int .i64 e.n, .string e.s, .slice b e.l.length cap]] w fun r w' => ∃ v, r = .returned v ∧ OwnT w' w.heap.size v (agT ⟨5, (rn : Int), e⟩) ∧ Below w.heap.size w w' := by
  have hbW := below_new w (.cells #[.int .i64 5, .int .i64 (rn : Int), .int .i64 e.k, .int .i64 e.n, .string e.s, .slice b e.l.length cap] 35)
  obtain ⟨W, hW⟩ : ∃ W, w.alloc (.cells #[.int .i64 5, .int .i64 (rn : Int), .int .i64 e.k, .int .i64 e.n, .string e.s, .slice b e.l.length cap] 35) = W := ⟨_, rfl⟩
  have xl : w.heap.size < W.heap.size := by rw [← hW]; simp
  have hrW := hr.later hbW
  have xc : ∀ (i : Nat) (v : Value), (#[.int .i64 5, .int .i64 (rn : Int), .int .i64 e.k, .int .i64 e.n, .string e.s, .slice b e.l.length cap] : Array Value)[i]? = some v → ∀ w1, Below W.heap.size W w1 → w1.cell? ⟨w.heap.size, i, none⟩ = some v := fun i v h w1 hb => (hb.cell (p := ⟨w.heap.size, i, none⟩) xl).trans (by rw [← hW]; exact box17 w _ _ i v h)
  rw [hW] at hbW hrW
  obtain ⟨y0, hy0⟩ : ∃ z : Sub W.heap.size W, w.alloc (.cells #[.int .i64 5, .int .i64 (rn : Int), .int .i64 e.k, .int .i64 e.n, .string e.s, .slice b e.l.length cap] 35) = z.w := ⟨⟨W, Below.refl _ _⟩, hW⟩
  have ne := Sub.ne W.heap.size W
  have HZ := hide (Nat.le_refl W.heap.size)
  have HB := hide (fun y : Sub W.heap.size W => hbW.trans (y.h.mono hbW.size))
  have HO := hide (fun (y : Sub W.heap.size W) v ts (h : OwnT y.w W.heap.size v ts) => h.base hbW.size)
  have E0 : ∀ y : Sub W.heap.size W, y.w.cell? ⟨w.heap.size, 0, none⟩ = some (.int .i64 5) := fun y => xc 0 _ rfl y.w y.h
  have E1 : ∀ y : Sub W.heap.size W, y.w.cell? ⟨w.heap.size, 1, none⟩ = some (.int .i64 (rn : Int)) := fun y => xc 1 _ rfl y.w y.h
  have E2 : ∀ y : Sub W.heap.size W, y.w.cell? ⟨w.heap.size, 2, none⟩ = some (.int .i64 e.k) := fun y => xc 2 _ rfl y.w y.h
  have E3 : ∀ y : Sub W.heap.size W, y.w.cell? ⟨w.heap.size, 3, none⟩ = some (.int .i64 e.n) := fun y => xc 3 _ rfl y.w y.h
  have E4 : ∀ y : Sub W.heap.size W, y.w.cell? ⟨w.heap.size, 4, none⟩ = some (.string e.s) := fun y => xc 4 _ rfl y.w y.h
  have E5 : ∀ y : Sub W.heap.size W, y.w.cell? ⟨w.heap.size, 5, none⟩ = some (.slice b e.l.length cap) := fun y => xc 5 _ rfl y.w y.h
  have Y1 := hide (xc 1 _ rfl)
  have Y2 := hide (xc 2 _ rfl)
  have Y3 := hide (xc 3 _ rfl)
  have Y4 := hide (xc 4 _ rfl)
  have Y5 := hide (xc 5 _ rfl)
  have MK := hide (fun x w1 => markS_ex x w1)
  have RG := hide (fun w1 => regS rn hrn w1)
  have RN := hide (fun w1 => rndS rn hrn w1)
  have AT : agT ⟨5, (rn : Int), e⟩ = mkT 64 :: mkT 45 :: rnT rn := rfl
  rw [AT]
  clear AT ok hr hrW hW xc xl hbW hrn
  generalize e.k = ek at *
  generalize e.n = en at *
  generalize e.s = es at *
  generalize e.l.length = el at *
  unfold Tk.v Tk.cs at MK RG
  simp only at MK RG
  have rl := rnT_le rn
  have rne := rnT_ne rn
  generalize rnT rn = rt at *
  obtain ⟨T, hT⟩ : ∃ T, mkT 64 :: mkT 45 :: rt = T := ⟨_, rfl⟩
  have HT := hide hT
  rw [hT]
  clear hT
  have l0 : ([] : List Tk).length ≤ 0 := Nat.le_refl 0
  obtain ⟨y1, hy1⟩ := Sub.step (unhide HZ) (below_new y0.w (.cells #[] 59))
  have O1 := hide (show OwnT y1.w W.heap.size (.slice (some ⟨y0.w.heap.size, 0, none⟩) 0 0) [] by rw [← hy1]; exact ownT_empty y0.w W.heap.size (Nat.le_trans (unhide HZ) y0.h.size))
  go_enter Tryz.func60, Tryz.ntmps60
  go_wp2_with fail
  refine (unhide MK ⟨#[64]⟩ y1.w).mono ?_
  rintro r w2 ⟨rfl, hb⟩
  have O2 := hide ((unhide O1).later hb)
  clear O1
  obtain ⟨y2, rfl⟩ := Sub.step (unhide HZ) hb
  clear hb
  obtain ⟨y3, hy3⟩ := Sub.step (unhide HZ) (below_new y2.w (.cells #[.int .i64 4, .int .i64 0, .string ⟨#[64]⟩] 59))
  have S3 := hide (show OwnT y3.w W.heap.size (.slice (some ⟨y2.w.heap.size, 0, none⟩) 1 1) [(Tk.mk 4 0 ⟨#[64]⟩)] by rw [← hy3]; exact ownT_new y2.w (Tk.mk 4 0 ⟨#[64]⟩) W.heap.size (Nat.le_trans (unhide HZ) y2.h.size))
  have O3 := hide (show OwnT y3.w W.heap.size (.slice (some ⟨y0.w.heap.size, 0, none⟩) 0 0) [] by rw [← hy3]; exact (unhide O2).later (below_new _ _))
  clear O2
  go_wp2_with (at_builtin; go_must (refine appT rfl (.tmp 13) (.tmp 15) rfl (unhide HZ) y3.h rfl (unhide O3) rfl (unhide S3) (one_ne _) (lsum l0 (one_le _) (by decide)) ?_; intro v4 y4 hO; obtain ⟨u4, hu⟩ : ∃ u, ([] ++ [(Tk.mk 4 0 ⟨#[64]⟩)]) = u := ⟨_, rfl⟩; rw [hu] at hO; have l4 := lapp hu l0 (one_le _); have O4 := hide hO; have H4 := hide hu; clear hO hu O3 S3))
  obtain ⟨y5, hy5⟩ := Sub.step (unhide HZ) (below_drew (w := y4.w))
  have O5 := hide (show OwnT y5.w W.heap.size (v4) u4 by rw [← hy5]; exact (unhide O4).later below_drew)
  have D0 := hide (show Below W.heap.size W y4.w.drew by rw [hy5]; exact y5.h)
  refine wp_region_held_drew (S := fun w' => Below W.heap.size W w') (by kernel_rfl) (unhide D0) (fun hS => ?_)
  have HS := hide hS
  clear hS D0 O4
  rw [hy5] at HS ⊢
  refine wpAnyH_take (i := 0) (v := v4) rfl (by kernel_rfl) (by kernel_rfl) (by kernel_rfl) (fun _ _ _ h => h) (Or.inl ⟨by rfl, fun w hc => ?_⟩) (unhide HS) ?_
  · clear hc; go_simp
  go_simp
  refine wpAnyH_take (i := 4) (v := .pointer (some ⟨w.heap.size, 1, none⟩)) rfl (by kernel_rfl) (by kernel_rfl) (by kernel_rfl) (fun _ _ _ h => h) (Or.inl ⟨by rfl, fun w hc => ?_⟩) (unhide HS) ?_
  · clear hc; go_simp
  go_simp
  refine wpAnyH_take (i := 5) (v := .int .i64 (rn : Int)) rfl (by kernel_rfl) (by kernel_rfl) (by kernel_rfl) (fun _ _ _ h => h) (Or.inl ⟨by rfl, fun w hc => ?_⟩) (unhide HS) ?_
  · have q := unhide Y1 _ hc; clear hc; go_simp
  go_simp
  refine wpAnyH_ready (rs := [1]) (by kernel_rfl) (by simp) ?_
  refine AllReadyH.cons rfl (fun K2 hK => ?_) AllReadyH.nil
  go_simp
  refine (unhide MK ⟨#[45]⟩ y5.w).mono ?_
  rintro r w6 ⟨rfl, hb⟩
  have O6 := hide ((unhide O5).later hb)
  clear O5
  obtain ⟨y6, rfl⟩ := Sub.step (unhide HZ) hb
  clear hb
  refine hK.out _ _ (y6.h) (fun hS => ?_)
  clear HS
  have HS := hide hS
  clear hS hK K2
  refine wpAnyH_ready (rs := [2]) (by kernel_rfl) (by simp) ?_
  refine AllReadyH.cons rfl (fun K2 hK => ?_) AllReadyH.nil
  obtain ⟨y7, hy7⟩ := Sub.step (unhide HZ) (below_new y6.w (.cells #[.int .i64 4, .int .i64 0, .string ⟨#[45]⟩] 59))
  have S7 := hide (show OwnT y7.w W.heap.size (.slice (some ⟨y6.w.heap.size, 0, none⟩) 1 1) [(Tk.mk 4 0 ⟨#[45]⟩)] by rw [← hy7]; exact ownT_new y6.w (Tk.mk 4 0 ⟨#[45]⟩) W.heap.size (Nat.le_trans (unhide HZ) y6.h.size))
  have O7 := hide (show OwnT y7.w W.heap.size (v4) u4 by rw [← hy7]; exact (unhide O6).later (below_new _ _))
  clear O6
  go_simp
  refine hK.out _ _ (y7.h) (fun hS => ?_)
  clear HS
  have HS := hide hS
  clear hS hK K2
  refine wpAnyH_ready (rs := [3]) (by kernel_rfl) (by simp) ?_
  refine AllReadyH.cons rfl (fun K2 hK => ?_) AllReadyH.nil
  rw [if_pos (by rfl)]
  refine wp_appT (.tmp 48) (.tmp 50) rfl (unhide HZ) y7.h rfl (unhide O7) rfl (unhide S7) (one_ne _) (lsum l4 (one_le _) (by decide)) ?_
  intro v8 y8 hO
  obtain ⟨u8, hu⟩ : ∃ u, (u4 ++ [(Tk.mk 4 0 ⟨#[45]⟩)]) = u := ⟨_, rfl⟩
  rw [hu] at hO
  have l8 := lapp hu l4 (one_le _)
  have O8 := hide hO
  have H8 := hide hu
  clear hO hu O7 S7
  refine hK.out _ _ (y8.h) (fun hS => ?_)
  clear HS
  have HS := hide hS
  clear hS hK K2
  refine wpAnyH_ready (rs := [6]) (by kernel_rfl) (by simp) ?_
  refine AllReadyH.cons rfl (fun K2 hK => ?_) AllReadyH.nil
  go_simp
  refine (unhide RN y8.w).mono ?_
  rintro r w9 ⟨vs, rfl, hS, hb⟩
  have O9 := hide ((unhide O8).later hb)
  clear O8
  obtain ⟨y9, rfl⟩ := Sub.step (unhide HZ) hb
  clear hb
  have SR := hide hS
  clear hS
  refine hK.out _ _ (y9.h) (fun hS => ?_)
  clear HS
  have HS := hide hS
  clear hS hK K2
  refine wpAnyH_ready (rs := [7]) (by kernel_rfl) (by simp) ?_
  refine AllReadyH.cons rfl (fun K2 hK => ?_) AllReadyH.nil
  rw [if_pos (by rfl)]
  refine wp_appT (.tmp 51) (.tmp 54) rfl (unhide HZ) y9.h rfl (unhide O9) rfl (unhide SR) rne (lsum l8 rl (by decide)) ?_
  intro v10 y10 hO
  obtain ⟨u10, hu⟩ : ∃ u, (u8 ++ rt) = u := ⟨_, rfl⟩
  rw [hu] at hO
  have l10 := lapp hu l8 rl
  have O10 := hide hO
  have H10 := hide hu
  clear hO hu O9 SR
  refine hK.out _ _ (y10.h) (fun hS => ?_)
  clear HS
  have HS := hide hS
  clear hS hK K2
  refine wpAnyH_take (i := 8) (v := v10) rfl (by kernel_rfl) (by kernel_rfl) (by kernel_rfl) (fun _ _ _ h => h) (Or.inl ⟨by rfl, fun w hc => ?_⟩) (unhide HS) ?_
  · clear hc; go_simp
  go_simp
  refine wpAnyH_done (by kernel_rfl) ?_ _
  clear HS
  go_wp2_with fail
  have EQ : u10 = T := by
    rw [← unhide HT]
    rw [← unhide H10, ← unhide H8, ← unhide H4]
    simp [mkT, mkS]
  rw [EQ] at O10
  go_ret
  exact ⟨_, rfl, unhide HO y10 _ _ (unhide O10), unhide HB y10⟩
set_option maxHeartbeats 8000000 in
theorem agt6 (rn : Nat) (hrn : rn < 8) (e : Ex) (ok : okF 6 true e = true) (b : Option Addr) (cap : Nat) (w : World) (hr : RdX w 0 e b) : Calls Tryz.prog 60 #[.agg #[.int .i64 6, .int .i64 (rn : Int), .int .i64 e.k, .int .i64 e.n, .string e.s, .slice b e.l.length cap]] w fun r w' => ∃ v, r = .returned v ∧ OwnT w' w.heap.size v (agT ⟨6, (rn : Int), e⟩) ∧ Below w.heap.size w w' := by
  have hbW := below_new w (.cells #[.int .i64 6, .int .i64 (rn : Int), .int .i64 e.k, .int .i64 e.n, .string e.s, .slice b e.l.length cap] 35)
  obtain ⟨W, hW⟩ : ∃ W, w.alloc (.cells #[.int .i64 6, .int .i64 (rn : Int), .int .i64 e.k, .int .i64 e.n, .string e.s, .slice b e.l.length cap] 35) = W := ⟨_, rfl⟩
  have xl : w.heap.size < W.heap.size := by rw [← hW]; simp
  have hrW := hr.later hbW
  have xc : ∀ (i : Nat) (v : Value), (#[.int .i64 6, .int .i64 (rn : Int), .int .i64 e.k, .int .i64 e.n, .string e.s, .slice b e.l.length cap] : Array Value)[i]? = some v → ∀ w1, Below W.heap.size W w1 → w1.cell? ⟨w.heap.size, i, none⟩ = some v := fun i v h w1 hb => (hb.cell (p := ⟨w.heap.size, i, none⟩) xl).trans (by rw [← hW]; exact box17 w _ _ i v h)
  rw [hW] at hbW hrW
  obtain ⟨y0, hy0⟩ : ∃ z : Sub W.heap.size W, w.alloc (.cells #[.int .i64 6, .int .i64 (rn : Int), .int .i64 e.k, .int .i64 e.n, .string e.s, .slice b e.l.length cap] 35) = z.w := ⟨⟨W, Below.refl _ _⟩, hW⟩
  have ne := Sub.ne W.heap.size W
  have HZ := hide (Nat.le_refl W.heap.size)
  have HB := hide (fun y : Sub W.heap.size W => hbW.trans (y.h.mono hbW.size))
  have HO := hide (fun (y : Sub W.heap.size W) v ts (h : OwnT y.w W.heap.size v ts) => h.base hbW.size)
  have E0 : ∀ y : Sub W.heap.size W, y.w.cell? ⟨w.heap.size, 0, none⟩ = some (.int .i64 6) := fun y => xc 0 _ rfl y.w y.h
  have E1 : ∀ y : Sub W.heap.size W, y.w.cell? ⟨w.heap.size, 1, none⟩ = some (.int .i64 (rn : Int)) := fun y => xc 1 _ rfl y.w y.h
  have E2 : ∀ y : Sub W.heap.size W, y.w.cell? ⟨w.heap.size, 2, none⟩ = some (.int .i64 e.k) := fun y => xc 2 _ rfl y.w y.h
  have E3 : ∀ y : Sub W.heap.size W, y.w.cell? ⟨w.heap.size, 3, none⟩ = some (.int .i64 e.n) := fun y => xc 3 _ rfl y.w y.h
  have E4 : ∀ y : Sub W.heap.size W, y.w.cell? ⟨w.heap.size, 4, none⟩ = some (.string e.s) := fun y => xc 4 _ rfl y.w y.h
  have E5 : ∀ y : Sub W.heap.size W, y.w.cell? ⟨w.heap.size, 5, none⟩ = some (.slice b e.l.length cap) := fun y => xc 5 _ rfl y.w y.h
  have Y1 := hide (xc 1 _ rfl)
  have Y2 := hide (xc 2 _ rfl)
  have Y3 := hide (xc 3 _ rfl)
  have Y4 := hide (xc 4 _ rfl)
  have Y5 := hide (xc 5 _ rfl)
  have MK := hide (fun x w1 => markS_ex x w1)
  have RG := hide (fun w1 => regS rn hrn w1)
  have RN := hide (fun w1 => rndS rn hrn w1)
  have TE := hide (fun y : Sub W.heap.size W => toksS_all 6 (by omega) e b cap y.w ok (hrW.later y.h))
  have tne := toks_ne ok
  have tle : (toksF 6 e).length ≤ 200 := Nat.le_trans (toks_ok 6 e ok).2 (mxT_le 6 (by omega))
  unfold Ex.cs at TE
  have AT : agT ⟨6, (rn : Int), e⟩ = toksF 6 e ++ rnT rn := rfl
  rw [AT]
  clear AT ok hr hrW hW xc xl hbW hrn
  generalize toksF 6 e = te at *
  generalize e.k = ek at *
  generalize e.n = en at *
  generalize e.s = es at *
  generalize e.l.length = el at *
  unfold Tk.v Tk.cs at MK RG
  simp only at MK RG
  have rl := rnT_le rn
  have rne := rnT_ne rn
  generalize rnT rn = rt at *
  obtain ⟨T, hT⟩ : ∃ T, te ++ rt = T := ⟨_, rfl⟩
  have HT := hide hT
  rw [hT]
  clear hT
  have l0 : ([] : List Tk).length ≤ 0 := Nat.le_refl 0
  obtain ⟨y1, hy1⟩ := Sub.step (unhide HZ) (below_new y0.w (.cells #[] 59))
  have O1 := hide (show OwnT y1.w W.heap.size (.slice (some ⟨y0.w.heap.size, 0, none⟩) 0 0) [] by rw [← hy1]; exact ownT_empty y0.w W.heap.size (Nat.le_trans (unhide HZ) y0.h.size))
  go_enter Tryz.func60, Tryz.ntmps60
  go_wp2_with fail
  obtain ⟨y2, hy2⟩ := Sub.step (unhide HZ) (below_drew (w := y1.w))
  have O2 := hide (show OwnT y2.w W.heap.size (.slice (some ⟨y0.w.heap.size, 0, none⟩) 0 0) [] by rw [← hy2]; exact (unhide O1).later below_drew)
  have D0 := hide (show Below W.heap.size W y1.w.drew by rw [hy2]; exact y2.h)
  refine wp_region_held_drew (S := fun w' => Below W.heap.size W w') (by kernel_rfl) (unhide D0) (fun hS => ?_)
  have HS := hide hS
  clear hS D0 O1
  rw [hy2] at HS ⊢
  refine wpAnyH_take (i := 0) (v := .slice (some ⟨y0.w.heap.size, 0, none⟩) 0 0) rfl (by kernel_rfl) (by kernel_rfl) (by kernel_rfl) (fun _ _ _ h => h) (Or.inl ⟨by rfl, fun w hc => ?_⟩) (unhide HS) ?_
  · clear hc; go_simp
  go_simp
  refine wpAnyH_take (i := 1) (v := .pointer (some ⟨w.heap.size, 2, none⟩)) rfl (by kernel_rfl) (by kernel_rfl) (by kernel_rfl) (fun _ _ _ h => h) (Or.inl ⟨by rfl, fun w hc => ?_⟩) (unhide HS) ?_
  · clear hc; go_simp
  go_simp
  refine wpAnyH_take (i := 2) (v := .agg #[.int .i64 ek, .int .i64 en, .string es, .slice b el cap]) rfl (by kernel_rfl) (by kernel_rfl) (by kernel_rfl) (fun _ _ _ h => h) (Or.inl ⟨by rfl, fun w hc => ?_⟩) (unhide HS) ?_
  · have q2 := unhide Y2 _ hc; have q3 := unhide Y3 _ hc; have q4 := unhide Y4 _ hc; have q5 := unhide Y5 _ hc; clear hc; go_simp
  go_simp
  refine wpAnyH_take (i := 5) (v := .pointer (some ⟨w.heap.size, 1, none⟩)) rfl (by kernel_rfl) (by kernel_rfl) (by kernel_rfl) (fun _ _ _ h => h) (Or.inl ⟨by rfl, fun w hc => ?_⟩) (unhide HS) ?_
  · clear hc; go_simp
  go_simp
  refine wpAnyH_take (i := 6) (v := .int .i64 (rn : Int)) rfl (by kernel_rfl) (by kernel_rfl) (by kernel_rfl) (fun _ _ _ h => h) (Or.inl ⟨by rfl, fun w hc => ?_⟩) (unhide HS) ?_
  · have q := unhide Y1 _ hc; clear hc; go_simp
  go_simp
  refine wpAnyH_ready (rs := [3]) (by kernel_rfl) (by simp) ?_
  refine AllReadyH.cons rfl (fun K2 hK => ?_) AllReadyH.nil
  go_simp
  refine (unhide TE y2).mono ?_
  rintro r w3 ⟨vs, rfl, hS, hb⟩
  have O3 := hide ((unhide O2).later hb)
  clear O2
  obtain ⟨y3, rfl⟩ := Sub.step (unhide HZ) hb
  clear hb
  have SR := hide hS
  clear hS
  refine hK.out _ _ (y3.h) (fun hS => ?_)
  clear HS
  have HS := hide hS
  clear hS hK K2
  refine wpAnyH_ready (rs := [4]) (by kernel_rfl) (by simp) ?_
  refine AllReadyH.cons rfl (fun K2 hK => ?_) AllReadyH.nil
  rw [if_pos (by rfl)]
  refine wp_appT (.tmp 59) (.tmp 62) rfl (unhide HZ) y3.h rfl (unhide O3) rfl (unhide SR) tne (lsum l0 tle (by decide)) ?_
  intro v4 y4 hO
  obtain ⟨u4, hu⟩ : ∃ u, ([] ++ te) = u := ⟨_, rfl⟩
  rw [hu] at hO
  have l4 := lapp hu l0 tle
  have O4 := hide hO
  have H4 := hide hu
  clear hO hu O3 SR
  refine hK.out _ _ (y4.h) (fun hS => ?_)
  clear HS
  have HS := hide hS
  clear hS hK K2
  refine wpAnyH_ready (rs := [7]) (by kernel_rfl) (by simp) ?_
  refine AllReadyH.cons rfl (fun K2 hK => ?_) AllReadyH.nil
  go_simp
  refine (unhide RN y4.w).mono ?_
  rintro r w5 ⟨vs, rfl, hS, hb⟩
  have O5 := hide ((unhide O4).later hb)
  clear O4
  obtain ⟨y5, rfl⟩ := Sub.step (unhide HZ) hb
  clear hb
  have SR := hide hS
  clear hS
  refine hK.out _ _ (y5.h) (fun hS => ?_)
  clear HS
  have HS := hide hS
  clear hS hK K2
  refine wpAnyH_ready (rs := [8]) (by kernel_rfl) (by simp) ?_
  refine AllReadyH.cons rfl (fun K2 hK => ?_) AllReadyH.nil
  rw [if_pos (by rfl)]
  refine wp_appT (.tmp 63) (.tmp 66) rfl (unhide HZ) y5.h rfl (unhide O5) rfl (unhide SR) rne (lsum l4 rl (by decide)) ?_
  intro v6 y6 hO
  obtain ⟨u6, hu⟩ : ∃ u, (u4 ++ rt) = u := ⟨_, rfl⟩
  rw [hu] at hO
  have l6 := lapp hu l4 rl
  have O6 := hide hO
  have H6 := hide hu
  clear hO hu O5 SR
  refine hK.out _ _ (y6.h) (fun hS => ?_)
  clear HS
  have HS := hide hS
  clear hS hK K2
  refine wpAnyH_take (i := 9) (v := v6) rfl (by kernel_rfl) (by kernel_rfl) (by kernel_rfl) (fun _ _ _ h => h) (Or.inl ⟨by rfl, fun w hc => ?_⟩) (unhide HS) ?_
  · clear hc; go_simp
  go_simp
  refine wpAnyH_done (by kernel_rfl) ?_ _
  clear HS
  go_wp2_with fail
  have EQ : u6 = T := by
    rw [← unhide HT]
    rw [← unhide H6, ← unhide H4]
    simp [mkT, mkS]
  rw [EQ] at O6
  go_ret
  exact ⟨_, rfl, unhide HO y6 _ _ (unhide O6), unhide HB y6⟩
set_option maxHeartbeats 8000000 in
theorem agt7 (rn : Nat) (hrn : rn < 8) (e : Ex) (ok : okF 6 true e = true) (b : Option Addr) (cap : Nat) (w : World) (hr : RdX w 0 e b) : Calls Tryz.prog 60 #[.agg #[.int .i64 7, .int .i64 (rn : Int), .int .i64 e.k, .int .i64 e.n, .string e.s, .slice b e.l.length cap]] w fun r w' => ∃ v, r = .returned v ∧ OwnT w' w.heap.size v (agT ⟨7, (rn : Int), e⟩) ∧ Below w.heap.size w w' := by
  have hbW := below_new w (.cells #[.int .i64 7, .int .i64 (rn : Int), .int .i64 e.k, .int .i64 e.n, .string e.s, .slice b e.l.length cap] 35)
  obtain ⟨W, hW⟩ : ∃ W, w.alloc (.cells #[.int .i64 7, .int .i64 (rn : Int), .int .i64 e.k, .int .i64 e.n, .string e.s, .slice b e.l.length cap] 35) = W := ⟨_, rfl⟩
  have xl : w.heap.size < W.heap.size := by rw [← hW]; simp
  have hrW := hr.later hbW
  have xc : ∀ (i : Nat) (v : Value), (#[.int .i64 7, .int .i64 (rn : Int), .int .i64 e.k, .int .i64 e.n, .string e.s, .slice b e.l.length cap] : Array Value)[i]? = some v → ∀ w1, Below W.heap.size W w1 → w1.cell? ⟨w.heap.size, i, none⟩ = some v := fun i v h w1 hb => (hb.cell (p := ⟨w.heap.size, i, none⟩) xl).trans (by rw [← hW]; exact box17 w _ _ i v h)
  rw [hW] at hbW hrW
  obtain ⟨y0, hy0⟩ : ∃ z : Sub W.heap.size W, w.alloc (.cells #[.int .i64 7, .int .i64 (rn : Int), .int .i64 e.k, .int .i64 e.n, .string e.s, .slice b e.l.length cap] 35) = z.w := ⟨⟨W, Below.refl _ _⟩, hW⟩
  have ne := Sub.ne W.heap.size W
  have HZ := hide (Nat.le_refl W.heap.size)
  have HB := hide (fun y : Sub W.heap.size W => hbW.trans (y.h.mono hbW.size))
  have HO := hide (fun (y : Sub W.heap.size W) v ts (h : OwnT y.w W.heap.size v ts) => h.base hbW.size)
  have E0 : ∀ y : Sub W.heap.size W, y.w.cell? ⟨w.heap.size, 0, none⟩ = some (.int .i64 7) := fun y => xc 0 _ rfl y.w y.h
  have E1 : ∀ y : Sub W.heap.size W, y.w.cell? ⟨w.heap.size, 1, none⟩ = some (.int .i64 (rn : Int)) := fun y => xc 1 _ rfl y.w y.h
  have E2 : ∀ y : Sub W.heap.size W, y.w.cell? ⟨w.heap.size, 2, none⟩ = some (.int .i64 e.k) := fun y => xc 2 _ rfl y.w y.h
  have E3 : ∀ y : Sub W.heap.size W, y.w.cell? ⟨w.heap.size, 3, none⟩ = some (.int .i64 e.n) := fun y => xc 3 _ rfl y.w y.h
  have E4 : ∀ y : Sub W.heap.size W, y.w.cell? ⟨w.heap.size, 4, none⟩ = some (.string e.s) := fun y => xc 4 _ rfl y.w y.h
  have E5 : ∀ y : Sub W.heap.size W, y.w.cell? ⟨w.heap.size, 5, none⟩ = some (.slice b e.l.length cap) := fun y => xc 5 _ rfl y.w y.h
  have Y1 := hide (xc 1 _ rfl)
  have Y2 := hide (xc 2 _ rfl)
  have Y3 := hide (xc 3 _ rfl)
  have Y4 := hide (xc 4 _ rfl)
  have Y5 := hide (xc 5 _ rfl)
  have MK := hide (fun x w1 => markS_ex x w1)
  have RG := hide (fun w1 => regS rn hrn w1)
  have RN := hide (fun w1 => rndS rn hrn w1)
  have TE := hide (fun y : Sub W.heap.size W => toksS_all 6 (by omega) e b cap y.w ok (hrW.later y.h))
  have tne := toks_ne ok
  have tle : (toksF 6 e).length ≤ 200 := Nat.le_trans (toks_ok 6 e ok).2 (mxT_le 6 (by omega))
  unfold Ex.cs at TE
  have AT : agT ⟨7, (rn : Int), e⟩ = mkT 64 :: (toksF 6 e ++ rnT rn) := rfl
  rw [AT]
  clear AT ok hr hrW hW xc xl hbW hrn
  generalize toksF 6 e = te at *
  generalize e.k = ek at *
  generalize e.n = en at *
  generalize e.s = es at *
  generalize e.l.length = el at *
  unfold Tk.v Tk.cs at MK RG
  simp only at MK RG
  have rl := rnT_le rn
  have rne := rnT_ne rn
  generalize rnT rn = rt at *
  obtain ⟨T, hT⟩ : ∃ T, mkT 64 :: (te ++ rt) = T := ⟨_, rfl⟩
  have HT := hide hT
  rw [hT]
  clear hT
  have l0 : ([] : List Tk).length ≤ 0 := Nat.le_refl 0
  obtain ⟨y1, hy1⟩ := Sub.step (unhide HZ) (below_new y0.w (.cells #[] 59))
  have O1 := hide (show OwnT y1.w W.heap.size (.slice (some ⟨y0.w.heap.size, 0, none⟩) 0 0) [] by rw [← hy1]; exact ownT_empty y0.w W.heap.size (Nat.le_trans (unhide HZ) y0.h.size))
  go_enter Tryz.func60, Tryz.ntmps60
  go_wp2_with fail
  refine (unhide MK ⟨#[64]⟩ y1.w).mono ?_
  rintro r w2 ⟨rfl, hb⟩
  have O2 := hide ((unhide O1).later hb)
  clear O1
  obtain ⟨y2, rfl⟩ := Sub.step (unhide HZ) hb
  clear hb
  obtain ⟨y3, hy3⟩ := Sub.step (unhide HZ) (below_new y2.w (.cells #[.int .i64 4, .int .i64 0, .string ⟨#[64]⟩] 59))
  have S3 := hide (show OwnT y3.w W.heap.size (.slice (some ⟨y2.w.heap.size, 0, none⟩) 1 1) [(Tk.mk 4 0 ⟨#[64]⟩)] by rw [← hy3]; exact ownT_new y2.w (Tk.mk 4 0 ⟨#[64]⟩) W.heap.size (Nat.le_trans (unhide HZ) y2.h.size))
  have O3 := hide (show OwnT y3.w W.heap.size (.slice (some ⟨y0.w.heap.size, 0, none⟩) 0 0) [] by rw [← hy3]; exact (unhide O2).later (below_new _ _))
  clear O2
  go_wp2_with (at_builtin; go_must (refine appT rfl (.tmp 13) (.tmp 15) rfl (unhide HZ) y3.h rfl (unhide O3) rfl (unhide S3) (one_ne _) (lsum l0 (one_le _) (by decide)) ?_; intro v4 y4 hO; obtain ⟨u4, hu⟩ : ∃ u, ([] ++ [(Tk.mk 4 0 ⟨#[64]⟩)]) = u := ⟨_, rfl⟩; rw [hu] at hO; have l4 := lapp hu l0 (one_le _); have O4 := hide hO; have H4 := hide hu; clear hO hu O3 S3))
  obtain ⟨y5, hy5⟩ := Sub.step (unhide HZ) (below_drew (w := y4.w))
  have O5 := hide (show OwnT y5.w W.heap.size (v4) u4 by rw [← hy5]; exact (unhide O4).later below_drew)
  have D0 := hide (show Below W.heap.size W y4.w.drew by rw [hy5]; exact y5.h)
  refine wp_region_held_drew (S := fun w' => Below W.heap.size W w') (by kernel_rfl) (unhide D0) (fun hS => ?_)
  have HS := hide hS
  clear hS D0 O4
  rw [hy5] at HS ⊢
  refine wpAnyH_take (i := 0) (v := v4) rfl (by kernel_rfl) (by kernel_rfl) (by kernel_rfl) (fun _ _ _ h => h) (Or.inl ⟨by rfl, fun w hc => ?_⟩) (unhide HS) ?_
  · clear hc; go_simp
  go_simp
  refine wpAnyH_take (i := 1) (v := .pointer (some ⟨w.heap.size, 2, none⟩)) rfl (by kernel_rfl) (by kernel_rfl) (by kernel_rfl) (fun _ _ _ h => h) (Or.inl ⟨by rfl, fun w hc => ?_⟩) (unhide HS) ?_
  · clear hc; go_simp
  go_simp
  refine wpAnyH_take (i := 2) (v := .agg #[.int .i64 ek, .int .i64 en, .string es, .slice b el cap]) rfl (by kernel_rfl) (by kernel_rfl) (by kernel_rfl) (fun _ _ _ h => h) (Or.inl ⟨by rfl, fun w hc => ?_⟩) (unhide HS) ?_
  · have q2 := unhide Y2 _ hc; have q3 := unhide Y3 _ hc; have q4 := unhide Y4 _ hc; have q5 := unhide Y5 _ hc; clear hc; go_simp
  go_simp
  refine wpAnyH_take (i := 5) (v := .pointer (some ⟨w.heap.size, 1, none⟩)) rfl (by kernel_rfl) (by kernel_rfl) (by kernel_rfl) (fun _ _ _ h => h) (Or.inl ⟨by rfl, fun w hc => ?_⟩) (unhide HS) ?_
  · clear hc; go_simp
  go_simp
  refine wpAnyH_take (i := 6) (v := .int .i64 (rn : Int)) rfl (by kernel_rfl) (by kernel_rfl) (by kernel_rfl) (fun _ _ _ h => h) (Or.inl ⟨by rfl, fun w hc => ?_⟩) (unhide HS) ?_
  · have q := unhide Y1 _ hc; clear hc; go_simp
  go_simp
  refine wpAnyH_ready (rs := [3]) (by kernel_rfl) (by simp) ?_
  refine AllReadyH.cons rfl (fun K2 hK => ?_) AllReadyH.nil
  go_simp
  refine (unhide TE y5).mono ?_
  rintro r w6 ⟨vs, rfl, hS, hb⟩
  have O6 := hide ((unhide O5).later hb)
  clear O5
  obtain ⟨y6, rfl⟩ := Sub.step (unhide HZ) hb
  clear hb
  have SR := hide hS
  clear hS
  refine hK.out _ _ (y6.h) (fun hS => ?_)
  clear HS
  have HS := hide hS
  clear hS hK K2
  refine wpAnyH_ready (rs := [4]) (by kernel_rfl) (by simp) ?_
  refine AllReadyH.cons rfl (fun K2 hK => ?_) AllReadyH.nil
  rw [if_pos (by rfl)]
  refine wp_appT (.tmp 59) (.tmp 62) rfl (unhide HZ) y6.h rfl (unhide O6) rfl (unhide SR) tne (lsum l4 tle (by decide)) ?_
  intro v7 y7 hO
  obtain ⟨u7, hu⟩ : ∃ u, (u4 ++ te) = u := ⟨_, rfl⟩
  rw [hu] at hO
  have l7 := lapp hu l4 tle
  have O7 := hide hO
  have H7 := hide hu
  clear hO hu O6 SR
  refine hK.out _ _ (y7.h) (fun hS => ?_)
  clear HS
  have HS := hide hS
  clear hS hK K2
  refine wpAnyH_ready (rs := [7]) (by kernel_rfl) (by simp) ?_
  refine AllReadyH.cons rfl (fun K2 hK => ?_) AllReadyH.nil
  go_simp
  refine (unhide RN y7.w).mono ?_
  rintro r w8 ⟨vs, rfl, hS, hb⟩
  have O8 := hide ((unhide O7).later hb)
  clear O7
  obtain ⟨y8, rfl⟩ := Sub.step (unhide HZ) hb
  clear hb
  have SR := hide hS
  clear hS
  refine hK.out _ _ (y8.h) (fun hS => ?_)
  clear HS
  have HS := hide hS
  clear hS hK K2
  refine wpAnyH_ready (rs := [8]) (by kernel_rfl) (by simp) ?_
  refine AllReadyH.cons rfl (fun K2 hK => ?_) AllReadyH.nil
  rw [if_pos (by rfl)]
  refine wp_appT (.tmp 63) (.tmp 66) rfl (unhide HZ) y8.h rfl (unhide O8) rfl (unhide SR) rne (lsum l7 rl (by decide)) ?_
  intro v9 y9 hO
  obtain ⟨u9, hu⟩ : ∃ u, (u7 ++ rt) = u := ⟨_, rfl⟩
  rw [hu] at hO
  have l9 := lapp hu l7 rl
  have O9 := hide hO
  have H9 := hide hu
  clear hO hu O8 SR
  refine hK.out _ _ (y9.h) (fun hS => ?_)
  clear HS
  have HS := hide hS
  clear hS hK K2
  refine wpAnyH_take (i := 9) (v := v9) rfl (by kernel_rfl) (by kernel_rfl) (by kernel_rfl) (fun _ _ _ h => h) (Or.inl ⟨by rfl, fun w hc => ?_⟩) (unhide HS) ?_
  · clear hc; go_simp
  go_simp
  refine wpAnyH_done (by kernel_rfl) ?_ _
  clear HS
  go_wp2_with fail
  have EQ : u9 = T := by
    rw [← unhide HT]
    rw [← unhide H9, ← unhide H7, ← unhide H4]
    simp [mkT, mkS]
  rw [EQ] at O9
  go_ret
  exact ⟨_, rfl, unhide HO y9 _ _ (unhide O9), unhide HB y9⟩
set_option maxHeartbeats 8000000 in
theorem agt8 (rn : Nat) (hrn : rn < 8) (e : Ex) (ok : okF 6 true e = true) (b : Option Addr) (cap : Nat) (w : World) (hr : RdX w 0 e b) : Calls Tryz.prog 60 #[.agg #[.int .i64 8, .int .i64 (rn : Int), .int .i64 e.k, .int .i64 e.n, .string e.s, .slice b e.l.length cap]] w fun r w' => ∃ v, r = .returned v ∧ OwnT w' w.heap.size v (agT ⟨8, (rn : Int), e⟩) ∧ Below w.heap.size w w' := by
  have hbW := below_new w (.cells #[.int .i64 8, .int .i64 (rn : Int), .int .i64 e.k, .int .i64 e.n, .string e.s, .slice b e.l.length cap] 35)
  obtain ⟨W, hW⟩ : ∃ W, w.alloc (.cells #[.int .i64 8, .int .i64 (rn : Int), .int .i64 e.k, .int .i64 e.n, .string e.s, .slice b e.l.length cap] 35) = W := ⟨_, rfl⟩
  have xl : w.heap.size < W.heap.size := by rw [← hW]; simp
  have hrW := hr.later hbW
  have xc : ∀ (i : Nat) (v : Value), (#[.int .i64 8, .int .i64 (rn : Int), .int .i64 e.k, .int .i64 e.n, .string e.s, .slice b e.l.length cap] : Array Value)[i]? = some v → ∀ w1, Below W.heap.size W w1 → w1.cell? ⟨w.heap.size, i, none⟩ = some v := fun i v h w1 hb => (hb.cell (p := ⟨w.heap.size, i, none⟩) xl).trans (by rw [← hW]; exact box17 w _ _ i v h)
  rw [hW] at hbW hrW
  obtain ⟨y0, hy0⟩ : ∃ z : Sub W.heap.size W, w.alloc (.cells #[.int .i64 8, .int .i64 (rn : Int), .int .i64 e.k, .int .i64 e.n, .string e.s, .slice b e.l.length cap] 35) = z.w := ⟨⟨W, Below.refl _ _⟩, hW⟩
  have ne := Sub.ne W.heap.size W
  have HZ := hide (Nat.le_refl W.heap.size)
  have HB := hide (fun y : Sub W.heap.size W => hbW.trans (y.h.mono hbW.size))
  have HO := hide (fun (y : Sub W.heap.size W) v ts (h : OwnT y.w W.heap.size v ts) => h.base hbW.size)
  have E0 : ∀ y : Sub W.heap.size W, y.w.cell? ⟨w.heap.size, 0, none⟩ = some (.int .i64 8) := fun y => xc 0 _ rfl y.w y.h
  have E1 : ∀ y : Sub W.heap.size W, y.w.cell? ⟨w.heap.size, 1, none⟩ = some (.int .i64 (rn : Int)) := fun y => xc 1 _ rfl y.w y.h
  have E2 : ∀ y : Sub W.heap.size W, y.w.cell? ⟨w.heap.size, 2, none⟩ = some (.int .i64 e.k) := fun y => xc 2 _ rfl y.w y.h
  have E3 : ∀ y : Sub W.heap.size W, y.w.cell? ⟨w.heap.size, 3, none⟩ = some (.int .i64 e.n) := fun y => xc 3 _ rfl y.w y.h
  have E4 : ∀ y : Sub W.heap.size W, y.w.cell? ⟨w.heap.size, 4, none⟩ = some (.string e.s) := fun y => xc 4 _ rfl y.w y.h
  have E5 : ∀ y : Sub W.heap.size W, y.w.cell? ⟨w.heap.size, 5, none⟩ = some (.slice b e.l.length cap) := fun y => xc 5 _ rfl y.w y.h
  have Y1 := hide (xc 1 _ rfl)
  have Y2 := hide (xc 2 _ rfl)
  have Y3 := hide (xc 3 _ rfl)
  have Y4 := hide (xc 4 _ rfl)
  have Y5 := hide (xc 5 _ rfl)
  have MK := hide (fun x w1 => markS_ex x w1)
  have RG := hide (fun w1 => regS rn hrn w1)
  have RN := hide (fun w1 => rndS rn hrn w1)
  have TE := hide (fun y : Sub W.heap.size W => toksS_all 6 (by omega) e b cap y.w ok (hrW.later y.h))
  have tne := toks_ne ok
  have tle : (toksF 6 e).length ≤ 200 := Nat.le_trans (toks_ok 6 e ok).2 (mxT_le 6 (by omega))
  unfold Ex.cs at TE
  have AT : agT ⟨8, (rn : Int), e⟩ = mkT 35 :: toksF 6 e := rfl
  rw [AT]
  clear AT ok hr hrW hW xc xl hbW hrn
  generalize toksF 6 e = te at *
  generalize e.k = ek at *
  generalize e.n = en at *
  generalize e.s = es at *
  generalize e.l.length = el at *
  unfold Tk.v Tk.cs at MK RG
  simp only at MK RG
  have rl := rnT_le rn
  have rne := rnT_ne rn
  generalize rnT rn = rt at *
  obtain ⟨T, hT⟩ : ∃ T, mkT 35 :: te = T := ⟨_, rfl⟩
  have HT := hide hT
  rw [hT]
  clear hT
  have l0 : ([] : List Tk).length ≤ 0 := Nat.le_refl 0
  obtain ⟨y1, hy1⟩ := Sub.step (unhide HZ) (below_new y0.w (.cells #[] 59))
  have O1 := hide (show OwnT y1.w W.heap.size (.slice (some ⟨y0.w.heap.size, 0, none⟩) 0 0) [] by rw [← hy1]; exact ownT_empty y0.w W.heap.size (Nat.le_trans (unhide HZ) y0.h.size))
  go_enter Tryz.func60, Tryz.ntmps60
  go_wp2_with fail
  refine (unhide MK ⟨#[35]⟩ y1.w).mono ?_
  rintro r w2 ⟨rfl, hb⟩
  have O2 := hide ((unhide O1).later hb)
  clear O1
  obtain ⟨y2, rfl⟩ := Sub.step (unhide HZ) hb
  clear hb
  obtain ⟨y3, hy3⟩ := Sub.step (unhide HZ) (below_new y2.w (.cells #[.int .i64 4, .int .i64 0, .string ⟨#[35]⟩] 59))
  have S3 := hide (show OwnT y3.w W.heap.size (.slice (some ⟨y2.w.heap.size, 0, none⟩) 1 1) [(Tk.mk 4 0 ⟨#[35]⟩)] by rw [← hy3]; exact ownT_new y2.w (Tk.mk 4 0 ⟨#[35]⟩) W.heap.size (Nat.le_trans (unhide HZ) y2.h.size))
  have O3 := hide (show OwnT y3.w W.heap.size (.slice (some ⟨y0.w.heap.size, 0, none⟩) 0 0) [] by rw [← hy3]; exact (unhide O2).later (below_new _ _))
  clear O2
  go_wp2_with (at_builtin; go_must (refine appT rfl (.tmp 71) (.tmp 73) rfl (unhide HZ) y3.h rfl (unhide O3) rfl (unhide S3) (one_ne _) (lsum l0 (one_le _) (by decide)) ?_; intro v4 y4 hO; obtain ⟨u4, hu⟩ : ∃ u, ([] ++ [(Tk.mk 4 0 ⟨#[35]⟩)]) = u := ⟨_, rfl⟩; rw [hu] at hO; have l4 := lapp hu l0 (one_le _); have O4 := hide hO; have H4 := hide hu; clear hO hu O3 S3))
  refine (unhide TE y4).mono ?_
  rintro r w5 ⟨vs, rfl, hS, hb⟩
  have O5 := hide ((unhide O4).later hb)
  clear O4
  obtain ⟨y5, rfl⟩ := Sub.step (unhide HZ) hb
  clear hb
  have SR := hide hS
  clear hS
  go_wp2_with (at_builtin; go_must (refine appT rfl (.tmp 75) (.tmp 78) rfl (unhide HZ) y5.h rfl (unhide O5) rfl (unhide SR) tne (lsum l4 tle (by decide)) ?_; intro v6 y6 hO; obtain ⟨u6, hu⟩ : ∃ u, (u4 ++ te) = u := ⟨_, rfl⟩; rw [hu] at hO; have l6 := lapp hu l4 tle; have O6 := hide hO; have H6 := hide hu; clear hO hu O5 SR))
  have EQ : u6 = T := by
    rw [← unhide HT]
    rw [← unhide H6, ← unhide H4]
    simp [mkT, mkS]
  rw [EQ] at O6
  go_ret
  exact ⟨_, rfl, unhide HO y6 _ _ (unhide O6), unhide HB y6⟩
set_option maxHeartbeats 8000000 in
theorem agt9 (rn : Nat) (hrn : rn < 8) (e : Ex) (ok : okF 6 true e = true) (b : Option Addr) (cap : Nat) (w : World) (hr : RdX w 0 e b) : Calls Tryz.prog 60 #[.agg #[.int .i64 9, .int .i64 (rn : Int), .int .i64 e.k, .int .i64 e.n, .string e.s, .slice b e.l.length cap]] w fun r w' => ∃ v, r = .returned v ∧ OwnT w' w.heap.size v (agT ⟨9, (rn : Int), e⟩) ∧ Below w.heap.size w w' := by
  have hbW := below_new w (.cells #[.int .i64 9, .int .i64 (rn : Int), .int .i64 e.k, .int .i64 e.n, .string e.s, .slice b e.l.length cap] 35)
  obtain ⟨W, hW⟩ : ∃ W, w.alloc (.cells #[.int .i64 9, .int .i64 (rn : Int), .int .i64 e.k, .int .i64 e.n, .string e.s, .slice b e.l.length cap] 35) = W := ⟨_, rfl⟩
  have xl : w.heap.size < W.heap.size := by rw [← hW]; simp
  have hrW := hr.later hbW
  have xc : ∀ (i : Nat) (v : Value), (#[.int .i64 9, .int .i64 (rn : Int), .int .i64 e.k, .int .i64 e.n, .string e.s, .slice b e.l.length cap] : Array Value)[i]? = some v → ∀ w1, Below W.heap.size W w1 → w1.cell? ⟨w.heap.size, i, none⟩ = some v := fun i v h w1 hb => (hb.cell (p := ⟨w.heap.size, i, none⟩) xl).trans (by rw [← hW]; exact box17 w _ _ i v h)
  rw [hW] at hbW hrW
  obtain ⟨y0, hy0⟩ : ∃ z : Sub W.heap.size W, w.alloc (.cells #[.int .i64 9, .int .i64 (rn : Int), .int .i64 e.k, .int .i64 e.n, .string e.s, .slice b e.l.length cap] 35) = z.w := ⟨⟨W, Below.refl _ _⟩, hW⟩
  have ne := Sub.ne W.heap.size W
  have HZ := hide (Nat.le_refl W.heap.size)
  have HB := hide (fun y : Sub W.heap.size W => hbW.trans (y.h.mono hbW.size))
  have HO := hide (fun (y : Sub W.heap.size W) v ts (h : OwnT y.w W.heap.size v ts) => h.base hbW.size)
  have E0 : ∀ y : Sub W.heap.size W, y.w.cell? ⟨w.heap.size, 0, none⟩ = some (.int .i64 9) := fun y => xc 0 _ rfl y.w y.h
  have E1 : ∀ y : Sub W.heap.size W, y.w.cell? ⟨w.heap.size, 1, none⟩ = some (.int .i64 (rn : Int)) := fun y => xc 1 _ rfl y.w y.h
  have E2 : ∀ y : Sub W.heap.size W, y.w.cell? ⟨w.heap.size, 2, none⟩ = some (.int .i64 e.k) := fun y => xc 2 _ rfl y.w y.h
  have E3 : ∀ y : Sub W.heap.size W, y.w.cell? ⟨w.heap.size, 3, none⟩ = some (.int .i64 e.n) := fun y => xc 3 _ rfl y.w y.h
  have E4 : ∀ y : Sub W.heap.size W, y.w.cell? ⟨w.heap.size, 4, none⟩ = some (.string e.s) := fun y => xc 4 _ rfl y.w y.h
  have E5 : ∀ y : Sub W.heap.size W, y.w.cell? ⟨w.heap.size, 5, none⟩ = some (.slice b e.l.length cap) := fun y => xc 5 _ rfl y.w y.h
  have Y1 := hide (xc 1 _ rfl)
  have Y2 := hide (xc 2 _ rfl)
  have Y3 := hide (xc 3 _ rfl)
  have Y4 := hide (xc 4 _ rfl)
  have Y5 := hide (xc 5 _ rfl)
  have MK := hide (fun x w1 => markS_ex x w1)
  have RG := hide (fun w1 => regS rn hrn w1)
  have RN := hide (fun w1 => rndS rn hrn w1)
  have TE := hide (fun y : Sub W.heap.size W => toksS_all 6 (by omega) e b cap y.w ok (hrW.later y.h))
  have tne := toks_ne ok
  have tle : (toksF 6 e).length ≤ 200 := Nat.le_trans (toks_ok 6 e ok).2 (mxT_le 6 (by omega))
  unfold Ex.cs at TE
  have AT : agT ⟨9, (rn : Int), e⟩ = mkT 64 :: mkT 35 :: toksF 6 e := rfl
  rw [AT]
  clear AT ok hr hrW hW xc xl hbW hrn
  generalize toksF 6 e = te at *
  generalize e.k = ek at *
  generalize e.n = en at *
  generalize e.s = es at *
  generalize e.l.length = el at *
  unfold Tk.v Tk.cs at MK RG
  simp only at MK RG
  have rl := rnT_le rn
  have rne := rnT_ne rn
  generalize rnT rn = rt at *
  obtain ⟨T, hT⟩ : ∃ T, mkT 64 :: mkT 35 :: te = T := ⟨_, rfl⟩
  have HT := hide hT
  rw [hT]
  clear hT
  have l0 : ([] : List Tk).length ≤ 0 := Nat.le_refl 0
  obtain ⟨y1, hy1⟩ := Sub.step (unhide HZ) (below_new y0.w (.cells #[] 59))
  have O1 := hide (show OwnT y1.w W.heap.size (.slice (some ⟨y0.w.heap.size, 0, none⟩) 0 0) [] by rw [← hy1]; exact ownT_empty y0.w W.heap.size (Nat.le_trans (unhide HZ) y0.h.size))
  go_enter Tryz.func60, Tryz.ntmps60
  go_wp2_with fail
  refine (unhide MK ⟨#[64]⟩ y1.w).mono ?_
  rintro r w2 ⟨rfl, hb⟩
  have O2 := hide ((unhide O1).later hb)
  clear O1
  obtain ⟨y2, rfl⟩ := Sub.step (unhide HZ) hb
  clear hb
  obtain ⟨y3, hy3⟩ := Sub.step (unhide HZ) (below_new y2.w (.cells #[.int .i64 4, .int .i64 0, .string ⟨#[64]⟩] 59))
  have S3 := hide (show OwnT y3.w W.heap.size (.slice (some ⟨y2.w.heap.size, 0, none⟩) 1 1) [(Tk.mk 4 0 ⟨#[64]⟩)] by rw [← hy3]; exact ownT_new y2.w (Tk.mk 4 0 ⟨#[64]⟩) W.heap.size (Nat.le_trans (unhide HZ) y2.h.size))
  have O3 := hide (show OwnT y3.w W.heap.size (.slice (some ⟨y0.w.heap.size, 0, none⟩) 0 0) [] by rw [← hy3]; exact (unhide O2).later (below_new _ _))
  clear O2
  go_wp2_with (at_builtin; go_must (refine appT rfl (.tmp 13) (.tmp 15) rfl (unhide HZ) y3.h rfl (unhide O3) rfl (unhide S3) (one_ne _) (lsum l0 (one_le _) (by decide)) ?_; intro v4 y4 hO; obtain ⟨u4, hu⟩ : ∃ u, ([] ++ [(Tk.mk 4 0 ⟨#[64]⟩)]) = u := ⟨_, rfl⟩; rw [hu] at hO; have l4 := lapp hu l0 (one_le _); have O4 := hide hO; have H4 := hide hu; clear hO hu O3 S3))
  refine (unhide MK ⟨#[35]⟩ y4.w).mono ?_
  rintro r w5 ⟨rfl, hb⟩
  have O5 := hide ((unhide O4).later hb)
  clear O4
  obtain ⟨y5, rfl⟩ := Sub.step (unhide HZ) hb
  clear hb
  obtain ⟨y6, hy6⟩ := Sub.step (unhide HZ) (below_new y5.w (.cells #[.int .i64 4, .int .i64 0, .string ⟨#[35]⟩] 59))
  have S6 := hide (show OwnT y6.w W.heap.size (.slice (some ⟨y5.w.heap.size, 0, none⟩) 1 1) [(Tk.mk 4 0 ⟨#[35]⟩)] by rw [← hy6]; exact ownT_new y5.w (Tk.mk 4 0 ⟨#[35]⟩) W.heap.size (Nat.le_trans (unhide HZ) y5.h.size))
  have O6 := hide (show OwnT y6.w W.heap.size (v4) u4 by rw [← hy6]; exact (unhide O5).later (below_new _ _))
  clear O5
  go_wp2_with (at_builtin; go_must (refine appT rfl (.tmp 71) (.tmp 73) rfl (unhide HZ) y6.h rfl (unhide O6) rfl (unhide S6) (one_ne _) (lsum l4 (one_le _) (by decide)) ?_; intro v7 y7 hO; obtain ⟨u7, hu⟩ : ∃ u, (u4 ++ [(Tk.mk 4 0 ⟨#[35]⟩)]) = u := ⟨_, rfl⟩; rw [hu] at hO; have l7 := lapp hu l4 (one_le _); have O7 := hide hO; have H7 := hide hu; clear hO hu O6 S6))
  refine (unhide TE y7).mono ?_
  rintro r w8 ⟨vs, rfl, hS, hb⟩
  have O8 := hide ((unhide O7).later hb)
  clear O7
  obtain ⟨y8, rfl⟩ := Sub.step (unhide HZ) hb
  clear hb
  have SR := hide hS
  clear hS
  go_wp2_with (at_builtin; go_must (refine appT rfl (.tmp 75) (.tmp 78) rfl (unhide HZ) y8.h rfl (unhide O8) rfl (unhide SR) tne (lsum l7 tle (by decide)) ?_; intro v9 y9 hO; obtain ⟨u9, hu⟩ : ∃ u, (u7 ++ te) = u := ⟨_, rfl⟩; rw [hu] at hO; have l9 := lapp hu l7 tle; have O9 := hide hO; have H9 := hide hu; clear hO hu O8 SR))
  have EQ : u9 = T := by
    rw [← unhide HT]
    rw [← unhide H9, ← unhide H7, ← unhide H4]
    simp [mkT, mkS]
  rw [EQ] at O9
  go_ret
  exact ⟨_, rfl, unhide HO y9 _ _ (unhide O9), unhide HB y9⟩
set_option maxHeartbeats 8000000 in
theorem agt10 (rn : Nat) (hrn : rn < 8) (e : Ex) (ok : okF 6 true e = true) (b : Option Addr) (cap : Nat) (w : World) (hr : RdX w 0 e b) : Calls Tryz.prog 60 #[.agg #[.int .i64 10, .int .i64 (rn : Int), .int .i64 e.k, .int .i64 e.n, .string e.s, .slice b e.l.length cap]] w fun r w' => ∃ v, r = .returned v ∧ OwnT w' w.heap.size v (agT ⟨10, (rn : Int), e⟩) ∧ Below w.heap.size w w' := by
  have hbW := below_new w (.cells #[.int .i64 10, .int .i64 (rn : Int), .int .i64 e.k, .int .i64 e.n, .string e.s, .slice b e.l.length cap] 35)
  obtain ⟨W, hW⟩ : ∃ W, w.alloc (.cells #[.int .i64 10, .int .i64 (rn : Int), .int .i64 e.k, .int .i64 e.n, .string e.s, .slice b e.l.length cap] 35) = W := ⟨_, rfl⟩
  have xl : w.heap.size < W.heap.size := by rw [← hW]; simp
  have hrW := hr.later hbW
  have xc : ∀ (i : Nat) (v : Value), (#[.int .i64 10, .int .i64 (rn : Int), .int .i64 e.k, .int .i64 e.n, .string e.s, .slice b e.l.length cap] : Array Value)[i]? = some v → ∀ w1, Below W.heap.size W w1 → w1.cell? ⟨w.heap.size, i, none⟩ = some v := fun i v h w1 hb => (hb.cell (p := ⟨w.heap.size, i, none⟩) xl).trans (by rw [← hW]; exact box17 w _ _ i v h)
  rw [hW] at hbW hrW
  obtain ⟨y0, hy0⟩ : ∃ z : Sub W.heap.size W, w.alloc (.cells #[.int .i64 10, .int .i64 (rn : Int), .int .i64 e.k, .int .i64 e.n, .string e.s, .slice b e.l.length cap] 35) = z.w := ⟨⟨W, Below.refl _ _⟩, hW⟩
  have ne := Sub.ne W.heap.size W
  have HZ := hide (Nat.le_refl W.heap.size)
  have HB := hide (fun y : Sub W.heap.size W => hbW.trans (y.h.mono hbW.size))
  have HO := hide (fun (y : Sub W.heap.size W) v ts (h : OwnT y.w W.heap.size v ts) => h.base hbW.size)
  have E0 : ∀ y : Sub W.heap.size W, y.w.cell? ⟨w.heap.size, 0, none⟩ = some (.int .i64 10) := fun y => xc 0 _ rfl y.w y.h
  have E1 : ∀ y : Sub W.heap.size W, y.w.cell? ⟨w.heap.size, 1, none⟩ = some (.int .i64 (rn : Int)) := fun y => xc 1 _ rfl y.w y.h
  have E2 : ∀ y : Sub W.heap.size W, y.w.cell? ⟨w.heap.size, 2, none⟩ = some (.int .i64 e.k) := fun y => xc 2 _ rfl y.w y.h
  have E3 : ∀ y : Sub W.heap.size W, y.w.cell? ⟨w.heap.size, 3, none⟩ = some (.int .i64 e.n) := fun y => xc 3 _ rfl y.w y.h
  have E4 : ∀ y : Sub W.heap.size W, y.w.cell? ⟨w.heap.size, 4, none⟩ = some (.string e.s) := fun y => xc 4 _ rfl y.w y.h
  have E5 : ∀ y : Sub W.heap.size W, y.w.cell? ⟨w.heap.size, 5, none⟩ = some (.slice b e.l.length cap) := fun y => xc 5 _ rfl y.w y.h
  have Y1 := hide (xc 1 _ rfl)
  have Y2 := hide (xc 2 _ rfl)
  have Y3 := hide (xc 3 _ rfl)
  have Y4 := hide (xc 4 _ rfl)
  have Y5 := hide (xc 5 _ rfl)
  have MK := hide (fun x w1 => markS_ex x w1)
  have RG := hide (fun w1 => regS rn hrn w1)
  have RN := hide (fun w1 => rndS rn hrn w1)
  have TE := hide (fun y : Sub W.heap.size W => toksS_all 6 (by omega) e b cap y.w ok (hrW.later y.h))
  have tne := toks_ne ok
  have tle : (toksF 6 e).length ≤ 200 := Nat.le_trans (toks_ok 6 e ok).2 (mxT_le 6 (by omega))
  unfold Ex.cs at TE
  have AT : agT ⟨10, (rn : Int), e⟩ = toksF 6 e := rfl
  rw [AT]
  clear AT ok hr hrW hW xc xl hbW hrn
  generalize toksF 6 e = te at *
  generalize e.k = ek at *
  generalize e.n = en at *
  generalize e.s = es at *
  generalize e.l.length = el at *
  unfold Tk.v Tk.cs at MK RG
  simp only at MK RG
  have rl := rnT_le rn
  have rne := rnT_ne rn
  generalize rnT rn = rt at *
  obtain ⟨T, hT⟩ : ∃ T, te = T := ⟨_, rfl⟩
  have HT := hide hT
  rw [hT]
  clear hT
  have l0 : ([] : List Tk).length ≤ 0 := Nat.le_refl 0
  obtain ⟨y1, hy1⟩ := Sub.step (unhide HZ) (below_new y0.w (.cells #[] 59))
  have O1 := hide (show OwnT y1.w W.heap.size (.slice (some ⟨y0.w.heap.size, 0, none⟩) 0 0) [] by rw [← hy1]; exact ownT_empty y0.w W.heap.size (Nat.le_trans (unhide HZ) y0.h.size))
  go_enter Tryz.func60, Tryz.ntmps60
  go_wp2_with fail
  refine (unhide TE y1).mono ?_
  rintro r w2 ⟨vs, rfl, hS, hb⟩
  have O2 := hide ((unhide O1).later hb)
  clear O1
  obtain ⟨y2, rfl⟩ := Sub.step (unhide HZ) hb
  clear hb
  have SR := hide hS
  clear hS
  go_wp2_with (at_builtin; go_must (refine appT rfl (.tmp 75) (.tmp 78) rfl (unhide HZ) y2.h rfl (unhide O2) rfl (unhide SR) tne (lsum l0 tle (by decide)) ?_; intro v3 y3 hO; obtain ⟨u3, hu⟩ : ∃ u, ([] ++ te) = u := ⟨_, rfl⟩; rw [hu] at hO; have l3 := lapp hu l0 tle; have O3 := hide hO; have H3 := hide hu; clear hO hu O2 SR))
  have EQ : u3 = T := by
    rw [← unhide HT]
    rw [← unhide H3]
    simp [mkT, mkS]
  rw [EQ] at O3
  go_ret
  exact ⟨_, rfl, unhide HO y3 _ _ (unhide O3), unhide HB y3⟩
set_option maxHeartbeats 8000000 in
theorem agt11 (rn : Nat) (hrn : rn < 8) (e : Ex) (ok : okF 6 true e = true) (b : Option Addr) (cap : Nat) (w : World) (hr : RdX w 0 e b) : Calls Tryz.prog 60 #[.agg #[.int .i64 11, .int .i64 (rn : Int), .int .i64 e.k, .int .i64 e.n, .string e.s, .slice b e.l.length cap]] w fun r w' => ∃ v, r = .returned v ∧ OwnT w' w.heap.size v (agT ⟨11, (rn : Int), e⟩) ∧ Below w.heap.size w w' := by
  have hbW := below_new w (.cells #[.int .i64 11, .int .i64 (rn : Int), .int .i64 e.k, .int .i64 e.n, .string e.s, .slice b e.l.length cap] 35)
  obtain ⟨W, hW⟩ : ∃ W, w.alloc (.cells #[.int .i64 11, .int .i64 (rn : Int), .int .i64 e.k, .int .i64 e.n, .string e.s, .slice b e.l.length cap] 35) = W := ⟨_, rfl⟩
  have xl : w.heap.size < W.heap.size := by rw [← hW]; simp
  have hrW := hr.later hbW
  have xc : ∀ (i : Nat) (v : Value), (#[.int .i64 11, .int .i64 (rn : Int), .int .i64 e.k, .int .i64 e.n, .string e.s, .slice b e.l.length cap] : Array Value)[i]? = some v → ∀ w1, Below W.heap.size W w1 → w1.cell? ⟨w.heap.size, i, none⟩ = some v := fun i v h w1 hb => (hb.cell (p := ⟨w.heap.size, i, none⟩) xl).trans (by rw [← hW]; exact box17 w _ _ i v h)
  rw [hW] at hbW hrW
  obtain ⟨y0, hy0⟩ : ∃ z : Sub W.heap.size W, w.alloc (.cells #[.int .i64 11, .int .i64 (rn : Int), .int .i64 e.k, .int .i64 e.n, .string e.s, .slice b e.l.length cap] 35) = z.w := ⟨⟨W, Below.refl _ _⟩, hW⟩
  have ne := Sub.ne W.heap.size W
  have HZ := hide (Nat.le_refl W.heap.size)
  have HB := hide (fun y : Sub W.heap.size W => hbW.trans (y.h.mono hbW.size))
  have HO := hide (fun (y : Sub W.heap.size W) v ts (h : OwnT y.w W.heap.size v ts) => h.base hbW.size)
  have E0 : ∀ y : Sub W.heap.size W, y.w.cell? ⟨w.heap.size, 0, none⟩ = some (.int .i64 11) := fun y => xc 0 _ rfl y.w y.h
  have E1 : ∀ y : Sub W.heap.size W, y.w.cell? ⟨w.heap.size, 1, none⟩ = some (.int .i64 (rn : Int)) := fun y => xc 1 _ rfl y.w y.h
  have E2 : ∀ y : Sub W.heap.size W, y.w.cell? ⟨w.heap.size, 2, none⟩ = some (.int .i64 e.k) := fun y => xc 2 _ rfl y.w y.h
  have E3 : ∀ y : Sub W.heap.size W, y.w.cell? ⟨w.heap.size, 3, none⟩ = some (.int .i64 e.n) := fun y => xc 3 _ rfl y.w y.h
  have E4 : ∀ y : Sub W.heap.size W, y.w.cell? ⟨w.heap.size, 4, none⟩ = some (.string e.s) := fun y => xc 4 _ rfl y.w y.h
  have E5 : ∀ y : Sub W.heap.size W, y.w.cell? ⟨w.heap.size, 5, none⟩ = some (.slice b e.l.length cap) := fun y => xc 5 _ rfl y.w y.h
  have Y1 := hide (xc 1 _ rfl)
  have Y2 := hide (xc 2 _ rfl)
  have Y3 := hide (xc 3 _ rfl)
  have Y4 := hide (xc 4 _ rfl)
  have Y5 := hide (xc 5 _ rfl)
  have MK := hide (fun x w1 => markS_ex x w1)
  have RG := hide (fun w1 => regS rn hrn w1)
  have RN := hide (fun w1 => rndS rn hrn w1)
  have TE := hide (fun y : Sub W.heap.size W => toksS_all 6 (by omega) e b cap y.w ok (hrW.later y.h))
  have tne := toks_ne ok
  have tle : (toksF 6 e).length ≤ 200 := Nat.le_trans (toks_ok 6 e ok).2 (mxT_le 6 (by omega))
  unfold Ex.cs at TE
  have AT : agT ⟨11, (rn : Int), e⟩ = mkT 64 :: toksF 6 e := rfl
  rw [AT]
  clear AT ok hr hrW hW xc xl hbW hrn
  generalize toksF 6 e = te at *
  generalize e.k = ek at *
  generalize e.n = en at *
  generalize e.s = es at *
  generalize e.l.length = el at *
  unfold Tk.v Tk.cs at MK RG
  simp only at MK RG
  have rl := rnT_le rn
  have rne := rnT_ne rn
  generalize rnT rn = rt at *
  obtain ⟨T, hT⟩ : ∃ T, mkT 64 :: te = T := ⟨_, rfl⟩
  have HT := hide hT
  rw [hT]
  clear hT
  have l0 : ([] : List Tk).length ≤ 0 := Nat.le_refl 0
  obtain ⟨y1, hy1⟩ := Sub.step (unhide HZ) (below_new y0.w (.cells #[] 59))
  have O1 := hide (show OwnT y1.w W.heap.size (.slice (some ⟨y0.w.heap.size, 0, none⟩) 0 0) [] by rw [← hy1]; exact ownT_empty y0.w W.heap.size (Nat.le_trans (unhide HZ) y0.h.size))
  go_enter Tryz.func60, Tryz.ntmps60
  go_wp2_with fail
  refine (unhide MK ⟨#[64]⟩ y1.w).mono ?_
  rintro r w2 ⟨rfl, hb⟩
  have O2 := hide ((unhide O1).later hb)
  clear O1
  obtain ⟨y2, rfl⟩ := Sub.step (unhide HZ) hb
  clear hb
  obtain ⟨y3, hy3⟩ := Sub.step (unhide HZ) (below_new y2.w (.cells #[.int .i64 4, .int .i64 0, .string ⟨#[64]⟩] 59))
  have S3 := hide (show OwnT y3.w W.heap.size (.slice (some ⟨y2.w.heap.size, 0, none⟩) 1 1) [(Tk.mk 4 0 ⟨#[64]⟩)] by rw [← hy3]; exact ownT_new y2.w (Tk.mk 4 0 ⟨#[64]⟩) W.heap.size (Nat.le_trans (unhide HZ) y2.h.size))
  have O3 := hide (show OwnT y3.w W.heap.size (.slice (some ⟨y0.w.heap.size, 0, none⟩) 0 0) [] by rw [← hy3]; exact (unhide O2).later (below_new _ _))
  clear O2
  go_wp2_with (at_builtin; go_must (refine appT rfl (.tmp 13) (.tmp 15) rfl (unhide HZ) y3.h rfl (unhide O3) rfl (unhide S3) (one_ne _) (lsum l0 (one_le _) (by decide)) ?_; intro v4 y4 hO; obtain ⟨u4, hu⟩ : ∃ u, ([] ++ [(Tk.mk 4 0 ⟨#[64]⟩)]) = u := ⟨_, rfl⟩; rw [hu] at hO; have l4 := lapp hu l0 (one_le _); have O4 := hide hO; have H4 := hide hu; clear hO hu O3 S3))
  refine (unhide TE y4).mono ?_
  rintro r w5 ⟨vs, rfl, hS, hb⟩
  have O5 := hide ((unhide O4).later hb)
  clear O4
  obtain ⟨y5, rfl⟩ := Sub.step (unhide HZ) hb
  clear hb
  have SR := hide hS
  clear hS
  go_wp2_with (at_builtin; go_must (refine appT rfl (.tmp 75) (.tmp 78) rfl (unhide HZ) y5.h rfl (unhide O5) rfl (unhide SR) tne (lsum l4 tle (by decide)) ?_; intro v6 y6 hO; obtain ⟨u6, hu⟩ : ∃ u, (u4 ++ te) = u := ⟨_, rfl⟩; rw [hu] at hO; have l6 := lapp hu l4 tle; have O6 := hide hO; have H6 := hide hu; clear hO hu O5 SR))
  have EQ : u6 = T := by
    rw [← unhide HT]
    rw [← unhide H6, ← unhide H4]
    simp [mkT, mkS]
  rw [EQ] at O6
  go_ret
  exact ⟨_, rfl, unhide HO y6 _ _ (unhide O6), unhide HB y6⟩
end Go.Proofs.YtmhcbehplhfgfaaGreatDoor

namespace Go.Proofs.YtmhcbehplhfgfaaGreatDoor
open Go.ChangeShapes Go.WideShapes Go.ChangeAt Go.RowKit
set_option linter.unusedVariables false
set_option maxRecDepth 8000
set_option linter.unusedSimpArgs false
theorem inB_of {x a b : Int} (h : inB x a b = true) : a ≤ x ∧ x ≤ b := by
  unfold inB at h
  simpa using h
theorem agtS_any (a : Ag) (b : Option Addr) (cap : Nat) (w : World) (ok : agX a = true) (hr : RdX w 0 a.e b) : Calls Tryz.prog 60 #[.agg (a.cs b cap)] w fun r w' => ∃ v, r = .returned v ∧ OwnT w' w.heap.size v (agT a) ∧ Below w.heap.size w w' := by
  obtain ⟨f, r, e⟩ := a
  unfold agX at ok
  unfold Ag.cs
  simp only at ok hr ⊢
  by_cases h1 : inB f 0 5 = true
  · rw [if_pos h1] at ok
    obtain ⟨h2, _⟩ := Bool.and_eq_true_iff.1 ok
    obtain ⟨q1, q2⟩ := inB_of h2
    obtain ⟨rn, rfl⟩ : ∃ n : Nat, r = (n : Int) := ⟨r.toNat, by omega⟩
    obtain ⟨p1, p2⟩ := inB_of h1
    have hrn : rn < 8 := by omega
    have : f = 0 ∨ f = 1 ∨ f = 2 ∨ f = 3 ∨ f = 4 ∨ f = 5 := by omega
    rcases this with rfl | rfl | rfl | rfl | rfl | rfl
    · exact agt0 rn hrn e trivial b cap w hr
    · exact agt1 rn hrn e trivial b cap w hr
    · exact agt2 rn hrn e trivial b cap w hr
    · exact agt3 rn hrn e trivial b cap w hr
    · exact agt4 rn hrn e trivial b cap w hr
    · exact agt5 rn hrn e trivial b cap w hr
  rw [if_neg h1] at ok
  by_cases h2 : (f == 6 || f == 7) = true
  · rw [if_pos h2] at ok
    obtain ⟨h3, h4⟩ := Bool.and_eq_true_iff.1 ok
    obtain ⟨q1, q2⟩ := inB_of h3
    obtain ⟨rn, rfl⟩ : ∃ n : Nat, r = (n : Int) := ⟨r.toNat, by omega⟩
    have hrn : rn < 8 := by omega
    have : f = 6 ∨ f = 7 := by simpa using h2
    rcases this with rfl | rfl
    · exact agt6 rn hrn e h4 b cap w hr
    · exact agt7 rn hrn e h4 b cap w hr
  rw [if_neg h2] at ok
  by_cases h3 : inB f 8 11 = true
  · rw [if_pos h3] at ok
    obtain ⟨h5, h4⟩ := Bool.and_eq_true_iff.1 ok
    have h5 : r = 0 := by simpa using h5
    subst h5
    obtain ⟨p1, p2⟩ := inB_of h3
    have : f = 8 ∨ f = 9 ∨ f = 10 ∨ f = 11 := by omega
    rcases this with rfl | rfl | rfl | rfl
    · exact agt8 0 (by omega) e h4 b cap w hr
    · exact agt9 0 (by omega) e h4 b cap w hr
    · exact agt10 0 (by omega) e h4 b cap w hr
    · exact agt11 0 (by omega) e h4 b cap w hr
  rw [if_neg h3] at ok
  cases ok
theorem agX_e {a : Ag} (ok : agX a = true) (h : 6 ≤ a.f) : okF 6 true a.e = true := by
  unfold agX at ok
  by_cases h1 : inB a.f 0 5 = true
  · have := inB_of h1; omega
  rw [if_neg h1] at ok
  by_cases h2 : (a.f == 6 || a.f == 7) = true
  · rw [if_pos h2] at ok; exact (Bool.and_eq_true_iff.1 ok).2
  rw [if_neg h2] at ok
  by_cases h3 : inB a.f 8 11 = true
  · rw [if_pos h3] at ok; exact (Bool.and_eq_true_iff.1 ok).2
  rw [if_neg h3] at ok
  cases ok
theorem toks_le {e : Ex} (ok : okF 6 true e = true) : (toksF 6 e).length ≤ 200 := Nat.le_trans (toks_ok 6 e ok).2 (mxT_le 6 (by omega))
theorem agX_f {a : Ag} (ok : agX a = true) : 0 ≤ a.f ∧ a.f ≤ 11 := by
  unfold agX at ok
  by_cases h1 : inB a.f 0 5 = true
  · have := inB_of h1; omega
  rw [if_neg h1] at ok
  by_cases h2 : (a.f == 6 || a.f == 7) = true
  · have : a.f = 6 ∨ a.f = 7 := by simpa using h2
    omega
  rw [if_neg h2] at ok
  by_cases h3 : inB a.f 8 11 = true
  · have := inB_of h3; omega
  rw [if_neg h3] at ok
  cases ok
theorem agT_ok {a : Ag} (ok : agX a = true) : agT a ≠ [] ∧ (agT a).length ≤ 205 := by
  obtain ⟨f1, f2⟩ := agX_f ok
  have hr : (rnT a.r.toNat).length = 3 := rfl
  have hn := rnT_ne a.r.toNat
  by_cases h6 : 6 ≤ a.f
  · have hl := toks_le (agX_e ok h6)
    have ht := toks_ne (agX_e ok h6)
    have : a.f = 6 ∨ a.f = 7 ∨ a.f = 8 ∨ a.f = 9 ∨ a.f = 10 ∨ a.f = 11 := by omega
    rcases this with h | h | h | h | h | h <;> (unfold agT; simp [h, ht, hn]; try omega)
  · have : a.f = 0 ∨ a.f = 1 ∨ a.f = 2 ∨ a.f = 3 ∨ a.f = 4 ∨ a.f = 5 := by omega
    rcases this with h | h | h | h | h | h <;> (unfold agT; simp [h, hn]; try omega)
/-- Terms with commas between. -/
def cmT : List Ex → List Tk
  | [] => []
  | e :: r => toksF 6 e ++ (r.map fun x => mkT 44 :: toksF 6 x).flatten
/-- A word with a point ahead, and terms. -/
def tmT (x : ByteArray) (l : List Ex) : List Tk := ⟨3, 0, x⟩ :: cmT l
theorem cmT_one (l : List Ex) (h : 0 < l.length) : cmT (l.take 1) = toksF 6 (xAt l 0) := by
  cases l with
  | nil => cases h
  | cons e r => simp [cmT, xAt]
theorem cmT_more (l : List Ex) (j : Nat) (h0 : 0 < j) (h : j < l.length) : cmT (l.take (j + 1)) = cmT (l.take j) ++ [mkT 44] ++ toksF 6 (xAt l j) := by
  cases l with
  | nil => cases h
  | cons e r =>
    obtain ⟨i, rfl⟩ : ∃ i, j = i + 1 := ⟨j - 1, by omega⟩
    have hi : i < r.length := by simpa using h
    rw [List.take_succ_cons, List.take_succ_cons, List.take_succ_eq_append_getElem hi]
    have e1 : xAt (e :: r) (i + 1) = r[i] := by
      unfold xAt
      rw [List.getD_eq_getElem?_getD, List.getElem?_cons_succ, List.getElem?_eq_getElem hi]
      rfl
    rw [e1]
    simp only [cmT, List.map_append, List.map_cons, List.map_nil, List.flatten_append, List.flatten_cons, List.flatten_nil, List.append_nil, List.append_assoc, List.cons_append, List.nil_append]
theorem cmT_le (l : List Ex) (ok : l.all (okF 6 true) = true) : ∀ j, j ≤ l.length → (cmT (l.take j)).length ≤ 201 * j := by
  intro j
  induction j with
  | zero => intro _; simp [cmT]
  | succ j ih =>
    intro hj
    have ih := ih (by omega)
    have okj : okF 6 true (xAt l j) = true := List.all_eq_true.1 ok _ (xAt_mem (by omega))
    have hl := toks_le okj
    by_cases h0 : j = 0
    · subst h0
      rw [cmT_one l (by omega)]
      omega
    · rw [cmT_more l j (by omega) (by omega), List.length_append, List.length_append]
      have : [mkT 44].length = 1 := rfl
      omega
set_option maxHeartbeats 8000000 in
theorem tmtS (x : ByteArray) (l : List Ex) (b : Option Addr) (cap : Nat) (W : World) (hr : RdX W 0 ⟨0, 0, E0, l⟩ b) (h6 : l.length ≤ 1000) (ok : l.all (okF 6 true) = true) : Calls Tryz.prog 34 #[.string x, .slice b l.length cap] W fun r w' => ∃ v, r = .returned v ∧ OwnT w' W.heap.size v (tmT x l) ∧ Below W.heap.size W w' := by
  rw [RdX_eq] at hr
  have OKJ := hide (fun j (hj : j < l.length) => (show okF 6 true (xAt l j) = true from List.all_eq_true.1 ok _ (xAt_mem hj)))
  have C1 := hide (cmT_one l)
  have C2 := hide (cmT_more l)
  have CL := hide (cmT_le l ok)
  have CE := hide (show tmT x l = Tk.mk 3 0 x :: cmT (l.take l.length) by rw [List.take_length]; rfl)
  obtain ⟨len, hl⟩ : ∃ len, l.length = len := ⟨_, rfl⟩
  rw [hl] at h6 OKJ C1 C2 CL CE ⊢
  have ne := Sub.ne W.heap.size W
  have HZ := hide (Nat.le_refl W.heap.size)
  have HB := hide (fun y : Sub W.heap.size W => y.h)
  have MK := hide (fun x w1 => markS_ex x w1)
  unfold Tk.v Tk.cs at MK
  simp only at MK
  obtain ⟨T, hT⟩ : ∃ T, tmT x l = T := ⟨_, rfl⟩
  rw [hT] at CE ⊢
  clear hT
  obtain ⟨y1, hy1⟩ : ∃ y1 : Sub W.heap.size W, W.alloc (.cells #[.int .i64 3, .int .i64 0, .string x] 59) = y1.w := ⟨⟨_, below_new _ _⟩, rfl⟩
  have O1 := hide (show OwnT y1.w W.heap.size (.slice (some ⟨W.heap.size, 0, none⟩) 1 1) [Tk.mk 3 0 x] by rw [← hy1]; exact ownT_new W (Tk.mk 3 0 x) W.heap.size (unhide HZ))
  clear ok
  go_enter Tryz.func34, Tryz.ntmps34
  go_wp2
  go_loopw [5, 6] (fun o i wr => ∃ (j : Nat) (z : Sub W.heap.size W), j ≤ len ∧ i = .int .i64 j ∧ OwnT z.w W.heap.size o (Tk.mk 3 0 x :: cmT (l.take j)) ∧ wr = z.w) (fun _ i _ => len - (intOf i).toNat)
  case atStart => exact ⟨0, y1, Nat.zero_le _, rfl, unhide O1, rfl⟩
  case round =>
    obtain ⟨j, y2, hj, rfl, hO, rfl⟩ := hrel
    have O2 := hide hO
    clear hO O1 hy1
    by_cases hlt : j < len
    · rcases hr with h0 | ⟨p1, po, hb1, _, hp1, hpc⟩
      · have h0 : l = [] := h0
        rw [h0] at hl; simp at hl; omega
      subst hb1
      obtain ⟨e0, e1, e2, pc, pp, e3, e4⟩ := hpc j (show j < l.length by omega)
      have d0 : ∀ y : Sub W.heap.size W, y.w.cell? ⟨p1, po + j * 4, none⟩ = some (.int .i64 (xAt l j).k) := fun y => (y.h.cell (p := ⟨p1, _, none⟩) hp1).trans e0
      have d1 : ∀ y : Sub W.heap.size W, y.w.cell? ⟨p1, po + j * 4 + 1, none⟩ = some (.int .i64 (xAt l j).n) := fun y => (y.h.cell (p := ⟨p1, _, none⟩) hp1).trans e1
      have d2 : ∀ y : Sub W.heap.size W, y.w.cell? ⟨p1, po + j * 4 + 2, none⟩ = some (.string (xAt l j).s) := fun y => (y.h.cell (p := ⟨p1, _, none⟩) hp1).trans e2
      have d3 : ∀ y : Sub W.heap.size W, y.w.cell? ⟨p1, po + j * 4 + 3, none⟩ = some (.slice pc (xAt l j).l.length pp) := fun y => (y.h.cell (p := ⟨p1, _, none⟩) hp1).trans e3
      have okj := unhide OKJ j hlt
      have TE := hide (fun y : Sub W.heap.size W => toksS_all 6 (by omega) (xAt l j) pc pp y.w okj ((show RdX W 0 (xAt l j) pc from e4).later y.h))
      have tne := toks_ne okj
      have tle := toks_le okj
      have C1 := hide (fun (h : j = 0) => (show cmT (l.take (j + 1)) = toksF 6 (xAt l j) by subst h; exact unhide C1 (by omega)))
      have C2 := hide (fun (h : 0 < j) => unhide C2 j h hlt)
      have cl := unhide CL j hj
      clear e0 e1 e2 e3 e4 hpc okj OKJ CL
      unfold Ex.cs at TE
      generalize toksF 6 (xAt l j) = te at *
      generalize (xAt l j).s = ss at *
      generalize (xAt l j).k = kk at *
      generalize (xAt l j).n = nn at *
      generalize (xAt l j).l.length = ll at *
      by_cases hj0 : j = 0
      · subst hj0
        simp only [Nat.zero_mul, Nat.add_zero] at d0 d1 d2 d3
        have l2 : [Tk.mk 3 0 x].length ≤ 1 := Nat.le_refl 1
        have EE := hide (unhide C1 rfl)
        rw [show cmT (l.take 0) = [] by simp [cmT]] at O2
        clear C1 C2 cl
        go_wp2_with fail
        refine (unhide TE y2).mono ?_
        rintro r w3 ⟨vs, rfl, hS, hb⟩
        have O3 := hide ((unhide O2).later hb)
        clear O2
        obtain ⟨y3, rfl⟩ := Sub.step (unhide HZ) hb
        clear hb
        have SR := hide hS
        clear hS
        go_wp2_with (at_builtin; go_must (refine appT rfl (.tmp 22) (.tmp 27) rfl (unhide HZ) y3.h rfl (unhide O3) rfl (unhide SR) tne (lsum l2 tle (by decide)) ?_; intro v4 y4 hO; obtain ⟨u4, hu⟩ : ∃ u, ([Tk.mk 3 0 x] ++ te) = u := ⟨_, rfl⟩; rw [hu] at hO; have l4 := lapp hu l2 tle; have O4 := hide hO; have H4 := hide hu; clear hO hu O3 SR))
        have EQ : u4 = Tk.mk 3 0 x :: cmT (l.take (0 + 1)) := by
          rw [unhide EE]
          rw [← unhide H4]
          simp [mkT, mkS]
        rw [EQ] at O4
        go_roundw
        case rel => exact ⟨0 + 1, y4, by omega, by go_num, unhide O4, rfl⟩
        case measure => simp [intOf]; omega
      · have hj1 : 0 < j := by omega
        have hj2 : (0 : Int) < (j : Int) := by omega
        have hj3 : ¬ ((j : Int) ≤ 0) := by omega
        have EE := hide (unhide C2 hj1)
        clear C1 C2
        generalize cmT (l.take j) = cm at *
        have l2 : (Tk.mk 3 0 x :: cm).length ≤ 201201 := by simp only [List.length_cons]; omega
        clear cl
        go_wp2_with fail
        refine (unhide MK ⟨#[44]⟩ y2.w).mono ?_
        rintro r w3 ⟨rfl, hb⟩
        have O3 := hide ((unhide O2).later hb)
        clear O2
        obtain ⟨y3, rfl⟩ := Sub.step (unhide HZ) hb
        clear hb
        obtain ⟨y4, hy4⟩ := Sub.step (unhide HZ) (below_new y3.w (.cells #[.int .i64 4, .int .i64 0, .string ⟨#[44]⟩] 59))
        have S4 := hide (show OwnT y4.w W.heap.size (.slice (some ⟨y3.w.heap.size, 0, none⟩) 1 1) [(Tk.mk 4 0 ⟨#[44]⟩)] by rw [← hy4]; exact ownT_new y3.w (Tk.mk 4 0 ⟨#[44]⟩) W.heap.size (Nat.le_trans (unhide HZ) y3.h.size))
        have O4 := hide (show OwnT y4.w W.heap.size (_) (Tk.mk 3 0 x :: cm) by rw [← hy4]; exact (unhide O3).later (below_new _ _))
        clear O3
        go_wp2_with (at_builtin; go_must (refine appT rfl (.tmp 18) (.tmp 20) rfl (unhide HZ) y4.h rfl (unhide O4) rfl (unhide S4) (one_ne _) (lsum l2 (one_le _) (by decide)) ?_; intro v5 y5 hO; obtain ⟨u5, hu⟩ : ∃ u, ((Tk.mk 3 0 x :: cm) ++ [(Tk.mk 4 0 ⟨#[44]⟩)]) = u := ⟨_, rfl⟩; rw [hu] at hO; have l5 := lapp hu l2 (one_le _); have O5 := hide hO; have H5 := hide hu; clear hO hu O4 S4))
        refine (unhide TE y5).mono ?_
        rintro r w6 ⟨vs, rfl, hS, hb⟩
        have O6 := hide ((unhide O5).later hb)
        clear O5
        obtain ⟨y6, rfl⟩ := Sub.step (unhide HZ) hb
        clear hb
        have SR := hide hS
        clear hS
        go_wp2_with (at_builtin; go_must (refine appT rfl (.tmp 22) (.tmp 27) rfl (unhide HZ) y6.h rfl (unhide O6) rfl (unhide SR) tne (lsum l5 tle (by decide)) ?_; intro v7 y7 hO; obtain ⟨u7, hu⟩ : ∃ u, (u5 ++ te) = u := ⟨_, rfl⟩; rw [hu] at hO; have l7 := lapp hu l5 tle; have O7 := hide hO; have H7 := hide hu; clear hO hu O6 SR))
        have EQ : u7 = Tk.mk 3 0 x :: cmT (l.take (j + 1)) := by
          rw [unhide EE]
          rw [← unhide H7, ← unhide H5]
          simp [mkT, mkS]
        rw [EQ] at O7
        go_roundw
        case rel => exact ⟨j + 1, y7, by omega, by go_num, unhide O7, rfl⟩
        case measure => simp [intOf]; omega
    · obtain rfl : j = len := by omega
      have O3 := hide (unhide O2)
      rw [← unhide CE] at O3
      clear C1 C2 CL OKJ
      go_wp2
      go_ret
      exact ⟨_, rfl, unhide O3, unhide HB _⟩
end Go.Proofs.YtmhcbehplhfgfaaGreatDoor
