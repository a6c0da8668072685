/- Contracts over this seat's translation, laid together; conditions stand as hypotheses of each. -/
import Derived.Test.YtmhcbehplhfgfaaDoorTxA
import Derived.Test.YtmhcbehplhfgfaaDoorTxC
import Derived.Test.YtmhcbehplhfgfaaDoorTxD
import Derived.Test.YtmhcbehplhfgfaaDoorTxE
import Derived.Test.YtmhcbehplhfgfaaDoorTxF
import Derived.ScopeJumps
import Derived.WalkMore

namespace Go.Proofs.YtmhcbehplhfgfaaDoor
open Go.ChangeShapes Go.WideShapes Go.ChangeAt Go.RowKit
set_option linter.unusedVariables false
set_option maxRecDepth 8000
set_option linter.unusedSimpArgs false

theorem lapp {ts us u : List Tk} {a b : Nat} (h : ts ++ us = u) (h1 : ts.length ≤ a) (h2 : us.length ≤ b) : u.length ≤ a + b := by rw [← h, List.length_append]; omega
theorem lsum {ts us : List Tk} {a b : Nat} (h1 : ts.length ≤ a) (h2 : us.length ≤ b) (h : a + b ≤ 1000000) : ts.length + us.length ≤ 1000000 := by omega
/-- The tokens of an operand. -/
def agT (a : Ag) : List Tk :=
  if a.f = 0 then [rgT a.r.toNat] else if a.f = 1 then rnT a.r.toNat else if a.f = 2 then rnT a.r.toNat ++ [mkT 43] else if a.f = 3 then mkT 64 :: (rnT a.r.toNat ++ [mkT 43])
  else if a.f = 4 then mkT 45 :: rnT a.r.toNat else if a.f = 5 then mkT 64 :: mkT 45 :: rnT a.r.toNat else if a.f = 6 then toksF 6 a.e ++ rnT a.r.toNat else if a.f = 7 then mkT 64 :: (toksF 6 a.e ++ rnT a.r.toNat)
  else if a.f = 8 then mkT 35 :: toksF 6 a.e else if a.f = 9 then mkT 64 :: mkT 35 :: toksF 6 a.e else if a.f = 10 then toksF 6 a.e else mkT 64 :: toksF 6 a.e
theorem rnT_ne (n : Nat) : rnT n ≠ [] := by unfold rnT; simp
theorem rnT_le (n : Nat) : (rnT n).length ≤ 3 := Nat.le_refl 3
theorem one_ne (t : Tk) : [t] ≠ [] := by simp
theorem one_le (t : Tk) : [t].length ≤ 1 := Nat.le_refl 1
set_option maxHeartbeats 8000000 in
theorem agt0 (rn : Nat) (hrn : rn < 8) (e : Ex) (ok : True) (b : Option Addr) (cap : Nat) (w : World) (hr : RdX w 0 e b) : Calls Tryd.prog 35 #[.agg #[.int .i64 0, .int .i64 (rn : Int), .int .i64 e.k, .int .i64 e.n, .string e.s, .slice b e.l.length cap]] w fun r w' => ∃ v, r = .returned v ∧ OwnT w' w.heap.size v (agT ⟨0, (rn : Int), e⟩) ∧ Below w.heap.size w w' := by
  have hbW := below_new w (.cells #[.int .i64 0, .int .i64 (rn : Int), .int .i64 e.k, .int .i64 e.n, .string e.s, .slice b e.l.length cap] 33)
  obtain ⟨W, hW⟩ : ∃ W, w.alloc (.cells #[.int .i64 0, .int .i64 (rn : Int), .int .i64 e.k, .int .i64 e.n, .string e.s, .slice b e.l.length cap] 33) = W := ⟨_, rfl⟩
  have xl : w.heap.size < W.heap.size := by rw [← hW]; simp
  have hrW := hr.later hbW
  have xc : ∀ (i : Nat) (v : Value), (#[.int .i64 0, .int .i64 (rn : Int), .int .i64 e.k, .int .i64 e.n, .string e.s, .slice b e.l.length cap] : Array Value)[i]? = some v → ∀ w1, Below W.heap.size W w1 → w1.cell? ⟨w.heap.size, i, none⟩ = some v := fun i v h w1 hb => (hb.cell (p := ⟨w.heap.size, i, none⟩) xl).trans (by rw [← hW]; exact box17 w _ _ i v h)
  rw [hW] at hbW hrW
  obtain ⟨y0, hy0⟩ : ∃ z : Sub W.heap.size W, w.alloc (.cells #[.int .i64 0, .int .i64 (rn : Int), .int .i64 e.k, .int .i64 e.n, .string e.s, .slice b e.l.length cap] 33) = z.w := ⟨⟨W, Below.refl _ _⟩, hW⟩
  have ne := Sub.ne W.heap.size W
  have HZ := hide (Nat.le_refl W.heap.size)
  have HB := hide (fun y : Sub W.heap.size W => hbW.trans (y.h.mono hbW.size))
  have HO := hide (fun (y : Sub W.heap.size W) v ts (h : OwnT y.w W.heap.size v ts) => h.base hbW.size)
  have E0 : ∀ y : Sub W.heap.size W, y.w.cell? ⟨w.heap.size, 0, none⟩ = some (.int .i64 0) := fun y => xc 0 _ rfl y.w y.h
  have E1 : ∀ y : Sub W.heap.size W, y.w.cell? ⟨w.heap.size, 1, none⟩ = some (.int .i64 (rn : Int)) := fun y => xc 1 _ rfl y.w y.h
  have E2 : ∀ y : Sub W.heap.size W, y.w.cell? ⟨w.heap.size, 2, none⟩ = some (.int .i64 e.k) := fun y => xc 2 _ rfl y.w y.h
  have E3 : ∀ y : Sub W.heap.size W, y.w.cell? ⟨w.heap.size, 3, none⟩ = some (.int .i64 e.n) := fun y => xc 3 _ rfl y.w y.h
  have E4 : ∀ y : Sub W.heap.size W, y.w.cell? ⟨w.heap.size, 4, none⟩ = some (.string e.s) := fun y => xc 4 _ rfl y.w y.h
  have E5 : ∀ y : Sub W.heap.size W, y.w.cell? ⟨w.heap.size, 5, none⟩ = some (.slice b e.l.length cap) := fun y => xc 5 _ rfl y.w y.h
  have Y1 := hide (xc 1 _ rfl)
  have Y2 := hide (xc 2 _ rfl)
  have Y3 := hide (xc 3 _ rfl)
  have Y4 := hide (xc 4 _ rfl)
  have Y5 := hide (xc 5 _ rfl)
  have MK := hide (fun x w1 => markS_ex x w1)
  have RG := hide (fun w1 => regS rn hrn w1)
  have RN := hide (fun w1 => rndS rn hrn w1)
  have AT : agT ⟨0, (rn : Int), e⟩ = [rgT rn] := rfl
  rw [AT]
  clear AT ok hr hrW hW xc xl hbW hrn
  generalize e.k = ek at *
  generalize e.n = en at *
  generalize e.s = es at *
  generalize e.l.length = el at *
  unfold Tk.v Tk.cs at MK RG
  simp only at MK RG
  have rl := rnT_le rn
  have rne := rnT_ne rn
  generalize rnT rn = rt at *
  obtain ⟨T, hT⟩ : ∃ T, [rgT rn] = T := ⟨_, rfl⟩
  have HT := hide hT
  rw [hT]
  clear hT
  have l0 : ([] : List Tk).length ≤ 0 := Nat.le_refl 0
  obtain ⟨y1, hy1⟩ := Sub.step (unhide HZ) (below_new y0.w (.cells #[] 91))
  have O1 := hide (show OwnT y1.w W.heap.size (.slice (some ⟨y0.w.heap.size, 0, none⟩) 0 0) [] by rw [← hy1]; exact ownT_empty y0.w W.heap.size (Nat.le_trans (unhide HZ) y0.h.size))
  go_enter Tryd.func35, Tryd.ntmps35
  go_wp2_with fail
  refine (unhide RG y1.w).mono ?_
  rintro r w2 ⟨rfl, hb⟩
  have O2 := hide ((unhide O1).later hb)
  clear O1
  obtain ⟨y2, rfl⟩ := Sub.step (unhide HZ) hb
  clear hb
  obtain ⟨y3, hy3⟩ := Sub.step (unhide HZ) (below_new y2.w (.cells #[.int .i64 (rgT rn).k, .int .i64 (rgT rn).n, .string (rgT rn).s] 91))
  have S3 := hide (show OwnT y3.w W.heap.size (.slice (some ⟨y2.w.heap.size, 0, none⟩) 1 1) [rgT rn] by rw [← hy3]; exact ownT_new y2.w (rgT rn) W.heap.size (Nat.le_trans (unhide HZ) y2.h.size))
  have O3 := hide (show OwnT y3.w W.heap.size (.slice (some ⟨y0.w.heap.size, 0, none⟩) 0 0) [] by rw [← hy3]; exact (unhide O2).later (below_new _ _))
  clear O2
  go_wp2_with (at_builtin; go_must (refine appT rfl (.tmp 21) (.tmp 25) rfl (unhide HZ) y3.h rfl (unhide O3) rfl (unhide S3) (one_ne _) (lsum l0 (one_le _) (by decide)) ?_; intro v4 y4 hO; obtain ⟨u4, hu⟩ : ∃ u, ([] ++ [rgT rn]) = u := ⟨_, rfl⟩; rw [hu] at hO; have l4 := lapp hu l0 (one_le _); have O4 := hide hO; have H4 := hide hu; clear hO hu O3 S3))
  have EQ : u4 = T := by
    rw [← unhide HT]
    rw [← unhide H4]
    simp [mkT, mkS]
  rw [EQ] at O4
  go_ret
  exact ⟨_, rfl, unhide HO y4 _ _ (unhide O4), unhide HB y4⟩
set_option maxHeartbeats 8000000 in
theorem agt1 (rn : Nat) (hrn : rn < 8) (e : Ex) (ok : True) (b : Option Addr) (cap : Nat) (w : World) (hr : RdX w 0 e b) : Calls Tryd.prog 35 #[.agg #[.int .i64 1, .int .i64 (rn : Int), .int .i64 e.k, .int .i64 e.n, .string e.s, .slice b e.l.length cap]] w fun r w' => ∃ v, r = .returned v ∧ OwnT w' w.heap.size v (agT ⟨1, (rn : Int), e⟩) ∧ Below w.heap.size w w' := by
  have hbW := below_new w (.cells #[.int .i64 1, .int .i64 (rn : Int), .int .i64 e.k, .int .i64 e.n, .string e.s, .slice b e.l.length cap] 33)
  obtain ⟨W, hW⟩ : ∃ W, w.alloc (.cells #[.int .i64 1, .int .i64 (rn : Int), .int .i64 e.k, .int .i64 e.n, .string e.s, .slice b e.l.length cap] 33) = W := ⟨_, rfl⟩
  have xl : w.heap.size < W.heap.size := by rw [← hW]; simp
  have hrW := hr.later hbW
  have xc : ∀ (i : Nat) (v : Value), (#[.int .i64 1, .int .i64 (rn : Int), .int .i64 e.k, .int .i64 e.n, .string e.s, .slice b e.l.length cap] : Array Value)[i]? = some v → ∀ w1, Below W.heap.size W w1 → w1.cell? ⟨w.heap.size, i, none⟩ = some v := fun i v h w1 hb => (hb.cell (p := ⟨w.heap.size, i, none⟩) xl).trans (by rw [← hW]; exact box17 w _ _ i v h)
  rw [hW] at hbW hrW
  obtain ⟨y0, hy0⟩ : ∃ z : Sub W.heap.size W, w.alloc (.cells #[.int .i64 1, .int .i64 (rn : Int), .int .i64 e.k, .int .i64 e.n, .string e.s, .slice b e.l.length cap] 33) = z.w := ⟨⟨W, Below.refl _ _⟩, hW⟩
  have ne := Sub.ne W.heap.size W
  have HZ := hide (Nat.le_refl W.heap.size)
  have HB := hide (fun y : Sub W.heap.size W => hbW.trans (y.h.mono hbW.size))
  have HO := hide (fun (y : Sub W.heap.size W) v ts (h : OwnT y.w W.heap.size v ts) => h.base hbW.size)
  have E0 : ∀ y : Sub W.heap.size W, y.w.cell? ⟨w.heap.size, 0, none⟩ = some (.int .i64 1) := fun y => xc 0 _ rfl y.w y.h
  have E1 : ∀ y : Sub W.heap.size W, y.w.cell? ⟨w.heap.size, 1, none⟩ = some (.int .i64 (rn : Int)) := fun y => xc 1 _ rfl y.w y.h
  have E2 : ∀ y : Sub W.heap.size W, y.w.cell? ⟨w.heap.size, 2, none⟩ = some (.int .i64 e.k) := fun y => xc 2 _ rfl y.w y.h
  have E3 : ∀ y : Sub W.heap.size W, y.w.cell? ⟨w.heap.size, 3, none⟩ = some (.int .i64 e.n) := fun y => xc 3 _ rfl y.w y.h
  have E4 : ∀ y : Sub W.heap.size W, y.w.cell? ⟨w.heap.size, 4, none⟩ = some (.string e.s) := fun y => xc 4 _ rfl y.w y.h
  have E5 : ∀ y : Sub W.heap.size W, y.w.cell? ⟨w.heap.size, 5, none⟩ = some (.slice b e.l.length cap) := fun y => xc 5 _ rfl y.w y.h
  have Y1 := hide (xc 1 _ rfl)
  have Y2 := hide (xc 2 _ rfl)
  have Y3 := hide (xc 3 _ rfl)
  have Y4 := hide (xc 4 _ rfl)
  have Y5 := hide (xc 5 _ rfl)
  have MK := hide (fun x w1 => markS_ex x w1)
  have RG := hide (fun w1 => regS rn hrn w1)
  have RN := hide (fun w1 => rndS rn hrn w1)
  have AT : agT ⟨1, (rn : Int), e⟩ = rnT rn := rfl
  rw [AT]
  clear AT ok hr hrW hW xc xl hbW hrn
  generalize e.k = ek at *
  generalize e.n = en at *
  generalize e.s = es at *
  generalize e.l.length = el at *
  unfold Tk.v Tk.cs at MK RG
  simp only at MK RG
  have rl := rnT_le rn
  have rne := rnT_ne rn
  generalize rnT rn = rt at *
  obtain ⟨T, hT⟩ : ∃ T, rt = T := ⟨_, rfl⟩
  have HT := hide hT
  rw [hT]
  clear hT
  have l0 : ([] : List Tk).length ≤ 0 := Nat.le_refl 0
  obtain ⟨y1, hy1⟩ := Sub.step (unhide HZ) (below_new y0.w (.cells #[] 91))
  have O1 := hide (show OwnT y1.w W.heap.size (.slice (some ⟨y0.w.heap.size, 0, none⟩) 0 0) [] by rw [← hy1]; exact ownT_empty y0.w W.heap.size (Nat.le_trans (unhide HZ) y0.h.size))
  go_enter Tryd.func35, Tryd.ntmps35
  go_wp2_with fail
  refine (unhide RN y1.w).mono ?_
  rintro r w2 ⟨vs, rfl, hS, hb⟩
  have O2 := hide ((unhide O1).later hb)
  clear O1
  obtain ⟨y2, rfl⟩ := Sub.step (unhide HZ) hb
  clear hb
  have SR := hide hS
  clear hS
  go_wp2_with (at_builtin; go_must (refine appT rfl (.tmp 29) (.tmp 32) rfl (unhide HZ) y2.h rfl (unhide O2) rfl (unhide SR) rne (lsum l0 rl (by decide)) ?_; intro v3 y3 hO; obtain ⟨u3, hu⟩ : ∃ u, ([] ++ rt) = u := ⟨_, rfl⟩; rw [hu] at hO; have l3 := lapp hu l0 rl; have O3 := hide hO; have H3 := hide hu; clear hO hu O2 SR))
  have EQ : u3 = T := by
    rw [← unhide HT]
    rw [← unhide H3]
    simp [mkT, mkS]
  rw [EQ] at O3
  go_ret
  exact ⟨_, rfl, unhide HO y3 _ _ (unhide O3), unhide HB y3⟩
set_option maxHeartbeats 8000000 in
theorem agt2 (rn : Nat) (hrn : rn < 8) (e : Ex) (ok : True) (b : Option Addr) (cap : Nat) (w : World) (hr : RdX w 0 e b) : Calls Tryd.prog 35 #[.agg #[.int .i64 2, .int .i64 (rn : Int), .int .i64 e.k, .int .i64 e.n, .string e.s, .slice b e.l.length cap]] w fun r w' => ∃ v, r = .returned v ∧ OwnT w' w.heap.size v (agT ⟨2, (rn : Int), e⟩) ∧ Below w.heap.size w w' := by
  have hbW := below_new w (.cells #[.int .i64 2, .int .i64 (rn : Int), .int .i64 e.k, .int .i64 e.n, .string e.s, .slice b e.l.length cap] 33)
  obtain ⟨W, hW⟩ : ∃ W, w.alloc (.cells #[.int .i64 2, .int .i64 (rn : Int), .int .i64 e.k, .int .i64 e.n, .string e.s, .slice b e.l.length cap] 33) = W := ⟨_, rfl⟩
  have xl : w.heap.size < W.heap.size := by rw [← hW]; simp
  have hrW := hr.later hbW
  have xc : ∀ (i : Nat) (v : Value), (#[.int .i64 2, .int .i64 (rn : Int), .int .i64 e.k, .int .i64 e.n, .string e.s, .slice b e.l.length cap] : Array Value)[i]? = some v → ∀ w1, Below W.heap.size W w1 → w1.cell? ⟨w.heap.size, i, none⟩ = some v := fun i v h w1 hb => (hb.cell (p := ⟨w.heap.size, i, none⟩) xl).trans (by rw [← hW]; exact box17 w _ _ i v h)
  rw [hW] at hbW hrW
  obtain ⟨y0, hy0⟩ : ∃ z : Sub W.heap.size W, w.alloc (.cells #[.int .i64 2, .int .i64 (rn : Int), .int .i64 e.k, .int .i64 e.n, .string e.s, .slice b e.l.length cap] 33) = z.w := ⟨⟨W, Below.refl _ _⟩, hW⟩
  have ne := Sub.ne W.heap.size W
  have HZ := hide (Nat.le_refl W.heap.size)
  have HB := hide (fun y : Sub W.heap.size W => hbW.trans (y.h.mono hbW.size))
  have HO := hide (fun (y : Sub W.heap.size W) v ts (h : OwnT y.w W.heap.size v ts) => h.base hbW.size)
  have E0 : ∀ y : Sub W.heap.size W, y.w.cell? ⟨w.heap.size, 0, none⟩ = some (.int .i64 2) := fun y => xc 0 _ rfl y.w y.h
  have E1 : ∀ y : Sub W.heap.size W, y.w.cell? ⟨w.heap.size, 1, none⟩ = some (.int .i64 (rn : Int)) := fun y => xc 1 _ rfl y.w y.h
  have E2 : ∀ y : Sub W.heap.size W, y.w.cell? ⟨w.heap.size, 2, none⟩ = some (.int .i64 e.k) := fun y => xc 2 _ rfl y.w y.h
  have E3 : ∀ y : Sub W.heap.size W, y.w.cell? ⟨w.heap.size, 3, none⟩ = some (.int .i64 e.n) := fun y => xc 3 _ rfl y.w y.h
  have E4 : ∀ y : Sub W.heap.size W, y.w.cell? ⟨w.heap.size, 4, none⟩ = some (.string e.s) := fun y => xc 4 _ rfl y.w y.h
  have E5 : ∀ y : Sub W.heap.size W, y.w.cell? ⟨w.heap.size, 5, none⟩ = some (.slice b e.l.length cap) := fun y => xc 5 _ rfl y.w y.h
  have Y1 := hide (xc 1 _ rfl)
  have Y2 := hide (xc 2 _ rfl)
  have Y3 := hide (xc 3 _ rfl)
  have Y4 := hide (xc 4 _ rfl)
  have Y5 := hide (xc 5 _ rfl)
  have MK := hide (fun x w1 => markS_ex x w1)
  have RG := hide (fun w1 => regS rn hrn w1)
  have RN := hide (fun w1 => rndS rn hrn w1)
  have AT : agT ⟨2, (rn : Int), e⟩ = rnT rn ++ [mkT 43] := rfl
  rw [AT]
  clear AT ok hr hrW hW xc xl hbW hrn
  generalize e.k = ek at *
  generalize e.n = en at *
  generalize e.s = es at *
  generalize e.l.length = el at *
  unfold Tk.v Tk.cs at MK RG
  simp only at MK RG
  have rl := rnT_le rn
  have rne := rnT_ne rn
  generalize rnT rn = rt at *
  obtain ⟨T, hT⟩ : ∃ T, rt ++ [mkT 43] = T := ⟨_, rfl⟩
  have HT := hide hT
  rw [hT]
  clear hT
  have l0 : ([] : List Tk).length ≤ 0 := Nat.le_refl 0
  obtain ⟨y1, hy1⟩ := Sub.step (unhide HZ) (below_new y0.w (.cells #[] 91))
  have O1 := hide (show OwnT y1.w W.heap.size (.slice (some ⟨y0.w.heap.size, 0, none⟩) 0 0) [] by rw [← hy1]; exact ownT_empty y0.w W.heap.size (Nat.le_trans (unhide HZ) y0.h.size))
  go_enter Tryd.func35, Tryd.ntmps35
  go_wp2_with fail
  refine (unhide RN y1.w).mono ?_
  rintro r w2 ⟨vs, rfl, hS, hb⟩
  have O2 := hide ((unhide O1).later hb)
  clear O1
  obtain ⟨y2, rfl⟩ := Sub.step (unhide HZ) hb
  clear hb
  have SR := hide hS
  clear hS
  go_wp2_with (at_builtin; go_must (refine appT rfl (.tmp 37) (.tmp 40) rfl (unhide HZ) y2.h rfl (unhide O2) rfl (unhide SR) rne (lsum l0 rl (by decide)) ?_; intro v3 y3 hO; obtain ⟨u3, hu⟩ : ∃ u, ([] ++ rt) = u := ⟨_, rfl⟩; rw [hu] at hO; have l3 := lapp hu l0 rl; have O3 := hide hO; have H3 := hide hu; clear hO hu O2 SR))
  refine (unhide MK ⟨#[43]⟩ y3.w).mono ?_
  rintro r w4 ⟨rfl, hb⟩
  have O4 := hide ((unhide O3).later hb)
  clear O3
  obtain ⟨y4, rfl⟩ := Sub.step (unhide HZ) hb
  clear hb
  obtain ⟨y5, hy5⟩ := Sub.step (unhide HZ) (below_new y4.w (.cells #[.int .i64 4, .int .i64 0, .string ⟨#[43]⟩] 91))
  have S5 := hide (show OwnT y5.w W.heap.size (.slice (some ⟨y4.w.heap.size, 0, none⟩) 1 1) [(Tk.mk 4 0 ⟨#[43]⟩)] by rw [← hy5]; exact ownT_new y4.w (Tk.mk 4 0 ⟨#[43]⟩) W.heap.size (Nat.le_trans (unhide HZ) y4.h.size))
  have O5 := hide (show OwnT y5.w W.heap.size (v3) u3 by rw [← hy5]; exact (unhide O4).later (below_new _ _))
  clear O4
  go_wp2_with (at_builtin; go_must (refine appT rfl (.tmp 41) (.tmp 43) rfl (unhide HZ) y5.h rfl (unhide O5) rfl (unhide S5) (one_ne _) (lsum l3 (one_le _) (by decide)) ?_; intro v6 y6 hO; obtain ⟨u6, hu⟩ : ∃ u, (u3 ++ [(Tk.mk 4 0 ⟨#[43]⟩)]) = u := ⟨_, rfl⟩; rw [hu] at hO; have l6 := lapp hu l3 (one_le _); have O6 := hide hO; have H6 := hide hu; clear hO hu O5 S5))
  have EQ : u6 = T := by
    rw [← unhide HT]
    rw [← unhide H6, ← unhide H3]
    simp [mkT, mkS]
  rw [EQ] at O6
  go_ret
  exact ⟨_, rfl, unhide HO y6 _ _ (unhide O6), unhide HB y6⟩
set_option maxHeartbeats 8000000 in
theorem agt3 (rn : Nat) (hrn : rn < 8) (e : Ex) (ok : True) (b : Option Addr) (cap : Nat) (w : World) (hr : RdX w 0 e b) : Calls Tryd.prog 35 #[.agg #[.int .i64 3, .int .i64 (rn : Int), .int .i64 e.k, .int .i64 e.n, .string e.s, .slice b e.l.length cap]] w fun r w' => ∃ v, r = .returned v ∧ OwnT w' w.heap.size v (agT ⟨3, (rn : Int), e⟩) ∧ Below w.heap.size w w' := by
  have hbW := below_new w (.cells #[.int .i64 3, .int .i64 (rn : Int), .int .i64 e.k, .int .i64 e.n, .string e.s, .slice b e.l.length cap] 33)
  obtain ⟨W, hW⟩ : ∃ W, w.alloc (.cells #[.int .i64 3, .int .i64 (rn : Int), .int .i64 e.k, .int .i64 e.n, .string e.s, .slice b e.l.length cap] 33) = W := ⟨_, rfl⟩
  have xl : w.heap.size < W.heap.size := by rw [← hW]; simp
  have hrW := hr.later hbW
  have xc : ∀ (i : Nat) (v : Value), (#[.int .i64 3, .int .i64 (rn : Int), .int .i64 e.k, .int .i64 e.n, .string e.s, .slice b e.l.length cap] : Array Value)[i]? = some v → ∀ w1, Below W.heap.size W w1 → w1.cell? ⟨w.heap.size, i, none⟩ = some v := fun i v h w1 hb => (hb.cell (p := ⟨w.heap.size, i, none⟩) xl).trans (by rw [← hW]; exact box17 w _ _ i v h)
  rw [hW] at hbW hrW
  obtain ⟨y0, hy0⟩ : ∃ z : Sub W.heap.size W, w.alloc (.cells #[.int .i64 3, .int .i64 (rn : Int), .int .i64 e.k, .int .i64 e.n, .string e.s, .slice b e.l.length cap] 33) = z.w := ⟨⟨W, Below.refl _ _⟩, hW⟩
  have ne := Sub.ne W.heap.size W
  have HZ := hide (Nat.le_refl W.heap.size)
  have HB := hide (fun y : Sub W.heap.size W => hbW.trans (y.h.mono hbW.size))
  have HO := hide (fun (y : Sub W.heap.size W) v ts (h : OwnT y.w W.heap.size v ts) => h.base hbW.size)
  have E0 : ∀ y : Sub W.heap.size W, y.w.cell? ⟨w.heap.size, 0, none⟩ = some (.int .i64 3) := fun y => xc 0 _ rfl y.w y.h
  have E1 : ∀ y : Sub W.heap.size W, y.w.cell? ⟨w.heap.size, 1, none⟩ = some (.int .i64 (rn : Int)) := fun y => xc 1 _ rfl y.w y.h
  have E2 : ∀ y : Sub W.heap.size W, y.w.cell? ⟨w.heap.size, 2, none⟩ = some (.int .i64 e.k) := fun y => xc 2 _ rfl y.w y.h
  have E3 : ∀ y : Sub W.heap.size W, y.w.cell? ⟨w.heap.size, 3, none⟩ = some (.int .i64 e.n) := fun y => xc 3 _ rfl y.w y.h
  have E4 : ∀ y : Sub W.heap.size W, y.w.cell? ⟨w.heap.size, 4, none⟩ = some (.string e.s) := fun y => xc 4 _ rfl y.w y.h
  have E5 : ∀ y : Sub W.heap.size W, y.w.cell? ⟨w.heap.size, 5, none⟩ = some (.slice b e.l.length cap) := fun y => xc 5 _ rfl y.w y.h
  have Y1 := hide (xc 1 _ rfl)
  have Y2 := hide (xc 2 _ rfl)
  have Y3 := hide (xc 3 _ rfl)
  have Y4 := hide (xc 4 _ rfl)
  have Y5 := hide (xc 5 _ rfl)
  have MK := hide (fun x w1 => markS_ex x w1)
  have RG := hide (fun w1 => regS rn hrn w1)
  have RN := hide (fun w1 => rndS rn hrn w1)
  have AT : agT ⟨3, (rn : Int), e⟩ = mkT 64 :: (rnT rn ++ [mkT 43]) := rfl
  rw [AT]
  clear AT ok hr hrW hW xc xl hbW hrn
  generalize e.k = ek at *
  generalize e.n = en at *
  generalize e.s = es at *
  generalize e.l.length = el at *
  unfold Tk.v Tk.cs at MK RG
  simp only at MK RG
  have rl := rnT_le rn
  have rne := rnT_ne rn
  generalize rnT rn = rt at *
  obtain ⟨T, hT⟩ : ∃ T, mkT 64 :: (rt ++ [mkT 43]) = T := ⟨_, rfl⟩
  have HT := hide hT
  rw [hT]
  clear hT
  have l0 : ([] : List Tk).length ≤ 0 := Nat.le_refl 0
  obtain ⟨y1, hy1⟩ := Sub.step (unhide HZ) (below_new y0.w (.cells #[] 91))
  have O1 := hide (show OwnT y1.w W.heap.size (.slice (some ⟨y0.w.heap.size, 0, none⟩) 0 0) [] by rw [← hy1]; exact ownT_empty y0.w W.heap.size (Nat.le_trans (unhide HZ) y0.h.size))
  go_enter Tryd.func35, Tryd.ntmps35
  go_wp2_with fail
  refine (unhide MK ⟨#[64]⟩ y1.w).mono ?_
  rintro r w2 ⟨rfl, hb⟩
  have O2 := hide ((unhide O1).later hb)
  clear O1
  obtain ⟨y2, rfl⟩ := Sub.step (unhide HZ) hb
  clear hb
  obtain ⟨y3, hy3⟩ := Sub.step (unhide HZ) (below_new y2.w (.cells #[.int .i64 4, .int .i64 0, .string ⟨#[64]⟩] 91))
  have S3 := hide (show OwnT y3.w W.heap.size (.slice (some ⟨y2.w.heap.size, 0, none⟩) 1 1) [(Tk.mk 4 0 ⟨#[64]⟩)] by rw [← hy3]; exact ownT_new y2.w (Tk.mk 4 0 ⟨#[64]⟩) W.heap.size (Nat.le_trans (unhide HZ) y2.h.size))
  have O3 := hide (show OwnT y3.w W.heap.size (.slice (some ⟨y0.w.heap.size, 0, none⟩) 0 0) [] by rw [← hy3]; exact (unhide O2).later (below_new _ _))
  clear O2
  go_wp2_with (at_builtin; go_must (refine appT rfl (.tmp 13) (.tmp 15) rfl (unhide HZ) y3.h rfl (unhide O3) rfl (unhide S3) (one_ne _) (lsum l0 (one_le _) (by decide)) ?_; intro v4 y4 hO; obtain ⟨u4, hu⟩ : ∃ u, ([] ++ [(Tk.mk 4 0 ⟨#[64]⟩)]) = u := ⟨_, rfl⟩; rw [hu] at hO; have l4 := lapp hu l0 (one_le _); have O4 := hide hO; have H4 := hide hu; clear hO hu O3 S3))
  refine (unhide RN y4.w).mono ?_
  rintro r w5 ⟨vs, rfl, hS, hb⟩
  have O5 := hide ((unhide O4).later hb)
  clear O4
  obtain ⟨y5, rfl⟩ := Sub.step (unhide HZ) hb
  clear hb
  have SR := hide hS
  clear hS
  go_wp2_with (at_builtin; go_must (refine appT rfl (.tmp 37) (.tmp 40) rfl (unhide HZ) y5.h rfl (unhide O5) rfl (unhide SR) rne (lsum l4 rl (by decide)) ?_; intro v6 y6 hO; obtain ⟨u6, hu⟩ : ∃ u, (u4 ++ rt) = u := ⟨_, rfl⟩; rw [hu] at hO; have l6 := lapp hu l4 rl; have O6 := hide hO; have H6 := hide hu; clear hO hu O5 SR))
  refine (unhide MK ⟨#[43]⟩ y6.w).mono ?_
  rintro r w7 ⟨rfl, hb⟩
  have O7 := hide ((unhide O6).later hb)
  clear O6
  obtain ⟨y7, rfl⟩ := Sub.step (unhide HZ) hb
  clear hb
  obtain ⟨y8, hy8⟩ := Sub.step (unhide HZ) (below_new y7.w (.cells #[.int .i64 4, .int .i64 0, .string ⟨#[43]⟩] 91))
  have S8 := hide (show OwnT y8.w W.heap.size (.slice (some ⟨y7.w.heap.size, 0, none⟩) 1 1) [(Tk.mk 4 0 ⟨#[43]⟩)] by rw [← hy8]; exact ownT_new y7.w (Tk.mk 4 0 ⟨#[43]⟩) W.heap.size (Nat.le_trans (unhide HZ) y7.h.size))
  have O8 := hide (show OwnT y8.w W.heap.size (v6) u6 by rw [← hy8]; exact (unhide O7).later (below_new _ _))
  clear O7
  go_wp2_with (at_builtin; go_must (refine appT rfl (.tmp 41) (.tmp 43) rfl (unhide HZ) y8.h rfl (unhide O8) rfl (unhide S8) (one_ne _) (lsum l6 (one_le _) (by decide)) ?_; intro v9 y9 hO; obtain ⟨u9, hu⟩ : ∃ u, (u6 ++ [(Tk.mk 4 0 ⟨#[43]⟩)]) = u := ⟨_, rfl⟩; rw [hu] at hO; have l9 := lapp hu l6 (one_le _); have O9 := hide hO; have H9 := hide hu; clear hO hu O8 S8))
  have EQ : u9 = T := by
    rw [← unhide HT]
    rw [← unhide H9, ← unhide H6, ← unhide H4]
    simp [mkT, mkS]
  rw [EQ] at O9
  go_ret
  exact ⟨_, rfl, unhide HO y9 _ _ (unhide O9), unhide HB y9⟩
set_option maxHeartbeats 8000000 in
theorem agt4 (rn : Nat) (hrn : rn < 8) (e : Ex) (ok : True) (b : Option Addr) (cap : Nat) (w : World) (hr : RdX w 0 e b) : Calls Tryd.prog 35 #[.agg #[.int .i64 4, .int .i64 (rn : Int), .int .i64 e.k, .int .i64 e.n, .string e.s, .slice b e.l.length cap]] w fun r w' => ∃ v, r = .returned v ∧ OwnT w' w.heap.size v (agT ⟨4, (rn : Int), e⟩) ∧ Below w.heap.size w w' := by
  have hbW := below_new w (.cells #[.int .i64 4, .int .i64 (rn : Int), .int .i64 e.k, .int .i64 e.n, .string e.s, .slice b e.l.length cap] 33)
  obtain ⟨W, hW⟩ : ∃ W, w.alloc (.cells #[.int .i64 4, .int .i64 (rn : Int), .int .i64 e.k, .int .i64 e.n, .string e.s, .slice b e.l.length cap] 33) = W := ⟨_, rfl⟩
  have xl : w.heap.size < W.heap.size := by rw [← hW]; simp
  have hrW := hr.later hbW
  have xc : ∀ (i : Nat) (v : Value), (#[.int .i64 4, .int .i64 (rn : Int), .int .i64 e.k, .int .i64 e.n, .string e.s, .slice b e.l.length cap] : Array Value)[i]? = some v → ∀ w1, Below W.heap.size W w1 → w1.cell? ⟨w.heap.size, i, none⟩ = some v := fun i v h w1 hb => (hb.cell (p := ⟨w.heap.size, i, none⟩) xl).trans (by rw [← hW]; exact box17 w _ _ i v h)
  rw [hW] at hbW hrW
  obtain ⟨y0, hy0⟩ : ∃ z : Sub W.heap.size W, w.alloc (.cells #[.int .i64 4, .int .i64 (rn : Int), .int .i64 e.k, .int .i64 e.n, .string e.s, .slice b e.l.length cap] 33) = z.w := ⟨⟨W, Below.refl _ _⟩, hW⟩
  have ne := Sub.ne W.heap.size W
  have HZ := hide (Nat.le_refl W.heap.size)
  have HB := hide (fun y : Sub W.heap.size W => hbW.trans (y.h.mono hbW.size))
  have HO := hide (fun (y : Sub W.heap.size W) v ts (h : OwnT y.w W.heap.size v ts) => h.base hbW.size)
  have E0 : ∀ y : Sub W.heap.size W, y.w.cell? ⟨w.heap.size, 0, none⟩ = some (.int .i64 4) := fun y => xc 0 _ rfl y.w y.h
  have E1 : ∀ y : Sub W.heap.size W, y.w.cell? ⟨w.heap.size, 1, none⟩ = some (.int .i64 (rn : Int)) := fun y => xc 1 _ rfl y.w y.h
  have E2 : ∀ y : Sub W.heap.size W, y.w.cell? ⟨w.heap.size, 2, none⟩ = some (.int .i64 e.k) := fun y => xc 2 _ rfl y.w y.h
  have E3 : ∀ y : Sub W.heap.size W, y.w.cell? ⟨w.heap.size, 3, none⟩ = some (.int .i64 e.n) := fun y => xc 3 _ rfl y.w y.h
  have E4 : ∀ y : Sub W.heap.size W, y.w.cell? ⟨w.heap.size, 4, none⟩ = some (.string e.s) := fun y => xc 4 _ rfl y.w y.h
  have E5 : ∀ y : Sub W.heap.size W, y.w.cell? ⟨w.heap.size, 5, none⟩ = some (.slice b e.l.length cap) := fun y => xc 5 _ rfl y.w y.h
  have Y1 := hide (xc 1 _ rfl)
  have Y2 := hide (xc 2 _ rfl)
  have Y3 := hide (xc 3 _ rfl)
  have Y4 := hide (xc 4 _ rfl)
  have Y5 := hide (xc 5 _ rfl)
  have MK := hide (fun x w1 => markS_ex x w1)
  have RG := hide (fun w1 => regS rn hrn w1)
  have RN := hide (fun w1 => rndS rn hrn w1)
  have AT : agT ⟨4, (rn : Int), e⟩ = mkT 45 :: rnT rn := rfl
  rw [AT]
  clear AT ok hr hrW hW xc xl hbW hrn
  generalize e.k = ek at *
  generalize e.n = en at *
  generalize e.s = es at *
  generalize e.l.length = el at *
  unfold Tk.v Tk.cs at MK RG
  simp only at MK RG
  have rl := rnT_le rn
  have rne := rnT_ne rn
  generalize rnT rn = rt at *
  obtain ⟨T, hT⟩ : ∃ T, mkT 45 :: rt = T := ⟨_, rfl⟩
  have HT := hide hT
  rw [hT]
  clear hT
  have l0 : ([] : List Tk).length ≤ 0 := Nat.le_refl 0
  obtain ⟨y1, hy1⟩ := Sub.step (unhide HZ) (below_new y0.w (.cells #[] 91))
  have O1 := hide (show OwnT y1.w W.heap.size (.slice (some ⟨y0.w.heap.size, 0, none⟩) 0 0) [] by rw [← hy1]; exact ownT_empty y0.w W.heap.size (Nat.le_trans (unhide HZ) y0.h.size))
  go_enter Tryd.func35, Tryd.ntmps35
  go_wp2_with fail
  obtain ⟨y2, hy2⟩ := Sub.step (unhide HZ) (below_drew (w := y1.w))
  have O2 := hide (show OwnT y2.w W.heap.size (.slice (some ⟨y0.w.heap.size, 0, none⟩) 0 0) [] by rw [← hy2]; exact (unhide O1).later below_drew)
  have D0 := hide (show Below W.heap.size W y1.w.drew by rw [hy2]; exact y2.h)
  refine wp_region_held_drew (S := fun w' => Below W.heap.size W w') (by kernel_rfl) (unhide D0) (fun hS => ?_)
  have HS := hide hS
  clear hS D0 O1
  rw [hy2] at HS ⊢
  refine wpAnyH_take (i := 0) (v := .slice (some ⟨y0.w.heap.size, 0, none⟩) 0 0) rfl (by kernel_rfl) (by kernel_rfl) (by kernel_rfl) (fun _ _ _ h => h) (Or.inl ⟨by rfl, fun w hc => ?_⟩) (unhide HS) ?_
  · clear hc; go_simp
  go_simp
  refine wpAnyH_take (i := 4) (v := .pointer (some ⟨w.heap.size, 1, none⟩)) rfl (by kernel_rfl) (by kernel_rfl) (by kernel_rfl) (fun _ _ _ h => h) (Or.inl ⟨by rfl, fun w hc => ?_⟩) (unhide HS) ?_
  · clear hc; go_simp
  go_simp
  refine wpAnyH_take (i := 5) (v := .int .i64 (rn : Int)) rfl (by kernel_rfl) (by kernel_rfl) (by kernel_rfl) (fun _ _ _ h => h) (Or.inl ⟨by rfl, fun w hc => ?_⟩) (unhide HS) ?_
  · have q := unhide Y1 _ hc; clear hc; go_simp
  go_simp
  refine wpAnyH_ready (rs := [1]) (by kernel_rfl) (by simp) ?_
  refine AllReadyH.cons rfl (fun K2 hK => ?_) AllReadyH.nil
  go_simp
  refine (unhide MK ⟨#[45]⟩ y2.w).mono ?_
  rintro r w3 ⟨rfl, hb⟩
  have O3 := hide ((unhide O2).later hb)
  clear O2
  obtain ⟨y3, rfl⟩ := Sub.step (unhide HZ) hb
  clear hb
  refine hK.out _ _ (y3.h) (fun hS => ?_)
  clear HS
  have HS := hide hS
  clear hS hK K2
  refine wpAnyH_ready (rs := [2]) (by kernel_rfl) (by simp) ?_
  refine AllReadyH.cons rfl (fun K2 hK => ?_) AllReadyH.nil
  obtain ⟨y4, hy4⟩ := Sub.step (unhide HZ) (below_new y3.w (.cells #[.int .i64 4, .int .i64 0, .string ⟨#[45]⟩] 91))
  have S4 := hide (show OwnT y4.w W.heap.size (.slice (some ⟨y3.w.heap.size, 0, none⟩) 1 1) [(Tk.mk 4 0 ⟨#[45]⟩)] by rw [← hy4]; exact ownT_new y3.w (Tk.mk 4 0 ⟨#[45]⟩) W.heap.size (Nat.le_trans (unhide HZ) y3.h.size))
  have O4 := hide (show OwnT y4.w W.heap.size (.slice (some ⟨y0.w.heap.size, 0, none⟩) 0 0) [] by rw [← hy4]; exact (unhide O3).later (below_new _ _))
  clear O3
  go_simp
  refine hK.out _ _ (y4.h) (fun hS => ?_)
  clear HS
  have HS := hide hS
  clear hS hK K2
  refine wpAnyH_ready (rs := [3]) (by kernel_rfl) (by simp) ?_
  refine AllReadyH.cons rfl (fun K2 hK => ?_) AllReadyH.nil
  rw [if_pos (by rfl)]
  refine wp_appT (.tmp 48) (.tmp 50) rfl (unhide HZ) y4.h rfl (unhide O4) rfl (unhide S4) (one_ne _) (lsum l0 (one_le _) (by decide)) ?_
  intro v5 y5 hO
  obtain ⟨u5, hu⟩ : ∃ u, ([] ++ [(Tk.mk 4 0 ⟨#[45]⟩)]) = u := ⟨_, rfl⟩
  rw [hu] at hO
  have l5 := lapp hu l0 (one_le _)
  have O5 := hide hO
  have H5 := hide hu
  clear hO hu O4 S4
  refine hK.out _ _ (y5.h) (fun hS => ?_)
  clear HS
  have HS := hide hS
  clear hS hK K2
  refine wpAnyH_ready (rs := [6]) (by kernel_rfl) (by simp) ?_
  refine AllReadyH.cons rfl (fun K2 hK => ?_) AllReadyH.nil
  go_simp
  refine (unhide RN y5.w).mono ?_
  rintro r w6 ⟨vs, rfl, hS, hb⟩
  have O6 := hide ((unhide O5).later hb)
  clear O5
  obtain ⟨y6, rfl⟩ := Sub.step (unhide HZ) hb
  clear hb
  have SR := hide hS
  clear hS
  refine hK.out _ _ (y6.h) (fun hS => ?_)
  clear HS
  have HS := hide hS
  clear hS hK K2
  refine wpAnyH_ready (rs := [7]) (by kernel_rfl) (by simp) ?_
  refine AllReadyH.cons rfl (fun K2 hK => ?_) AllReadyH.nil
  rw [if_pos (by rfl)]
  refine wp_appT (.tmp 51) (.tmp 54) rfl (unhide HZ) y6.h rfl (unhide O6) rfl (unhide SR) rne (lsum l5 rl (by decide)) ?_
  intro v7 y7 hO
  obtain ⟨u7, hu⟩ : ∃ u, (u5 ++ rt) = u := ⟨_, rfl⟩
  rw [hu] at hO
  have l7 := lapp hu l5 rl
  have O7 := hide hO
  have H7 := hide hu
  clear hO hu O6 SR
  refine hK.out _ _ (y7.h) (fun hS => ?_)
  clear HS
  have HS := hide hS
  clear hS hK K2
  refine wpAnyH_take (i := 8) (v := v7) rfl (by kernel_rfl) (by kernel_rfl) (by kernel_rfl) (fun _ _ _ h => h) (Or.inl ⟨by rfl, fun w hc => ?_⟩) (unhide HS) ?_
  · clear hc; go_simp
  go_simp
  refine wpAnyH_done (by kernel_rfl) ?_ _
  clear HS
  go_wp2_with fail
  have EQ : u7 = T := by
    rw [← unhide HT]
    rw [← unhide H7, ← unhide H5]
    simp [mkT, mkS]
  rw [EQ] at O7
  go_ret
  exact ⟨_, rfl, unhide HO y7 _ _ (unhide O7), unhide HB y7⟩
set_option maxHeartbeats 8000000 in
theorem agt5 (rn : Nat) (hrn : rn < 8) (e : Ex) (ok : True) (b : Option Addr) (cap : Nat) (w : World) (hr : RdX w 0 e b) : Calls Tryd.prog 35 #[.agg #[.int .i64 5, .int .i64 (rn : Int), .int .i64 e.k, .int .i64 e.n, .string e.s, .slice b e.l.length cap]] w fun r w' => ∃ v, r = .returned v ∧ OwnT w' w.heap.size v (agT ⟨5, (rn : Int), e⟩) ∧ Below w.heap.size w w' := by
  have hbW := below_new w (.cells #[.int .i64 5, .int .i64 (rn : Int), .int .i64 e.k, .int .i64 e.n, .string e.s, .slice b e.l.length cap] 33)
  obtain ⟨W, hW⟩ : ∃ W, w.alloc (.cells #[.int .i64 5, .int .i64 (rn : Int), .int .i64 e.k, .int .i64 e.n, .string e.s, .slice b e.l.length cap] 33) = W := ⟨_, rfl⟩
  have xl : w.heap.size < W.heap.size := by rw [← hW]; simp
  have hrW := hr.later hbW
  have xc : ∀ (i : Nat) (v : Value), (#[.int .i64 5, .int .i64 (rn : Int), .int .i64 e.k, .int .i64 e.n, .string e.s, .slice b e.l.length cap] : Array Value)[i]? = some v → ∀ w1, Below W.heap.size W w1 → w1.cell? ⟨w.heap.size, i, none⟩ = some v := fun i v h w1 hb => (hb.cell (p := ⟨w.heap.size, i, none⟩) xl).trans (by rw [← hW]; exact box17 w _ _ i v h)
  rw [hW] at hbW hrW
  obtain ⟨y0, hy0⟩ : ∃ z : Sub W.heap.size W, w.alloc (.cells #[.int .i64 5, .int .i64 (rn : Int), .int .i64 e.k, .int .i64 e.n, .string e.s, .slice b e.l.length cap] 33) = z.w := ⟨⟨W, Below.refl _ _⟩, hW⟩
  have ne := Sub.ne W.heap.size W
  have HZ := hide (Nat.le_refl W.heap.size)
  have HB := hide (fun y : Sub W.heap.size W => hbW.trans (y.h.mono hbW.size))
  have HO := hide (fun (y : Sub W.heap.size W) v ts (h : OwnT y.w W.heap.size v ts) => h.base hbW.size)
  have E0 : ∀ y : Sub W.heap.size W, y.w.cell? ⟨w.heap.size, 0, none⟩ = some (.int .i64 5) := fun y => xc 0 _ rfl y.w y.h
  have E1 : ∀ y : Sub W.heap.size W, y.w.cell? ⟨w.heap.size, 1, none⟩ = some (.int .i64 (rn : Int)) := fun y => xc 1 _ rfl y.w y.h
  have E2 : ∀ y : Sub W.heap.size W, y.w.cell? ⟨w.heap.size, 2, none⟩ = some (.int .i64 e.k) := fun y => xc 2 _ rfl y.w y.h
  have E3 : ∀ y : Sub W.heap.size W, y.w.cell? ⟨w.heap.size, 3, none⟩ = some (.int .i64 e.n) := fun y => xc 3 _ rfl y.w y.h
  have E4 : ∀ y : Sub W.heap.size W, y.w.cell? ⟨w.heap.size, 4, none⟩ = some (.string e.s) := fun y => xc 4 _ rfl y.w y.h
  have E5 : ∀ y : Sub W.heap.size W, y.w.cell? ⟨w.heap.size, 5, none⟩ = some (.slice b e.l.length cap) := fun y => xc 5 _ rfl y.w y.h
  have Y1 := hide (xc 1 _ rfl)
  have Y2 := hide (xc 2 _ rfl)
  have Y3 := hide (xc 3 _ rfl)
  have Y4 := hide (xc 4 _ rfl)
  have Y5 := hide (xc 5 _ rfl)
  have MK := hide (fun x w1 => markS_ex x w1)
  have RG := hide (fun w1 => regS rn hrn w1)
  have RN := hide (fun w1 => rndS rn hrn w1)
  have AT : agT ⟨5, (rn : Int), e⟩ = mkT 64 :: mkT 45 :: rnT rn := rfl
  rw [AT]
  clear AT ok hr hrW hW xc xl hbW hrn
  generalize e.k = ek at *
  generalize e.n = en at *
  generalize e.s = es at *
  generalize e.l.length = el at *
  unfold Tk.v Tk.cs at MK RG
  simp only at MK RG
  have rl := rnT_le rn
  have rne := rnT_ne rn
  generalize rnT rn = rt at *
  obtain ⟨T, hT⟩ : ∃ T, mkT 64 :: mkT 45 :: rt = T := ⟨_, rfl⟩
  have HT := hide hT
  rw [hT]
  clear hT
  have l0 : ([] : List Tk).length ≤ 0 := Nat.le_refl 0
  obtain ⟨y1, hy1⟩ := Sub.step (unhide HZ) (below_new y0.w (.cells #[] 91))
  have O1 := hide (show OwnT y1.w W.heap.size (.slice (some ⟨y0.w.heap.size, 0, none⟩) 0 0) [] by rw [← hy1]; exact ownT_empty y0.w W.heap.size (Nat.le_trans (unhide HZ) y0.h.size))
  go_enter Tryd.func35, Tryd.ntmps35
  go_wp2_with fail
  refine (unhide MK ⟨#[64]⟩ y1.w).mono ?_
  rintro r w2 ⟨rfl, hb⟩
  have O2 := hide ((unhide O1).later hb)
  clear O1
  obtain ⟨y2, rfl⟩ := Sub.step (unhide HZ) hb
  clear hb
  obtain ⟨y3, hy3⟩ := Sub.step (unhide HZ) (below_new y2.w (.cells #[.int .i64 4, .int .i64 0, .string ⟨#[64]⟩] 91))
  have S3 := hide (show OwnT y3.w W.heap.size (.slice (some ⟨y2.w.heap.size, 0, none⟩) 1 1) [(Tk.mk 4 0 ⟨#[64]⟩)] by rw [← hy3]; exact ownT_new y2.w (Tk.mk 4 0 ⟨#[64]⟩) W.heap.size (Nat.le_trans (unhide HZ) y2.h.size))
  have O3 := hide (show OwnT y3.w W.heap.size (.slice (some ⟨y0.w.heap.size, 0, none⟩) 0 0) [] by rw [← hy3]; exact (unhide O2).later (below_new _ _))
  clear O2
  go_wp2_with (at_builtin; go_must (refine appT rfl (.tmp 13) (.tmp 15) rfl (unhide HZ) y3.h rfl (unhide O3) rfl (unhide S3) (one_ne _) (lsum l0 (one_le _) (by decide)) ?_; intro v4 y4 hO; obtain ⟨u4, hu⟩ : ∃ u, ([] ++ [(Tk.mk 4 0 ⟨#[64]⟩)]) = u := ⟨_, rfl⟩; rw [hu] at hO; have l4 := lapp hu l0 (one_le _); have O4 := hide hO; have H4 := hide hu; clear hO hu O3 S3))
  obtain ⟨y5, hy5⟩ := Sub.step (unhide HZ) (below_drew (w := y4.w))
  have O5 := hide (show OwnT y5.w W.heap.size (v4) u4 by rw [← hy5]; exact (unhide O4).later below_drew)
  have D0 := hide (show Below W.heap.size W y4.w.drew by rw [hy5]; exact y5.h)
  refine wp_region_held_drew (S := fun w' => Below W.heap.size W w') (by kernel_rfl) (unhide D0) (fun hS => ?_)
  have HS := hide hS
  clear hS D0 O4
  rw [hy5] at HS ⊢
  refine wpAnyH_take (i := 0) (v := v4) rfl (by kernel_rfl) (by kernel_rfl) (by kernel_rfl) (fun _ _ _ h => h) (Or.inl ⟨by rfl, fun w hc => ?_⟩) (unhide HS) ?_
  · clear hc; go_simp
  go_simp
  refine wpAnyH_take (i := 4) (v := .pointer (some ⟨w.heap.size, 1, none⟩)) rfl (by kernel_rfl) (by kernel_rfl) (by kernel_rfl) (fun _ _ _ h => h) (Or.inl ⟨by rfl, fun w hc => ?_⟩) (unhide HS) ?_
  · clear hc; go_simp
  go_simp
  refine wpAnyH_take (i := 5) (v := .int .i64 (rn : Int)) rfl (by kernel_rfl) (by kernel_rfl) (by kernel_rfl) (fun _ _ _ h => h) (Or.inl ⟨by rfl, fun w hc => ?_⟩) (unhide HS) ?_
  · have q := unhide Y1 _ hc; clear hc; go_simp
  go_simp
  refine wpAnyH_ready (rs := [1]) (by kernel_rfl) (by simp) ?_
  refine AllReadyH.cons rfl (fun K2 hK => ?_) AllReadyH.nil
  go_simp
  refine (unhide MK ⟨#[45]⟩ y5.w).mono ?_
  rintro r w6 ⟨rfl, hb⟩
  have O6 := hide ((unhide O5).later hb)
  clear O5
  obtain ⟨y6, rfl⟩ := Sub.step (unhide HZ) hb
  clear hb
  refine hK.out _ _ (y6.h) (fun hS => ?_)
  clear HS
  have HS := hide hS
  clear hS hK K2
  refine wpAnyH_ready (rs := [2]) (by kernel_rfl) (by simp) ?_
  refine AllReadyH.cons rfl (fun K2 hK => ?_) AllReadyH.nil
  obtain ⟨y7, hy7⟩ := Sub.step (unhide HZ) (below_new y6.w (.cells #[.int .i64 4, .int .i64 0, .string ⟨#[45]⟩] 91))
  have S7 := hide (show OwnT y7.w W.heap.size (.slice (some ⟨y6.w.heap.size, 0, none⟩) 1 1) [(Tk.mk 4 0 ⟨#[45]⟩)] by rw [← hy7]; exact ownT_new y6.w (Tk.mk 4 0 ⟨#[45]⟩) W.heap.size (Nat.le_trans (unhide HZ) y6.h.size))
  have O7 := hide (show OwnT y7.w W.heap.size (v4) u4 by rw [← hy7]; exact (unhide O6).later (below_new _ _))
  clear O6
  go_simp
  refine hK.out _ _ (y7.h) (fun hS => ?_)
  clear HS
  have HS := hide hS
  clear hS hK K2
  refine wpAnyH_ready (rs := [3]) (by kernel_rfl) (by simp) ?_
  refine AllReadyH.cons rfl (fun K2 hK => ?_) AllReadyH.nil
  rw [if_pos (by rfl)]
  refine wp_appT (.tmp 48) (.tmp 50) rfl (unhide HZ) y7.h rfl (unhide O7) rfl (unhide S7) (one_ne _) (lsum l4 (one_le _) (by decide)) ?_
  intro v8 y8 hO
  obtain ⟨u8, hu⟩ : ∃ u, (u4 ++ [(Tk.mk 4 0 ⟨#[45]⟩)]) = u := ⟨_, rfl⟩
  rw [hu] at hO
  have l8 := lapp hu l4 (one_le _)
  have O8 := hide hO
  have H8 := hide hu
  clear hO hu O7 S7
  refine hK.out _ _ (y8.h) (fun hS => ?_)
  clear HS
  have HS := hide hS
  clear hS hK K2
  refine wpAnyH_ready (rs := [6]) (by kernel_rfl) (by simp) ?_
  refine AllReadyH.cons rfl (fun K2 hK => ?_) AllReadyH.nil
  go_simp
  refine (unhide RN y8.w).mono ?_
  rintro r w9 ⟨vs, rfl, hS, hb⟩
  have O9 := hide ((unhide O8).later hb)
  clear O8
  obtain ⟨y9, rfl⟩ := Sub.step (unhide HZ) hb
  clear hb
  have SR := hide hS
  clear hS
  refine hK.out _ _ (y9.h) (fun hS => ?_)
  clear HS
  have HS := hide hS
  clear hS hK K2
  refine wpAnyH_ready (rs := [7]) (by kernel_rfl) (by simp) ?_
  refine AllReadyH.cons rfl (fun K2 hK => ?_) AllReadyH.nil
  rw [if_pos (by rfl)]
  refine wp_appT (.tmp 51) (.tmp 54) rfl (unhide HZ) y9.h rfl (unhide O9) rfl (unhide SR) rne (lsum l8 rl (by decide)) ?_
  intro v10 y10 hO
  obtain ⟨u10, hu⟩ : ∃ u, (u8 ++ rt) = u := ⟨_, rfl⟩
  rw [hu] at hO
  have l10 := lapp hu l8 rl
  have O10 := hide hO
  have H10 := hide hu
  clear hO hu O9 SR
  refine hK.out _ _ (y10.h) (fun hS => ?_)
  clear HS
  have HS := hide hS
  clear hS hK K2
  refine wpAnyH_take (i := 8) (v := v10) rfl (by kernel_rfl) (by kernel_rfl) (by kernel_rfl) (fun _ _ _ h => h) (Or.inl ⟨by rfl, fun w hc => ?_⟩) (unhide HS) ?_
  · clear hc; go_simp
  go_simp
  refine wpAnyH_done (by kernel_rfl) ?_ _
  clear HS
  go_wp2_with fail
  have EQ : u10 = T := by
    rw [← unhide HT]
    rw [← unhide H10, ← unhide H8, ← unhide H4]
    simp [mkT, mkS]
  rw [EQ] at O10
  go_ret
  exact ⟨_, rfl, unhide HO y10 _ _ (unhide O10), unhide HB y10⟩
set_option maxHeartbeats 8000000 in
theorem agt6 (rn : Nat) (hrn : rn < 8) (e : Ex) (ok : okF 6 true e = true) (b : Option Addr) (cap : Nat) (w : World) (hr : RdX w 0 e b) : Calls Tryd.prog 35 #[.agg #[.int .i64 6, .int .i64 (rn : Int), .int .i64 e.k, .int .i64 e.n, .string e.s, .slice b e.l.length cap]] w fun r w' => ∃ v, r = .returned v ∧ OwnT w' w.heap.size v (agT ⟨6, (rn : Int), e⟩) ∧ Below w.heap.size w w' := by
  have hbW := below_new w (.cells #[.int .i64 6, .int .i64 (rn : Int), .int .i64 e.k, .int .i64 e.n, .string e.s, .slice b e.l.length cap] 33)
  obtain ⟨W, hW⟩ : ∃ W, w.alloc (.cells #[.int .i64 6, .int .i64 (rn : Int), .int .i64 e.k, .int .i64 e.n, .string e.s, .slice b e.l.length cap] 33) = W := ⟨_, rfl⟩
  have xl : w.heap.size < W.heap.size := by rw [← hW]; simp
  have hrW := hr.later hbW
  have xc : ∀ (i : Nat) (v : Value), (#[.int .i64 6, .int .i64 (rn : Int), .int .i64 e.k, .int .i64 e.n, .string e.s, .slice b e.l.length cap] : Array Value)[i]? = some v → ∀ w1, Below W.heap.size W w1 → w1.cell? ⟨w.heap.size, i, none⟩ = some v := fun i v h w1 hb => (hb.cell (p := ⟨w.heap.size, i, none⟩) xl).trans (by rw [← hW]; exact box17 w _ _ i v h)
  rw [hW] at hbW hrW
  obtain ⟨y0, hy0⟩ : ∃ z : Sub W.heap.size W, w.alloc (.cells #[.int .i64 6, .int .i64 (rn : Int), .int .i64 e.k, .int .i64 e.n, .string e.s, .slice b e.l.length cap] 33) = z.w := ⟨⟨W, Below.refl _ _⟩, hW⟩
  have ne := Sub.ne W.heap.size W
  have HZ := hide (Nat.le_refl W.heap.size)
  have HB := hide (fun y : Sub W.heap.size W => hbW.trans (y.h.mono hbW.size))
  have HO := hide (fun (y : Sub W.heap.size W) v ts (h : OwnT y.w W.heap.size v ts) => h.base hbW.size)
  have E0 : ∀ y : Sub W.heap.size W, y.w.cell? ⟨w.heap.size, 0, none⟩ = some (.int .i64 6) := fun y => xc 0 _ rfl y.w y.h
  have E1 : ∀ y : Sub W.heap.size W, y.w.cell? ⟨w.heap.size, 1, none⟩ = some (.int .i64 (rn : Int)) := fun y => xc 1 _ rfl y.w y.h
  have E2 : ∀ y : Sub W.heap.size W, y.w.cell? ⟨w.heap.size, 2, none⟩ = some (.int .i64 e.k) := fun y => xc 2 _ rfl y.w y.h
  have E3 : ∀ y : Sub W.heap.size W, y.w.cell? ⟨w.heap.size, 3, none⟩ = some (.int .i64 e.n) := fun y => xc 3 _ rfl y.w y.h
  have E4 : ∀ y : Sub W.heap.size W, y.w.cell? ⟨w.heap.size, 4, none⟩ = some (.string e.s) := fun y => xc 4 _ rfl y.w y.h
  have E5 : ∀ y : Sub W.heap.size W, y.w.cell? ⟨w.heap.size, 5, none⟩ = some (.slice b e.l.length cap) := fun y => xc 5 _ rfl y.w y.h
  have Y1 := hide (xc 1 _ rfl)
  have Y2 := hide (xc 2 _ rfl)
  have Y3 := hide (xc 3 _ rfl)
  have Y4 := hide (xc 4 _ rfl)
  have Y5 := hide (xc 5 _ rfl)
  have MK := hide (fun x w1 => markS_ex x w1)
  have RG := hide (fun w1 => regS rn hrn w1)
  have RN := hide (fun w1 => rndS rn hrn w1)
  have TE := hide (fun y : Sub W.heap.size W => toksS_all 6 (by omega) e b cap y.w ok (hrW.later y.h))
  have tne := toks_ne ok
  have tle : (toksF 6 e).length ≤ 200 := Nat.le_trans (toks_ok 6 e ok).2 (mxT_le 6 (by omega))
  unfold Ex.cs at TE
  have AT : agT ⟨6, (rn : Int), e⟩ = toksF 6 e ++ rnT rn := rfl
  rw [AT]
  clear AT ok hr hrW hW xc xl hbW hrn
  generalize toksF 6 e = te at *
  generalize e.k = ek at *
  generalize e.n = en at *
  generalize e.s = es at *
  generalize e.l.length = el at *
  unfold Tk.v Tk.cs at MK RG
  simp only at MK RG
  have rl := rnT_le rn
  have rne := rnT_ne rn
  generalize rnT rn = rt at *
  obtain ⟨T, hT⟩ : ∃ T, te ++ rt = T := ⟨_, rfl⟩
  have HT := hide hT
  rw [hT]
  clear hT
  have l0 : ([] : List Tk).length ≤ 0 := Nat.le_refl 0
  obtain ⟨y1, hy1⟩ := Sub.step (unhide HZ) (below_new y0.w (.cells #[] 91))
  have O1 := hide (show OwnT y1.w W.heap.size (.slice (some ⟨y0.w.heap.size, 0, none⟩) 0 0) [] by rw [← hy1]; exact ownT_empty y0.w W.heap.size (Nat.le_trans (unhide HZ) y0.h.size))
  go_enter Tryd.func35, Tryd.ntmps35
  go_wp2_with fail
  obtain ⟨y2, hy2⟩ := Sub.step (unhide HZ) (below_drew (w := y1.w))
  have O2 := hide (show OwnT y2.w W.heap.size (.slice (some ⟨y0.w.heap.size, 0, none⟩) 0 0) [] by rw [← hy2]; exact (unhide O1).later below_drew)
  have D0 := hide (show Below W.heap.size W y1.w.drew by rw [hy2]; exact y2.h)
  refine wp_region_held_drew (S := fun w' => Below W.heap.size W w') (by kernel_rfl) (unhide D0) (fun hS => ?_)
  have HS := hide hS
  clear hS D0 O1
  rw [hy2] at HS ⊢
  refine wpAnyH_take (i := 0) (v := .slice (some ⟨y0.w.heap.size, 0, none⟩) 0 0) rfl (by kernel_rfl) (by kernel_rfl) (by kernel_rfl) (fun _ _ _ h => h) (Or.inl ⟨by rfl, fun w hc => ?_⟩) (unhide HS) ?_
  · clear hc; go_simp
  go_simp
  refine wpAnyH_take (i := 1) (v := .pointer (some ⟨w.heap.size, 2, none⟩)) rfl (by kernel_rfl) (by kernel_rfl) (by kernel_rfl) (fun _ _ _ h => h) (Or.inl ⟨by rfl, fun w hc => ?_⟩) (unhide HS) ?_
  · clear hc; go_simp
  go_simp
  refine wpAnyH_take (i := 2) (v := .agg #[.int .i64 ek, .int .i64 en, .string es, .slice b el cap]) rfl (by kernel_rfl) (by kernel_rfl) (by kernel_rfl) (fun _ _ _ h => h) (Or.inl ⟨by rfl, fun w hc => ?_⟩) (unhide HS) ?_
  · have q2 := unhide Y2 _ hc; have q3 := unhide Y3 _ hc; have q4 := unhide Y4 _ hc; have q5 := unhide Y5 _ hc; clear hc; go_simp
  go_simp
  refine wpAnyH_take (i := 5) (v := .pointer (some ⟨w.heap.size, 1, none⟩)) rfl (by kernel_rfl) (by kernel_rfl) (by kernel_rfl) (fun _ _ _ h => h) (Or.inl ⟨by rfl, fun w hc => ?_⟩) (unhide HS) ?_
  · clear hc; go_simp
  go_simp
  refine wpAnyH_take (i := 6) (v := .int .i64 (rn : Int)) rfl (by kernel_rfl) (by kernel_rfl) (by kernel_rfl) (fun _ _ _ h => h) (Or.inl ⟨by rfl, fun w hc => ?_⟩) (unhide HS) ?_
  · have q := unhide Y1 _ hc; clear hc; go_simp
  go_simp
  refine wpAnyH_ready (rs := [3]) (by kernel_rfl) (by simp) ?_
  refine AllReadyH.cons rfl (fun K2 hK => ?_) AllReadyH.nil
  go_simp
  refine (unhide TE y2).mono ?_
  rintro r w3 ⟨vs, rfl, hS, hb⟩
  have O3 := hide ((unhide O2).later hb)
  clear O2
  obtain ⟨y3, rfl⟩ := Sub.step (unhide HZ) hb
  clear hb
  have SR := hide hS
  clear hS
  refine hK.out _ _ (y3.h) (fun hS => ?_)
  clear HS
  have HS := hide hS
  clear hS hK K2
  refine wpAnyH_ready (rs := [4]) (by kernel_rfl) (by simp) ?_
  refine AllReadyH.cons rfl (fun K2 hK => ?_) AllReadyH.nil
  rw [if_pos (by rfl)]
  refine wp_appT (.tmp 59) (.tmp 62) rfl (unhide HZ) y3.h rfl (unhide O3) rfl (unhide SR) tne (lsum l0 tle (by decide)) ?_
  intro v4 y4 hO
  obtain ⟨u4, hu⟩ : ∃ u, ([] ++ te) = u := ⟨_, rfl⟩
  rw [hu] at hO
  have l4 := lapp hu l0 tle
  have O4 := hide hO
  have H4 := hide hu
  clear hO hu O3 SR
  refine hK.out _ _ (y4.h) (fun hS => ?_)
  clear HS
  have HS := hide hS
  clear hS hK K2
  refine wpAnyH_ready (rs := [7]) (by kernel_rfl) (by simp) ?_
  refine AllReadyH.cons rfl (fun K2 hK => ?_) AllReadyH.nil
  go_simp
  refine (unhide RN y4.w).mono ?_
  rintro r w5 ⟨vs, rfl, hS, hb⟩
  have O5 := hide ((unhide O4).later hb)
  clear O4
  obtain ⟨y5, rfl⟩ := Sub.step (unhide HZ) hb
  clear hb
  have SR := hide hS
  clear hS
  refine hK.out _ _ (y5.h) (fun hS => ?_)
  clear HS
  have HS := hide hS
  clear hS hK K2
  refine wpAnyH_ready (rs := [8]) (by kernel_rfl) (by simp) ?_
  refine AllReadyH.cons rfl (fun K2 hK => ?_) AllReadyH.nil
  rw [if_pos (by rfl)]
  refine wp_appT (.tmp 63) (.tmp 66) rfl (unhide HZ) y5.h rfl (unhide O5) rfl (unhide SR) rne (lsum l4 rl (by decide)) ?_
  intro v6 y6 hO
  obtain ⟨u6, hu⟩ : ∃ u, (u4 ++ rt) = u := ⟨_, rfl⟩
  rw [hu] at hO
  have l6 := lapp hu l4 rl
  have O6 := hide hO
  have H6 := hide hu
  clear hO hu O5 SR
  refine hK.out _ _ (y6.h) (fun hS => ?_)
  clear HS
  have HS := hide hS
  clear hS hK K2
  refine wpAnyH_take (i := 9) (v := v6) rfl (by kernel_rfl) (by kernel_rfl) (by kernel_rfl) (fun _ _ _ h => h) (Or.inl ⟨by rfl, fun w hc => ?_⟩) (unhide HS) ?_
  · clear hc; go_simp
  go_simp
  refine wpAnyH_done (by kernel_rfl) ?_ _
  clear HS
  go_wp2_with fail
  have EQ : u6 = T := by
    rw [← unhide HT]
    rw [← unhide H6, ← unhide H4]
    simp [mkT, mkS]
  rw [EQ] at O6
  go_ret
  exact ⟨_, rfl, unhide HO y6 _ _ (unhide O6), unhide HB y6⟩
set_option maxHeartbeats 8000000 in
theorem agt7 (rn : Nat) (hrn : rn < 8) (e : Ex) (ok : okF 6 true e = true) (b : Option Addr) (cap : Nat) (w : World) (hr : RdX w 0 e b) : Calls Tryd.prog 35 #[.agg #[.int .i64 7, .int .i64 (rn : Int), .int .i64 e.k, .int .i64 e.n, .string e.s, .slice b e.l.length cap]] w fun r w' => ∃ v, r = .returned v ∧ OwnT w' w.heap.size v (agT ⟨7, (rn : Int), e⟩) ∧ Below w.heap.size w w' := by
  have hbW := below_new w (.cells #[.int .i64 7, .int .i64 (rn : Int), .int .i64 e.k, .int .i64 e.n, .string e.s, .slice b e.l.length cap] 33)
  obtain ⟨W, hW⟩ : ∃ W, w.alloc (.cells #[.int .i64 7, .int .i64 (rn : Int), .int .i64 e.k, .int .i64 e.n, .string e.s, .slice b e.l.length cap] 33) = W := ⟨_, rfl⟩
  have xl : w.heap.size < W.heap.size := by rw [← hW]; simp
  have hrW := hr.later hbW
  have xc : ∀ (i : Nat) (v : Value), (#[.int .i64 7, .int .i64 (rn : Int), .int .i64 e.k, .int .i64 e.n, .string e.s, .slice b e.l.length cap] : Array Value)[i]? = some v → ∀ w1, Below W.heap.size W w1 → w1.cell? ⟨w.heap.size, i, none⟩ = some v := fun i v h w1 hb => (hb.cell (p := ⟨w.heap.size, i, none⟩) xl).trans (by rw [← hW]; exact box17 w _ _ i v h)
  rw [hW] at hbW hrW
  obtain ⟨y0, hy0⟩ : ∃ z : Sub W.heap.size W, w.alloc (.cells #[.int .i64 7, .int .i64 (rn : Int), .int .i64 e.k, .int .i64 e.n, .string e.s, .slice b e.l.length cap] 33) = z.w := ⟨⟨W, Below.refl _ _⟩, hW⟩
  have ne := Sub.ne W.heap.size W
  have HZ := hide (Nat.le_refl W.heap.size)
  have HB := hide (fun y : Sub W.heap.size W => hbW.trans (y.h.mono hbW.size))
  have HO := hide (fun (y : Sub W.heap.size W) v ts (h : OwnT y.w W.heap.size v ts) => h.base hbW.size)
  have E0 : ∀ y : Sub W.heap.size W, y.w.cell? ⟨w.heap.size, 0, none⟩ = some (.int .i64 7) := fun y => xc 0 _ rfl y.w y.h
  have E1 : ∀ y : Sub W.heap.size W, y.w.cell? ⟨w.heap.size, 1, none⟩ = some (.int .i64 (rn : Int)) := fun y => xc 1 _ rfl y.w y.h
  have E2 : ∀ y : Sub W.heap.size W, y.w.cell? ⟨w.heap.size, 2, none⟩ = some (.int .i64 e.k) := fun y => xc 2 _ rfl y.w y.h
  have E3 : ∀ y : Sub W.heap.size W, y.w.cell? ⟨w.heap.size, 3, none⟩ = some (.int .i64 e.n) := fun y => xc 3 _ rfl y.w y.h
  have E4 : ∀ y : Sub W.heap.size W, y.w.cell? ⟨w.heap.size, 4, none⟩ = some (.string e.s) := fun y => xc 4 _ rfl y.w y.h
  have E5 : ∀ y : Sub W.heap.size W, y.w.cell? ⟨w.heap.size, 5, none⟩ = some (.slice b e.l.length cap) := fun y => xc 5 _ rfl y.w y.h
  have Y1 := hide (xc 1 _ rfl)
  have Y2 := hide (xc 2 _ rfl)
  have Y3 := hide (xc 3 _ rfl)
  have Y4 := hide (xc 4 _ rfl)
  have Y5 := hide (xc 5 _ rfl)
  have MK := hide (fun x w1 => markS_ex x w1)
  have RG := hide (fun w1 => regS rn hrn w1)
  have RN := hide (fun w1 => rndS rn hrn w1)
  have TE := hide (fun y : Sub W.heap.size W => toksS_all 6 (by omega) e b cap y.w ok (hrW.later y.h))
  have tne := toks_ne ok
  have tle : (toksF 6 e).length ≤ 200 := Nat.le_trans (toks_ok 6 e ok).2 (mxT_le 6 (by omega))
  unfold Ex.cs at TE
  have AT : agT ⟨7, (rn : Int), e⟩ = mkT 64 :: (toksF 6 e ++ rnT rn) := rfl
  rw [AT]
  clear AT ok hr hrW hW xc xl hbW hrn
  generalize toksF 6 e = te at *
  generalize e.k = ek at *
  generalize e.n = en at *
  generalize e.s = es at *
  generalize e.l.length = el at *
  unfold Tk.v Tk.cs at MK RG
  simp only at MK RG
  have rl := rnT_le rn
  have rne := rnT_ne rn
  generalize rnT rn = rt at *
  obtain ⟨T, hT⟩ : ∃ T, mkT 64 :: (te ++ rt) = T := ⟨_, rfl⟩
  have HT := hide hT
  rw [hT]
  clear hT
  have l0 : ([] : List Tk).length ≤ 0 := Nat.le_refl 0
  obtain ⟨y1, hy1⟩ := Sub.step (unhide HZ) (below_new y0.w (.cells #[] 91))
  have O1 := hide (show OwnT y1.w W.heap.size (.slice (some ⟨y0.w.heap.size, 0, none⟩) 0 0) [] by rw [← hy1]; exact ownT_empty y0.w W.heap.size (Nat.le_trans (unhide HZ) y0.h.size))
  go_enter Tryd.func35, Tryd.ntmps35
  go_wp2_with fail
  refine (unhide MK ⟨#[64]⟩ y1.w).mono ?_
  rintro r w2 ⟨rfl, hb⟩
  have O2 := hide ((unhide O1).later hb)
  clear O1
  obtain ⟨y2, rfl⟩ := Sub.step (unhide HZ) hb
  clear hb
  obtain ⟨y3, hy3⟩ := Sub.step (unhide HZ) (below_new y2.w (.cells #[.int .i64 4, .int .i64 0, .string ⟨#[64]⟩] 91))
  have S3 := hide (show OwnT y3.w W.heap.size (.slice (some ⟨y2.w.heap.size, 0, none⟩) 1 1) [(Tk.mk 4 0 ⟨#[64]⟩)] by rw [← hy3]; exact ownT_new y2.w (Tk.mk 4 0 ⟨#[64]⟩) W.heap.size (Nat.le_trans (unhide HZ) y2.h.size))
  have O3 := hide (show OwnT y3.w W.heap.size (.slice (some ⟨y0.w.heap.size, 0, none⟩) 0 0) [] by rw [← hy3]; exact (unhide O2).later (below_new _ _))
  clear O2
  go_wp2_with (at_builtin; go_must (refine appT rfl (.tmp 13) (.tmp 15) rfl (unhide HZ) y3.h rfl (unhide O3) rfl (unhide S3) (one_ne _) (lsum l0 (one_le _) (by decide)) ?_; intro v4 y4 hO; obtain ⟨u4, hu⟩ : ∃ u, ([] ++ [(Tk.mk 4 0 ⟨#[64]⟩)]) = u := ⟨_, rfl⟩; rw [hu] at hO; have l4 := lapp hu l0 (one_le _); have O4 := hide hO; have H4 := hide hu; clear hO hu O3 S3))
  obtain ⟨y5, hy5⟩ := Sub.step (unhide HZ) (below_drew (w := y4.w))
  have O5 := hide (show OwnT y5.w W.heap.size (v4) u4 by rw [← hy5]; exact (unhide O4).later below_drew)
  have D0 := hide (show Below W.heap.size W y4.w.drew by rw [hy5]; exact y5.h)
  refine wp_region_held_drew (S := fun w' => Below W.heap.size W w') (by kernel_rfl) (unhide D0) (fun hS => ?_)
  have HS := hide hS
  clear hS D0 O4
  rw [hy5] at HS ⊢
  refine wpAnyH_take (i := 0) (v := v4) rfl (by kernel_rfl) (by kernel_rfl) (by kernel_rfl) (fun _ _ _ h => h) (Or.inl ⟨by rfl, fun w hc => ?_⟩) (unhide HS) ?_
  · clear hc; go_simp
  go_simp
  refine wpAnyH_take (i := 1) (v := .pointer (some ⟨w.heap.size, 2, none⟩)) rfl (by kernel_rfl) (by kernel_rfl) (by kernel_rfl) (fun _ _ _ h => h) (Or.inl ⟨by rfl, fun w hc => ?_⟩) (unhide HS) ?_
  · clear hc; go_simp
  go_simp
  refine wpAnyH_take (i := 2) (v := .agg #[.int .i64 ek, .int .i64 en, .string es, .slice b el cap]) rfl (by kernel_rfl) (by kernel_rfl) (by kernel_rfl) (fun _ _ _ h => h) (Or.inl ⟨by rfl, fun w hc => ?_⟩) (unhide HS) ?_
  · have q2 := unhide Y2 _ hc; have q3 := unhide Y3 _ hc; have q4 := unhide Y4 _ hc; have q5 := unhide Y5 _ hc; clear hc; go_simp
  go_simp
  refine wpAnyH_take (i := 5) (v := .pointer (some ⟨w.heap.size, 1, none⟩)) rfl (by kernel_rfl) (by kernel_rfl) (by kernel_rfl) (fun _ _ _ h => h) (Or.inl ⟨by rfl, fun w hc => ?_⟩) (unhide HS) ?_
  · clear hc; go_simp
  go_simp
  refine wpAnyH_take (i := 6) (v := .int .i64 (rn : Int)) rfl (by kernel_rfl) (by kernel_rfl) (by kernel_rfl) (fun _ _ _ h => h) (Or.inl ⟨by rfl, fun w hc => ?_⟩) (unhide HS) ?_
  · have q := unhide Y1 _ hc; clear hc; go_simp
  go_simp
  refine wpAnyH_ready (rs := [3]) (by kernel_rfl) (by simp) ?_
  refine AllReadyH.cons rfl (fun K2 hK => ?_) AllReadyH.nil
  go_simp
  refine (unhide TE y5).mono ?_
  rintro r w6 ⟨vs, rfl, hS, hb⟩
  have O6 := hide ((unhide O5).later hb)
  clear O5
  obtain ⟨y6, rfl⟩ := Sub.step (unhide HZ) hb
  clear hb
  have SR := hide hS
  clear hS
  refine hK.out _ _ (y6.h) (fun hS => ?_)
  clear HS
  have HS := hide hS
  clear hS hK K2
  refine wpAnyH_ready (rs := [4]) (by kernel_rfl) (by simp) ?_
  refine AllReadyH.cons rfl (fun K2 hK => ?_) AllReadyH.nil
  rw [if_pos (by rfl)]
  refine wp_appT (.tmp 59) (.tmp 62) rfl (unhide HZ) y6.h rfl (unhide O6) rfl (unhide SR) tne (lsum l4 tle (by decide)) ?_
  intro v7 y7 hO
  obtain ⟨u7, hu⟩ : ∃ u, (u4 ++ te) = u := ⟨_, rfl⟩
  rw [hu] at hO
  have l7 := lapp hu l4 tle
  have O7 := hide hO
  have H7 := hide hu
  clear hO hu O6 SR
  refine hK.out _ _ (y7.h) (fun hS => ?_)
  clear HS
  have HS := hide hS
  clear hS hK K2
  refine wpAnyH_ready (rs := [7]) (by kernel_rfl) (by simp) ?_
  refine AllReadyH.cons rfl (fun K2 hK => ?_) AllReadyH.nil
  go_simp
  refine (unhide RN y7.w).mono ?_
  rintro r w8 ⟨vs, rfl, hS, hb⟩
  have O8 := hide ((unhide O7).later hb)
  clear O7
  obtain ⟨y8, rfl⟩ := Sub.step (unhide HZ) hb
  clear hb
  have SR := hide hS
  clear hS
  refine hK.out _ _ (y8.h) (fun hS => ?_)
  clear HS
  have HS := hide hS
  clear hS hK K2
  refine wpAnyH_ready (rs := [8]) (by kernel_rfl) (by simp) ?_
  refine AllReadyH.cons rfl (fun K2 hK => ?_) AllReadyH.nil
  rw [if_pos (by rfl)]
  refine wp_appT (.tmp 63) (.tmp 66) rfl (unhide HZ) y8.h rfl (unhide O8) rfl (unhide SR) rne (lsum l7 rl (by decide)) ?_
  intro v9 y9 hO
  obtain ⟨u9, hu⟩ : ∃ u, (u7 ++ rt) = u := ⟨_, rfl⟩
  rw [hu] at hO
  have l9 := lapp hu l7 rl
  have O9 := hide hO
  have H9 := hide hu
  clear hO hu O8 SR
  refine hK.out _ _ (y9.h) (fun hS => ?_)
  clear HS
  have HS := hide hS
  clear hS hK K2
  refine wpAnyH_take (i := 9) (v := v9) rfl (by kernel_rfl) (by kernel_rfl) (by kernel_rfl) (fun _ _ _ h => h) (Or.inl ⟨by rfl, fun w hc => ?_⟩) (unhide HS) ?_
  · clear hc; go_simp
  go_simp
  refine wpAnyH_done (by kernel_rfl) ?_ _
  clear HS
  go_wp2_with fail
  have EQ : u9 = T := by
    rw [← unhide HT]
    rw [← unhide H9, ← unhide H7, ← unhide H4]
    simp [mkT, mkS]
  rw [EQ] at O9
  go_ret
  exact ⟨_, rfl, unhide HO y9 _ _ (unhide O9), unhide HB y9⟩
set_option maxHeartbeats 8000000 in
theorem agt8 (rn : Nat) (hrn : rn < 8) (e : Ex) (ok : okF 6 true e = true) (b : Option Addr) (cap : Nat) (w : World) (hr : RdX w 0 e b) : Calls Tryd.prog 35 #[.agg #[.int .i64 8, .int .i64 (rn : Int), .int .i64 e.k, .int .i64 e.n, .string e.s, .slice b e.l.length cap]] w fun r w' => ∃ v, r = .returned v ∧ OwnT w' w.heap.size v (agT ⟨8, (rn : Int), e⟩) ∧ Below w.heap.size w w' := by
  have hbW := below_new w (.cells #[.int .i64 8, .int .i64 (rn : Int), .int .i64 e.k, .int .i64 e.n, .string e.s, .slice b e.l.length cap] 33)
  obtain ⟨W, hW⟩ : ∃ W, w.alloc (.cells #[.int .i64 8, .int .i64 (rn : Int), .int .i64 e.k, .int .i64 e.n, .string e.s, .slice b e.l.length cap] 33) = W := ⟨_, rfl⟩
  have xl : w.heap.size < W.heap.size := by rw [← hW]; simp
  have hrW := hr.later hbW
  have xc : ∀ (i : Nat) (v : Value), (#[.int .i64 8, .int .i64 (rn : Int), .int .i64 e.k, .int .i64 e.n, .string e.s, .slice b e.l.length cap] : Array Value)[i]? = some v → ∀ w1, Below W.heap.size W w1 → w1.cell? ⟨w.heap.size, i, none⟩ = some v := fun i v h w1 hb => (hb.cell (p := ⟨w.heap.size, i, none⟩) xl).trans (by rw [← hW]; exact box17 w _ _ i v h)
  rw [hW] at hbW hrW
  obtain ⟨y0, hy0⟩ : ∃ z : Sub W.heap.size W, w.alloc (.cells #[.int .i64 8, .int .i64 (rn : Int), .int .i64 e.k, .int .i64 e.n, .string e.s, .slice b e.l.length cap] 33) = z.w := ⟨⟨W, Below.refl _ _⟩, hW⟩
  have ne := Sub.ne W.heap.size W
  have HZ := hide (Nat.le_refl W.heap.size)
  have HB := hide (fun y : Sub W.heap.size W => hbW.trans (y.h.mono hbW.size))
  have HO := hide (fun (y : Sub W.heap.size W) v ts (h : OwnT y.w W.heap.size v ts) => h.base hbW.size)
  have E0 : ∀ y : Sub W.heap.size W, y.w.cell? ⟨w.heap.size, 0, none⟩ = some (.int .i64 8) := fun y => xc 0 _ rfl y.w y.h
  have E1 : ∀ y : Sub W.heap.size W, y.w.cell? ⟨w.heap.size, 1, none⟩ = some (.int .i64 (rn : Int)) := fun y => xc 1 _ rfl y.w y.h
  have E2 : ∀ y : Sub W.heap.size W, y.w.cell? ⟨w.heap.size, 2, none⟩ = some (.int .i64 e.k) := fun y => xc 2 _ rfl y.w y.h
  have E3 : ∀ y : Sub W.heap.size W, y.w.cell? ⟨w.heap.size, 3, none⟩ = some (.int .i64 e.n) := fun y => xc 3 _ rfl y.w y.h
  have E4 : ∀ y : Sub W.heap.size W, y.w.cell? ⟨w.heap.size, 4, none⟩ = some (.string e.s) := fun y => xc 4 _ rfl y.w y.h
  have E5 : ∀ y : Sub W.heap.size W, y.w.cell? ⟨w.heap.size, 5, none⟩ = some (.slice b e.l.length cap) := fun y => xc 5 _ rfl y.w y.h
  have Y1 := hide (xc 1 _ rfl)
  have Y2 := hide (xc 2 _ rfl)
  have Y3 := hide (xc 3 _ rfl)
  have Y4 := hide (xc 4 _ rfl)
  have Y5 := hide (xc 5 _ rfl)
  have MK := hide (fun x w1 => markS_ex x w1)
  have RG := hide (fun w1 => regS rn hrn w1)
  have RN := hide (fun w1 => rndS rn hrn w1)
  have TE := hide (fun y : Sub W.heap.size W => toksS_all 6 (by omega) e b cap y.w ok (hrW.later y.h))
  have tne := toks_ne ok
  have tle : (toksF 6 e).length ≤ 200 := Nat.le_trans (toks_ok 6 e ok).2 (mxT_le 6 (by omega))
  unfold Ex.cs at TE
  have AT : agT ⟨8, (rn : Int), e⟩ = mkT 35 :: toksF 6 e := rfl
  rw [AT]
  clear AT ok hr hrW hW xc xl hbW hrn
  generalize toksF 6 e = te at *
  generalize e.k = ek at *
  generalize e.n = en at *
  generalize e.s = es at *
  generalize e.l.length = el at *
  unfold Tk.v Tk.cs at MK RG
  simp only at MK RG
  have rl := rnT_le rn
  have rne := rnT_ne rn
  generalize rnT rn = rt at *
  obtain ⟨T, hT⟩ : ∃ T, mkT 35 :: te = T := ⟨_, rfl⟩
  have HT := hide hT
  rw [hT]
  clear hT
  have l0 : ([] : List Tk).length ≤ 0 := Nat.le_refl 0
  obtain ⟨y1, hy1⟩ := Sub.step (unhide HZ) (below_new y0.w (.cells #[] 91))
  have O1 := hide (show OwnT y1.w W.heap.size (.slice (some ⟨y0.w.heap.size, 0, none⟩) 0 0) [] by rw [← hy1]; exact ownT_empty y0.w W.heap.size (Nat.le_trans (unhide HZ) y0.h.size))
  go_enter Tryd.func35, Tryd.ntmps35
  go_wp2_with fail
  refine (unhide MK ⟨#[35]⟩ y1.w).mono ?_
  rintro r w2 ⟨rfl, hb⟩
  have O2 := hide ((unhide O1).later hb)
  clear O1
  obtain ⟨y2, rfl⟩ := Sub.step (unhide HZ) hb
  clear hb
  obtain ⟨y3, hy3⟩ := Sub.step (unhide HZ) (below_new y2.w (.cells #[.int .i64 4, .int .i64 0, .string ⟨#[35]⟩] 91))
  have S3 := hide (show OwnT y3.w W.heap.size (.slice (some ⟨y2.w.heap.size, 0, none⟩) 1 1) [(Tk.mk 4 0 ⟨#[35]⟩)] by rw [← hy3]; exact ownT_new y2.w (Tk.mk 4 0 ⟨#[35]⟩) W.heap.size (Nat.le_trans (unhide HZ) y2.h.size))
  have O3 := hide (show OwnT y3.w W.heap.size (.slice (some ⟨y0.w.heap.size, 0, none⟩) 0 0) [] by rw [← hy3]; exact (unhide O2).later (below_new _ _))
  clear O2
  go_wp2_with (at_builtin; go_must (refine appT rfl (.tmp 71) (.tmp 73) rfl (unhide HZ) y3.h rfl (unhide O3) rfl (unhide S3) (one_ne _) (lsum l0 (one_le _) (by decide)) ?_; intro v4 y4 hO; obtain ⟨u4, hu⟩ : ∃ u, ([] ++ [(Tk.mk 4 0 ⟨#[35]⟩)]) = u := ⟨_, rfl⟩; rw [hu] at hO; have l4 := lapp hu l0 (one_le _); have O4 := hide hO; have H4 := hide hu; clear hO hu O3 S3))
  refine (unhide TE y4).mono ?_
  rintro r w5 ⟨vs, rfl, hS, hb⟩
  have O5 := hide ((unhide O4).later hb)
  clear O4
  obtain ⟨y5, rfl⟩ := Sub.step (unhide HZ) hb
  clear hb
  have SR := hide hS
  clear hS
  go_wp2_with (at_builtin; go_must (refine appT rfl (.tmp 75) (.tmp 78) rfl (unhide HZ) y5.h rfl (unhide O5) rfl (unhide SR) tne (lsum l4 tle (by decide)) ?_; intro v6 y6 hO; obtain ⟨u6, hu⟩ : ∃ u, (u4 ++ te) = u := ⟨_, rfl⟩; rw [hu] at hO; have l6 := lapp hu l4 tle; have O6 := hide hO; have H6 := hide hu; clear hO hu O5 SR))
  have EQ : u6 = T := by
    rw [← unhide HT]
    rw [← unhide H6, ← unhide H4]
    simp [mkT, mkS]
  rw [EQ] at O6
  go_ret
  exact ⟨_, rfl, unhide HO y6 _ _ (unhide O6), unhide HB y6⟩
set_option maxHeartbeats 8000000 in
theorem agt9 (rn : Nat) (hrn : rn < 8) (e : Ex) (ok : okF 6 true e = true) (b : Option Addr) (cap : Nat) (w : World) (hr : RdX w 0 e b) : Calls Tryd.prog 35 #[.agg #[.int .i64 9, .int .i64 (rn : Int), .int .i64 e.k, .int .i64 e.n, .string e.s, .slice b e.l.length cap]] w fun r w' => ∃ v, r = .returned v ∧ OwnT w' w.heap.size v (agT ⟨9, (rn : Int), e⟩) ∧ Below w.heap.size w w' := by
  have hbW := below_new w (.cells #[.int .i64 9, .int .i64 (rn : Int), .int .i64 e.k, .int .i64 e.n, .string e.s, .slice b e.l.length cap] 33)
  obtain ⟨W, hW⟩ : ∃ W, w.alloc (.cells #[.int .i64 9, .int .i64 (rn : Int), .int .i64 e.k, .int .i64 e.n, .string e.s, .slice b e.l.length cap] 33) = W := ⟨_, rfl⟩
  have xl : w.heap.size < W.heap.size := by rw [← hW]; simp
  have hrW := hr.later hbW
  have xc : ∀ (i : Nat) (v : Value), (#[.int .i64 9, .int .i64 (rn : Int), .int .i64 e.k, .int .i64 e.n, .string e.s, .slice b e.l.length cap] : Array Value)[i]? = some v → ∀ w1, Below W.heap.size W w1 → w1.cell? ⟨w.heap.size, i, none⟩ = some v := fun i v h w1 hb => (hb.cell (p := ⟨w.heap.size, i, none⟩) xl).trans (by rw [← hW]; exact box17 w _ _ i v h)
  rw [hW] at hbW hrW
  obtain ⟨y0, hy0⟩ : ∃ z : Sub W.heap.size W, w.alloc (.cells #[.int .i64 9, .int .i64 (rn : Int), .int .i64 e.k, .int .i64 e.n, .string e.s, .slice b e.l.length cap] 33) = z.w := ⟨⟨W, Below.refl _ _⟩, hW⟩
  have ne := Sub.ne W.heap.size W
  have HZ := hide (Nat.le_refl W.heap.size)
  have HB := hide (fun y : Sub W.heap.size W => hbW.trans (y.h.mono hbW.size))
  have HO := hide (fun (y : Sub W.heap.size W) v ts (h : OwnT y.w W.heap.size v ts) => h.base hbW.size)
  have E0 : ∀ y : Sub W.heap.size W, y.w.cell? ⟨w.heap.size, 0, none⟩ = some (.int .i64 9) := fun y => xc 0 _ rfl y.w y.h
  have E1 : ∀ y : Sub W.heap.size W, y.w.cell? ⟨w.heap.size, 1, none⟩ = some (.int .i64 (rn : Int)) := fun y => xc 1 _ rfl y.w y.h
  have E2 : ∀ y : Sub W.heap.size W, y.w.cell? ⟨w.heap.size, 2, none⟩ = some (.int .i64 e.k) := fun y => xc 2 _ rfl y.w y.h
  have E3 : ∀ y : Sub W.heap.size W, y.w.cell? ⟨w.heap.size, 3, none⟩ = some (.int .i64 e.n) := fun y => xc 3 _ rfl y.w y.h
  have E4 : ∀ y : Sub W.heap.size W, y.w.cell? ⟨w.heap.size, 4, none⟩ = some (.string e.s) := fun y => xc 4 _ rfl y.w y.h
  have E5 : ∀ y : Sub W.heap.size W, y.w.cell? ⟨w.heap.size, 5, none⟩ = some (.slice b e.l.length cap) := fun y => xc 5 _ rfl y.w y.h
  have Y1 := hide (xc 1 _ rfl)
  have Y2 := hide (xc 2 _ rfl)
  have Y3 := hide (xc 3 _ rfl)
  have Y4 := hide (xc 4 _ rfl)
  have Y5 := hide (xc 5 _ rfl)
  have MK := hide (fun x w1 => markS_ex x w1)
  have RG := hide (fun w1 => regS rn hrn w1)
  have RN := hide (fun w1 => rndS rn hrn w1)
  have TE := hide (fun y : Sub W.heap.size W => toksS_all 6 (by omega) e b cap y.w ok (hrW.later y.h))
  have tne := toks_ne ok
  have tle : (toksF 6 e).length ≤ 200 := Nat.le_trans (toks_ok 6 e ok).2 (mxT_le 6 (by omega))
  unfold Ex.cs at TE
  have AT : agT ⟨9, (rn : Int), e⟩ = mkT 64 :: mkT 35 :: toksF 6 e := rfl
  rw [AT]
  clear AT ok hr hrW hW xc xl hbW hrn
  generalize toksF 6 e = te at *
  generalize e.k = ek at *
  generalize e.n = en at *
  generalize e.s = es at *
  generalize e.l.length = el at *
  unfold Tk.v Tk.cs at MK RG
  simp only at MK RG
  have rl := rnT_le rn
  have rne := rnT_ne rn
  generalize rnT rn = rt at *
  obtain ⟨T, hT⟩ : ∃ T, mkT 64 :: mkT 35 :: te = T := ⟨_, rfl⟩
  have HT := hide hT
  rw [hT]
  clear hT
  have l0 : ([] : List Tk).length ≤ 0 := Nat.le_refl 0
  obtain ⟨y1, hy1⟩ := Sub.step (unhide HZ) (below_new y0.w (.cells #[] 91))
  have O1 := hide (show OwnT y1.w W.heap.size (.slice (some ⟨y0.w.heap.size, 0, none⟩) 0 0) [] by rw [← hy1]; exact ownT_empty y0.w W.heap.size (Nat.le_trans (unhide HZ) y0.h.size))
  go_enter Tryd.func35, Tryd.ntmps35
  go_wp2_with fail
  refine (unhide MK ⟨#[64]⟩ y1.w).mono ?_
  rintro r w2 ⟨rfl, hb⟩
  have O2 := hide ((unhide O1).later hb)
  clear O1
  obtain ⟨y2, rfl⟩ := Sub.step (unhide HZ) hb
  clear hb
  obtain ⟨y3, hy3⟩ := Sub.step (unhide HZ) (below_new y2.w (.cells #[.int .i64 4, .int .i64 0, .string ⟨#[64]⟩] 91))
  have S3 := hide (show OwnT y3.w W.heap.size (.slice (some ⟨y2.w.heap.size, 0, none⟩) 1 1) [(Tk.mk 4 0 ⟨#[64]⟩)] by rw [← hy3]; exact ownT_new y2.w (Tk.mk 4 0 ⟨#[64]⟩) W.heap.size (Nat.le_trans (unhide HZ) y2.h.size))
  have O3 := hide (show OwnT y3.w W.heap.size (.slice (some ⟨y0.w.heap.size, 0, none⟩) 0 0) [] by rw [← hy3]; exact (unhide O2).later (below_new _ _))
  clear O2
  go_wp2_with (at_builtin; go_must (refine appT rfl (.tmp 13) (.tmp 15) rfl (unhide HZ) y3.h rfl (unhide O3) rfl (unhide S3) (one_ne _) (lsum l0 (one_le _) (by decide)) ?_; intro v4 y4 hO; obtain ⟨u4, hu⟩ : ∃ u, ([] ++ [(Tk.mk 4 0 ⟨#[64]⟩)]) = u := ⟨_, rfl⟩; rw [hu] at hO; have l4 := lapp hu l0 (one_le _); have O4 := hide hO; have H4 := hide hu; clear hO hu O3 S3))
  refine (unhide MK ⟨#[35]⟩ y4.w).mono ?_
  rintro r w5 ⟨rfl, hb⟩
  have O5 := hide ((unhide O4).later hb)
  clear O4
  obtain ⟨y5, rfl⟩ := Sub.step (unhide HZ) hb
  clear hb
  obtain ⟨y6, hy6⟩ := Sub.step (unhide HZ) (below_new y5.w (.cells #[.int .i64 4, .int .i64 0, .string ⟨#[35]⟩] 91))
  have S6 := hide (show OwnT y6.w W.heap.size (.slice (some ⟨y5.w.heap.size, 0, none⟩) 1 1) [(Tk.mk 4 0 ⟨#[35]⟩)] by rw [← hy6]; exact ownT_new y5.w (Tk.mk 4 0 ⟨#[35]⟩) W.heap.size (Nat.le_trans (unhide HZ) y5.h.size))
  have O6 := hide (show OwnT y6.w W.heap.size (v4) u4 by rw [← hy6]; exact (unhide O5).later (below_new _ _))
  clear O5
  go_wp2_with (at_builtin; go_must (refine appT rfl (.tmp 71) (.tmp 73) rfl (unhide HZ) y6.h rfl (unhide O6) rfl (unhide S6) (one_ne _) (lsum l4 (one_le _) (by decide)) ?_; intro v7 y7 hO; obtain ⟨u7, hu⟩ : ∃ u, (u4 ++ [(Tk.mk 4 0 ⟨#[35]⟩)]) = u := ⟨_, rfl⟩; rw [hu] at hO; have l7 := lapp hu l4 (one_le _); have O7 := hide hO; have H7 := hide hu; clear hO hu O6 S6))
  refine (unhide TE y7).mono ?_
  rintro r w8 ⟨vs, rfl, hS, hb⟩
  have O8 := hide ((unhide O7).later hb)
  clear O7
  obtain ⟨y8, rfl⟩ := Sub.step (unhide HZ) hb
  clear hb
  have SR := hide hS
  clear hS
  go_wp2_with (at_builtin; go_must (refine appT rfl (.tmp 75) (.tmp 78) rfl (unhide HZ) y8.h rfl (unhide O8) rfl (unhide SR) tne (lsum l7 tle (by decide)) ?_; intro v9 y9 hO; obtain ⟨u9, hu⟩ : ∃ u, (u7 ++ te) = u := ⟨_, rfl⟩; rw [hu] at hO; have l9 := lapp hu l7 tle; have O9 := hide hO; have H9 := hide hu; clear hO hu O8 SR))
  have EQ : u9 = T := by
    rw [← unhide HT]
    rw [← unhide H9, ← unhide H7, ← unhide H4]
    simp [mkT, mkS]
  rw [EQ] at O9
  go_ret
  exact ⟨_, rfl, unhide HO y9 _ _ (unhide O9), unhide HB y9⟩
set_option maxHeartbeats 8000000 in
theorem agt10 (rn : Nat) (hrn : rn < 8) (e : Ex) (ok : okF 6 true e = true) (b : Option Addr) (cap : Nat) (w : World) (hr : RdX w 0 e b) : Calls Tryd.prog 35 #[.agg #[.int .i64 10, .int .i64 (rn : Int), .int .i64 e.k, .int .i64 e.n, .string e.s, .slice b e.l.length cap]] w fun r w' => ∃ v, r = .returned v ∧ OwnT w' w.heap.size v (agT ⟨10, (rn : Int), e⟩) ∧ Below w.heap.size w w' := by
  have hbW := below_new w (.cells #[.int .i64 10, .int .i64 (rn : Int), .int .i64 e.k, .int .i64 e.n, .string e.s, .slice b e.l.length cap] 33)
  obtain ⟨W, hW⟩ : ∃ W, w.alloc (.cells #[.int .i64 10, .int .i64 (rn : Int), .int .i64 e.k, .int .i64 e.n, .string e.s, .slice b e.l.length cap] 33) = W := ⟨_, rfl⟩
  have xl : w.heap.size < W.heap.size := by rw [← hW]; simp
  have hrW := hr.later hbW
  have xc : ∀ (i : Nat) (v : Value), (#[.int .i64 10, .int .i64 (rn : Int), .int .i64 e.k, .int .i64 e.n, .string e.s, .slice b e.l.length cap] : Array Value)[i]? = some v → ∀ w1, Below W.heap.size W w1 → w1.cell? ⟨w.heap.size, i, none⟩ = some v := fun i v h w1 hb => (hb.cell (p := ⟨w.heap.size, i, none⟩) xl).trans (by rw [← hW]; exact box17 w _ _ i v h)
  rw [hW] at hbW hrW
  obtain ⟨y0, hy0⟩ : ∃ z : Sub W.heap.size W, w.alloc (.cells #[.int .i64 10, .int .i64 (rn : Int), .int .i64 e.k, .int .i64 e.n, .string e.s, .slice b e.l.length cap] 33) = z.w := ⟨⟨W, Below.refl _ _⟩, hW⟩
  have ne := Sub.ne W.heap.size W
  have HZ := hide (Nat.le_refl W.heap.size)
  have HB := hide (fun y : Sub W.heap.size W => hbW.trans (y.h.mono hbW.size))
  have HO := hide (fun (y : Sub W.heap.size W) v ts (h : OwnT y.w W.heap.size v ts) => h.base hbW.size)
  have E0 : ∀ y : Sub W.heap.size W, y.w.cell? ⟨w.heap.size, 0, none⟩ = some (.int .i64 10) := fun y => xc 0 _ rfl y.w y.h
  have E1 : ∀ y : Sub W.heap.size W, y.w.cell? ⟨w.heap.size, 1, none⟩ = some (.int .i64 (rn : Int)) := fun y => xc 1 _ rfl y.w y.h
  have E2 : ∀ y : Sub W.heap.size W, y.w.cell? ⟨w.heap.size, 2, none⟩ = some (.int .i64 e.k) := fun y => xc 2 _ rfl y.w y.h
  have E3 : ∀ y : Sub W.heap.size W, y.w.cell? ⟨w.heap.size, 3, none⟩ = some (.int .i64 e.n) := fun y => xc 3 _ rfl y.w y.h
  have E4 : ∀ y : Sub W.heap.size W, y.w.cell? ⟨w.heap.size, 4, none⟩ = some (.string e.s) := fun y => xc 4 _ rfl y.w y.h
  have E5 : ∀ y : Sub W.heap.size W, y.w.cell? ⟨w.heap.size, 5, none⟩ = some (.slice b e.l.length cap) := fun y => xc 5 _ rfl y.w y.h
  have Y1 := hide (xc 1 _ rfl)
  have Y2 := hide (xc 2 _ rfl)
  have Y3 := hide (xc 3 _ rfl)
  have Y4 := hide (xc 4 _ rfl)
  have Y5 := hide (xc 5 _ rfl)
  have MK := hide (fun x w1 => markS_ex x w1)
  have RG := hide (fun w1 => regS rn hrn w1)
  have RN := hide (fun w1 => rndS rn hrn w1)
  have TE := hide (fun y : Sub W.heap.size W => toksS_all 6 (by omega) e b cap y.w ok (hrW.later y.h))
  have tne := toks_ne ok
  have tle : (toksF 6 e).length ≤ 200 := Nat.le_trans (toks_ok 6 e ok).2 (mxT_le 6 (by omega))
  unfold Ex.cs at TE
  have AT : agT ⟨10, (rn : Int), e⟩ = toksF 6 e := rfl
  rw [AT]
  clear AT ok hr hrW hW xc xl hbW hrn
  generalize toksF 6 e = te at *
  generalize e.k = ek at *
  generalize e.n = en at *
  generalize e.s = es at *
  generalize e.l.length = el at *
  unfold Tk.v Tk.cs at MK RG
  simp only at MK RG
  have rl := rnT_le rn
  have rne := rnT_ne rn
  generalize rnT rn = rt at *
  obtain ⟨T, hT⟩ : ∃ T, te = T := ⟨_, rfl⟩
  have HT := hide hT
  rw [hT]
  clear hT
  have l0 : ([] : List Tk).length ≤ 0 := Nat.le_refl 0
  obtain ⟨y1, hy1⟩ := Sub.step (unhide HZ) (below_new y0.w (.cells #[] 91))
  have O1 := hide (show OwnT y1.w W.heap.size (.slice (some ⟨y0.w.heap.size, 0, none⟩) 0 0) [] by rw [← hy1]; exact ownT_empty y0.w W.heap.size (Nat.le_trans (unhide HZ) y0.h.size))
  go_enter Tryd.func35, Tryd.ntmps35
  go_wp2_with fail
  refine (unhide TE y1).mono ?_
  rintro r w2 ⟨vs, rfl, hS, hb⟩
  have O2 := hide ((unhide O1).later hb)
  clear O1
  obtain ⟨y2, rfl⟩ := Sub.step (unhide HZ) hb
  clear hb
  have SR := hide hS
  clear hS
  go_wp2_with (at_builtin; go_must (refine appT rfl (.tmp 75) (.tmp 78) rfl (unhide HZ) y2.h rfl (unhide O2) rfl (unhide SR) tne (lsum l0 tle (by decide)) ?_; intro v3 y3 hO; obtain ⟨u3, hu⟩ : ∃ u, ([] ++ te) = u := ⟨_, rfl⟩; rw [hu] at hO; have l3 := lapp hu l0 tle; have O3 := hide hO; have H3 := hide hu; clear hO hu O2 SR))
  have EQ : u3 = T := by
    rw [← unhide HT]
    rw [← unhide H3]
    simp [mkT, mkS]
  rw [EQ] at O3
  go_ret
  exact ⟨_, rfl, unhide HO y3 _ _ (unhide O3), unhide HB y3⟩
set_option maxHeartbeats 8000000 in
theorem agt11 (rn : Nat) (hrn : rn < 8) (e : Ex) (ok : okF 6 true e = true) (b : Option Addr) (cap : Nat) (w : World) (hr : RdX w 0 e b) : Calls Tryd.prog 35 #[.agg #[.int .i64 11, .int .i64 (rn : Int), .int .i64 e.k, .int .i64 e.n, .string e.s, .slice b e.l.length cap]] w fun r w' => ∃ v, r = .returned v ∧ OwnT w' w.heap.size v (agT ⟨11, (rn : Int), e⟩) ∧ Below w.heap.size w w' := by
  have hbW := below_new w (.cells #[.int .i64 11, .int .i64 (rn : Int), .int .i64 e.k, .int .i64 e.n, .string e.s, .slice b e.l.length cap] 33)
  obtain ⟨W, hW⟩ : ∃ W, w.alloc (.cells #[.int .i64 11, .int .i64 (rn : Int), .int .i64 e.k, .int .i64 e.n, .string e.s, .slice b e.l.length cap] 33) = W := ⟨_, rfl⟩
  have xl : w.heap.size < W.heap.size := by rw [← hW]; simp
  have hrW := hr.later hbW
  have xc : ∀ (i : Nat) (v : Value), (#[.int .i64 11, .int .i64 (rn : Int), .int .i64 e.k, .int .i64 e.n, .string e.s, .slice b e.l.length cap] : Array Value)[i]? = some v → ∀ w1, Below W.heap.size W w1 → w1.cell? ⟨w.heap.size, i, none⟩ = some v := fun i v h w1 hb => (hb.cell (p := ⟨w.heap.size, i, none⟩) xl).trans (by rw [← hW]; exact box17 w _ _ i v h)
  rw [hW] at hbW hrW
  obtain ⟨y0, hy0⟩ : ∃ z : Sub W.heap.size W, w.alloc (.cells #[.int .i64 11, .int .i64 (rn : Int), .int .i64 e.k, .int .i64 e.n, .string e.s, .slice b e.l.length cap] 33) = z.w := ⟨⟨W, Below.refl _ _⟩, hW⟩
  have ne := Sub.ne W.heap.size W
  have HZ := hide (Nat.le_refl W.heap.size)
  have HB := hide (fun y : Sub W.heap.size W => hbW.trans (y.h.mono hbW.size))
  have HO := hide (fun (y : Sub W.heap.size W) v ts (h : OwnT y.w W.heap.size v ts) => h.base hbW.size)
  have E0 : ∀ y : Sub W.heap.size W, y.w.cell? ⟨w.heap.size, 0, none⟩ = some (.int .i64 11) := fun y => xc 0 _ rfl y.w y.h
  have E1 : ∀ y : Sub W.heap.size W, y.w.cell? ⟨w.heap.size, 1, none⟩ = some (.int .i64 (rn : Int)) := fun y => xc 1 _ rfl y.w y.h
  have E2 : ∀ y : Sub W.heap.size W, y.w.cell? ⟨w.heap.size, 2, none⟩ = some (.int .i64 e.k) := fun y => xc 2 _ rfl y.w y.h
  have E3 : ∀ y : Sub W.heap.size W, y.w.cell? ⟨w.heap.size, 3, none⟩ = some (.int .i64 e.n) := fun y => xc 3 _ rfl y.w y.h
  have E4 : ∀ y : Sub W.heap.size W, y.w.cell? ⟨w.heap.size, 4, none⟩ = some (.string e.s) := fun y => xc 4 _ rfl y.w y.h
  have E5 : ∀ y : Sub W.heap.size W, y.w.cell? ⟨w.heap.size, 5, none⟩ = some (.slice b e.l.length cap) := fun y => xc 5 _ rfl y.w y.h
  have Y1 := hide (xc 1 _ rfl)
  have Y2 := hide (xc 2 _ rfl)
  have Y3 := hide (xc 3 _ rfl)
  have Y4 := hide (xc 4 _ rfl)
  have Y5 := hide (xc 5 _ rfl)
  have MK := hide (fun x w1 => markS_ex x w1)
  have RG := hide (fun w1 => regS rn hrn w1)
  have RN := hide (fun w1 => rndS rn hrn w1)
  have TE := hide (fun y : Sub W.heap.size W => toksS_all 6 (by omega) e b cap y.w ok (hrW.later y.h))
  have tne := toks_ne ok
  have tle : (toksF 6 e).length ≤ 200 := Nat.le_trans (toks_ok 6 e ok).2 (mxT_le 6 (by omega))
  unfold Ex.cs at TE
  have AT : agT ⟨11, (rn : Int), e⟩ = mkT 64 :: toksF 6 e := rfl
  rw [AT]
  clear AT ok hr hrW hW xc xl hbW hrn
  generalize toksF 6 e = te at *
  generalize e.k = ek at *
  generalize e.n = en at *
  generalize e.s = es at *
  generalize e.l.length = el at *
  unfold Tk.v Tk.cs at MK RG
  simp only at MK RG
  have rl := rnT_le rn
  have rne := rnT_ne rn
  generalize rnT rn = rt at *
  obtain ⟨T, hT⟩ : ∃ T, mkT 64 :: te = T := ⟨_, rfl⟩
  have HT := hide hT
  rw [hT]
  clear hT
  have l0 : ([] : List Tk).length ≤ 0 := Nat.le_refl 0
  obtain ⟨y1, hy1⟩ := Sub.step (unhide HZ) (below_new y0.w (.cells #[] 91))
  have O1 := hide (show OwnT y1.w W.heap.size (.slice (some ⟨y0.w.heap.size, 0, none⟩) 0 0) [] by rw [← hy1]; exact ownT_empty y0.w W.heap.size (Nat.le_trans (unhide HZ) y0.h.size))
  go_enter Tryd.func35, Tryd.ntmps35
  go_wp2_with fail
  refine (unhide MK ⟨#[64]⟩ y1.w).mono ?_
  rintro r w2 ⟨rfl, hb⟩
  have O2 := hide ((unhide O1).later hb)
  clear O1
  obtain ⟨y2, rfl⟩ := Sub.step (unhide HZ) hb
  clear hb
  obtain ⟨y3, hy3⟩ := Sub.step (unhide HZ) (below_new y2.w (.cells #[.int .i64 4, .int .i64 0, .string ⟨#[64]⟩] 91))
  have S3 := hide (show OwnT y3.w W.heap.size (.slice (some ⟨y2.w.heap.size, 0, none⟩) 1 1) [(Tk.mk 4 0 ⟨#[64]⟩)] by rw [← hy3]; exact ownT_new y2.w (Tk.mk 4 0 ⟨#[64]⟩) W.heap.size (Nat.le_trans (unhide HZ) y2.h.size))
  have O3 := hide (show OwnT y3.w W.heap.size (.slice (some ⟨y0.w.heap.size, 0, none⟩) 0 0) [] by rw [← hy3]; exact (unhide O2).later (below_new _ _))
  clear O2
  go_wp2_with (at_builtin; go_must (refine appT rfl (.tmp 13) (.tmp 15) rfl (unhide HZ) y3.h rfl (unhide O3) rfl (unhide S3) (one_ne _) (lsum l0 (one_le _) (by decide)) ?_; intro v4 y4 hO; obtain ⟨u4, hu⟩ : ∃ u, ([] ++ [(Tk.mk 4 0 ⟨#[64]⟩)]) = u := ⟨_, rfl⟩; rw [hu] at hO; have l4 := lapp hu l0 (one_le _); have O4 := hide hO; have H4 := hide hu; clear hO hu O3 S3))
  refine (unhide TE y4).mono ?_
  rintro r w5 ⟨vs, rfl, hS, hb⟩
  have O5 := hide ((unhide O4).later hb)
  clear O4
  obtain ⟨y5, rfl⟩ := Sub.step (unhide HZ) hb
  clear hb
  have SR := hide hS
  clear hS
  go_wp2_with (at_builtin; go_must (refine appT rfl (.tmp 75) (.tmp 78) rfl (unhide HZ) y5.h rfl (unhide O5) rfl (unhide SR) tne (lsum l4 tle (by decide)) ?_; intro v6 y6 hO; obtain ⟨u6, hu⟩ : ∃ u, (u4 ++ te) = u := ⟨_, rfl⟩; rw [hu] at hO; have l6 := lapp hu l4 tle; have O6 := hide hO; have H6 := hide hu; clear hO hu O5 SR))
  have EQ : u6 = T := by
    rw [← unhide HT]
    rw [← unhide H6, ← unhide H4]
    simp [mkT, mkS]
  rw [EQ] at O6
  go_ret
  exact ⟨_, rfl, unhide HO y6 _ _ (unhide O6), unhide HB y6⟩
end Go.Proofs.YtmhcbehplhfgfaaDoor

namespace Go.Proofs.YtmhcbehplhfgfaaDoor
open Go.ChangeShapes Go.WideShapes Go.ChangeAt Go.RowKit
set_option linter.unusedVariables false
set_option maxRecDepth 8000
set_option linter.unusedSimpArgs false

theorem inB_of {x a b : Int} (h : inB x a b = true) : a ≤ x ∧ x ≤ b := by
  unfold inB at h
  simpa using h
theorem agtS_any (a : Ag) (b : Option Addr) (cap : Nat) (w : World) (ok : agX a = true) (hr : RdX w 0 a.e b) : Calls Tryd.prog 35 #[.agg (a.cs b cap)] w fun r w' => ∃ v, r = .returned v ∧ OwnT w' w.heap.size v (agT a) ∧ Below w.heap.size w w' := by
  obtain ⟨f, r, e⟩ := a
  unfold agX at ok
  unfold Ag.cs
  simp only at ok hr ⊢
  by_cases h1 : inB f 0 5 = true
  · rw [if_pos h1] at ok
    obtain ⟨h2, _⟩ := Bool.and_eq_true_iff.1 ok
    obtain ⟨q1, q2⟩ := inB_of h2
    obtain ⟨rn, rfl⟩ : ∃ n : Nat, r = (n : Int) := ⟨r.toNat, by omega⟩
    obtain ⟨p1, p2⟩ := inB_of h1
    have hrn : rn < 8 := by omega
    have : f = 0 ∨ f = 1 ∨ f = 2 ∨ f = 3 ∨ f = 4 ∨ f = 5 := by omega
    rcases this with rfl | rfl | rfl | rfl | rfl | rfl
    · exact agt0 rn hrn e trivial b cap w hr
    · exact agt1 rn hrn e trivial b cap w hr
    · exact agt2 rn hrn e trivial b cap w hr
    · exact agt3 rn hrn e trivial b cap w hr
    · exact agt4 rn hrn e trivial b cap w hr
    · exact agt5 rn hrn e trivial b cap w hr
  rw [if_neg h1] at ok
  by_cases h2 : (f == 6 || f == 7) = true
  · rw [if_pos h2] at ok
    obtain ⟨h3, h4⟩ := Bool.and_eq_true_iff.1 ok
    obtain ⟨q1, q2⟩ := inB_of h3
    obtain ⟨rn, rfl⟩ : ∃ n : Nat, r = (n : Int) := ⟨r.toNat, by omega⟩
    have hrn : rn < 8 := by omega
    have : f = 6 ∨ f = 7 := by simpa using h2
    rcases this with rfl | rfl
    · exact agt6 rn hrn e h4 b cap w hr
    · exact agt7 rn hrn e h4 b cap w hr
  rw [if_neg h2] at ok
  by_cases h3 : inB f 8 11 = true
  · rw [if_pos h3] at ok
    obtain ⟨h5, h4⟩ := Bool.and_eq_true_iff.1 ok
    have h5 : r = 0 := by simpa using h5
    subst h5
    obtain ⟨p1, p2⟩ := inB_of h3
    have : f = 8 ∨ f = 9 ∨ f = 10 ∨ f = 11 := by omega
    rcases this with rfl | rfl | rfl | rfl
    · exact agt8 0 (by omega) e h4 b cap w hr
    · exact agt9 0 (by omega) e h4 b cap w hr
    · exact agt10 0 (by omega) e h4 b cap w hr
    · exact agt11 0 (by omega) e h4 b cap w hr
  rw [if_neg h3] at ok
  cases ok
theorem agX_e {a : Ag} (ok : agX a = true) (h : 6 ≤ a.f) : okF 6 true a.e = true := by
  unfold agX at ok
  by_cases h1 : inB a.f 0 5 = true
  · have := inB_of h1; omega
  rw [if_neg h1] at ok
  by_cases h2 : (a.f == 6 || a.f == 7) = true
  · rw [if_pos h2] at ok; exact (Bool.and_eq_true_iff.1 ok).2
  rw [if_neg h2] at ok
  by_cases h3 : inB a.f 8 11 = true
  · rw [if_pos h3] at ok; exact (Bool.and_eq_true_iff.1 ok).2
  rw [if_neg h3] at ok
  cases ok
theorem toks_le {e : Ex} (ok : okF 6 true e = true) : (toksF 6 e).length ≤ 200 := Nat.le_trans (toks_ok 6 e ok).2 (mxT_le 6 (by omega))
theorem agX_f {a : Ag} (ok : agX a = true) : 0 ≤ a.f ∧ a.f ≤ 11 := by
  unfold agX at ok
  by_cases h1 : inB a.f 0 5 = true
  · have := inB_of h1; omega
  rw [if_neg h1] at ok
  by_cases h2 : (a.f == 6 || a.f == 7) = true
  · have : a.f = 6 ∨ a.f = 7 := by simpa using h2
    omega
  rw [if_neg h2] at ok
  by_cases h3 : inB a.f 8 11 = true
  · have := inB_of h3; omega
  rw [if_neg h3] at ok
  cases ok
theorem agT_ok {a : Ag} (ok : agX a = true) : agT a ≠ [] ∧ (agT a).length ≤ 205 := by
  obtain ⟨f1, f2⟩ := agX_f ok
  have hr : (rnT a.r.toNat).length = 3 := rfl
  have hn := rnT_ne a.r.toNat
  by_cases h6 : 6 ≤ a.f
  · have hl := toks_le (agX_e ok h6)
    have ht := toks_ne (agX_e ok h6)
    have : a.f = 6 ∨ a.f = 7 ∨ a.f = 8 ∨ a.f = 9 ∨ a.f = 10 ∨ a.f = 11 := by omega
    rcases this with h | h | h | h | h | h <;> (unfold agT; simp [h, ht, hn]; try omega)
  · have : a.f = 0 ∨ a.f = 1 ∨ a.f = 2 ∨ a.f = 3 ∨ a.f = 4 ∨ a.f = 5 := by omega
    rcases this with h | h | h | h | h | h <;> (unfold agT; simp [h, hn]; try omega)
/-- Terms with commas between. -/
def cmT : List Ex → List Tk
  | [] => []
  | e :: r => toksF 6 e ++ (r.map fun x => mkT 44 :: toksF 6 x).flatten
/-- A word with a point ahead, and terms. -/
def tmT (x : ByteArray) (l : List Ex) : List Tk := ⟨3, 0, x⟩ :: cmT l
theorem cmT_one (l : List Ex) (h : 0 < l.length) : cmT (l.take 1) = toksF 6 (xAt l 0) := by
  cases l with
  | nil => cases h
  | cons e r => simp [cmT, xAt]
theorem cmT_more (l : List Ex) (j : Nat) (h0 : 0 < j) (h : j < l.length) : cmT (l.take (j + 1)) = cmT (l.take j) ++ [mkT 44] ++ toksF 6 (xAt l j) := by
  cases l with
  | nil => cases h
  | cons e r =>
    obtain ⟨i, rfl⟩ : ∃ i, j = i + 1 := ⟨j - 1, by omega⟩
    have hi : i < r.length := by simpa using h
    rw [List.take_succ_cons, List.take_succ_cons, List.take_succ_eq_append_getElem hi]
    have e1 : xAt (e :: r) (i + 1) = r[i] := by
      unfold xAt
      rw [List.getD_eq_getElem?_getD, List.getElem?_cons_succ, List.getElem?_eq_getElem hi]
      rfl
    rw [e1]
    simp only [cmT, List.map_append, List.map_cons, List.map_nil, List.flatten_append, List.flatten_cons, List.flatten_nil, List.append_nil, List.append_assoc, List.cons_append, List.nil_append]
theorem cmT_le (l : List Ex) (ok : l.all (okF 6 true) = true) : ∀ j, j ≤ l.length → (cmT (l.take j)).length ≤ 201 * j := by
  intro j
  induction j with
  | zero => intro _; simp [cmT]
  | succ j ih =>
    intro hj
    have ih := ih (by omega)
    have okj : okF 6 true (xAt l j) = true := List.all_eq_true.1 ok _ (xAt_mem (by omega))
    have hl := toks_le okj
    by_cases h0 : j = 0
    · subst h0
      rw [cmT_one l (by omega)]
      omega
    · rw [cmT_more l j (by omega) (by omega), List.length_append, List.length_append]
      have : [mkT 44].length = 1 := rfl
      omega
end Go.Proofs.YtmhcbehplhfgfaaDoor

namespace Go.Proofs.YtmhcbehplhfgfaaDoor
open Go.ChangeShapes Go.WideShapes Go.ChangeAt Go.RowKit
set_option linter.unusedVariables false
set_option maxRecDepth 8000
set_option linter.unusedSimpArgs false

set_option maxHeartbeats 2000000 in
theorem kind_num (n : Int) (s : ByteArray) (t u : TypeId) (x y : Value) (w : World) : Calls Tryd.prog 71 #[.iface 123 (.agg #[.int .i64 n])] w fun r w' => r = .returned (.int .i64 1) ∧ w' = w := by
  have tt := taY_num (.agg #[.int .i64 n])
  go_enter Tryd.func71, Tryd.ntmps71
  go_wp2
  go_ret
  exact ⟨rfl, rfl⟩
set_option maxHeartbeats 2000000 in
theorem kind_sym (n : Int) (s : ByteArray) (t u : TypeId) (x y : Value) (w : World) : Calls Tryd.prog 71 #[.iface 125 (.agg #[.string s])] w fun r w' => r = .returned (.int .i64 2) ∧ w' = w := by
  have t0 := taN_num 125 (.agg #[.string s]) (by decide)
  have tt := taY_sym (.agg #[.string s])
  go_enter Tryd.func71, Tryd.ntmps71
  go_wp2
  go_ret
  exact ⟨rfl, rfl⟩
set_option maxHeartbeats 2000000 in
theorem kind_here (n : Int) (s : ByteArray) (t u : TypeId) (x y : Value) (w : World) : Calls Tryd.prog 71 #[.iface 127 (.agg #[])] w fun r w' => r = .returned (.int .i64 3) ∧ w' = w := by
  have t0 := taN_num 127 (.agg #[]) (by decide)
  have t1 := taN_sym 127 (.agg #[]) (by decide)
  have tt := taY_here (.agg #[])
  go_enter Tryd.func71, Tryd.ntmps71
  go_wp2
  go_ret
  exact ⟨rfl, rfl⟩
set_option maxHeartbeats 2000000 in
theorem kind_neg (n : Int) (s : ByteArray) (t u : TypeId) (x y : Value) (w : World) : Calls Tryd.prog 71 #[.iface 129 (.agg #[.iface t x])] w fun r w' => r = .returned (.int .i64 4) ∧ w' = w := by
  have t0 := taN_num 129 (.agg #[.iface t x]) (by decide)
  have t1 := taN_sym 129 (.agg #[.iface t x]) (by decide)
  have t2 := taN_here 129 (.agg #[.iface t x]) (by decide)
  have tt := taY_neg (.agg #[.iface t x])
  go_enter Tryd.func71, Tryd.ntmps71
  go_wp2
  go_ret
  exact ⟨rfl, rfl⟩
set_option maxHeartbeats 2000000 in
theorem kind_add (n : Int) (s : ByteArray) (t u : TypeId) (x y : Value) (w : World) : Calls Tryd.prog 71 #[.iface 138 (.agg #[.iface t x, .iface u y])] w fun r w' => r = .returned (.int .i64 5) ∧ w' = w := by
  have t0 := taN_num 138 (.agg #[.iface t x, .iface u y]) (by decide)
  have t1 := taN_sym 138 (.agg #[.iface t x, .iface u y]) (by decide)
  have t2 := taN_here 138 (.agg #[.iface t x, .iface u y]) (by decide)
  have t3 := taN_neg 138 (.agg #[.iface t x, .iface u y]) (by decide)
  have tt := taY_add (.agg #[.iface t x, .iface u y])
  go_enter Tryd.func71, Tryd.ntmps71
  go_wp2
  go_ret
  exact ⟨rfl, rfl⟩
set_option maxHeartbeats 2000000 in
theorem kind_sub (n : Int) (s : ByteArray) (t u : TypeId) (x y : Value) (w : World) : Calls Tryd.prog 71 #[.iface 139 (.agg #[.iface t x, .iface u y])] w fun r w' => r = .returned (.int .i64 6) ∧ w' = w := by
  have t0 := taN_num 139 (.agg #[.iface t x, .iface u y]) (by decide)
  have t1 := taN_sym 139 (.agg #[.iface t x, .iface u y]) (by decide)
  have t2 := taN_here 139 (.agg #[.iface t x, .iface u y]) (by decide)
  have t3 := taN_neg 139 (.agg #[.iface t x, .iface u y]) (by decide)
  have t4 := taN_add 139 (.agg #[.iface t x, .iface u y]) (by decide)
  have tt := taY_sub (.agg #[.iface t x, .iface u y])
  go_enter Tryd.func71, Tryd.ntmps71
  go_wp2
  go_ret
  exact ⟨rfl, rfl⟩
set_option maxHeartbeats 2000000 in
theorem kind_mul (n : Int) (s : ByteArray) (t u : TypeId) (x y : Value) (w : World) : Calls Tryd.prog 71 #[.iface 140 (.agg #[.iface t x, .iface u y])] w fun r w' => r = .returned (.int .i64 7) ∧ w' = w := by
  have t0 := taN_num 140 (.agg #[.iface t x, .iface u y]) (by decide)
  have t1 := taN_sym 140 (.agg #[.iface t x, .iface u y]) (by decide)
  have t2 := taN_here 140 (.agg #[.iface t x, .iface u y]) (by decide)
  have t3 := taN_neg 140 (.agg #[.iface t x, .iface u y]) (by decide)
  have t4 := taN_add 140 (.agg #[.iface t x, .iface u y]) (by decide)
  have t5 := taN_sub 140 (.agg #[.iface t x, .iface u y]) (by decide)
  have tt := taY_mul (.agg #[.iface t x, .iface u y])
  go_enter Tryd.func71, Tryd.ntmps71
  go_wp2
  go_ret
  exact ⟨rfl, rfl⟩
set_option maxHeartbeats 2000000 in
theorem kind_div (n : Int) (s : ByteArray) (t u : TypeId) (x y : Value) (w : World) : Calls Tryd.prog 71 #[.iface 141 (.agg #[.iface t x, .iface u y])] w fun r w' => r = .returned (.int .i64 8) ∧ w' = w := by
  have t0 := taN_num 141 (.agg #[.iface t x, .iface u y]) (by decide)
  have t1 := taN_sym 141 (.agg #[.iface t x, .iface u y]) (by decide)
  have t2 := taN_here 141 (.agg #[.iface t x, .iface u y]) (by decide)
  have t3 := taN_neg 141 (.agg #[.iface t x, .iface u y]) (by decide)
  have t4 := taN_add 141 (.agg #[.iface t x, .iface u y]) (by decide)
  have t5 := taN_sub 141 (.agg #[.iface t x, .iface u y]) (by decide)
  have t6 := taN_mul 141 (.agg #[.iface t x, .iface u y]) (by decide)
  have tt := taY_div (.agg #[.iface t x, .iface u y])
  go_enter Tryd.func71, Tryd.ntmps71
  go_wp2
  go_ret
  exact ⟨rfl, rfl⟩
set_option maxHeartbeats 2000000 in
theorem kind_and (n : Int) (s : ByteArray) (t u : TypeId) (x y : Value) (w : World) : Calls Tryd.prog 71 #[.iface 142 (.agg #[.iface t x, .iface u y])] w fun r w' => r = .returned (.int .i64 9) ∧ w' = w := by
  have t0 := taN_num 142 (.agg #[.iface t x, .iface u y]) (by decide)
  have t1 := taN_sym 142 (.agg #[.iface t x, .iface u y]) (by decide)
  have t2 := taN_here 142 (.agg #[.iface t x, .iface u y]) (by decide)
  have t3 := taN_neg 142 (.agg #[.iface t x, .iface u y]) (by decide)
  have t4 := taN_add 142 (.agg #[.iface t x, .iface u y]) (by decide)
  have t5 := taN_sub 142 (.agg #[.iface t x, .iface u y]) (by decide)
  have t6 := taN_mul 142 (.agg #[.iface t x, .iface u y]) (by decide)
  have t7 := taN_div 142 (.agg #[.iface t x, .iface u y]) (by decide)
  have tt := taY_and (.agg #[.iface t x, .iface u y])
  go_enter Tryd.func71, Tryd.ntmps71
  go_wp2
  go_ret
  exact ⟨rfl, rfl⟩
set_option maxHeartbeats 2000000 in
theorem kind_or (n : Int) (s : ByteArray) (t u : TypeId) (x y : Value) (w : World) : Calls Tryd.prog 71 #[.iface 143 (.agg #[.iface t x, .iface u y])] w fun r w' => r = .returned (.int .i64 10) ∧ w' = w := by
  have t0 := taN_num 143 (.agg #[.iface t x, .iface u y]) (by decide)
  have t1 := taN_sym 143 (.agg #[.iface t x, .iface u y]) (by decide)
  have t2 := taN_here 143 (.agg #[.iface t x, .iface u y]) (by decide)
  have t3 := taN_neg 143 (.agg #[.iface t x, .iface u y]) (by decide)
  have t4 := taN_add 143 (.agg #[.iface t x, .iface u y]) (by decide)
  have t5 := taN_sub 143 (.agg #[.iface t x, .iface u y]) (by decide)
  have t6 := taN_mul 143 (.agg #[.iface t x, .iface u y]) (by decide)
  have t7 := taN_div 143 (.agg #[.iface t x, .iface u y]) (by decide)
  have t8 := taN_and 143 (.agg #[.iface t x, .iface u y]) (by decide)
  have tt := taY_or (.agg #[.iface t x, .iface u y])
  go_enter Tryd.func71, Tryd.ntmps71
  go_wp2
  go_ret
  exact ⟨rfl, rfl⟩
set_option maxHeartbeats 2000000 in
theorem kind_sect (n : Int) (s : ByteArray) (t u : TypeId) (x y : Value) (w : World) : Calls Tryd.prog 71 #[.iface 135 (.agg #[.int .i64 n])] w fun r w' => r = .returned (.int .i64 11) ∧ w' = w := by
  have t0 := taN_num 135 (.agg #[.int .i64 n]) (by decide)
  have t1 := taN_sym 135 (.agg #[.int .i64 n]) (by decide)
  have t2 := taN_here 135 (.agg #[.int .i64 n]) (by decide)
  have t3 := taN_neg 135 (.agg #[.int .i64 n]) (by decide)
  have t4 := taN_add 135 (.agg #[.int .i64 n]) (by decide)
  have t5 := taN_sub 135 (.agg #[.int .i64 n]) (by decide)
  have t6 := taN_mul 135 (.agg #[.int .i64 n]) (by decide)
  have t7 := taN_div 135 (.agg #[.int .i64 n]) (by decide)
  have t8 := taN_and 135 (.agg #[.int .i64 n]) (by decide)
  have t9 := taN_or 135 (.agg #[.int .i64 n]) (by decide)
  have tt := taY_sect (.agg #[.int .i64 n])
  go_enter Tryd.func71, Tryd.ntmps71
  go_wp2
  go_ret
  exact ⟨rfl, rfl⟩
set_option maxHeartbeats 2000000 in
theorem kind_glob (n : Int) (s : ByteArray) (t u : TypeId) (x y : Value) (w : World) : Calls Tryd.prog 71 #[.iface 136 (.agg #[.string s])] w fun r w' => r = .returned (.int .i64 12) ∧ w' = w := by
  have t0 := taN_num 136 (.agg #[.string s]) (by decide)
  have t1 := taN_sym 136 (.agg #[.string s]) (by decide)
  have t2 := taN_here 136 (.agg #[.string s]) (by decide)
  have t3 := taN_neg 136 (.agg #[.string s]) (by decide)
  have t4 := taN_add 136 (.agg #[.string s]) (by decide)
  have t5 := taN_sub 136 (.agg #[.string s]) (by decide)
  have t6 := taN_mul 136 (.agg #[.string s]) (by decide)
  have t7 := taN_div 136 (.agg #[.string s]) (by decide)
  have t8 := taN_and 136 (.agg #[.string s]) (by decide)
  have t9 := taN_or 136 (.agg #[.string s]) (by decide)
  have t10 := taN_sect 136 (.agg #[.string s]) (by decide)
  have tt := taY_glob (.agg #[.string s])
  go_enter Tryd.func71, Tryd.ntmps71
  go_wp2
  go_ret
  exact ⟨rfl, rfl⟩
theorem kindI_any {d : Nat} {e : Ex} (h : okF d false e = true) (w : World) : Calls Tryd.prog 71 #[tv e] w fun r w' => r = .returned (.int .i64 e.k) ∧ w' = w := by
  cases d with
  | zero => cases h
  | succ d =>
    rcases ok_cases h with ⟨n, hn, rfl⟩ | ⟨s, hs, rfl⟩ | rfl | ⟨a, ha, rfl⟩ | ⟨k, a, b, hk, ha, hb, rfl⟩ | ⟨n, hn, rfl⟩ | ⟨s, hs, rfl⟩
    · rw [tv_num]; exact kind_num n E0 0 0 .nilIface .nilIface w
    · rw [tv_sym]; exact kind_sym 0 s 0 0 .nilIface .nilIface w
    · rw [tv_here]; exact kind_here 0 E0 0 0 .nilIface .nilIface w
    · obtain ⟨t, x, e1⟩ := tv_if a
      rw [tv_neg, e1]; exact kind_neg 0 E0 t 0 x .nilIface w
    · obtain ⟨t, x, e1⟩ := tv_if a
      obtain ⟨u, y, e2⟩ := tv_if b
      rw [tv_two hk, e1, e2]
      have : k = 5 ∨ k = 6 ∨ k = 7 ∨ k = 8 ∨ k = 9 ∨ k = 10 := by omega
      rcases this with rfl | rfl | rfl | rfl | rfl | rfl
      · exact kind_add 0 E0 t u x y w
      · exact kind_sub 0 E0 t u x y w
      · exact kind_mul 0 E0 t u x y w
      · exact kind_div 0 E0 t u x y w
      · exact kind_and 0 E0 t u x y w
      · exact kind_or 0 E0 t u x y w
    · rw [tv_sect]; exact kind_sect n E0 0 0 .nilIface .nilIface w
    · rw [tv_glob]; exact kind_glob 0 s 0 0 .nilIface .nilIface w
theorem szL_allOk : ∀ ts : List Tk, AllOk ts → szL ts ≤ 10 * ts.length := by
  intro ts
  induction ts with
  | nil => intro _; simp [szL]
  | cons t r ih =>
    intro h
    obtain ⟨h1, h2⟩ := h.head
    have := ok_size h1
    have := ih h2
    simp only [szL, List.length_cons]
    omega
theorem text_len {e : Ex} (h : okF 6 true e = true) : (toksF 6 e).length + szL (toksF 6 e) ≤ 1048576 := by
  obtain ⟨h1, h2⟩ := toks_ok 6 e h
  have := szL_allOk _ h1
  have := mxT_le 6 (by omega)
  omega
end Go.Proofs.YtmhcbehplhfgfaaDoor

namespace Go.Proofs.YtmhcbehplhfgfaaDoor
open Go.ChangeShapes Go.WideShapes Go.ChangeAt Go.RowKit
set_option linter.unusedVariables false
set_option maxRecDepth 8000

/-- As Q; by a goto to label l: J l. -/
def jumps (J : Nat → Act → World → Prop) (Q : Exit → Act → World → Prop) : Exit → Act → World → Prop
  | .goto l, a, w => J l a w
  | e, a, w => Q e a w
theorem jumps_mono {J J' : Nat → Act → World → Prop} {Q : Exit → Act → World → Prop} (h : ∀ l a w, J l a w → J' l a w) : ∀ e a w, jumps J Q e a w → jumps J' Q e a w := by
  intro e a w hq
  cases e with
  | goto l => exact h l a w hq
  | normal => exact hq
  | exit id => exact hq
  | ret => exact hq
  | panic ch => exact hq
  | outgrown => exact hq
section
variable {P : Program} {a : Act} {w : World} {Q : Exit → Act → World → Prop}
theorem wp_scope_many {c : Code} (z : Nat) (J : Nat → Act → World → Prop) (μ : Nat → Act → World → Nat)
    (passz : ∀ a w, J z a w → ∃ rest, findLabel c z = some (.seq .skip rest) ∧ rest.wp P (jumps (fun l' a' w' => J l' a' w' ∧ μ l' a' w' < μ z a w) Q) a w)
    (pass : (∀ M a w rest, findLabel c z = some (.seq .skip rest) → J z a w → μ z a w ≤ M → rest.wp P (jumps (fun l' a' w' => J l' a' w' ∧ μ l' a' w' < M) Q) a w) →
      ∀ l a w, l ≠ z → J l a w → ∃ rest, findLabel c l = some (.seq .skip rest) ∧ rest.wp P (jumps (fun l' a' w' => J l' a' w' ∧ μ l' a' w' < μ l a w) Q) a w)
    (first : (∀ l a w rest, findLabel c l = some (.seq .skip rest) → J l a w → rest.wp P (jumps J Q) a w) → c.wp P (jumps J Q) a w) : (Code.scope c).wp P Q a w := by
  have fallz : ∀ M a w rest, findLabel c z = some (.seq .skip rest) → J z a w → μ z a w ≤ M → rest.wp P (jumps (fun l' a' w' => J l' a' w' ∧ μ l' a' w' < M) Q) a w := by
    intro M a w rest hf hJ hM
    obtain ⟨rest', hf', h⟩ := passz a w hJ
    rw [hf] at hf'
    cases hf'
    exact wp_mono h (jumps_mono fun l a w ⟨h1, h2⟩ => ⟨h1, Nat.lt_of_lt_of_le h2 hM⟩)
  have all : ∀ l a w, J l a w → ∃ rest, findLabel c l = some (.seq .skip rest) ∧ rest.wp P (jumps (fun l' a' w' => J l' a' w' ∧ μ l' a' w' < μ l a w) Q) a w := by
    intro l a w hJ
    by_cases hl : l = z
    · subst hl; exact passz a w hJ
    · exact pass fallz l a w hl hJ
  have first' := first fun l a w rest hf hJ => by
    obtain ⟨rest', hf', h⟩ := all l a w hJ
    rw [hf] at hf'
    cases hf'
    exact wp_mono h (jumps_mono fun l a w h => h.1)
  intro b k cs
  have key : ∀ n l a w rest, μ l a w = n → J l a w → findLabel c l = some rest → ∃ e a' w', Q e a' w' ∧ Arrives P (lone (b.at a (.code rest :: .inScope c :: k)) cs w) b k cs e a' w' := by
    intro n
    induction n using Nat.strongRecOn with
    | _ n ih =>
      intro l a w rest hn hJ hf
      obtain ⟨rest', hf', hp⟩ := all l a w hJ
      rw [hf] at hf'
      cases hf'
      have hp2 : (Code.seq .skip rest').wp P (jumps (fun l' a' w' => J l' a' w' ∧ μ l' a' w' < μ l a w) Q) a w := wp_seq (wp_skip (by exact hp))
      obtain ⟨e, a₁, w₁, hq, harr⟩ := hp2 b (.inScope c :: k) cs
      cases e with
      | normal => exact ⟨.normal, a₁, w₁, hq, Steps.trans harr (.one step_inScope)⟩
      | exit id => exact ⟨.exit id, a₁, w₁, hq, fun k' hk => harr k' (by simp [exitTo, hk])⟩
      | goto l' =>
        obtain ⟨hJ', hlt⟩ := hq
        obtain ⟨rest2, hf2, _⟩ := all l' a₁ w₁ hJ'
        obtain ⟨e₂, a₂, w₂, hq₂, harr₂⟩ := ih _ (by omega) l' a₁ w₁ _ rfl hJ' hf2
        exact ⟨e₂, a₂, w₂, hq₂, .of_steps (harr _ (by simp [gotoIn, hf2])) harr₂⟩
      | ret => exact ⟨_, a₁, w₁, hq, harr⟩
      | panic ch => exact ⟨_, a₁, w₁, hq, harr⟩
      | outgrown => exact ⟨_, a₁, w₁, hq, harr⟩
  obtain ⟨e, a₁, w₁, hq, harr⟩ := first' b (.inScope c :: k) cs
  cases e with
  | normal => exact ⟨.normal, a₁, w₁, hq, .head step_scope (Steps.trans harr (.one step_inScope))⟩
  | exit id => exact ⟨.exit id, a₁, w₁, hq, fun k' hk => .head step_scope (harr k' (by simp [exitTo, hk]))⟩
  | goto l' =>
    obtain ⟨rest2, hf2, _⟩ := all l' a₁ w₁ hq
    obtain ⟨e₂, a₂, w₂, hq₂, harr₂⟩ := key _ l' a₁ w₁ _ rfl hq hf2
    exact ⟨e₂, a₂, w₂, hq₂, .of_steps (.head step_scope (harr _ (by simp [gotoIn, hf2]))) harr₂⟩
  | ret => exact ⟨_, a₁, w₁, hq, .of_steps (.one step_scope) harr⟩
  | panic ch => exact ⟨_, a₁, w₁, hq, .of_steps (.one step_scope) harr⟩
  | outgrown => exact ⟨_, a₁, w₁, hq, .of_steps (.one step_scope) harr⟩
end
end Go.Proofs.YtmhcbehplhfgfaaDoor

namespace Go.Proofs.YtmhcbehplhfgfaaDoor
open Go.ChangeShapes Go.WideShapes Go.ChangeAt Go.RowKit
set_option linter.unusedVariables false
set_option maxRecDepth 8000
set_option linter.unusedSimpArgs false

/-- The world while the program's Lex goes on: its box holds t, its list acc. -/
structure Lk (w wr : World) (t : Tk) (sa : Option Addr) (cap : Nat) (acc : List Tk) : Prop where
  bel : Below w.heap.size w wr
  box : wr.heap[w.heap.size]? = some (.cells t.cs 91 (0, 0))
  own : OwnT wr (w.heap.size + 1) (.slice sa acc.length cap) acc
  n8 : acc.length ≤ 800
section
variable {w wr w' : World} {t t' : Tk} {sa : Option Addr} {cap : Nat} {acc : List Tk}
theorem Lk.lt (h : Lk w wr t sa cap acc) : w.heap.size < wr.heap.size := (Array.getElem?_eq_some_iff.1 h.box).1
theorem Lk.later (h : Lk w wr t sa cap acc) (hb : Below wr.heap.size wr w') : Lk w w' t sa cap acc :=
  ⟨h.bel.trans (hb.mono (by have := h.lt; omega)), (hb.block _ h.lt).trans h.box, h.own.later hb, h.n8⟩
theorem Lk.put (h : Lk w wr t sa cap acc) (t' : Tk) : Lk w (wr.setRow w.heap.size t'.cs) t' sa cap acc :=
  ⟨below_row h.bel, setRow_heap _ _ _ _ _ _ h.box, h.own.keep fun g hg hl => setRow_other _ _ _ _ (fun e => by have := (h.own.lt hg).1; omega), h.n8⟩
theorem Lk.cells (h : Lk w wr t sa cap acc) : wr.cell? ⟨w.heap.size, 0, none⟩ = some (.int .i64 t.k) ∧ wr.cell? ⟨w.heap.size, 1, none⟩ = some (.int .i64 t.n) ∧ wr.cell? ⟨w.heap.size, 2, none⟩ = some (.string t.s) := tri_cells h.box
theorem Lk.frz (h : Lk w wr t sa cap acc) (j : Nat) : wr.frozen? ⟨w.heap.size, j, none⟩ = false := by simp [World.frozen?, h.box]
theorem Lk.set2 (h : Lk w wr t sa cap acc) : Lk w (wr.setCell ⟨w.heap.size, 2, none⟩ (.string t.s)) t sa cap acc := by
  refine ⟨h.bel.setCell (p := ⟨w.heap.size, 2, none⟩) (Nat.le_refl _) _, ?_, h.own.keep fun g hg hl => Below.heap_setCell _ _ _ _ (fun e => by have := (h.own.lt hg).1; have e' : g = w.heap.size := e; omega), h.n8⟩
  rw [heap_setCell_same wr w.heap.size 2 t.cs 91 (.string t.s) h.box]
  rfl
theorem Lk.app {w5 : World} {a5 : Option Addr} {c5 : Nat} {o : Obj} (h : Lk w wr t sa cap acc) (hg : (wr.alloc o).grownBy w5 (Value.slice sa acc.length cap).ownBlock) (ho : OwnT w5 (w.heap.size + 1) (.slice a5 (acc ++ [t]).length c5) (acc ++ [t])) (h8 : acc.length < 800) : Lk w w5 t a5 c5 (acc ++ [t]) := by
  have hl := h.lt
  refine ⟨(h.bel.alloc (by omega) o).grown hg (by simp; omega) (fun g e => by have := (h.own.lt e).1; omega), ?_, ho, by rw [List.length_append]; simp; omega⟩
  rw [hg.block _ (by simp; omega) (fun e => by have := (h.own.lt e.symm).1; omega), Below.heap_alloc wr o _ hl]
  exact h.box
end
set_option maxHeartbeats 1000000 in
theorem markI_any (x : ByteArray) (w : World) : Calls Tryd.prog 61 #[.string x] w fun e w' => e = .returned (Tk.v ⟨4, 0, x⟩) ∧ Below w.heap.size w w' := by
  have B0 := hide (below_new w (.cells T0c 91))
  have R0 := hide (heap_alloc_new w (.cells T0c 91))
  unfold T0c at B0 R0
  unfold Tk.v Tk.cs
  simp only
  go_enter Tryd.func61, Tryd.ntmps61
  go_wp2_with (first | (refine wpList_store_row rfl 91 _ _ rfl w.heap.size #[.int .i64 4, .int .i64 0, .string x] rfl rfl 91 _ (unhide R0) szK rfl (tk_one _ _ _) ?_))
  refine bodyPost_ret (results_cell_row (P := Tryd.prog) rfl _ _ w.heap.size 91 #[.int .i64 4, .int .i64 0, .string x] (0, 0) _ rfl (setRow_heap _ _ _ _ _ _ (unhide R0)) Tryd.underlying91 rfl szK) rfl ?_
  exact ⟨rfl, below_row (unhide B0)⟩
theorem lk_new (w : World) : Lk w (w.alloc (.cells (Tk.cs ⟨0, 0, ⟨#[]⟩⟩) 91)) ⟨0, 0, ⟨#[]⟩⟩ none 0 [] :=
  ⟨below_new w _, heap_alloc_new w _, ownT_none _ _, by simp⟩
/-- What is known at the token that begins at f. -/
structure Pend (s : ByteArray) (R : List Tk × Bool) (f : Nat) (acc : List Tk) : Prop where
  lt : f < s.size
  semi : bAt s.data.toList f ≠ 59
  bl : blB (bAt s.data.toList f) = false
  rest : lexR s f acc = R
/-- What holds at each label. -/
def St (s : ByteArray) (R : List Tk × Bool) (l k f : Nat) (acc : List Tk) (t : Tk) : Prop :=
  (l = 0 ∧ k ≤ s.size ∧ lexR s k acc = R) ∨
  (l = 1 ∧ Pend s R f acc ∧ f < k ∧ k ≤ s.size ∧ runN ldB s.data.toList k = oneE s f ∧ oneT badI s f = wordT (s.extract f (oneE s f))) ∨
  (l = 2 ∧ Pend s R f acc ∧ f < k ∧ k ≤ s.size ∧ runN dgB s.data.toList k = oneE s f ∧ oneT badI s f = numT badI (s.extract f (oneE s f))) ∨
  (l = 3 ∧ Pend s R f acc ∧ f < k ∧ k ≤ s.size ∧ runN ldB s.data.toList k = oneE s f ∧ oneT badI s f = ⟨3, 0, s.extract f (oneE s f)⟩) ∨
  (l = 4 ∧ Pend s R f acc ∧ f < k ∧ k ≤ s.size ∧ k = oneE s f ∧ t = oneT badI s f)
theorem St.at0 {s R k f acc t} (h : St s R 0 k f acc t) : k ≤ s.size ∧ lexR s k acc = R := by
  rcases h with ⟨_, h⟩ | ⟨h, _⟩ | ⟨h, _⟩ | ⟨h, _⟩ | ⟨h, _⟩
  · exact h
  all_goals omega
theorem St.at1 {s R k f acc t} (h : St s R 1 k f acc t) : Pend s R f acc ∧ f < k ∧ k ≤ s.size ∧ runN ldB s.data.toList k = oneE s f ∧ oneT badI s f = wordT (s.extract f (oneE s f)) := by
  rcases h with ⟨h, _⟩ | ⟨_, h⟩ | ⟨h, _⟩ | ⟨h, _⟩ | ⟨h, _⟩
  · omega
  · exact h
  all_goals omega
theorem St.at2 {s R k f acc t} (h : St s R 2 k f acc t) : Pend s R f acc ∧ f < k ∧ k ≤ s.size ∧ runN dgB s.data.toList k = oneE s f ∧ oneT badI s f = numT badI (s.extract f (oneE s f)) := by
  rcases h with ⟨h, _⟩ | ⟨h, _⟩ | ⟨_, h⟩ | ⟨h, _⟩ | ⟨h, _⟩
  · omega
  · omega
  · exact h
  all_goals omega
theorem St.at3 {s R k f acc t} (h : St s R 3 k f acc t) : Pend s R f acc ∧ f < k ∧ k ≤ s.size ∧ runN ldB s.data.toList k = oneE s f ∧ oneT badI s f = ⟨3, 0, s.extract f (oneE s f)⟩ := by
  rcases h with ⟨h, _⟩ | ⟨h, _⟩ | ⟨h, _⟩ | ⟨_, h⟩ | ⟨h, _⟩
  · omega
  · omega
  · omega
  · exact h
  · omega
theorem St.at4 {s R k f acc t} (h : St s R 4 k f acc t) : Pend s R f acc ∧ f < k ∧ k ≤ s.size ∧ k = oneE s f ∧ t = oneT badI s f := by
  rcases h with ⟨h, _⟩ | ⟨h, _⟩ | ⟨h, _⟩ | ⟨h, _⟩ | ⟨_, h⟩
  · omega
  · omega
  · omega
  · omega
  · exact h
theorem St.to0 {s R k f acc t} (h : k ≤ s.size) (h1 : lexR s k acc = R) : St s R 0 k f acc t := .inl ⟨rfl, h, h1⟩
theorem St.to1 {s R k f acc t} (h : Pend s R f acc ∧ f < k ∧ k ≤ s.size ∧ runN ldB s.data.toList k = oneE s f ∧ oneT badI s f = wordT (s.extract f (oneE s f))) : St s R 1 k f acc t := .inr (.inl ⟨rfl, h⟩)
theorem St.to2 {s R k f acc t} (h : Pend s R f acc ∧ f < k ∧ k ≤ s.size ∧ runN dgB s.data.toList k = oneE s f ∧ oneT badI s f = numT badI (s.extract f (oneE s f))) : St s R 2 k f acc t := .inr (.inr (.inl ⟨rfl, h⟩))
theorem St.to3 {s R k f acc t} (h : Pend s R f acc ∧ f < k ∧ k ≤ s.size ∧ runN ldB s.data.toList k = oneE s f ∧ oneT badI s f = ⟨3, 0, s.extract f (oneE s f)⟩) : St s R 3 k f acc t := .inr (.inr (.inr (.inl ⟨rfl, h⟩)))
theorem St.to4 {s R k f acc t} (h : Pend s R f acc ∧ f < k ∧ k ≤ s.size ∧ k = oneE s f ∧ t = oneT badI s f) : St s R 4 k f acc t := .inr (.inr (.inr (.inr ⟨rfl, h⟩)))
theorem St.low {s R l k f acc t} (h : St s R l k f acc t) (h4 : l ≠ 4) : l = 0 ∨ l = 1 ∨ l = 2 ∨ l = 3 := by
  rcases h with ⟨h, _⟩ | ⟨h, _⟩ | ⟨h, _⟩ | ⟨h, _⟩ | ⟨h, _⟩ <;> omega
/-- The frame at each label. -/
def fx (s : ByteArray) (w : World) (v4 v6 v7 : Value) (u : Nat → Value) : Act := { tmps := #[.string s, undef, .slice none 0 0, .bool false, v4, .pointer (some ⟨w.heap.size, 0, none⟩), v6, v7, u 8, u 9, u 10, u 11, u 12, u 13, u 14, u 15, u 16, u 17, u 18, u 19, u 20, u 21, u 22, u 23, u 24, u 25, u 26, u 27, u 28, u 29, u 30, u 31, u 32, u 33, u 34, u 35, u 36, u 37, u 38, u 39, u 40, u 41, u 42, u 43, u 44, u 45, u 46, u 47, u 48, u 49, u 50, u 51, u 52, u 53, u 54, u 55, u 56, u 57, u 58, u 59, u 60, u 61, u 62, u 63, u 64, u 65, u 66, u 67, u 68, u 69, u 70, u 71, u 72, u 73, u 74, u 75, u 76, u 77, u 78, u 79, u 80, u 81, u 82, u 83, u 84, u 85, u 86, u 87, u 88, u 89, u 90, u 91, u 92, u 93, u 94, u 95, u 96, u 97, u 98, u 99, u 100, u 101, u 102, u 103, u 104, u 105, u 106, u 107, u 108, u 109, u 110, u 111, u 112, u 113, u 114, u 115, u 116, u 117, u 118, u 119, u 120, u 121], defers := [] }
def Jx (s : ByteArray) (w : World) (R : List Tk × Bool) (l : Nat) (a' : Act) (w' : World) : Prop :=
  ∃ (u : Nat → Value) (k f : Nat) (t : Tk) (sa : Option Addr) (cap : Nat) (acc : List Tk), a' = fx s w (.slice sa acc.length cap) (.int .i64 f) (.int .i64 k) u ∧ Lk w w' t sa cap acc ∧ St s R l k f acc t
theorem jx_in {s : ByteArray} {w wr : World} {R : List Tk × Bool} {l : Nat} {v4 v6 v7 u8 u9 u10 u11 u12 u13 u14 u15 u16 u17 u18 u19 u20 u21 u22 u23 u24 u25 u26 u27 u28 u29 u30 u31 u32 u33 u34 u35 u36 u37 u38 u39 u40 u41 u42 u43 u44 u45 u46 u47 u48 u49 u50 u51 u52 u53 u54 u55 u56 u57 u58 u59 u60 u61 u62 u63 u64 u65 u66 u67 u68 u69 u70 u71 u72 u73 u74 u75 u76 u77 u78 u79 u80 u81 u82 u83 u84 u85 u86 u87 u88 u89 u90 u91 u92 u93 u94 u95 u96 u97 u98 u99 u100 u101 u102 u103 u104 u105 u106 u107 u108 u109 u110 u111 u112 u113 u114 u115 u116 u117 u118 u119 u120 u121 : Value} (k f : Nat) (t : Tk) (sa : Option Addr) (cap : Nat) (acc : List Tk) (h4 : v4 = .slice sa acc.length cap) (h6 : v6 = .int .i64 f) (h7 : v7 = .int .i64 k) (lk : Lk w wr t sa cap acc) (st : St s R l k f acc t) : Jx s w R l { tmps := #[.string s, undef, .slice none 0 0, .bool false, v4, .pointer (some ⟨w.heap.size, 0, none⟩), v6, v7, u8, u9, u10, u11, u12, u13, u14, u15, u16, u17, u18, u19, u20, u21, u22, u23, u24, u25, u26, u27, u28, u29, u30, u31, u32, u33, u34, u35, u36, u37, u38, u39, u40, u41, u42, u43, u44, u45, u46, u47, u48, u49, u50, u51, u52, u53, u54, u55, u56, u57, u58, u59, u60, u61, u62, u63, u64, u65, u66, u67, u68, u69, u70, u71, u72, u73, u74, u75, u76, u77, u78, u79, u80, u81, u82, u83, u84, u85, u86, u87, u88, u89, u90, u91, u92, u93, u94, u95, u96, u97, u98, u99, u100, u101, u102, u103, u104, u105, u106, u107, u108, u109, u110, u111, u112, u113, u114, u115, u116, u117, u118, u119, u120, u121], defers := [] } wr := by
  subst h4 h6 h7
  exact ⟨fun i => (#[u8, u9, u10, u11, u12, u13, u14, u15, u16, u17, u18, u19, u20, u21, u22, u23, u24, u25, u26, u27, u28, u29, u30, u31, u32, u33, u34, u35, u36, u37, u38, u39, u40, u41, u42, u43, u44, u45, u46, u47, u48, u49, u50, u51, u52, u53, u54, u55, u56, u57, u58, u59, u60, u61, u62, u63, u64, u65, u66, u67, u68, u69, u70, u71, u72, u73, u74, u75, u76, u77, u78, u79, u80, u81, u82, u83, u84, u85, u86, u87, u88, u89, u90, u91, u92, u93, u94, u95, u96, u97, u98, u99, u100, u101, u102, u103, u104, u105, u106, u107, u108, u109, u110, u111, u112, u113, u114, u115, u116, u117, u118, u119, u120, u121] : Array Value).getD (i - 8) undef, k, f, t, sa, cap, acc, rfl, lk, st⟩
theorem jx_out {s : ByteArray} {w : World} {R : List Tk × Bool} {l : Nat} {X : Act → World → Prop} (h : ∀ (u : Nat → Value) (k f : Nat) (t : Tk) (sa : Option Addr) (cap : Nat) (acc : List Tk) (wr : World), Lk w wr t sa cap acc → St s R l k f acc t → X (fx s w (.slice sa acc.length cap) (.int .i64 f) (.int .i64 k) u) wr) : ∀ a' wr, Jx s w R l a' wr → X a' wr := by
  rintro a' wr ⟨u, k, f, t, sa, cap, acc, rfl, lk, st⟩
  exact h u k f t sa cap acc wr lk st
def rk (l : Nat) : Nat := if l = 0 then 0 else if l = 4 then 1 else 2
def Mx (s : ByteArray) (l : Nat) (a : Act) (w : World) : Nat := 5 * (s.size - (intOf (a.tmps.getD 7 undef)).toNat) + rk l
end Go.Proofs.YtmhcbehplhfgfaaDoor
